import Derived.Test.YteghbkeaojbdgaaPe
set_option linter.unusedVariables false
set_option linter.unusedSimpArgs false
namespace Go.Proofs.Yteghbkeaojbdgaa
open Go.RowKit

def okD (r : Rc) : Prop := 0 ≤ r.t ∧ r.t ≤ 15 ∧ 1 ≤ r.k.length ∧ r.k.length ≤ 64 ∧ r.v.length ≤ 900
def cmpD (r s : Rc) : Int := orL [cmpI r.t s.t, Lib.compareBytes r.k s.k]
def sizeD (r : Rc) : Nat := 4 + r.k.length + r.v.length
theorem cmpR_d (r s : RV) : cmpR r s = cmpD r.d s.d := rfl
theorem sizeR_d (r : RV) : sizeR r = sizeD r.d := rfl
theorem errR_ok {r : RV} (h : okD r.d) : errR r = 0 := by
  unfold errR okR
  rw [decide_eq_true (show 0 ≤ r.t ∧ r.t ≤ 15 ∧ 1 ≤ r.k.length ∧ r.k.length ≤ 64 ∧ r.v.length ≤ 900 from h)]; rfl
/-- A sorted list. -/
structure Srt (ds : List Rc) : Prop where
  ok : ∀ d ∈ ds, okD d
  lt : ∀ (i : Nat) (a b : Rc), ds[i]? = some a → ds[i + 1]? = some b → cmpD a b < 0
theorem d_at {rs : List RV} {i : Nat} {r : RV} (h : rs[i]? = some r) : (rs.map RV.d)[i]? = some r.d := by rw [List.getElem?_map, h]; rfl
def lfE (v : Value) (n t : Nat) : List (Nat × Value) := [(0, v), (7, v), (8, .int .i64 (n : Int)), (9, .int .i64 (t : Int))]
def LfR (w : World) (n : Nat) (t : Nat) (W : World) : Prop := Below w.heap.size w W ∧ t ≤ n
def lgE (v : Value) (t : Nat) : List (Nat × Value) := [(0, v), (6, .int .i64 (t : Int))]
def LgR (w : World) (n : Nat) (t : Nat) (W : World) : Prop := Below w.heap.size w W ∧ 1 ≤ t ∧ t ≤ n + 1
set_option maxRecDepth 100000 in
set_option maxHeartbeats 1000000 in
theorem fault_ok (v : Value) (rs : List RV) (w : World) (hL : Ls w v rs) (hs : Srt (rs.map RV.d)) (hn : rs.length ≤ 1000000000000) : Calls Try.prog 22 #[v] w fun e w' => e = .returned (.int .i64 0) ∧ Below w.heap.size w w' := by
  refine calls_of_args [v] Try.func22 rfl 36 Try.ntmps22 (by show 1 ≤ 36; decide) ?_
  refine EW.seq ?_
  refine EW.region ?_
  first | refine WL.assign rfl rfl rfl ?_
  refine WL.done ?_
  refine EW.on ?_
  refine EW.seq ?_
  refine EW.seq ?_
  refine EW.region ?_
  first | refine WL.move rfl rfl rfl ?_
  refine WL.len rfl rfl rfl (hL.len _ _) ?_
  first | refine WL.move rfl rfl rfl ?_
  refine WL.done ?_
  refine EW.on ?_
  refine EW.block ?_
  refine EW.loop (lfE v rs.length) (LfR w rs.length) (fun t => rs.length - t) 0 [0, 7, 8, 9] rfl ⟨Below.refl _ _, Nat.zero_le _⟩ ?_
  rintro t wi ⟨hbe, htl⟩
  show EW _ _ _ _ [(0, v), (7, v), (8, .int .i64 (rs.length : Int)), (9, .int .i64 (t : Int))] _
  refine EW.seq ?_
  refine EW.region ?_
  first | refine WL.bin rfl rfl rfl rfl (int_lt_t ‹_› _ _ _) ?_ | refine WL.bin rfl rfl rfl rfl (int_lt_f ‹_› _ _ _) ?_ | refine WL.bin rfl rfl rfl rfl (int_lt_d _ _ _ _ _) ?_
  refine WL.done ?_
  refine EW.on ?_
  refine EW.seq ?_
  refine EW.cond_d rfl (fun h10 => ?_) (fun h10 => ?_)
  · refine EW.skip ?_
    refine EW.on ?_
    refine EW.seq ?_
    refine EW.block ?_
    refine EW.seq ?_
    have ht : t < rs.length := by omega
    obtain ⟨x, hx⟩ : ∃ x, rs[t]? = some x := ⟨_, List.getElem?_eq_getElem ht⟩
    have hxm : x ∈ rs := List.mem_of_getElem? hx
    have hxd : okD x.d := hs.ok _ (List.mem_map_of_mem hxm)
    have hpw := hL.below hbe
    obtain ⟨adx, ix, ax⟩ := hpw.item hx
    have okx := hpw.ok x hxm
    have tn : IntKind.i64.wrap ((t : Int) + 1) = ((t + 1 : Nat) : Int) := by rw [IntKind.wrap_i64]; omega
    refine EW.region ?_
    refine WL.index rfl rfl rfl rfl (ix _) ?_
    first | refine WL.load rfl rfl rfl (ldA ax) ?_ | refine WL.load rfl rfl rfl (ld32 b4) ?_
    obtain ⟨w3, q3, r3, b3, be3, hq3⟩ := new32 wi
    refine WL.new rfl rfl r3 ?_
    obtain ⟨w4, s1, b4, s3⟩ := st32 b3 rfl okx.one
    refine WL.store rfl rfl rfl s1 ?_
    have be4 : Below wi.heap.size wi w4 := be3.trans (s3.below (fun k hk e => by omega) be3.size)
    refine WL.done ?_
    refine EW.on ?_
    refine EW.seq ?_
    refine EW.region ?_
    first | refine WL.load rfl rfl rfl (ldA ax) ?_ | refine WL.load rfl rfl rfl (ld32 b4) ?_
    refine WL.call [x.val] enter37 rfl rfl rfl (check_any x _ (okx.below be4)) ?_
    rintro _ w5 ⟨rfl, be5⟩
    rw [errR_ok hxd]
    refine ⟨_, rfl, ?_⟩
    first | refine WL.assign rfl rfl rfl ?_
    refine WL.done ?_
    refine EW.on ?_
    refine EW.seq ?_
    refine EW.region ?_
    first | refine WL.move rfl rfl rfl ?_
    first | refine WL.bin rfl rfl rfl rfl (int_ne_f rfl _ _ _) ?_ | refine WL.bin rfl rfl rfl rfl (int_ne_t ‹_› _ _ _) ?_ | refine WL.bin rfl rfl rfl rfl (int_ne_f ‹_› _ _ _) ?_ | refine WL.bin rfl rfl rfl rfl (int_ne_t (by decide) _ _ _) ?_ | refine WL.bin rfl rfl rfl rfl (int_ne_d _ _ _ _ _) ?_
    refine WL.done ?_
    refine EW.on ?_
    refine EW.cond_f rfl ?_
    refine EW.skip ?_
    refine pn_block ?_
    refine EW.on ?_
    refine EW.region ?_
    first | refine WL.bin rfl rfl rfl rfl (int_add ‹_› _ _ _) ?_
    first | refine WL.move rfl rfl rfl ?_
    refine WL.done ?_
    refine EW.again (E := lfE v rs.length) (R := LfR w rs.length) (m := fun t => rs.length - t) (x := t) (t + 1) [0, 7, 8, 9] rfl ⟨?_, by omega⟩ (by show rs.length - (t + 1) < rs.length - t; omega)
    have b1 := hbe.trans (be4.mono hbe.size)
    exact b1.trans (be5.mono b1.size)
  · refine EW.exit ?_
    refine px_then ?_
    refine px_then ?_
    refine px_block ?_
    refine EW.on ?_
    refine EW.seq ?_
    refine EW.seq ?_
    refine EW.region ?_
    first | refine WL.assign rfl rfl rfl ?_
    refine WL.done ?_
    refine EW.on ?_
    refine EW.block ?_
    refine EW.loop (lgE v) (LgR w rs.length) (fun t => rs.length + 1 - t) 1 [0, 6] rfl ⟨hbe, by decide, by omega⟩ ?_
    clear hbe htl
    rintro t wi ⟨hbe, ht1, htl⟩
    show EW _ _ _ _ [(0, v), (6, .int .i64 (t : Int))] _
    refine EW.seq ?_
    refine EW.seq ?_
    refine EW.region ?_
    first | refine WL.move rfl rfl rfl ?_
    first | refine WL.move rfl rfl rfl ?_
    refine WL.len rfl rfl rfl (hL.len _ _) ?_
    first | refine WL.bin rfl rfl rfl rfl (int_lt_t ‹_› _ _ _) ?_ | refine WL.bin rfl rfl rfl rfl (int_lt_f ‹_› _ _ _) ?_ | refine WL.bin rfl rfl rfl rfl (int_lt_d _ _ _ _ _) ?_
    refine WL.done ?_
    refine EW.on ?_
    refine EW.cond_d rfl (fun h22 => ?_) (fun h22 => ?_)
    · refine EW.skip ?_
      refine EW.on ?_
      refine EW.seq ?_
      refine EW.block ?_
      refine EW.seq ?_
      have ht : t < rs.length := by omega
      obtain ⟨y, hy⟩ : ∃ y, rs[t]? = some y := ⟨_, List.getElem?_eq_getElem ht⟩
      obtain ⟨x, hx⟩ : ∃ x, rs[t - 1]? = some x := ⟨_, List.getElem?_eq_getElem (by omega)⟩
      have hpw := hL.below hbe
      obtain ⟨ada, ia, aa⟩ := hpw.item hx
      obtain ⟨adb, ib, ab⟩ := hpw.item hy
      have okx := hpw.ok x (List.mem_of_getElem? hx)
      have oky := hpw.ok y (List.mem_of_getElem? hy)
      have hlt : cmpR x y < 0 := hs.lt (t - 1) x.d y.d (d_at hx) (by rw [show t - 1 + 1 = t by omega]; exact d_at hy)
      have hge : ¬ (0 : Int) ≤ cmpR x y := by omega
      have ts : IntKind.i64.wrap ((t : Int) - 1) = ((t - 1 : Nat) : Int) := by rw [IntKind.wrap_i64]; omega
      have tn : IntKind.i64.wrap ((t : Int) + 1) = ((t + 1 : Nat) : Int) := by rw [IntKind.wrap_i64]; omega
      refine EW.ordB [(0, 0, 0), (1, 0, 0), (2, 0, 0), (3, 0, 0), (4, 0, 1), (5, 0, 0), (6, 0, 0), (7, 0, 0), (8, 0, 1), (9, 1, 1), (10, 0, 0)] (by kernel_rfl) rfl (by kernel_rfl) ?_
      simp only [opsZ, List.getD_cons_zero, List.getD_cons_succ]
      first | refine ZE.move rfl rfl rfl rfl sz0 ?_
      first | refine ZE.move rfl rfl rfl rfl sz0 ?_
      refine ZE.bin rfl rfl rfl rfl rfl sz0 (fun W => int_sub ts W _ _) ?_
      first | refine ZE.index rfl rfl rfl rfl rfl sz0 (fun W => ia W) ?_ | refine ZE.index rfl rfl rfl rfl rfl sz0 (fun W => ib W) ?_
      first | refine ZE.load rfl rfl rfl rfl sz1 (fun W hW => ldA (aa.below (sb_of hW))) ?_ | refine ZE.load rfl rfl rfl rfl sz1 (fun W hW => ldA (ab.below (sb_of hW))) ?_
      first | refine ZE.move rfl rfl rfl rfl sz0 ?_
      first | refine ZE.move rfl rfl rfl rfl sz0 ?_
      first | refine ZE.index rfl rfl rfl rfl rfl sz0 (fun W => ia W) ?_ | refine ZE.index rfl rfl rfl rfl rfl sz0 (fun W => ib W) ?_
      first | refine ZE.load rfl rfl rfl rfl sz1 (fun W hW => ldA (aa.below (sb_of hW))) ?_ | refine ZE.load rfl rfl rfl rfl sz1 (fun W hW => ldA (ab.below (sb_of hW))) ?_
      refine ZE.callB [x.val, y.val] enter13 rfl rfl rfl (fun W h => .inr h) (fun W hW => cmpr_any x y W (okx.below hW) (oky.below hW)) ?_
      first | refine ZE.bin rfl rfl rfl rfl rfl sz0 (fun W => int_ge_t ‹_› W _ _) ?_ | refine ZE.bin rfl rfl rfl rfl rfl sz0 (fun W => int_ge_f ‹_› W _ _) ?_ | refine ZE.bin rfl rfl rfl rfl rfl sz0 (fun W => int_ge_d _ _ W _ _) ?_
      intro w3 h3
      refine EW.on ?_
      refine EW.cond_f rfl ?_
      refine EW.skip ?_
      refine pn_block ?_
      refine EW.on ?_
      refine EW.region ?_
      first | refine WL.move rfl rfl rfl ?_
      first | refine WL.bin rfl rfl rfl rfl (int_add ‹_› _ _ _) ?_
      first | refine WL.assign rfl rfl rfl ?_
      refine WL.done ?_
      refine EW.again (E := lgE v) (R := LgR w rs.length) (m := fun t => rs.length + 1 - t) (x := t) (t + 1) [0, 6] rfl ⟨hbe.trans (h3.mono hbe.size), by omega, by omega⟩ (by show rs.length + 1 - (t + 1) < rs.length + 1 - t; omega)
    · refine EW.exit ?_
      refine px_then ?_
      refine px_then ?_
      refine px_block ?_
      refine EW.on ?_
      refine EW.seq ?_
      refine EW.region ?_
      first | refine WL.assign rfl rfl rfl ?_
      refine WL.done ?_
      refine EW.on ?_
      refine EW.ret ?_
      exact EW.returns Try.results22 rfl ⟨rfl, hbe⟩
/-- How many of the first fit into so many bytes. -/
def fitN : Int → List Rc → Nat
  | _, [] => 0
  | left, r :: rs => if left - (sizeD r : Int) < 0 then 0 else fitN (left - (sizeD r : Int)) rs + 1
def leftN : Int → List Rc → Int
  | left, [] => left
  | left, r :: rs => leftN (left - (sizeD r : Int)) rs
theorem leftN_snoc : ∀ (l : Int) (ds : List Rc) (r : Rc), leftN l (ds ++ [r]) = leftN l ds - (sizeD r : Int)
  | _, [], _ => rfl
  | l, d :: ds, r => leftN_snoc (l - (sizeD d : Int)) ds r
theorem fit_drop : ∀ (ds : List Rc) (l : Int) (t : Nat), (∀ i, i ≤ t → 0 ≤ leftN l (ds.take i)) → t ≤ ds.length → fitN l ds = t + fitN (leftN l (ds.take t)) (ds.drop t)
  | ds, l, 0, _, _ => by simp [leftN]
  | [], l, t + 1, _, h => by simp at h
  | d :: ds, l, t + 1, h, ht => by
    have h1 := h 1 (by omega)
    have ih := fit_drop ds (l - (sizeD d : Int)) t (fun i hi => by
      have := h (i + 1) (by omega)
      simpa [leftN] using this) (by simpa using ht)
    rw [fitN, if_neg (by simp [leftN] at h1; omega), ih, List.take_succ_cons, List.drop_succ_cons, leftN]
    omega
def fiE (v : Value) (ds : List Rc) (n t : Nat) : List (Nat × Value) := [(0, v), (3, .int .i64 (leftN 1008 (ds.take t))), (6, v), (7, .int .i64 (n : Int)), (8, .int .i64 (t : Int))]
def FiR (w : World) (ds : List Rc) (t : Nat) (W : World) : Prop := Below w.heap.size w W ∧ t ≤ ds.length ∧ ∀ i, i ≤ t → 0 ≤ leftN 1008 (ds.take i)
theorem leftN_le : ∀ (l : Int) (ds : List Rc), leftN l ds ≤ l
  | _, [] => Int.le_refl _
  | l, d :: ds => by
    have := leftN_le (l - (sizeD d : Int)) ds
    rw [leftN]; omega
set_option maxRecDepth 100000 in
set_option maxHeartbeats 1000000 in
theorem fit_any (v : Value) (rs : List RV) (w : World) (hL : Ls w v rs) (hs : ∀ r ∈ rs, r.k.length ≤ 140737488355328 ∧ r.v.length ≤ 140737488355328) (hn : rs.length ≤ 1000000000000) : Calls Try.prog 23 #[v] w fun e w' => e = .returned (.int .i64 (fitN 1008 (rs.map RV.d) : Int)) ∧ Below w.heap.size w w' := by
  refine calls_of_args [v] Try.func23 rfl 23 Try.ntmps23 (by show 1 ≤ 23; decide) ?_
  refine EW.seq ?_
  refine EW.region ?_
  first | refine WL.assign rfl rfl rfl ?_
  refine WL.done ?_
  refine EW.on ?_
  refine EW.seq ?_
  refine EW.region ?_
  first | refine WL.assign rfl rfl rfl ?_
  refine WL.done ?_
  refine EW.on ?_
  refine EW.seq ?_
  refine EW.seq ?_
  refine EW.region ?_
  first | refine WL.move rfl rfl rfl ?_
  refine WL.len rfl rfl rfl (hL.len _ _) ?_
  first | refine WL.move rfl rfl rfl ?_
  refine WL.done ?_
  refine EW.on ?_
  refine EW.block ?_
  refine EW.loop (fiE v (rs.map RV.d) rs.length) (FiR w (rs.map RV.d)) (fun t => rs.length - t) 0 [0, 3, 6, 7, 8] rfl ⟨Below.refl _ _, Nat.zero_le _, fun i hi => by rw [show i = 0 by omega]; show (0 : Int) ≤ 1008; decide⟩ ?_
  rintro t wi ⟨hbe, htl, hz⟩
  rw [List.length_map] at htl
  show EW _ _ _ _ [(0, v), (3, .int .i64 (leftN 1008 ((rs.map RV.d).take t))), (6, v), (7, .int .i64 (rs.length : Int)), (8, .int .i64 (t : Int))] _
  refine EW.seq ?_
  refine EW.region ?_
  first | refine WL.bin rfl rfl rfl rfl (int_lt_t ‹_› _ _ _) ?_ | refine WL.bin rfl rfl rfl rfl (int_lt_f ‹_› _ _ _) ?_ | refine WL.bin rfl rfl rfl rfl (int_lt_d _ _ _ _ _) ?_
  refine WL.done ?_
  refine EW.on ?_
  refine EW.seq ?_
  refine EW.cond_d rfl (fun h9 => ?_) (fun h9 => ?_)
  · refine EW.skip ?_
    refine EW.on ?_
    refine EW.seq ?_
    refine EW.block ?_
    refine EW.seq ?_
    have ht : t < rs.length := by omega
    obtain ⟨x, hx⟩ : ∃ x, rs[t]? = some x := ⟨_, List.getElem?_eq_getElem ht⟩
    have hxm : x ∈ rs := List.mem_of_getElem? hx
    have hxk := (hs x hxm).1
    have hxv := (hs x hxm).2
    have hpw := hL.below hbe
    obtain ⟨adx, ix, ax⟩ := hpw.item hx
    have okx := hpw.ok x hxm
    have hstep : leftN 1008 ((rs.map RV.d).take (t + 1)) = leftN 1008 ((rs.map RV.d).take t) - (sizeD x.d : Int) := by rw [List.take_add_one, d_at hx]; exact leftN_snoc _ _ _
    have hz0 := hz t (Nat.le_refl _)
    have hz1 := leftN_le 1008 ((rs.map RV.d).take t)
    have lw : IntKind.i64.wrap (leftN 1008 ((rs.map RV.d).take t) - (sizeR x : Int)) = leftN 1008 ((rs.map RV.d).take (t + 1)) := by
      have hsz : sizeD x.d = 4 + x.k.length + x.v.length := rfl
      rw [hstep, sizeR_d, IntKind.wrap_i64]
      omega
    have tn : IntKind.i64.wrap ((t : Int) + 1) = ((t + 1 : Nat) : Int) := by rw [IntKind.wrap_i64]; omega
    refine EW.region ?_
    first | refine WL.move rfl rfl rfl ?_
    refine WL.index rfl rfl rfl rfl (ix _) ?_
    first | refine WL.load rfl rfl rfl (ldA ax) ?_ | refine WL.load rfl rfl rfl (ld32 b4) ?_
    obtain ⟨w3, q3, r3, b3, be3, hq3⟩ := new32 wi
    refine WL.new rfl rfl r3 ?_
    first | refine WL.assign rfl rfl rfl ?_
    obtain ⟨w4, s1, b4, s3⟩ := st32 b3 rfl okx.one
    refine WL.store rfl rfl rfl s1 ?_
    have be4 : Below wi.heap.size wi w4 := be3.trans (s3.below (fun k hk e => by omega) be3.size)
    refine WL.done ?_
    refine EW.on ?_
    refine EW.seq ?_
    refine EW.region ?_
    first | refine WL.move rfl rfl rfl ?_
    first | refine WL.load rfl rfl rfl (ldA ax) ?_ | refine WL.load rfl rfl rfl (ld32 b4) ?_
    refine WL.call [x.val] enter19 rfl rfl rfl (size_any x _ (okx.below be4) hxk hxv) ?_
    rintro _ w5 ⟨rfl, be5⟩
    refine ⟨_, rfl, ?_⟩
    first | refine WL.bin rfl rfl rfl rfl (int_sub ‹_› _ _ _) ?_
    first | refine WL.assign rfl rfl rfl ?_
    refine WL.done ?_
    refine EW.on ?_
    refine EW.seq ?_
    refine EW.region ?_
    first | refine WL.move rfl rfl rfl ?_
    first | refine WL.bin rfl rfl rfl rfl (int_lt_t ‹_› _ _ _) ?_ | refine WL.bin rfl rfl rfl rfl (int_lt_f ‹_› _ _ _) ?_ | refine WL.bin rfl rfl rfl rfl (int_lt_d _ _ _ _ _) ?_
    refine WL.done ?_
    refine EW.on ?_
    refine EW.cond_d rfl (fun h18 => ?_) (fun h18 => ?_)
    · refine EW.seq ?_
      have hr : fitN 1008 (rs.map RV.d) = t := by
        rw [fit_drop _ _ t hz (by rw [List.length_map]; exact htl)]
        have : (rs.map RV.d).drop t = x.d :: (rs.map RV.d).drop (t + 1) := by
          rw [List.drop_eq_getElem_cons (by rw [List.length_map]; exact ht)]
          have := d_at hx
          rw [List.getElem?_eq_getElem (by rw [List.length_map]; exact ht)] at this
          rw [Option.some.inj this]
        rw [this, fitN, if_pos (by rw [← hstep]; exact h18)]
        rfl
      have be : Below w.heap.size w w5 := by
        have b1 := hbe.trans (be4.mono hbe.size)
        exact b1.trans (be5.mono b1.size)
      refine EW.region ?_
      first | refine WL.move rfl rfl rfl ?_
      first | refine WL.assign rfl rfl rfl ?_
      refine WL.done ?_
      refine EW.on ?_
      refine EW.ret ?_
      refine pr_block ?_
      refine pr_then ?_
      refine pr_then ?_
      refine pr_block ?_
      refine pr_then ?_
      exact EW.returns Try.results23 rfl ⟨by rw [hr], be⟩
    · refine EW.skip ?_
      refine pn_block ?_
      refine EW.on ?_
      refine EW.region ?_
      first | refine WL.bin rfl rfl rfl rfl (int_add ‹_› _ _ _) ?_
      first | refine WL.move rfl rfl rfl ?_
      refine WL.done ?_
      refine EW.again (E := fiE v (rs.map RV.d) rs.length) (R := FiR w (rs.map RV.d)) (m := fun t => rs.length - t) (x := t) (t + 1) [0, 3, 6, 7, 8] rfl ⟨?_, by rw [List.length_map]; omega, fun i hi => ?_⟩ (by show rs.length - (t + 1) < rs.length - t; omega)
      · have b1 := hbe.trans (be4.mono hbe.size)
        exact b1.trans (be5.mono b1.size)
      · rcases Nat.lt_or_ge i (t + 1) with e | e
        · exact hz i (by omega)
        · rw [show i = t + 1 by omega]
          exact Int.not_lt.1 h18
  · refine EW.exit ?_
    refine px_then ?_
    refine px_then ?_
    refine px_block ?_
    refine EW.on ?_
    refine EW.seq ?_
    have hr : fitN 1008 (rs.map RV.d) = rs.length := by
      have e : t = rs.length := by omega
      rw [fit_drop _ _ t hz (by rw [List.length_map]; exact htl), e, List.drop_eq_nil_of_le (by rw [List.length_map]; exact Nat.le_refl _)]
      rfl
    have be := hbe
    refine EW.region ?_
    first | refine WL.move rfl rfl rfl ?_
    refine WL.len rfl rfl rfl (hL.len _ _) ?_
    first | refine WL.assign rfl rfl rfl ?_
    refine WL.done ?_
    refine EW.on ?_
    refine EW.ret ?_
    exact EW.returns Try.results23 rfl ⟨by rw [hr], be⟩
end Go.Proofs.Yteghbkeaojbdgaa
