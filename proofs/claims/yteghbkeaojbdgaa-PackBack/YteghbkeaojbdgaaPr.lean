import Derived.Test.YteghbkeaojbdgaaPq
set_option linter.unusedVariables false
set_option linter.unusedSimpArgs false
namespace Go.Proofs.Yteghbkeaojbdgaa
open Go.RowKit

theorem int_le_t {a b : Int} (h : a ≤ b) (W : World) (x y : Operand) : (do eqGuard .leq 3 x y (.int .i64 a) (.int .i64 b); binOp .leq 3 (.int .i64 a) (.int .i64 b) : Sem Value).run Try.prog W = .ok (.bool true) W := by go_simp
theorem int_le_f {a b : Int} (h : ¬ a ≤ b) (W : World) (x y : Operand) : (do eqGuard .leq 3 x y (.int .i64 a) (.int .i64 b); binOp .leq 3 (.int .i64 a) (.int .i64 b) : Sem Value).run Try.prog W = .ok (.bool false) W := by go_simp
theorem int_le_d (a b : Int) (W : World) (x y : Operand) : (do eqGuard .leq 3 x y (.int .i64 a) (.int .i64 b); binOp .leq 3 (.int .i64 a) (.int .i64 b) : Sem Value).run Try.prog W = .ok (.bool (decide (a ≤ b))) W := by
  by_cases h : a ≤ b
  · rw [decide_eq_true h]; exact int_le_t h W x y
  · rw [decide_eq_false h]; exact int_le_f h W x y
theorem ins_del {ds : List Rc} (hs : Srt ds) {x : Rc} (hx : okD x) (h : isAt ds x = false) : delD (insD ds x) x = ds := by
  have hl := place_le ds x
  rw [delD, ins_place hs hx]
  have e1 : (insD ds x).take (placeN ds x) = ds.take (placeN ds x) := by
    unfold insD
    rw [List.take_append, List.take_take, Nat.min_self, List.length_take, Nat.min_eq_left hl, Nat.sub_self, List.take_zero, List.append_nil]
  have e2 : (insD ds x).drop (placeN ds x + 1) = ds.drop (placeN ds x) := by
    unfold insD
    rw [h, List.drop_append, List.drop_eq_nil_of_le (by rw [List.length_take]; omega), List.length_take, Nat.min_eq_left hl, List.nil_append, show placeN ds x + 1 - placeN ds x = 1 by omega]
    rfl
  rw [e1, e2, List.take_append_drop]
theorem pk_split {ds : List Rc} {cs : List Int} {c : Int} (h : PkR ds (c :: cs)) : ds ≠ [] ∧ c = (fitN 1008 ds : Int) ∧ PkR (ds.drop (fitN 1008 ds)) cs := by
  cases h with
  | cons h k => exact ⟨h, rfl, k⟩
theorem pk_nil {ds : List Rc} (h : PkR ds []) : ds = [] := by
  cases h with
  | nil => rfl
theorem pk_len {ds : List Rc} {cs : List Int} (h : PkR ds cs) (hok : ∀ d ∈ ds, okD d) : cs.length ≤ ds.length := by
  induction h with
  | nil => exact Nat.le_refl _
  | @cons ds cs h k ih =>
    have h1 := fit_pos h hok
    have h2 := fit_le ds 1008
    have h3 := ih (fun d hd => hok d (List.mem_of_mem_drop hd))
    rw [List.length_drop] at h3
    rw [List.length_cons]
    omega
def loE (qg : Nat) (vw vc : Value) (x : Nat × Nat) : List (Nat × Value) := [(3, .pointer (some ⟨qg, 0, none⟩)), (5, vw), (6, vc), (8, .int .i64 (x.2 : Int)), (9, .int .i64 (x.1 : Int))]
def LoR (w4 : World) (ds : List Rc) (cs : List Int) (x : Nat × Nat) (W : World) : Prop := Below w4.heap.size w4 W ∧ x.1 ≤ cs.length ∧ x.2 ≤ ds.length ∧ PkR (ds.drop x.2) (cs.drop x.1)
def liE (qg : Nat) (vw vc : Value) (at_ i : Nat) (ds : List Rc) (k : Nat) : List (Nat × Value) := [(3, .pointer (some ⟨qg, 0, none⟩)), (5, vw), (6, vc), (8, .int .i64 ((at_ + k : Nat) : Int)), (9, .int .i64 (i : Int)), (10, .int .i64 (1008 - leftN 1008 (ds.take k))), (11, .int .i64 (k : Int))]
def LiR (w4 : World) (n k : Nat) (W : World) : Prop := Below w4.heap.size w4 W ∧ k ≤ n
set_option maxRecDepth 100000 in
set_option maxHeartbeats 8000000 in
theorem layout_any (v : Value) (ls : List RV) (g : RV) (w : World) (hL : Ls w v ls) (hg : g.ok w) : Calls Try.prog 5 #[v, g.val] w fun e w' => e = .returned (.bool true) ∧ Below w.heap.size w w' := by
  obtain ⟨w1, q1, r1, bg0, e1, hq1⟩ := box32 g w
  refine calls_of_args [v, g.val] Try.func5 rfl 151 Try.ntmps5 (by show 2 ≤ 151; decide) ?_
  refine EW.seq ?_
  refine EW.region ?_
  refine WL.box rfl rfl rfl r1 ?_
  first | refine WL.assign rfl rfl rfl ?_
  refine WL.done ?_
  refine EW.on ?_
  refine EW.seq ?_
  refine EW.region ?_
  first | refine WL.move rfl rfl rfl ?_
  refine WL.call [v] enter11 rfl rfl rfl (sorted_any v ls _ (hL.below e1)) ?_
  rintro _ w3 ⟨vw, rs, rfl, hw3, hrs, hfr, be3⟩
  refine ⟨_, rfl, ?_⟩
  first | refine WL.assign rfl rfl rfl ?_
  refine WL.done ?_
  have e3 := e1.trans (be3.mono e1.size)
  have hsr : Srt (rs.map RV.d) := by rw [hrs]; exact sortD_srt _
  have hrl : rs.length ≤ 60 := by
    have e1 := congrArg List.length hrs
    have e2 := sortD_len ((ls.map RV.d).take (min 60 ls.length))
    rw [List.length_map] at e1
    rw [List.length_take] at e2
    omega
  refine EW.on ?_
  refine EW.seq ?_
  refine EW.region ?_
  first | refine WL.move rfl rfl rfl ?_
  refine WL.call [vw] enter18 rfl rfl rfl (pack_any vw rs _ hw3 hsr (by omega)) ?_
  rintro _ w4 ⟨vc, cs, rfl, hc, hpk, be4⟩
  refine ⟨_, rfl, ?_⟩
  first | refine WL.move rfl rfl rfl ?_
  first | refine WL.extract rfl rfl rfl (ext_2 _ _ _).1 ?_
  first | refine WL.extract rfl rfl rfl (ext_2 _ _ _).2 ?_
  first | refine WL.assign rfl rfl rfl ?_
  first | refine WL.assign rfl rfl rfl ?_
  refine WL.done ?_
  have e4 := e3.trans (be4.mono e3.size)
  have hw4 := hw3.below be4
  have hcl := pk_len hpk hsr.ok
  rw [List.length_map] at hcl
  refine EW.on ?_
  refine EW.seq ?_
  refine EW.seq ?_
  refine EW.region ?_
  first | refine WL.move rfl rfl rfl ?_
  first | refine WL.bin rfl rfl rfl rfl (int_ne_f rfl _ _ _) ?_ | refine WL.bin rfl rfl rfl rfl (int_ne_t ‹_› _ _ _) ?_ | refine WL.bin rfl rfl rfl rfl (int_ne_f ‹_› _ _ _) ?_ | refine WL.bin rfl rfl rfl rfl (int_ne_t (by decide) _ _ _) ?_ | refine WL.bin rfl rfl rfl rfl (int_ne_d _ _ _ _ _) ?_
  refine WL.done ?_
  refine EW.on ?_
  refine EW.cond_f rfl ?_
  refine EW.skip ?_
  refine EW.on ?_
  refine EW.seq ?_
  refine EW.region ?_
  first | refine WL.assign rfl rfl rfl ?_
  refine WL.done ?_
  refine EW.on ?_
  refine EW.seq ?_
  refine EW.seq ?_
  refine EW.region ?_
  first | refine WL.assign rfl rfl rfl ?_
  refine WL.done ?_
  refine EW.on ?_
  refine EW.block ?_
  refine EW.loop (loE q1 vw vc) (LoR w4 (rs.map RV.d) cs) (fun x => cs.length - x.1) (0, 0) [3, 5, 6, 8, 9] rfl ⟨Below.refl _ _, Nat.zero_le _, Nat.zero_le _, hpk⟩ ?_
  rintro ⟨i, a_⟩ wi ⟨bei, hil, hal, hpi⟩
  dsimp only at hil hal hpi
  rw [List.length_map] at hal
  show EW _ _ _ _ [(3, .pointer (some ⟨q1, 0, none⟩)), (5, vw), (6, vc), (8, .int .i64 (a_ : Int)), (9, .int .i64 (i : Int))] _
  refine EW.seq ?_
  refine EW.seq ?_
  refine EW.region ?_
  first | refine WL.move rfl rfl rfl ?_
  first | refine WL.move rfl rfl rfl ?_
  refine WL.len rfl rfl rfl (hc.len _ _) ?_
  first | refine WL.bin rfl rfl rfl rfl (int_lt_t ‹_› _ _ _) ?_ | refine WL.bin rfl rfl rfl rfl (int_lt_f ‹_› _ _ _) ?_ | refine WL.bin rfl rfl rfl rfl (int_lt_d _ _ _ _ _) ?_
  refine WL.done ?_
  refine EW.on ?_
  refine EW.cond_d rfl (fun h33 => ?_) (fun h33 => ?_)
  · refine EW.skip ?_
    refine EW.on ?_
    refine EW.seq ?_
    refine EW.block ?_
    refine EW.seq ?_
    have hi : i < cs.length := by omega
    have inx : IntKind.i64.wrap ((i : Int) + 1) = ((i + 1 : Nat) : Int) := by rw [IntKind.wrap_i64]; omega
    obtain ⟨c, hci⟩ : ∃ c, cs[i]? = some c := ⟨_, List.getElem?_eq_getElem hi⟩
    have hcd : cs.drop i = c :: cs.drop (i + 1) := by
      rw [List.drop_eq_getElem_cons hi]
      rw [List.getElem?_eq_getElem hi] at hci
      rw [Option.some.inj hci]
    rw [hcd] at hpi
    obtain ⟨D, hD⟩ : ∃ D, (rs.map RV.d).drop a_ = D := ⟨_, rfl⟩
    rw [hD] at hpi
    obtain ⟨hne, hcn, hrest⟩ := pk_split hpi
    obtain ⟨n, hfn⟩ : ∃ n, fitN 1008 D = n := ⟨_, rfl⟩
    have hfl := fit_le D 1008
    have hfp := fit_pos hne (fun d hd => hsr.ok d (by rw [← hD] at hd; exact List.mem_of_mem_drop hd))
    have hDl : D.length = rs.length - a_ := by rw [← hD]; simp
    rw [hfn] at hcn hrest hfl hfp
    rw [hcn] at hci
    rw [← hD] at hrest
    obtain ⟨gc, ic, csc, bc, hcc⟩ := hc.item hci
    refine EW.region ?_
    first | refine WL.assign rfl rfl rfl ?_
    refine WL.done ?_
    refine EW.on ?_
    refine EW.seq ?_
    refine EW.seq ?_
    refine EW.region ?_
    first | refine WL.assign rfl rfl rfl ?_
    refine WL.done ?_
    refine EW.on ?_
    refine EW.block ?_
    refine EW.loop (liE q1 vw vc a_ i D) (LiR w4 n) (fun k => n - k) 0 [3, 5, 6, 8, 9, 10, 11] rfl ⟨bei, Nat.zero_le _⟩ ?_
    clear bei
    rintro k wi ⟨beK, hkn⟩
    have hkl := fit_left D 1008 k (by decide) (by rw [hfn]; exact hkn)
    have hkm := leftN_le 1008 (D.take k)
    show EW _ _ _ _ [(3, .pointer (some ⟨q1, 0, none⟩)), (5, vw), (6, vc), (8, .int .i64 ((a_ + k : Nat) : Int)), (9, .int .i64 (i : Int)), (10, .int .i64 (1008 - leftN 1008 (D.take k))), (11, .int .i64 (k : Int))] _
    refine EW.seq ?_
    refine EW.seq ?_
    refine EW.region ?_
    first | refine WL.move rfl rfl rfl ?_
    first | refine WL.move rfl rfl rfl ?_
    first | refine WL.move rfl rfl rfl ?_
    first | refine WL.index rfl rfl rfl rfl (ic _) ?_
    first | refine WL.load rfl rfl rfl (ldI (bc.on beK) hcc) ?_
    first | refine WL.bin rfl rfl rfl rfl (int_lt_t ‹_› _ _ _) ?_ | refine WL.bin rfl rfl rfl rfl (int_lt_f ‹_› _ _ _) ?_ | refine WL.bin rfl rfl rfl rfl (int_lt_d _ _ _ _ _) ?_
    refine WL.done ?_
    refine EW.on ?_
    refine EW.cond_d rfl (fun h41 => ?_) (fun h41 => ?_)
    · refine EW.skip ?_
      refine EW.on ?_
      refine EW.seq ?_
      refine EW.block ?_
      refine EW.seq ?_
      refine EW.seq ?_
      have hkn2 : k < n := by omega
      have hat : a_ + k < rs.length := by omega
      have zge : ¬ (rs.length : Int) ≤ ((a_ + k : Nat) : Int) := by omega
      obtain ⟨y, hy⟩ : ∃ y, rs[a_ + k]? = some y := ⟨_, List.getElem?_eq_getElem hat⟩
      obtain ⟨ady, iy, ay⟩ := hw4.item hy
      have oky := hw4.ok y (List.mem_of_getElem? hy)
      have hyk := (hsr.sm (List.mem_of_getElem? hy)).1
      have hyv := (hsr.sm (List.mem_of_getElem? hy)).2
      have hyD : D[k]? = some y.d := by rw [← hD, List.getElem?_drop]; exact d_at hy
      have hstep : leftN 1008 (D.take (k + 1)) = leftN 1008 (D.take k) - (sizeR y : Int) := by rw [List.take_add_one, hyD]; exact leftN_snoc _ _ _
      have hkl2 := fit_left D 1008 (k + 1) (by decide) (by rw [hfn]; omega)
      have aw : IntKind.i64.wrap (1008 - leftN 1008 (D.take k) + (sizeR y : Int)) = 1008 - leftN 1008 (D.take (k + 1)) := by rw [hstep, IntKind.wrap_i64]; omega
      have an : IntKind.i64.wrap (((a_ + k : Nat) : Int) + 1) = ((a_ + (k + 1) : Nat) : Int) := by rw [IntKind.wrap_i64]; omega
      have kn : IntKind.i64.wrap ((k : Int) + 1) = ((k + 1 : Nat) : Int) := by rw [IntKind.wrap_i64]; omega
      refine EW.region ?_
      first | refine WL.move rfl rfl rfl ?_
      first | refine WL.move rfl rfl rfl ?_
      first | refine WL.len rfl rfl rfl (hw3.len _ _) ?_
      first | refine WL.bin rfl rfl rfl rfl (int_ge_t ‹_› _ _ _) ?_ | refine WL.bin rfl rfl rfl rfl (int_ge_f ‹_› _ _ _) ?_ | refine WL.bin rfl rfl rfl rfl (int_ge_d _ _ _ _ _) ?_
      refine WL.done ?_
      refine EW.on ?_
      refine EW.cond_f rfl ?_
      refine EW.skip ?_
      refine EW.on ?_
      refine EW.seq ?_
      refine EW.region ?_
      first | refine WL.move rfl rfl rfl ?_
      first | refine WL.move rfl rfl rfl ?_
      first | refine WL.move rfl rfl rfl ?_
      first | refine WL.index rfl rfl rfl rfl (iy _) ?_
      first | refine WL.load rfl rfl rfl (ldA (ay.below beK)) ?_
      first | refine WL.call [y.val] enter19 rfl rfl rfl (size_any y _ (oky.below beK) hyk hyv) ?_
      rintro _ w5 ⟨rfl, be5⟩
      refine ⟨_, rfl, ?_⟩
      first | refine WL.bin rfl rfl rfl rfl (int_add ‹_› _ _ _) ?_
      first | refine WL.assign rfl rfl rfl ?_
      refine WL.done ?_
      refine EW.on ?_
      refine EW.region ?_
      first | refine WL.move rfl rfl rfl ?_
      first | refine WL.bin rfl rfl rfl rfl (int_add ‹_› _ _ _) ?_
      first | refine WL.assign rfl rfl rfl ?_
      refine WL.done ?_
      refine pn_block ?_
      refine EW.on ?_
      refine EW.region ?_
      first | refine WL.move rfl rfl rfl ?_
      first | refine WL.bin rfl rfl rfl rfl (int_add ‹_› _ _ _) ?_
      first | refine WL.assign rfl rfl rfl ?_
      refine WL.done ?_
      refine EW.again (E := liE q1 vw vc a_ i D) (R := LiR w4 n) (m := fun k => n - k) (x := k) (k + 1) [3, 5, 6, 8, 9, 10, 11] (by rw [liE, hstep]; rfl) ⟨beK.trans (be5.mono beK.size), by omega⟩ (by show n - (k + 1) < n - k; omega)
    · refine EW.exit ?_
      refine px_then ?_
      refine px_then ?_
      refine px_block ?_
      refine EW.on ?_
      refine EW.seq ?_
      rcases (show a_ + k < rs.length ∨ ¬ a_ + k < rs.length by omega) with hat | hat
      · have zk : k = n := by omega
        have z1 : ¬ (1008 : Int) < 1008 - leftN 1008 (D.take k) := by omega
        have z2 : ¬ ((n : Nat) : Int) < 1 := by omega
        obtain ⟨y, hy⟩ : ∃ y, rs[a_ + k]? = some y := ⟨_, List.getElem?_eq_getElem hat⟩
        obtain ⟨ady, iy, ay⟩ := hw4.item hy
        have oky := hw4.ok y (List.mem_of_getElem? hy)
        have hyk := (hsr.sm (List.mem_of_getElem? hy)).1
        have hyv := (hsr.sm (List.mem_of_getElem? hy)).2
        have hyD : D[k]? = some y.d := by rw [← hD, List.getElem?_drop]; exact d_at hy
        have z3 : ((a_ + k : Nat) : Int) < (rs.length : Int) := by omega
        have hnx : leftN 1008 (D.take k) - (sizeD y.d : Int) < 0 := by rw [zk, ← hfn]; exact fit_next D 1008 y.d (by rw [hfn, ← zk]; exact hyD)
        have hsz : sizeR y = sizeD y.d := rfl
        have hsz2 : sizeD y.d = 4 + y.k.length + y.v.length := rfl
        have aw : IntKind.i64.wrap (1008 - leftN 1008 (D.take k) + (sizeR y : Int)) = 1008 - leftN 1008 (D.take k) + (sizeR y : Int) := by rw [IntKind.wrap_i64]; omega
        have z4 : ¬ 1008 - leftN 1008 (D.take k) + (sizeR y : Int) ≤ 1008 := by omega
        refine EW.region ?_
        first | refine WL.move rfl rfl rfl ?_
        first | refine WL.bin rfl rfl rfl rfl (int_gt_t ‹_› _ _ _) ?_ | refine WL.bin rfl rfl rfl rfl (int_gt_f ‹_› _ _ _) ?_ | refine WL.bin rfl rfl rfl rfl (int_gt_d _ _ _ _ _) ?_
        first | refine WL.move rfl rfl rfl ?_
        first | refine WL.move rfl rfl rfl ?_ | refine WL.skip _ rfl rfl rfl ?_
        first | refine WL.move rfl rfl rfl ?_ | refine WL.skip _ rfl rfl rfl ?_
        first | refine WL.index rfl rfl rfl rfl (ic _) ?_ | refine WL.skip _ rfl rfl rfl ?_
        first | refine WL.load rfl rfl rfl (ldI (bc.on beK) hcc) ?_ | refine WL.skip _ rfl rfl rfl ?_
        first | refine WL.bin rfl rfl rfl rfl (int_lt_t ‹_› _ _ _) ?_ | refine WL.bin rfl rfl rfl rfl (int_lt_f ‹_› _ _ _) ?_ | refine WL.bin rfl rfl rfl rfl (int_lt_d _ _ _ _ _) ?_ | refine WL.skip _ rfl rfl rfl ?_
        first | refine WL.pick rfl rfl rfl rfl ?_
        first | refine WL.move rfl rfl rfl ?_
        first | refine WL.move rfl rfl rfl ?_ | refine WL.skip _ rfl rfl rfl ?_
        first | refine WL.move rfl rfl rfl ?_ | refine WL.skip _ rfl rfl rfl ?_
        first | refine WL.len rfl rfl rfl (hw3.len _ _) ?_ | refine WL.skip _ rfl rfl rfl ?_
        first | refine WL.bin rfl rfl rfl rfl (int_lt_t ‹_› _ _ _) ?_ | refine WL.bin rfl rfl rfl rfl (int_lt_f ‹_› _ _ _) ?_ | refine WL.bin rfl rfl rfl rfl (int_lt_d _ _ _ _ _) ?_ | refine WL.skip _ rfl rfl rfl ?_
        first | refine WL.move rfl rfl rfl ?_ | refine WL.skip _ rfl rfl rfl ?_
        first | refine WL.move rfl rfl rfl ?_ | refine WL.skip _ rfl rfl rfl ?_
        first | refine WL.move rfl rfl rfl ?_ | refine WL.skip _ rfl rfl rfl ?_
        first | refine WL.move rfl rfl rfl ?_ | refine WL.skip _ rfl rfl rfl ?_
        first | refine WL.index rfl rfl rfl rfl (iy _) ?_ | refine WL.skip _ rfl rfl rfl ?_
        first | refine WL.load rfl rfl rfl (ldA (ay.below beK)) ?_ | refine WL.skip _ rfl rfl rfl ?_
        first | refine WL.call [y.val] enter19 rfl rfl rfl (size_any y _ (oky.below beK) hyk hyv) ?_ | refine WL.skip _ rfl rfl rfl ?_
        rintro _ w5 ⟨rfl, be5⟩
        refine ⟨_, rfl, ?_⟩
        first | refine WL.bin rfl rfl rfl rfl (int_add ‹_› _ _ _) ?_ | refine WL.skip _ rfl rfl rfl ?_
        first | refine WL.bin rfl rfl rfl rfl (int_le_t ‹_› _ _ _) ?_ | refine WL.bin rfl rfl rfl rfl (int_le_f ‹_› _ _ _) ?_ | refine WL.bin rfl rfl rfl rfl (int_le_d _ _ _ _ _) ?_ | refine WL.skip _ rfl rfl rfl ?_
        first | refine WL.pick rfl rfl rfl rfl ?_ | refine WL.skip _ rfl rfl rfl ?_
        first | refine WL.pick rfl rfl rfl rfl ?_
        refine WL.done ?_
        refine EW.on ?_
        refine EW.cond_f rfl ?_
        refine EW.skip ?_
        refine pn_block ?_
        refine EW.on ?_
        refine EW.region ?_
        first | refine WL.move rfl rfl rfl ?_
        first | refine WL.bin rfl rfl rfl rfl (int_add ‹_› _ _ _) ?_
        first | refine WL.assign rfl rfl rfl ?_
        refine WL.done ?_
        refine EW.again (E := loE q1 vw vc) (R := LoR w4 (rs.map RV.d) cs) (m := fun x => cs.length - x.1) (x := (i, a_)) (i + 1, a_ + k) [3, 5, 6, 8, 9] rfl ⟨beK.trans (be5.mono beK.size), by show i + 1 ≤ _; omega, by show a_ + k ≤ _; rw [List.length_map]; omega, ?_⟩ (by show cs.length - (i + 1) < cs.length - i; omega)
        show PkR ((rs.map RV.d).drop (a_ + k)) (cs.drop (i + 1))
        rw [show k = n by omega, ← List.drop_drop]
        exact hrest
      · have zk : k = n := by omega
        have z1 : ¬ (1008 : Int) < 1008 - leftN 1008 (D.take k) := by omega
        have z2 : ¬ ((n : Nat) : Int) < 1 := by omega
        have z3 : ¬ ((a_ + k : Nat) : Int) < (rs.length : Int) := by omega
        refine EW.region ?_
        first | refine WL.move rfl rfl rfl ?_
        first | refine WL.bin rfl rfl rfl rfl (int_gt_t ‹_› _ _ _) ?_ | refine WL.bin rfl rfl rfl rfl (int_gt_f ‹_› _ _ _) ?_ | refine WL.bin rfl rfl rfl rfl (int_gt_d _ _ _ _ _) ?_
        first | refine WL.move rfl rfl rfl ?_
        first | refine WL.move rfl rfl rfl ?_ | refine WL.skip _ rfl rfl rfl ?_
        first | refine WL.move rfl rfl rfl ?_ | refine WL.skip _ rfl rfl rfl ?_
        first | refine WL.index rfl rfl rfl rfl (ic _) ?_ | refine WL.skip _ rfl rfl rfl ?_
        first | refine WL.load rfl rfl rfl (ldI (bc.on beK) hcc) ?_ | refine WL.skip _ rfl rfl rfl ?_
        first | refine WL.bin rfl rfl rfl rfl (int_lt_t ‹_› _ _ _) ?_ | refine WL.bin rfl rfl rfl rfl (int_lt_f ‹_› _ _ _) ?_ | refine WL.bin rfl rfl rfl rfl (int_lt_d _ _ _ _ _) ?_ | refine WL.skip _ rfl rfl rfl ?_
        first | refine WL.pick rfl rfl rfl rfl ?_
        first | refine WL.move rfl rfl rfl ?_
        first | refine WL.move rfl rfl rfl ?_ | refine WL.skip _ rfl rfl rfl ?_
        first | refine WL.move rfl rfl rfl ?_ | refine WL.skip _ rfl rfl rfl ?_
        first | refine WL.len rfl rfl rfl (hw3.len _ _) ?_ | refine WL.skip _ rfl rfl rfl ?_
        first | refine WL.bin rfl rfl rfl rfl (int_lt_t ‹_› _ _ _) ?_ | refine WL.bin rfl rfl rfl rfl (int_lt_f ‹_› _ _ _) ?_ | refine WL.bin rfl rfl rfl rfl (int_lt_d _ _ _ _ _) ?_ | refine WL.skip _ rfl rfl rfl ?_
        first | refine WL.move rfl rfl rfl ?_ | refine WL.skip _ rfl rfl rfl ?_
        first | refine WL.move rfl rfl rfl ?_ | refine WL.skip _ rfl rfl rfl ?_
        first | refine WL.move rfl rfl rfl ?_ | refine WL.skip _ rfl rfl rfl ?_
        first | refine WL.move rfl rfl rfl ?_ | refine WL.skip _ rfl rfl rfl ?_
        first | refine WL.index rfl rfl rfl rfl (iy _) ?_ | refine WL.skip _ rfl rfl rfl ?_
        first | refine WL.load rfl rfl rfl (ldA (ay.below beK)) ?_ | refine WL.skip _ rfl rfl rfl ?_
        first | refine WL.call [y.val] enter19 rfl rfl rfl (size_any y _ (oky.below beK) hyk hyv) ?_ | refine WL.skip _ rfl rfl rfl ?_
        first | refine WL.bin rfl rfl rfl rfl (int_add ‹_› _ _ _) ?_ | refine WL.skip _ rfl rfl rfl ?_
        first | refine WL.bin rfl rfl rfl rfl (int_le_t ‹_› _ _ _) ?_ | refine WL.bin rfl rfl rfl rfl (int_le_f ‹_› _ _ _) ?_ | refine WL.bin rfl rfl rfl rfl (int_le_d _ _ _ _ _) ?_ | refine WL.skip _ rfl rfl rfl ?_
        first | refine WL.pick rfl rfl rfl rfl ?_ | refine WL.skip _ rfl rfl rfl ?_
        first | refine WL.pick rfl rfl rfl rfl ?_
        refine WL.done ?_
        refine EW.on ?_
        refine EW.cond_f rfl ?_
        refine EW.skip ?_
        refine pn_block ?_
        refine EW.on ?_
        refine EW.region ?_
        first | refine WL.move rfl rfl rfl ?_
        first | refine WL.bin rfl rfl rfl rfl (int_add ‹_› _ _ _) ?_
        first | refine WL.assign rfl rfl rfl ?_
        refine WL.done ?_
        refine EW.again (E := loE q1 vw vc) (R := LoR w4 (rs.map RV.d) cs) (m := fun x => cs.length - x.1) (x := (i, a_)) (i + 1, a_ + k) [3, 5, 6, 8, 9] rfl ⟨beK, by show i + 1 ≤ _; omega, by show a_ + k ≤ _; rw [List.length_map]; omega, ?_⟩ (by show cs.length - (i + 1) < cs.length - i; omega)
        show PkR ((rs.map RV.d).drop (a_ + k)) (cs.drop (i + 1))
        rw [show k = n by omega, ← List.drop_drop]
        exact hrest
  · refine EW.exit ?_
    refine px_then ?_
    refine px_then ?_
    refine px_block ?_
    refine EW.on ?_
    refine EW.seq ?_
    have hz : a_ = rs.length := by
      rw [show cs.drop i = [] from List.drop_eq_nil_of_le (by omega)] at hpi
      have := pk_nil hpi
      rw [List.drop_eq_nil_iff, List.length_map] at this
      omega
    refine EW.region ?_
    refine WL.load rfl rfl rfl (ld32 (((bg0.on be3).on be4).on bei)) ?_
    refine WL.call [g.val] enter12 rfl rfl rfl (right_mk g _ ((hg.below e4).below bei)) ?_
    rintro _ wa ⟨a1, b1, rfl, okx, bea⟩
    refine ⟨_, rfl, ?_⟩
    obtain ⟨wb, qr, rb, bb, beb, hqr⟩ := new32 wa
    refine WL.new rfl rfl rb ?_
    obtain ⟨w6, sb1, br, xb⟩ := st32 bb rfl (okx.below beb).one
    refine WL.store rfl rfl rfl sb1 ?_
    have be6 : Below wa.heap.size wa w6 := beb.trans (xb.below (fun k hk e => by omega) beb.size)
    refine WL.done ?_
    refine EW.on ?_
    refine EW.seq ?_
    have ee : Below w4.heap.size w4 w6 := (bei.trans (bea.mono bei.size)).trans (be6.mono (by have := bei.size; have := bea.size; omega))
    have e6 := e4.trans (ee.mono e4.size)
    have hw6 := hw4.below ee
    have okx6 := okx.below be6
    obtain ⟨b, hb⟩ : ∃ b, isAt (rs.map RV.d) ⟨(mkR (rightD g.d) a1 b1).t, (mkR (rightD g.d) a1 b1).k, []⟩ = b := ⟨_, rfl⟩
    refine EW.region ?_
    first | refine WL.move rfl rfl rfl ?_
    refine WL.field rfl rfl rfl (rfld0 qr _) ?_
    refine WL.load rfl rfl rfl (ldI br rfl) ?_
    refine WL.field rfl rfl rfl (rfld1 qr _) ?_
    refine WL.load rfl rfl rfl (ldS br rfl) ?_
    refine WL.call [vw, .int .i64 (mkR (rightD g.d) a1 b1).t, a1] enter16 rfl rfl rfl (find_any vw rs (mkR (rightD g.d) a1 b1).t a1 (mkR (rightD g.d) a1 b1).k _ hw6 okx6.hk (by omega) hsr) ?_
    rintro _ w7 ⟨rfl, be7⟩
    rw [show isAt (rs.map RV.d) ⟨(mkR (rightD g.d) a1 b1).t, (mkR (rightD g.d) a1 b1).k, []⟩ = b from hb]
    refine ⟨_, rfl, ?_⟩
    first | refine WL.move rfl rfl rfl ?_
    first | refine WL.extract rfl rfl rfl (ext_2 _ _ _).1 ?_
    first | refine WL.extract rfl rfl rfl (ext_2 _ _ _).2 ?_
    first | refine WL.assign rfl rfl rfl ?_
    first | refine WL.assign rfl rfl rfl ?_
    refine WL.done ?_
    refine EW.on ?_
    refine EW.seq ?_
    refine EW.region ?_
    first | refine WL.move rfl rfl rfl ?_
    refine WL.load rfl rfl rfl (ld32 (br.on be7)) ?_
    refine WL.call [vw, (mkR (rightD g.d) a1 b1).val] enter15 rfl rfl rfl (put_any vw rs (mkR (rightD g.d) a1 b1) _ (hw6.below be7) (okx6.below be7) (right_ok _) (by omega) hsr) ?_
    rintro _ w8 ⟨v8, rs8, rfl, hm, hd8, be8⟩
    refine ⟨_, rfl, ?_⟩
    first | refine WL.move rfl rfl rfl ?_
    first | refine WL.extract rfl rfl rfl (ext_2 _ _ _).1 ?_
    first | refine WL.extract rfl rfl rfl (ext_2 _ _ _).2 ?_
    first | refine WL.assign rfl rfl rfl ?_
    first | refine WL.assign rfl rfl rfl ?_
    refine WL.done ?_
    refine EW.on ?_
    refine EW.seq ?_
    have hs8 : Srt (rs8.map RV.d) := by rw [hd8]; exact hsr.ins (right_ok _)
    have hl8 : rs8.length ≤ 61 := by
      have e1 := congrArg List.length hd8
      have e2 := ins_len (rs.map RV.d) (mkR (rightD g.d) a1 b1).d
      rw [List.length_map] at e1 e2
      omega
    have hat8 : isAt (rs8.map RV.d) (mkR (rightD g.d) a1 b1).d = true := by rw [hd8]; exact ins_at hsr (right_ok _)
    refine EW.region ?_
    first | refine WL.move rfl rfl rfl ?_
    refine WL.field rfl rfl rfl (rfld0 qr _) ?_
    refine WL.load rfl rfl rfl (ldI ((br.on be7).on be8) rfl) ?_
    refine WL.field rfl rfl rfl (rfld1 qr _) ?_
    refine WL.load rfl rfl rfl (ldS ((br.on be7).on be8) rfl) ?_
    refine WL.call [v8, .int .i64 (mkR (rightD g.d) a1 b1).t, a1] enter17 rfl rfl rfl (delete_any v8 rs8 (mkR (rightD g.d) a1 b1).t a1 (mkR (rightD g.d) a1 b1).k _ hm ((okx6.below be7).below be8).hk (by omega) hs8 hat8) ?_
    rintro _ w9 ⟨v9, rs9, rfl, hl9, hd9, be9⟩
    replace hd9 : rs9.map RV.d = delD (rs8.map RV.d) (mkR (rightD g.d) a1 b1).d := hd9
    refine ⟨_, rfl, ?_⟩
    first | refine WL.move rfl rfl rfl ?_
    first | refine WL.extract rfl rfl rfl (ext_2 _ _ _).1 ?_
    first | refine WL.extract rfl rfl rfl (ext_2 _ _ _).2 ?_
    first | refine WL.assign rfl rfl rfl ?_
    first | refine WL.assign rfl rfl rfl ?_
    refine WL.done ?_
    refine EW.on ?_
    refine EW.seq ?_
    refine EW.seq ?_
    have e7 := e6.trans (be7.mono e6.size)
    have e8 := e7.trans (be8.mono e7.size)
    have e9 := e8.trans (be9.mono e8.size)
    have za : (a_ : Int) = (rs.length : Int) := by omega
    refine EW.region ?_
    first | refine WL.move rfl rfl rfl ?_
    first | refine WL.bin rfl rfl rfl rfl (int_ne_f rfl _ _ _) ?_ | refine WL.bin rfl rfl rfl rfl (int_ne_t ‹_› _ _ _) ?_ | refine WL.bin rfl rfl rfl rfl (int_ne_f ‹_› _ _ _) ?_ | refine WL.bin rfl rfl rfl rfl (int_ne_t (by decide) _ _ _) ?_ | refine WL.bin rfl rfl rfl rfl (int_ne_d _ _ _ _ _) ?_
    first | refine WL.move rfl rfl rfl ?_
    first | refine WL.move rfl rfl rfl ?_ | refine WL.skip _ rfl rfl rfl ?_
    first | refine WL.bin rfl rfl rfl rfl (int_ne_f rfl _ _ _) ?_ | refine WL.bin rfl rfl rfl rfl (int_ne_t ‹_› _ _ _) ?_ | refine WL.bin rfl rfl rfl rfl (int_ne_f ‹_› _ _ _) ?_ | refine WL.bin rfl rfl rfl rfl (int_ne_t (by decide) _ _ _) ?_ | refine WL.bin rfl rfl rfl rfl (int_ne_d _ _ _ _ _) ?_ | refine WL.skip _ rfl rfl rfl ?_
    first | refine WL.pick rfl rfl rfl rfl ?_
    first | refine WL.move rfl rfl rfl ?_
    first | refine WL.move rfl rfl rfl ?_ | refine WL.skip _ rfl rfl rfl ?_
    first | refine WL.move rfl rfl rfl ?_ | refine WL.skip _ rfl rfl rfl ?_
    first | refine WL.len rfl rfl rfl (hw3.len _ _) ?_ | refine WL.skip _ rfl rfl rfl ?_
    first | refine WL.bin rfl rfl rfl rfl (int_ne_f rfl _ _ _) ?_ | refine WL.bin rfl rfl rfl rfl (int_ne_t ‹_› _ _ _) ?_ | refine WL.bin rfl rfl rfl rfl (int_ne_f ‹_› _ _ _) ?_ | refine WL.bin rfl rfl rfl rfl (int_ne_t (by decide) _ _ _) ?_ | refine WL.bin rfl rfl rfl rfl (int_ne_d _ _ _ _ _) ?_ | refine WL.skip _ rfl rfl rfl ?_
    first | refine WL.pick rfl rfl rfl rfl ?_
    refine WL.done ?_
    refine EW.on ?_
    refine EW.cond_f rfl ?_
    refine EW.skip ?_
    refine EW.on ?_
    refine EW.seq ?_
    refine EW.seq ?_
    cases b
    · have hid : delD (rs8.map RV.d) (mkR (rightD g.d) a1 b1).d = rs.map RV.d := by rw [hd8]; exact ins_del hsr (right_ok _) hb
      have hs9 : Srt (rs9.map RV.d) := by rw [hd9, hid]; exact hsr
      have hl9c : rs9.length = rs.length := d_len (by rw [hd9, hid])
      have hw9 := ((hw6.below be7).below be8).below be9
      have hc9 := (((((hc.below bei).below bea).below be6).below be7).below be8).below be9
      refine EW.region ?_
      first | refine WL.move rfl rfl rfl ?_
      refine WL.done ?_
      refine EW.on ?_
      refine EW.cond_f rfl ?_
      refine EW.skip ?_
      refine EW.on ?_
      refine EW.seq ?_
      refine EW.region ?_
      first | refine WL.move rfl rfl rfl ?_
      refine WL.call [v9] enter18 rfl rfl rfl (pack_any v9 rs9 _ hl9 hs9 (by omega)) ?_
      rintro _ w10 ⟨v10, cs', rfl, hc10, hpk10, be10⟩
      have hcs : cs' = cs := by rw [hd9, hid] at hpk10; exact hpk10.uniq hpk
      rw [hcs] at hc10
      refine ⟨_, rfl, ?_⟩
      first | refine WL.move rfl rfl rfl ?_
      first | refine WL.extract rfl rfl rfl (ext_2 _ _ _).1 ?_
      first | refine WL.extract rfl rfl rfl (ext_2 _ _ _).2 ?_
      first | refine WL.assign rfl rfl rfl ?_
      first | refine WL.assign rfl rfl rfl ?_
      refine WL.done ?_
      refine EW.on ?_
      refine EW.seq ?_
      refine EW.region ?_
      first | refine WL.move rfl rfl rfl ?_
      first | refine WL.bin rfl rfl rfl rfl (int_eq_t rfl _ _ _) ?_ | refine WL.bin rfl rfl rfl rfl (int_eq_t ‹_› _ _ _) ?_ | refine WL.bin rfl rfl rfl rfl (int_eq_f ‹_› _ _ _) ?_ | refine WL.bin rfl rfl rfl rfl (int_eq_d _ _ _ _ _) ?_
      first | refine WL.move rfl rfl rfl ?_
      first | refine WL.move rfl rfl rfl ?_ | refine WL.skip _ rfl rfl rfl ?_
      first | refine WL.move rfl rfl rfl ?_ | refine WL.skip _ rfl rfl rfl ?_
      refine WL.call [v9, vw] enter20 rfl rfl rfl (same_any v9 vw rs9 rs _ (hl9.below be10) (hw9.below be10) (by rw [hd9, hid]) (by omega)) ?_
      rintro _ w11 ⟨rfl, be11⟩
      refine ⟨_, rfl, ?_⟩
      first | refine WL.pick rfl rfl rfl rfl ?_
      first | refine WL.move rfl rfl rfl ?_
      first | refine WL.move rfl rfl rfl ?_ | refine WL.skip _ rfl rfl rfl ?_
      first | refine WL.move rfl rfl rfl ?_ | refine WL.skip _ rfl rfl rfl ?_
      refine WL.call [v10, vc] enter21 rfl rfl rfl (ints_any v10 vc cs _ _ _ (hc10.below be11) ((hc9.below be10).below be11) (by omega)) ?_
      rintro _ w12 ⟨rfl, be12⟩
      refine ⟨_, rfl, ?_⟩
      first | refine WL.pick rfl rfl rfl rfl ?_
      first | refine WL.assign rfl rfl rfl ?_
      refine WL.done ?_
      have e10 := e9.trans (be10.mono e9.size)
      have e11 := e10.trans (be11.mono e10.size)
      have eF := e11.trans (be12.mono e11.size)
      refine EW.on ?_
      refine EW.ret ?_
      exact EW.returns Try.results5 rfl ⟨rfl, eF⟩
    · have hle : rs8.length = rs.length := by
        have e1 := congrArg List.length hd8
        have e2 := ins_len (rs.map RV.d) (mkR (rightD g.d) a1 b1).d
        rw [show isAt (rs.map RV.d) (mkR (rightD g.d) a1 b1).d = true from hb] at e2
        simp at e1 e2
        omega
      have hlt := isAt_lt (show isAt (rs.map RV.d) (mkR (rightD g.d) a1 b1).d = true from hb)
      rw [List.length_map] at hlt
      have hl9' : rs9.length + 1 = rs8.length := by
        have e1 := congrArg List.length hd9
        have e2 := del_len hat8
        rw [List.length_map] at e1 e2
        omega
      have y1 : (rs8.length : Int) = (rs.length : Int) := by omega
      have y2 : IntKind.i64.wrap ((rs.length : Int) - 1) = (rs.length : Int) - 1 := by rw [IntKind.wrap_i64]; omega
      have y3 : (rs9.length : Int) = (rs.length : Int) - 1 := by omega
      have eF := e9
      refine EW.region ?_
      first | refine WL.move rfl rfl rfl ?_
      refine WL.done ?_
      refine EW.on ?_
      refine EW.cond_t rfl ?_
      refine EW.seq ?_
      refine EW.region ?_
      first | refine WL.move rfl rfl rfl ?_
      first | refine WL.len rfl rfl rfl (hm.len _ _) ?_
      first | refine WL.move rfl rfl rfl ?_
      first | refine WL.len rfl rfl rfl (hw3.len _ _) ?_
      first | refine WL.bin rfl rfl rfl rfl (int_eq_t rfl _ _ _) ?_ | refine WL.bin rfl rfl rfl rfl (int_eq_t ‹_› _ _ _) ?_ | refine WL.bin rfl rfl rfl rfl (int_eq_f ‹_› _ _ _) ?_ | refine WL.bin rfl rfl rfl rfl (int_eq_d _ _ _ _ _) ?_
      first | refine WL.move rfl rfl rfl ?_
      first | refine WL.move rfl rfl rfl ?_ | refine WL.skip _ rfl rfl rfl ?_
      first | refine WL.len rfl rfl rfl (hl9.len _ _) ?_ | refine WL.skip _ rfl rfl rfl ?_
      first | refine WL.move rfl rfl rfl ?_ | refine WL.skip _ rfl rfl rfl ?_
      first | refine WL.len rfl rfl rfl (hw3.len _ _) ?_ | refine WL.skip _ rfl rfl rfl ?_
      first | refine WL.bin rfl rfl rfl rfl (int_sub ‹_› _ _ _) ?_ | refine WL.skip _ rfl rfl rfl ?_
      first | refine WL.bin rfl rfl rfl rfl (int_eq_t rfl _ _ _) ?_ | refine WL.bin rfl rfl rfl rfl (int_eq_t ‹_› _ _ _) ?_ | refine WL.bin rfl rfl rfl rfl (int_eq_f ‹_› _ _ _) ?_ | refine WL.bin rfl rfl rfl rfl (int_eq_d _ _ _ _ _) ?_ | refine WL.skip _ rfl rfl rfl ?_
      first | refine WL.pick rfl rfl rfl rfl ?_
      first | refine WL.assign rfl rfl rfl ?_
      refine WL.done ?_
      refine EW.on ?_
      refine EW.ret ?_
      refine pr_then ?_
      exact EW.returns Try.results5 rfl ⟨rfl, eF⟩
end Go.Proofs.Yteghbkeaojbdgaa
