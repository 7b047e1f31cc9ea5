import Derived.Test.YtiefgmgjlhjjhaaDoorPsG
set_option linter.unusedVariables false
set_option linter.unusedSimpArgs false
namespace Go.Proofs.YtiefgmgjlhjjhaaDoor
open Go.RowKit

attribute [local irreducible] sm sumOf cnt chk partB ptB lgL
/-- The document's parcel. -/
structure Rp where
  p : List UInt8
  id : Nat
  n : Nat
  s : List UInt8
  h : List Bool
  t : List (List UInt8)
  iv : Value
  tv : Value
  ts : List Value
def Rp.cs (x : Rp) : List Value := [sv x.p, u32v x.id, .int .i64 (x.n : Int), sv x.s, x.iv, x.tv]
def Rp.val (x : Rp) : Value := .agg x.cs.toArray
def br (h : List Bool) : List (List Value) := h.map fun b => [.bool b]
theorem br_len (h : List Bool) : (br h).length = h.length := by simp [br]
structure Rp.hs (w : World) (x : Rp) : Prop where
  bi : Ow 4 1 w x.iv (br x.h)
  pt : Ow 24 1 w x.tv (x.ts.map fun v => [v])
  hx : ∀ (i : Nat) v b, x.ts[i]? = some v → x.t[i]? = some b → Ob w 0 v b
  lh : x.h.length = x.n
  lt : x.t.length = x.n
  ls : x.ts.length = x.n
  le : ∀ b ∈ x.t, b.length ≤ 497
  n2 : x.n ≤ 64
theorem Rp.hs.on {w w' : World} {x : Rp} (h : x.hs w) (hb : Below w.heap.size w w') : x.hs w' := ⟨h.bi.on hb, h.pt.on hb, fun i v b hv ht => (h.hx i v b hv ht).below hb, h.lh, h.lt, h.ls, h.le, h.n2⟩
theorem Rp.hs.iv {w : World} {x : Rp} (h : x.hs w) : ∃ ao c, x.iv = .slice ao x.n c := by
  rcases h.bi.li.sl with ⟨h1, h2⟩ | ⟨ad, cap, h1, _⟩
  · have : x.n = 0 := by rw [← h.lh, ← br_len, h2]; rfl
    rw [this]; exact ⟨_, _, h1⟩
  · rw [br_len, h.lh] at h1; exact ⟨_, _, h1⟩
theorem Rp.hs.parts {w : World} {x : Rp} (h : x.hs w) : Parts w x.tv (x.ts.zip x.t) := by
  have hzl : (x.ts.zip x.t).length = x.n := by rw [List.length_zip, h.ls, h.lt, Nat.min_self]
  have hml : (x.ts.map fun v => [v]).length = x.n := by rw [List.length_map, h.ls]
  rcases h.pt.li.sl with ⟨h1, h2⟩ | ⟨ad, cap, h1, h2⟩
  · have : x.n = 0 := by rw [← hml, h2]; rfl
    exact .inl ⟨h1, List.length_eq_zero_iff.1 (by omega)⟩
  · rw [hml] at h1 h2
    refine .inr ⟨ad, cap, by rw [hzl]; exact h1, by rw [hzl]; exact h2, fun i p hp => ?_⟩
    have hz := List.getElem?_zip_eq_some.1 hp
    refine ⟨?_, (h.hx i p.1 p.2 hz.1 hz.2).has⟩
    obtain ⟨ad', cap', e, ha⟩ := h.pt.li.at_ i [p.1] (by rw [List.getElem?_map, hz.1]; rfl)
    rw [h1, hml] at e
    cases e
    have := ha 0 _ rfl
    rw [Nat.mul_one, addr_add, Nat.add_zero] at this
    exact this
theorem Rp.hs.tv {w : World} {x : Rp} (h : x.hs w) : ∃ ao c, x.tv = .slice ao x.n c := by
  obtain ⟨ao, c, e⟩ := h.parts.slice
  rw [List.length_zip, h.ls, h.lt, Nat.min_self] at e
  exact ⟨ao, c, e⟩
theorem Rp.one {w : World} {x : Rp} (h : x.hs w) : x.cs.toArray.all (·.oneCell') = true := by
  obtain ⟨_, _, e1⟩ := h.iv
  obtain ⟨_, _, e2⟩ := h.tv
  simp [Rp.cs, sv, u32v, Value.oneCell', e1, e2]
theorem i114 (x : Rp) : (Tryd.prog.info? 114).map (·.size) = some x.cs.length := by show _ = some 6; kernel_rfl
theorem ld114 {w : World} {q : Nat} {x : Rp} (hb : Blk w q x.cs 114) : (Instr.loadAt 114 (.pointer (some ⟨q, 0, none⟩))).run Tryd.prog w = .ok x.val w := hb.ldA (a := []) (b := []) Tryd.underlying114 rfl (i114 x) (by simp) rfl
theorem ld107 {W : World} {q j : Nat} {cs : List Value} {t : TypeId} {v : Value} (hb : Blk W q cs t) (hv : cs[j]? = some v) : (Instr.loadAt 107 (.pointer (some ⟨q, j, none⟩))).run Tryd.prog W = .ok v W := by
  have hc : W.cell? ⟨q, j, none⟩ = some v := (hb.cell j).trans hv
  go_simp
theorem ld26 {W : World} {q j : Nat} {cs : List Value} {t : TypeId} {v : Value} (hb : Blk W q cs t) (hv : cs[j]? = some v) : (Instr.loadAt 26 (.pointer (some ⟨q, j, none⟩))).run Tryd.prog W = .ok v W := by
  have hc : W.cell? ⟨q, j, none⟩ = some v := (hb.cell j).trans hv
  go_simp
theorem ld80 {W : World} {q j : Nat} {cs : List Value} {t : TypeId} {v : Value} (hb : Blk W q cs t) (hv : cs[j]? = some v) : (Instr.loadAt 80 (.pointer (some ⟨q, j, none⟩))).run Tryd.prog W = .ok v W := by
  have hc : W.cell? ⟨q, j, none⟩ = some v := (hb.cell j).trans hv
  go_simp
theorem ldBa {W : World} {ad : Addr} {v : Value} (hc : W.cell? ad = some v) : (Instr.loadAt 4 (.pointer (some ad))).run Tryd.prog W = .ok v W := by go_simp
theorem x107g (ad : Addr) (n cap m : Nat) (h : m < n) (W : World) : (Instr.indexAt 107 (.slice (some ad) n cap) (.int .i64 (m : Int))).run Tryd.prog W = .ok (.pointer (some (ad.add m))) W := by
  have hm : (m : Int) < (n : Int) := by omega
  go_simp
theorem len80 (ao : Option Addr) (n c : Nat) (W : World) (ty : TypeId) : (Builtin.len_ #[80] ty #[.slice ao n c]).run Tryd.prog W = .ok (.int .i64 (n : Int)) W := by go_simp
theorem bd82 (a : Int) (W : World) : (Instr.build 82 [(1, .int .i64 a)].toArray).run Tryd.prog W = .ok (.agg [.slice none 0 0, .int .i64 a].toArray) W := by kernel_rfl
theorem f114_0 (ad : Addr) (W : World) : (Instr.fieldAt 114 (.pointer (some ad)) 0).run Tryd.prog W = .ok (.pointer (some (ad.add 0))) W := by go_simp
theorem f114_1 (ad : Addr) (W : World) : (Instr.fieldAt 114 (.pointer (some ad)) 1).run Tryd.prog W = .ok (.pointer (some (ad.add 1))) W := by go_simp
theorem f114_2 (ad : Addr) (W : World) : (Instr.fieldAt 114 (.pointer (some ad)) 2).run Tryd.prog W = .ok (.pointer (some (ad.add 2))) W := by go_simp
theorem f114_4 (ad : Addr) (W : World) : (Instr.fieldAt 114 (.pointer (some ad)) 4).run Tryd.prog W = .ok (.pointer (some (ad.add 4))) W := by go_simp
theorem g114_2 (q : Nat) (W : World) : (Instr.fieldAt 114 (.pointer (some ⟨q, 0, none⟩)) 2).run Tryd.prog W = .ok (.pointer (some ⟨q, 2, none⟩)) W := by go_simp
theorem g114_3 (q : Nat) (W : World) : (Instr.fieldAt 114 (.pointer (some ⟨q, 0, none⟩)) 3).run Tryd.prog W = .ok (.pointer (some ⟨q, 3, none⟩)) W := by go_simp
theorem g114_4 (q : Nat) (W : World) : (Instr.fieldAt 114 (.pointer (some ⟨q, 0, none⟩)) 4).run Tryd.prog W = .ok (.pointer (some ⟨q, 4, none⟩)) W := by go_simp
theorem g114_5 (q : Nat) (W : World) : (Instr.fieldAt 114 (.pointer (some ⟨q, 0, none⟩)) 5).run Tryd.prog W = .ok (.pointer (some ⟨q, 5, none⟩)) W := by go_simp
theorem g82_0 (q : Nat) (W : World) : (Instr.fieldAt 82 (.pointer (some ⟨q, 0, none⟩)) 0).run Tryd.prog W = .ok (.pointer (some ⟨q, 0, none⟩)) W := by go_simp
theorem g82_1 (q : Nat) (W : World) : (Instr.fieldAt 82 (.pointer (some ⟨q, 0, none⟩)) 1).run Tryd.prog W = .ok (.pointer (some ⟨q, 1, none⟩)) W := by go_simp
set_option maxRecDepth 100000 in
set_option maxHeartbeats 1000000 in
theorem rname_any (l : List UInt8) (w : World) : Calls Tryd.prog 49 #[sv l] w fun e w' => e = .returned (.bool (nmB l)) ∧ w' = w := by
  refine calls_of_args [sv l] Tryd.func49 rfl 11 Tryd.ntmps49 (by show 1 ≤ 11; decide) ?_
  refine EW.seq ?_
  refine EW.region ?_
  first | refine WL.assign rfl rfl rfl ?_
  refine WL.done ?_
  refine EW.on ?_
  refine EW.seq ?_
  by_cases hA : (1 : Int) ≤ (l.length : Int)
  · refine EW.region ?_
    first | refine WL.move rfl rfl rfl ?_
    first | refine WL.len rfl rfl rfl (len_s l _ _) ?_ | refine WL.skip _ rfl rfl rfl ?_
    first | refine WL.bin rfl rfl rfl rfl (int_ge_t ‹_› _ _ _) ?_ | refine WL.bin rfl rfl rfl rfl (int_ge_f ‹_› _ _ _) ?_ | refine WL.bin rfl rfl rfl rfl (int_ge_d _ _ _ _ _) ?_
    first | refine WL.move rfl rfl rfl ?_
    first | refine WL.move rfl rfl rfl ?_ | refine WL.skip _ rfl rfl rfl ?_
    first | refine WL.len rfl rfl rfl (len_s l _ _) ?_ | refine WL.skip _ rfl rfl rfl ?_
    first | refine WL.bin rfl rfl rfl rfl (int_le_t ‹_› _ _ _) ?_ | refine WL.bin rfl rfl rfl rfl (int_le_f ‹_› _ _ _) ?_ | refine WL.bin rfl rfl rfl rfl (int_le_d _ _ _ _ _) ?_ | refine WL.skip _ rfl rfl rfl ?_
    first | refine WL.pick rfl rfl rfl rfl ?_
    first | refine WL.assign rfl rfl rfl ?_
    refine WL.done ?_
    refine EW.on ?_
    refine EW.ret ?_
    exact EW.returns Tryd.results49 rfl ⟨by unfold nmB; congr 2; rw [Bool.eq_iff_iff]; simp <;> omega, rfl⟩
  · refine EW.region ?_
    first | refine WL.move rfl rfl rfl ?_
    first | refine WL.len rfl rfl rfl (len_s l _ _) ?_ | refine WL.skip _ rfl rfl rfl ?_
    first | refine WL.bin rfl rfl rfl rfl (int_ge_t ‹_› _ _ _) ?_ | refine WL.bin rfl rfl rfl rfl (int_ge_f ‹_› _ _ _) ?_ | refine WL.bin rfl rfl rfl rfl (int_ge_d _ _ _ _ _) ?_
    first | refine WL.move rfl rfl rfl ?_
    first | refine WL.move rfl rfl rfl ?_ | refine WL.skip _ rfl rfl rfl ?_
    first | refine WL.len rfl rfl rfl (len_s l _ _) ?_ | refine WL.skip _ rfl rfl rfl ?_
    first | refine WL.bin rfl rfl rfl rfl (int_le_t ‹_› _ _ _) ?_ | refine WL.bin rfl rfl rfl rfl (int_le_f ‹_› _ _ _) ?_ | refine WL.bin rfl rfl rfl rfl (int_le_d _ _ _ _ _) ?_ | refine WL.skip _ rfl rfl rfl ?_
    first | refine WL.pick rfl rfl rfl rfl ?_
    first | refine WL.assign rfl rfl rfl ?_
    refine WL.done ?_
    refine EW.on ?_
    refine EW.ret ?_
    exact EW.returns Tryd.results49 rfl ⟨by unfold nmB; congr 2; rw [Bool.eq_iff_iff]; simp <;> omega, rfl⟩
/-- The document's tray lies there. -/
structure Rt (w : World) (q : Nat) (v : Value) (most : Nat) (L : List Rp) : Prop where
  bl : Blk w q [v, .int .i64 (most : Int)] 82
  ow : Ow 114 6 w v (L.map Rp.cs)
  hs : ∀ x ∈ L, x.hs w
theorem Rt.on {w w' : World} {q : Nat} {v : Value} {most : Nat} {L : List Rp} (h : Rt w q v most L) (hb : Below w.heap.size w w') : Rt w' q v most L := ⟨h.bl.on hb, h.ow.on hb, fun x hx => (h.hs x hx).on hb⟩
theorem Rt.slice {w : World} {q : Nat} {v : Value} {most : Nat} {L : List Rp} (h : Rt w q v most L) : ∃ ao c, v = .slice ao L.length c := by
  rcases h.ow.addr with ⟨h1, h2⟩ | ⟨g, cap, h1⟩
  · have : L = [] := by cases L with | nil => rfl | cons a r => simp at h2
    subst this; exact ⟨_, _, h1⟩
  · rw [List.length_map] at h1; exact ⟨_, _, h1⟩
set_option maxRecDepth 100000 in
set_option maxHeartbeats 1000000 in
theorem rnew_no (most : Int) (w : World) (h : most < 1 ∨ 64 < most) : Calls Tryd.prog 16 #[.int .i64 most] w fun e w' => e = .returned (.tuple #[.pointer none, .int .i64 2]) ∧ w' = w := by
  by_cases hA : most < 1
  · refine calls_of_args [.int .i64 most] Tryd.func16 rfl 13 Tryd.ntmps16 (by show 1 ≤ 13; decide) ?_
    refine EW.seq ?_
    refine EW.region ?_
    first | refine WL.assign rfl rfl rfl ?_
    first | refine WL.assign rfl rfl rfl ?_
    refine WL.done ?_
    refine EW.on ?_
    refine EW.seq ?_
    refine EW.seq ?_
    refine EW.region ?_
    first | refine WL.move rfl rfl rfl ?_
    first | refine WL.bin rfl rfl rfl rfl (int_lt_t ‹_› _ _ _) ?_ | refine WL.bin rfl rfl rfl rfl (int_lt_f ‹_› _ _ _) ?_ | refine WL.bin rfl rfl rfl rfl (int_lt_d _ _ _ _ _) ?_
    first | refine WL.move rfl rfl rfl ?_
    first | refine WL.move rfl rfl rfl ?_ | refine WL.skip _ rfl rfl rfl ?_
    first | refine WL.bin rfl rfl rfl rfl (int_gt_t ‹_› _ _ _) ?_ | refine WL.bin rfl rfl rfl rfl (int_gt_f ‹_› _ _ _) ?_ | refine WL.bin rfl rfl rfl rfl (int_gt_d _ _ _ _ _) ?_ | refine WL.skip _ rfl rfl rfl ?_
    first | refine WL.pick rfl rfl rfl rfl ?_
    refine WL.done ?_
    refine EW.on ?_
    refine EW.cond_t rfl ?_
    refine EW.seq ?_
    refine EW.region ?_
    first | refine WL.assign rfl rfl rfl ?_
    first | refine WL.assign rfl rfl rfl ?_
    refine WL.done ?_
    refine EW.on ?_
    refine EW.ret ?_
    refine pr_then ?_
    exact EW.returns2 Tryd.results16 rfl rfl ⟨rfl, rfl⟩
  · refine calls_of_args [.int .i64 most] Tryd.func16 rfl 13 Tryd.ntmps16 (by show 1 ≤ 13; decide) ?_
    refine EW.seq ?_
    refine EW.region ?_
    first | refine WL.assign rfl rfl rfl ?_
    first | refine WL.assign rfl rfl rfl ?_
    refine WL.done ?_
    refine EW.on ?_
    refine EW.seq ?_
    refine EW.seq ?_
    have hB : (64 : Int) < most := by omega
    refine EW.region ?_
    first | refine WL.move rfl rfl rfl ?_
    first | refine WL.bin rfl rfl rfl rfl (int_lt_t ‹_› _ _ _) ?_ | refine WL.bin rfl rfl rfl rfl (int_lt_f ‹_› _ _ _) ?_ | refine WL.bin rfl rfl rfl rfl (int_lt_d _ _ _ _ _) ?_
    first | refine WL.move rfl rfl rfl ?_
    first | refine WL.move rfl rfl rfl ?_ | refine WL.skip _ rfl rfl rfl ?_
    first | refine WL.bin rfl rfl rfl rfl (int_gt_t ‹_› _ _ _) ?_ | refine WL.bin rfl rfl rfl rfl (int_gt_f ‹_› _ _ _) ?_ | refine WL.bin rfl rfl rfl rfl (int_gt_d _ _ _ _ _) ?_ | refine WL.skip _ rfl rfl rfl ?_
    first | refine WL.pick rfl rfl rfl rfl ?_
    refine WL.done ?_
    refine EW.on ?_
    refine EW.cond_t rfl ?_
    refine EW.seq ?_
    refine EW.region ?_
    first | refine WL.assign rfl rfl rfl ?_
    first | refine WL.assign rfl rfl rfl ?_
    refine WL.done ?_
    refine EW.on ?_
    refine EW.ret ?_
    refine pr_then ?_
    exact EW.returns2 Tryd.results16 rfl rfl ⟨rfl, rfl⟩
set_option maxRecDepth 100000 in
set_option maxHeartbeats 1000000 in
theorem rnew_ok (most : Int) (w : World) (h1 : 1 ≤ most) (h2 : most ≤ 64) : Calls Tryd.prog 16 #[.int .i64 most] w fun e w' => ∃ q, e = .returned (.tuple #[.pointer (some ⟨q, 0, none⟩), .int .i64 0]) ∧ Rt w' q (.slice none 0 0) most.toNat [] ∧ Below w.heap.size w w' ∧ w.heap.size ≤ q := by
  have hA : ¬ most < 1 := by omega
  have hB : ¬ (64 : Int) < most := by omega
  refine calls_of_args [.int .i64 most] Tryd.func16 rfl 13 Tryd.ntmps16 (by show 1 ≤ 13; decide) ?_
  refine EW.seq ?_
  refine EW.region ?_
  first | refine WL.assign rfl rfl rfl ?_
  first | refine WL.assign rfl rfl rfl ?_
  refine WL.done ?_
  refine EW.on ?_
  refine EW.seq ?_
  refine EW.seq ?_
  refine EW.region ?_
  first | refine WL.move rfl rfl rfl ?_
  first | refine WL.bin rfl rfl rfl rfl (int_lt_t ‹_› _ _ _) ?_ | refine WL.bin rfl rfl rfl rfl (int_lt_f ‹_› _ _ _) ?_ | refine WL.bin rfl rfl rfl rfl (int_lt_d _ _ _ _ _) ?_
  first | refine WL.move rfl rfl rfl ?_
  first | refine WL.move rfl rfl rfl ?_ | refine WL.skip _ rfl rfl rfl ?_
  first | refine WL.bin rfl rfl rfl rfl (int_gt_t ‹_› _ _ _) ?_ | refine WL.bin rfl rfl rfl rfl (int_gt_f ‹_› _ _ _) ?_ | refine WL.bin rfl rfl rfl rfl (int_gt_d _ _ _ _ _) ?_ | refine WL.skip _ rfl rfl rfl ?_
  first | refine WL.pick rfl rfl rfl rfl ?_
  refine WL.done ?_
  refine EW.on ?_
  refine EW.cond_f rfl ?_
  refine EW.skip ?_
  refine EW.on ?_
  refine EW.seq ?_
  refine EW.region ?_
  first | refine WL.move rfl rfl rfl ?_
  refine WL.buildN [(1, .int .i64 most)] rfl rfl rfl (bd82 _ _) ?_
  obtain ⟨w2, q, rb, b2, l2, hq⟩ := box_any 82 [.slice none 0 0, .int .i64 most] w
  refine WL.box rfl rfl rfl rb ?_
  first | refine WL.assign rfl rfl rfl ?_
  first | refine WL.assign rfl rfl rfl ?_
  refine WL.done ?_
  refine EW.on ?_
  refine EW.ret ?_
  exact EW.returns2 Tryd.results16 rfl rfl ⟨q, rfl, ⟨by rw [Int.toNat_of_nonneg (by omega)]; exact b2, Ow.nil _ _ _, fun m hm => by cases hm⟩, l2, by omega⟩
set_option maxRecDepth 100000 in
set_option maxHeartbeats 1000000 in
theorem rlen_any (q : Nat) (v : Value) (most : Nat) (L : List Rp) (w : World) (ht : Rt w q v most L) : Calls Tryd.prog 18 #[.pointer (some ⟨q, 0, none⟩)] w fun e w' => e = .returned (.int .i64 (L.length : Int)) ∧ w' = w := by
  obtain ⟨ao, cp, hv⟩ := ht.slice
  refine calls_of_args [.pointer (some ⟨q, 0, none⟩)] Tryd.func18 rfl 8 Tryd.ntmps18 (by show 1 ≤ 8; decide) ?_
  refine EW.seq ?_
  refine EW.region ?_
  first | refine WL.assign rfl rfl rfl ?_
  refine WL.done ?_
  refine EW.on ?_
  refine EW.seq ?_
  refine EW.region ?_
  first | refine WL.move rfl rfl rfl ?_
  first | refine WL.nilc rfl rfl rfl ?_
  refine WL.field rfl rfl rfl (g82_0 _ _) ?_
  refine WL.load rfl rfl rfl (ld80 ht.bl rfl) ?_
  rw [hv]
  refine WL.len rfl rfl rfl (len80 _ _ _ _ _) ?_
  first | refine WL.assign rfl rfl rfl ?_
  refine WL.done ?_
  refine EW.on ?_
  refine EW.ret ?_
  exact EW.returns Tryd.results18 rfl ⟨rfl, rfl⟩
def rall (h : List Bool) : Bool := h.all fun b => b
theorem rall_t {h : List Bool} (hh : ∀ i, i < h.length → h[i]? = some true) : rall h = true := by
  unfold rall
  rw [List.all_eq_true]
  intro b hb
  obtain ⟨i, hi, e⟩ := List.getElem_of_mem hb
  have := hh i hi
  rw [List.getElem?_eq_getElem hi, e] at this
  exact Option.some.inj this
theorem rall_f {h : List Bool} {i : Nat} (hh : h[i]? = some false) : rall h = false := by
  unfold rall
  rw [List.all_eq_false]
  exact ⟨false, List.mem_of_getElem? hh, by simp⟩
def wE (q : Nat) (i : Nat) : List (Nat × Value) := [(1, .pointer (some ⟨q, 0, none⟩)), (3, .int .i64 (i : Int))]
structure WR (w : World) (x : Rp) (w1 : World) (i : Nat) (W : World) : Prop where
  le : i ≤ x.n
  eq : W = w1
  al : ∀ j, j < i → x.h[j]? = some true
theorem Rp.hs.bat {w : World} {x : Rp} (h : x.hs w) {i : Nat} {b : Bool} (hb : x.h[i]? = some b) : ∃ ad c, x.iv = .slice (some ad) x.n c ∧ w.cell? (ad.add i) = some (.bool b) := by
  obtain ⟨ad, cap, e, ha⟩ := h.bi.li.at_ i [.bool b] (by unfold br; rw [List.getElem?_map, hb]; rfl)
  rw [br_len, h.lh] at e
  refine ⟨ad, cap, e, ?_⟩
  have := ha 0 _ rfl
  rw [Nat.mul_one, addr_add, Nat.add_zero] at this
  exact this
set_option maxRecDepth 100000 in
set_option maxHeartbeats 4000000 in
theorem rwhole_any (x : Rp) (w : World) (hx : x.hs w) : Calls Tryd.prog 53 #[x.val] w fun e w' => e = .returned (.bool (rall x.h)) ∧ Below w.heap.size w w' := by
  refine calls_of_args [x.val] Tryd.func53 rfl 17 Tryd.ntmps53 (by show 1 ≤ 17; decide) ?_
  refine EW.seq ?_
  refine EW.region ?_
  obtain ⟨w1, q, rb1, b1, l1, hq⟩ := box_any 114 x.cs w
  refine WL.box rfl rfl rfl rb1 ?_
  have hx1 := hx.on l1
  obtain ⟨ao, cp, hv⟩ := hx1.iv
  first | refine WL.assign rfl rfl rfl ?_
  refine WL.done ?_
  refine EW.on ?_
  refine EW.seq ?_
  refine EW.seq ?_
  refine EW.region ?_
  first | refine WL.assign rfl rfl rfl ?_
  refine WL.done ?_
  refine EW.on ?_
  refine EW.block ?_
  refine EW.loop (wE q) (WR w x w1) (fun i => x.n - i) 0 [1, 3] rfl ⟨Nat.zero_le _, rfl, fun j h => by cases h⟩ ?_
  rintro i W hR
  have hWe := hR.eq
  subst hWe
  show EW _ _ _ _ [(1, .pointer (some ⟨q, 0, none⟩)), (3, .int .i64 (i : Int))] _
  have hle := hR.le
  have hn2 := hx.n2
  have s1 : IntKind.i64.wrap ((i : Int) + 1) = ((i + 1 : Nat) : Int) := by rw [IntKind.wrap_i64]; omega
  refine EW.seq ?_
  refine EW.seq ?_
  refine EW.region ?_
  first | refine WL.move rfl rfl rfl ?_
  refine WL.field rfl rfl rfl (g114_4 _ _) ?_
  refine WL.load rfl rfl rfl (ld107 b1 (show x.cs[4]? = some x.iv from rfl)) ?_
  rw [hv]
  refine WL.len rfl rfl rfl (len107 _ _ _ _ _) ?_
  rw [← hv]
  refine WL.bin rfl rfl rfl rfl (int_lt_d _ _ _ _ _) ?_
  refine WL.done ?_
  refine EW.on ?_
  refine EW.cond_d rfl (fun h8 => ?_) (fun h8 => ?_)
  · have ht : i < x.n := by omega
    obtain ⟨b, hb⟩ : ∃ b, x.h[i]? = some b := ⟨_, List.getElem?_eq_getElem (by rw [hx.lh]; exact ht)⟩
    obtain ⟨ad, c4, e1, hcell⟩ := hx1.bat hb
    refine EW.skip ?_
    refine EW.on ?_
    refine EW.seq ?_
    refine EW.block ?_
    refine EW.seq ?_
    refine EW.region ?_
    refine WL.field rfl rfl rfl (g114_4 _ _) ?_
    refine WL.load rfl rfl rfl (ld107 b1 (show x.cs[4]? = some x.iv from rfl)) ?_
    first | refine WL.move rfl rfl rfl ?_
    rw [e1]
    refine WL.index rfl rfl rfl rfl (x107g _ _ _ _ ht _) ?_
    rw [← e1]
    refine WL.load rfl rfl rfl (ldBa hcell) ?_
    first | refine WL.un rfl rfl rfl (not_t _ _) ?_
    refine WL.done ?_
    refine EW.on ?_
    refine EW.cond_b rfl (fun h16 => ?_) (fun h16 => ?_)
    · skip
      refine EW.seq ?_
      refine EW.region ?_
      first | refine WL.assign rfl rfl rfl ?_
      refine WL.done ?_
      refine EW.on ?_
      refine EW.ret ?_
      refine pr_block ?_
      refine pr_then ?_
      refine pr_then ?_
      refine pr_block ?_
      refine pr_then ?_
      exact EW.returns Tryd.results53 rfl ⟨by rw [rall_f (i := i) (by rw [hb]; congr 1; simpa using h16)], l1⟩
    · skip
      refine EW.skip ?_
      refine pn_block ?_
      refine EW.on ?_
      refine EW.region ?_
      first | refine WL.move rfl rfl rfl ?_
      first | refine WL.bin rfl rfl rfl rfl (int_add ‹_› _ _ _) ?_
      first | refine WL.assign rfl rfl rfl ?_
      refine WL.done ?_
      exact EW.again (i + 1) [1, 3] rfl ⟨by omega, rfl, fun j hj => by
        by_cases e : j = i
        · rw [e, hb]; congr 1; simpa using h16
        · exact hR.al j (by omega)⟩ (by show x.n - (i + 1) < x.n - i; omega)
  · skip
    refine EW.exit ?_
    refine px_then ?_
    refine px_then ?_
    refine px_block ?_
    refine EW.on ?_
    refine EW.seq ?_
    refine EW.region ?_
    first | refine WL.assign rfl rfl rfl ?_
    refine WL.done ?_
    refine EW.on ?_
    refine EW.ret ?_
    exact EW.returns Tryd.results53 rfl ⟨by rw [rall_t (fun j hj => hR.al j (by rw [hx.lh] at hj; omega))], l1⟩
def tE (q : Nat) (y : Nat × Value) : List (Nat × Value) := [(1, .pointer (some ⟨q, 0, none⟩)), (3, y.2), (4, .int .i64 (y.1 : Int))]
theorem zip_all : ∀ (v : List Value) (t : List (List UInt8)), v.length = t.length → (v.zip t).flatMap (·.2) = t.flatten
  | [], [], _ => by simp
  | a :: v, b :: t, h => by
    simp only [List.zip_cons_cons, List.flatMap_cons, List.flatten_cons]
    rw [zip_all v t (by simpa using h)]
set_option maxRecDepth 100000 in
set_option maxHeartbeats 4000000 in
theorem rtext_any (x : Rp) (w : World) (hx : x.hs w) : Calls Tryd.prog 55 #[x.val] w fun e w' => ∃ u, e = .returned u ∧ Ob w' w.heap.size u x.t.flatten ∧ Below w.heap.size w w' := by
  have hzl : (x.ts.zip x.t).length = x.n := by rw [List.length_zip, hx.ls, hx.lt, Nat.min_self]
  have hn : ((x.ts.zip x.t).flatMap (·.2)).length ≤ 1000000000 := by
    rw [zip_all _ _ (by rw [hx.ls, hx.lt])]
    have h1 := flat_le x.t 497 hx.le
    have h2 := hx.n2
    rw [hx.lt] at h1
    have h3 : x.n * 497 ≤ 64 * 497 := Nat.mul_le_mul_right _ h2
    omega
  refine calls_of_args [x.val] Tryd.func55 rfl 20 Tryd.ntmps55 (by show 1 ≤ 20; decide) ?_
  refine EW.seq ?_
  refine EW.region ?_
  obtain ⟨w1, q, rb1, b1, l1, hq⟩ := box_any 114 x.cs w
  refine WL.box rfl rfl rfl rb1 ?_
  have hx1 := hx.on l1
  obtain ⟨ao, cp, hv⟩ := hx1.tv
  first | refine WL.assign rfl rfl rfl ?_
  refine WL.done ?_
  refine EW.on ?_
  refine EW.seq ?_
  refine EW.region ?_
  first | refine WL.assign rfl rfl rfl ?_
  refine WL.done ?_
  refine EW.on ?_
  refine EW.seq ?_
  refine EW.seq ?_
  refine EW.region ?_
  first | refine WL.assign rfl rfl rfl ?_
  refine WL.done ?_
  refine EW.on ?_
  refine EW.block ?_
  refine EW.loop (tE q) (JR (x.ts.zip x.t) w1) (fun y => x.n - y.1) (0, .slice none 0 0) [1, 3, 4] rfl ⟨Nat.zero_le _, Own.nil' _ _, Below.refl _ _⟩ ?_
  rintro y W hR
  show EW _ _ _ _ [(1, .pointer (some ⟨q, 0, none⟩)), (3, y.2), (4, .int .i64 (y.1 : Int))] _
  have hle := hR.le
  rw [hzl] at hle
  have hn2 := hx.n2
  have s1 : IntKind.i64.wrap ((y.1 : Int) + 1) = ((y.1 + 1 : Nat) : Int) := by rw [IntKind.wrap_i64]; omega
  refine EW.seq ?_
  refine EW.seq ?_
  refine EW.region ?_
  first | refine WL.move rfl rfl rfl ?_
  refine WL.field rfl rfl rfl (g114_5 _ _) ?_
  refine WL.load rfl rfl rfl (ld26 (b1.on hR.be) (show x.cs[5]? = some x.tv from rfl)) ?_
  rw [hv]
  refine WL.len rfl rfl rfl (len26 _ _ _ _ _) ?_
  rw [← hv]
  refine WL.bin rfl rfl rfl rfl (int_lt_d _ _ _ _ _) ?_
  refine WL.done ?_
  refine EW.on ?_
  refine EW.cond_d rfl (fun h9 => ?_) (fun h9 => ?_)
  · have ht : y.1 < x.n := by omega
    obtain ⟨p, hp⟩ : ∃ p, (x.ts.zip x.t)[y.1]? = some p := ⟨_, List.getElem?_eq_getElem (by rw [hzl]; exact ht)⟩
    rcases (hx1.parts.on hR.be) with ⟨_, e2⟩ | ⟨ad, cap, e1, _, hcW⟩
    · rw [e2] at hzl; simp at hzl; omega
    refine EW.skip ?_
    refine EW.on ?_
    refine EW.seq ?_
    refine EW.block ?_
    refine EW.region ?_
    first | refine WL.move rfl rfl rfl ?_
    refine WL.field rfl rfl rfl (g114_5 _ _) ?_
    refine WL.load rfl rfl rfl (ld26 (b1.on hR.be) (show x.cs[5]? = some x.tv from rfl)) ?_
    first | refine WL.move rfl rfl rfl ?_
    rw [e1]
    refine WL.index rfl rfl rfl rfl (x26 _ _ _ _ (by rw [hzl]; exact ht) _) ?_
    rw [← e1]
    refine WL.load rfl rfl rfl (ldC (hcW y.1 p hp).1) ?_
    obtain ⟨v2, W2, r2, o2, be2, fx2⟩ := hR.ow.app (hcW y.1 p hp).2 (by have := flM_le hn (y.1 + 1); rw [flM_succ hp, List.length_append] at this; omega) hR.be.size 24
    refine WL.app rfl rfl rfl rfl r2 ?_
    first | refine WL.assign rfl rfl rfl ?_
    refine WL.done ?_
    refine pn_block ?_
    refine EW.on ?_
    refine EW.region ?_
    first | refine WL.move rfl rfl rfl ?_
    first | refine WL.bin rfl rfl rfl rfl (int_add ‹_› _ _ _) ?_
    first | refine WL.assign rfl rfl rfl ?_
    refine WL.done ?_
    refine EW.again (y.1 + 1, v2) [1, 3, 4] rfl ⟨by show y.1 + 1 ≤ _; rw [hzl]; omega, by show Own W2 _ v2 (flM _ (y.1 + 1)); rw [flM_succ hp]; exact o2, hR.be.trans be2⟩ (by show x.n - (y.1 + 1) < x.n - y.1; omega)
  · skip
    refine EW.exit ?_
    refine px_then ?_
    refine px_then ?_
    refine px_block ?_
    refine EW.on ?_
    refine EW.seq ?_
    refine EW.region ?_
    first | refine WL.move rfl rfl rfl ?_
    first | refine WL.assign rfl rfl rfl ?_
    refine WL.done ?_
    refine EW.on ?_
    refine EW.ret ?_
    exact EW.returns Tryd.results55 rfl ⟨y.2, rfl, by have e : flM (x.ts.zip x.t) y.1 = x.t.flatten := (by unfold flM; rw [List.take_of_length_le (by rw [hzl]; omega)]; exact zip_all _ _ (by rw [hx.ls, hx.lt])); rw [← e]; exact (hR.ow.ob).lower l1.size, bt l1 hR.be⟩
theorem zv91 (w : World) : (zeroValue 91).run Tryd.prog w = .ok (kv z32) w := (zero_of_info (show (Tryd.prog.info? 91).map (fun i => (i.zero, i.size)) = some (some (kv z32), 32) by kernel_rfl)).1 w
theorem i91 {K : List UInt8} (h : K.length = 32) : (Tryd.prog.info? 91).map (·.size) = some (K.map byt).length := by rw [List.length_map, h]; kernel_rfl
theorem s91 (q : Nat) (W : World) : (Instr.sliceAt 91 (.pointer (some ⟨q, 0, none⟩)) none (some (.int .i64 8)) none).run Tryd.prog W = .ok (.slice (some ⟨q, 0, none⟩) 8 32) W := by
  go_simp
  try simp
set_option maxRecDepth 100000 in
set_option maxHeartbeats 4000000 in
theorem rsum_any (v : Value) (M : List UInt8) (w : World) (hv : Has w v M) (hM : M.length ≤ 100000000000000) (hR : Rst w) (hB : Bst w) : Calls Tryd.prog 54 #[v] w fun e w' => e = .returned (sv (sm M)) ∧ Below w.heap.size w w' := by
  refine calls_of_args [v] Tryd.func54 rfl 8 Tryd.ntmps54 (by show 1 ≤ 8; decide) ?_
  refine EW.seq ?_
  refine EW.region ?_
  first | refine WL.assign rfl rfl rfl ?_
  refine WL.done ?_
  refine EW.on ?_
  refine EW.seq ?_
  refine EW.region ?_
  first | refine WL.move rfl rfl rfl ?_
  refine WL.call [v] enter63 rfl rfl rfl (refsum_any v M w hv hM hR hB) ?_
  rintro _ w1 ⟨rfl, l1⟩
  refine ⟨_, rfl, ?_⟩
  obtain ⟨w3, q3, rn3, b3, l3, hq3⟩ := newB (cs := z32.map byt) zv91 w1
  refine WL.new rfl rfl rn3 ?_
  obtain ⟨w4, s4, b4, f4⟩ := b3.stA (ty := 91) (vs := (sumOf M).map byt) (o := 0) (a := []) (m := z32.map byt) (b := []) (i91 (sumOf_len' M)) (byts_one' _) (by simp) rfl (by rw [List.length_map, List.length_map, sumOf_len']; rfl)
  refine WL.store rfl rfl rfl s4 ?_
  rw [List.append_nil, List.nil_append] at b4
  have hs := b4.hasA (a := []) (K := (sumOf M).take 8) (b := ((sumOf M).drop 8).map byt) (o := 0) (by rw [List.nil_append, ← List.map_append, List.take_append_drop]) rfl 32 (by rw [List.length_take, sumOf_len']; decide)
  rw [show ((sumOf M).take 8).length = 8 by rw [List.length_take, sumOf_len']; rfl] at hs
  refine WL.done ?_
  refine EW.on ?_
  refine EW.seq ?_
  refine EW.region ?_
  refine WL.sliceH rfl rfl rfl rfl (s91 _ _) ?_
  refine WL.conv rfl rfl rfl hs.convert ?_
  first | refine WL.assign rfl rfl rfl ?_
  refine WL.done ?_
  refine EW.on ?_
  refine EW.ret ?_
  exact EW.returns Tryd.results54 rfl ⟨by unfold sm; rfl, (bt l1 l3).trans (f4.below (fun k hk e => by have e' : k = q3 := e; have := l1.size; omega) (bt l1 l3).size)⟩
end Go.Proofs.YtiefgmgjlhjjhaaDoor
