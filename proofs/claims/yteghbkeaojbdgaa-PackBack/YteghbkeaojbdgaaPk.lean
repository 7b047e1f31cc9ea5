import Derived.Test.YteghbkeaojbdgaaPj
set_option linter.unusedVariables false
set_option linter.unusedSimpArgs false
namespace Go.Proofs.Yteghbkeaojbdgaa
open Go.RowKit

theorem str_eq_d (a b : List UInt8) (W : World) (x y : Operand) : (do eqGuard .eql 9 x y (.string ⟨a.toArray⟩) (.string ⟨b.toArray⟩); binOp .eql 9 (.string ⟨a.toArray⟩) (.string ⟨b.toArray⟩) : Sem Value).run Try.prog W = .ok (.bool (decide (a = b))) W := by
  go_simp
  rw [Bool.eq_iff_iff]; simp
set_option maxRecDepth 100000 in
set_option maxHeartbeats 1000000 in
theorem eq_any (va vb : Value) (a b : List UInt8) (w : World) (ha : Has w va a) (hb : Has w vb b) : Calls Try.prog 9 #[va, vb] w fun e w' => e = .returned (.bool (decide (a = b))) ∧ w' = w := by
  refine calls_of_args [va, vb] Try.func9 rfl 10 Try.ntmps9 (by show 2 ≤ 10; decide) ?_
  refine EW.seq ?_
  refine EW.region ?_
  first | refine WL.assign rfl rfl rfl ?_
  refine WL.done ?_
  refine EW.on ?_
  refine EW.seq ?_
  refine EW.region ?_
  first | refine WL.move rfl rfl rfl ?_
  first | refine WL.conv rfl rfl rfl ha.convert ?_ | refine WL.conv rfl rfl rfl hb.convert ?_
  first | refine WL.move rfl rfl rfl ?_
  refine WL.conv rfl rfl rfl hb.convert ?_
  refine WL.bin rfl rfl rfl rfl (str_eq_d _ _ _ _ _) ?_
  first | refine WL.assign rfl rfl rfl ?_
  refine WL.done ?_
  refine EW.on ?_
  refine EW.ret ?_
  exact EW.returns Try.results9 rfl ⟨rfl, rfl⟩
/-- A number by its rest. -/
def rs16 (x : Int) : Int := (x.tmod 16 + 16).tmod 16
theorem tmod16 (x : Int) : -16 < x.tmod 16 ∧ x.tmod 16 < 16 := by
  rcases Int.lt_or_le x 0 with h | h
  · have h1 := Int.neg_tmod (-x) 16
    rw [Int.neg_neg, Int.tmod_eq_emod_of_nonneg (show 0 ≤ -x by omega)] at h1
    omega
  · rw [Int.tmod_eq_emod_of_nonneg h]; omega
theorem rs16_lt (x : Int) : 0 ≤ rs16 x ∧ rs16 x ≤ 15 := by
  have h := tmod16 x
  unfold rs16
  rw [Int.tmod_eq_emod_of_nonneg (by omega)]; omega
theorem remI (a : Int) (W : World) (x y : Operand) : (do eqGuard .rem 3 x y (.int .i64 a) (.int .i64 16); binOp .rem 3 (.int .i64 a) (.int .i64 16) : Sem Value).run Try.prog W = .ok (.int .i64 (a.tmod 16)) W := by go_simp
set_option maxRecDepth 100000 in
set_option maxHeartbeats 1000000 in
theorem rest_any (x : Int) (w : World) : Calls Try.prog 33 #[.int .i64 x, .int .i64 16] w fun e w' => e = .returned (.int .i64 (rs16 x)) ∧ w' = w := by
  have h2 : IntKind.i64.wrap (x.tmod 16 + 16) = x.tmod 16 + 16 := by
    have h := tmod16 x
    rw [IntKind.wrap_i64]; omega
  refine calls_of_args [.int .i64 x, .int .i64 16] Try.func33 rfl 12 Try.ntmps33 (by show 2 ≤ 12; decide) ?_
  refine EW.seq ?_
  refine EW.region ?_
  first | refine WL.assign rfl rfl rfl ?_
  refine WL.done ?_
  refine EW.on ?_
  refine EW.seq ?_
  refine EW.region ?_
  first | refine WL.move rfl rfl rfl ?_
  first | refine WL.move rfl rfl rfl ?_
  refine WL.bin rfl rfl rfl rfl (remI _ _ _ _) ?_
  first | refine WL.move rfl rfl rfl ?_
  first | refine WL.bin rfl rfl rfl rfl (int_add ‹_› _ _ _) ?_
  first | refine WL.move rfl rfl rfl ?_
  refine WL.bin rfl rfl rfl rfl (remI _ _ _ _) ?_
  first | refine WL.assign rfl rfl rfl ?_
  refine WL.done ?_
  refine EW.on ?_
  refine EW.ret ?_
  exact EW.returns Try.results33 rfl ⟨rfl, rfl⟩
theorem stI {w : World} {q j : Nat} {cs : List Value} {t : TypeId} (hb : Blk w q cs t) (hj : j < cs.length) (v : Int) : ∃ w', (Instr.storeAt 3 (.pointer (some ⟨q, j, none⟩)) (.int .i64 v)).run Try.prog w = .ok () w' ∧ Blk w' q (cs.set j (.int .i64 v)) t ∧ Fx (fun k => k = q) w w' := by
  have hc : w.cell? ⟨q, j, none⟩ = some cs[j] := (hb.cell j).trans (List.getElem?_eq_getElem hj)
  have hf := hb.frozen j
  refine ⟨w.setCell ⟨q, j, none⟩ (.int .i64 v), by go_simp, hb.set j _, Fx.setCell (S := fun k => k = q) _ _ _ _ rfl⟩
theorem stS {w : World} {q j : Nat} {cs : List Value} {t : TypeId} (hb : Blk w q cs t) (hj : j < cs.length) (ao : Option Addr) (n c : Nat) : ∃ w', (Instr.storeAt 22 (.pointer (some ⟨q, j, none⟩)) (.slice ao n c)).run Try.prog w = .ok () w' ∧ Blk w' q (cs.set j (.slice ao n c)) t ∧ Fx (fun k => k = q) w w' := by
  have hc : w.cell? ⟨q, j, none⟩ = some cs[j] := (hb.cell j).trans (List.getElem?_eq_getElem hj)
  have hf := hb.frozen j
  refine ⟨w.setCell ⟨q, j, none⟩ (.slice ao n c), by go_simp, hb.set j _, Fx.setCell (S := fun k => k = q) _ _ _ _ rfl⟩
theorem bsl22_1 (b : UInt8) (w : World) : (Instr.buildSlice 22 1 [(0, byt b)].toArray).run Try.prog w = .ok (.slice (some ⟨w.heap.size, 0, none⟩) 1 1) (w.alloc (.cells ([b].map byt).toArray 5)) := by
  unfold byt
  go_simp
  try rfl
theorem Has.new {w : World} {q : Nat} {bs : List UInt8} {t : TypeId} (hb : Blk w q (bs.map byt) t) (c : Nat) (hc : bs.length ≤ c) : Has w (.slice (some ⟨q, 0, none⟩) bs.length c) bs :=
  .inr ⟨_, c, rfl, hc, fun i u hu => by rw [add_plain, hb.cell, List.getElem?_map, hu]; rfl⟩
/-- A record, brought into its bounds. -/
def rightD (d : Rc) : Rc := ⟨rs16 d.t, if d.k = [] then [0] else d.k.take 64, d.v.take 900⟩
theorem right_ok (d : Rc) : okD (rightD d) := by
  have h := rs16_lt d.t
  refine ⟨h.1, h.2, ?_, ?_, ?_⟩
  · show 1 ≤ (if d.k = [] then [0] else d.k.take 64).length
    split
    · exact Nat.le_refl _
    · rename_i hk
      have : 0 < d.k.length := List.length_pos_iff.2 hk
      rw [List.length_take]; omega
  · show (if d.k = [] then [0] else d.k.take 64).length ≤ 64
    split
    · decide
    · rw [List.length_take]; omega
  · show (d.v.take 900).length ≤ 900
    rw [List.length_take]; omega
theorem sl22 (t : Value) (a b c : Option Value) (W : World) : (Instr.sliceAt 22 t a b c).run Try.prog W = (Instr.slice 22 t a b c).run Try.prog W := by
  simp [Instr.sliceAt, run_underlying Try.underlying22]
theorem WL.sliceH {P : Program} {n : Nat} {ops : Array Oper} {Q : Exit → Act → World → Prop} {i : Nat} {ty : TypeId} {ps : String} {af : Array Edge} {gd : Option (Nat × Bool)} {r : List Oper} {e : List (Nat × Value)} {w : World} {t : TypeId} {x lo : Operand} {u ul v : Value} (hw : wantE ops e ⟨some i, .slice t x none (some lo) none, ty, ps, af, gd⟩ = some true) (hi : decide (i < n) = true) (hx : evE e x = some u) (hl : evE e lo = some ul) (hr : (Instr.sliceAt t u none (some ul) none).run P w = .ok v w) (k : WL P n ops Q r ((i, v) :: e) w) : WL P n ops Q (⟨some i, .slice t x none (some lo) none, ty, ps, af, gd⟩ :: r) e w :=
  WL.op i v hw rfl hi (fun a ha => by simp [execOp, ha.ev hx, ha.ev hl, hr, Result.andThen]) k
/-- What stays when a new block is written. -/
theorem Has.keep {w w' : World} {v : Value} {bs : List UInt8} {B q : Nat} (h : Has w v bs) (hf : Fx (fun k => k = q) w w') (h0 : (∃ w0 : World, Has w0 v bs ∧ w0.heap.size ≤ q) ∨ ∀ k, v.ownBlock = some k → k ≠ q) : Has w' v bs := by
  rcases h0 with ⟨w0, g0, hq⟩ | hne
  rotate_left
  · exact h.fxo hf fun k hk => .inr fun e => hne k e hk
  refine h.fxo hf fun k hk => ?_
  by_cases e : v.ownBlock = some k
  · rcases g0.blk e with h1 | h1
    · exact .inl h1
    · exact .inr fun _ => by have : k = q := hk; omega
  · exact .inr e
set_option maxRecDepth 100000 in
set_option maxHeartbeats 1000000 in
theorem right_00 (r : RV) (w : World) (hr : r.ok w) (hk0 : r.k = []) (hvb : r.v.length ≤ 900) : Calls Try.prog 12 #[r.val] w fun e w' => ∃ r' : RV, e = .returned r'.val ∧ r'.ok w' ∧ r'.d = rightD r.d ∧ Below w.heap.size w w' := by
    obtain ⟨w1, q1, r1, b1, e1, hq1⟩ := box32 r w
    obtain ⟨w2, q2, r2, b2, f2, hq2⟩ := new32 w1
    have e2 := e1.trans (f2.mono e1.size)
    have lb1 := b1.lt
    replace b1 := b1.on f2
    have l1 := e1.size
    have l2 := e2.size
    have lq2 := b2.lt
    have lq1 := b1.lt
    obtain ⟨w3, s3, b3, x3⟩ := stI b1 (show 0 < r.cs.length by show 0 < 3; decide) (rs16 r.t)
    have hk3 := (hr.hk.below e2).keep (B := 0) x3 (.inl ⟨w, hr.hk, by omega⟩)
    have hv3 := (hr.hv.below e2).keep (B := 0) x3 (.inl ⟨w, hr.hv, by omega⟩)
    have e3 : Below w.heap.size w w3 := e2.trans (x3.below (fun k hk e => by omega) (by omega))
    have b2' := b2.fx x3 (by show q2 ≠ q1; omega)
    have x3s := x3.size
    have hk0 : r.k = [] := by assumption
    have z1 : ((r.k.length : Nat) : Int) = 0 := by rw [hk0]; rfl
    have z2 : ¬ (64 : Int) < (([(0 : UInt8)].length : Nat) : Int) := by decide
    have z3 : ¬ (900 : Int) < ((r.v.length : Nat) : Int) := by omega
    have hD0 : (if r.k = [] then [0] else r.k.take 64) = [0] := (if_pos hk0)
    have hD1 : r.v.take 900 = r.v := (List.take_of_length_le (by omega))
    have hDD : (⟨rs16 r.t, [0], r.v⟩ : Rc) = rightD r.d := by unfold rightD RV.d; dsimp only; rw [hD0, hD1]
    refine calls_of_args [r.val] Try.func12 rfl 30 Try.ntmps12 (by show 1 ≤ 30; decide) ?_
    refine EW.seq ?_
    refine EW.region ?_
    refine WL.box rfl rfl rfl r1 ?_
    refine WL.new rfl rfl r2 ?_
    refine WL.done ?_
    refine EW.on ?_
    refine EW.seq ?_
    refine EW.region ?_
    refine WL.field rfl rfl rfl (rfld0 _ _) ?_
    refine WL.load rfl rfl rfl (ldI b1 rfl) ?_
    refine WL.call [.int .i64 r.t, .int .i64 16] enter33 rfl rfl rfl (rest_any _ _) ?_
    rintro _ wz ⟨rfl, hz⟩
    rw [hz]
    refine ⟨_, rfl, ?_⟩
    refine WL.field rfl rfl rfl (rfld0 _ _) ?_
    refine WL.store rfl rfl rfl s3 ?_
    refine WL.done ?_
    refine EW.on ?_
    refine EW.seq ?_
    refine EW.seq ?_
    refine EW.region ?_
    refine WL.field rfl rfl rfl (rfld1 _ _) ?_
    refine WL.load rfl rfl rfl (ldS b3 rfl) ?_
    refine WL.len rfl rfl rfl (hr.hk.len _ _) ?_
    first | refine WL.bin rfl rfl rfl rfl (int_eq_t ‹_› _ _ _) ?_ | refine WL.bin rfl rfl rfl rfl (int_eq_f ‹_› _ _ _) ?_ | refine WL.bin rfl rfl rfl rfl (int_eq_d _ _ _ _ _) ?_
    refine WL.done ?_
    refine EW.on ?_
    refine EW.cond_t rfl ?_
    refine EW.region ?_
    refine WL.bslN [(0, byt 0)] rfl rfl rfl (bsl22_1 0 _) ?_
    refine WL.field rfl rfl rfl (rfld1 _ _) ?_
    have n4 := below_new w3 (.cells ([(0 : UInt8)].map byt).toArray 5)
    obtain ⟨w4, s4, b4, x4⟩ := stS (b3.on n4) (show 1 < _ by show 1 < 3; decide) (some ⟨w3.heap.size, 0, none⟩) 1 1
    refine WL.store rfl rfl rfl s4 ?_
    have k4 : Has w4 (.slice (some ⟨w3.heap.size, 0, none⟩) 1 1) [0] := Has.new (bs := [0]) ((Blk.new w3 _ 5).fx x4 (by show w3.heap.size ≠ q1; have := x3.size; omega)) 1 (Nat.le_refl _)
    have v4 := (hv3.below n4).keep (B := 0) x4 (.inl ⟨w, hr.hv, by omega⟩)
    have e4 : Below w.heap.size w w4 := (e3.trans (n4.mono e3.size)).trans (x4.below (fun k hk e => by omega) (by have := n4.size; have := e3.size; omega))
    have c4 := ((b2'.on n4)).fx x4 (by show q2 ≠ q1; omega)
    refine WL.done ?_
    refine EW.on ?_
    refine EW.seq ?_
    refine EW.seq ?_
    refine EW.region ?_
    refine WL.field rfl rfl rfl (rfld1 _ _) ?_
    refine WL.load rfl rfl rfl (ldS b4 rfl) ?_
    refine WL.len rfl rfl rfl (k4.len _ _) ?_
    first | refine WL.bin rfl rfl rfl rfl (int_gt_t ‹_› _ _ _) ?_ | refine WL.bin rfl rfl rfl rfl (int_gt_f ‹_› _ _ _) ?_ | refine WL.bin rfl rfl rfl rfl (int_gt_d _ _ _ _ _) ?_
    refine WL.done ?_
    refine EW.on ?_
    refine EW.cond_f rfl ?_
    refine EW.skip ?_
    refine EW.on ?_
    refine EW.seq ?_
    refine EW.seq ?_
    refine EW.region ?_
    refine WL.field rfl rfl rfl (rfld2 _ _) ?_
    refine WL.load rfl rfl rfl (ldS b4 rfl) ?_
    refine WL.len rfl rfl rfl (hr.hv.len _ _) ?_
    first | refine WL.bin rfl rfl rfl rfl (int_gt_t ‹_› _ _ _) ?_ | refine WL.bin rfl rfl rfl rfl (int_gt_f ‹_› _ _ _) ?_ | refine WL.bin rfl rfl rfl rfl (int_gt_d _ _ _ _ _) ?_
    refine WL.done ?_
    refine EW.on ?_
    refine EW.cond_f rfl ?_
    refine EW.skip ?_
    refine EW.on ?_
    refine EW.seq ?_
    have k5 := k4
    have v5 := v4
    have e5 := e4
    have c5 := c4
    refine EW.region ?_
    refine WL.load rfl rfl rfl (ld32 (r := (⟨rs16 r.t, .slice (some ⟨w3.heap.size, 0, none⟩) 1 1, r.vv, [0], r.v⟩ : RV)) b4) ?_
    obtain ⟨w6, s6, b6, x6⟩ := st32 (r := (⟨rs16 r.t, .slice (some ⟨w3.heap.size, 0, none⟩) 1 1, r.vv, [0], r.v⟩ : RV)) c5 rfl (show (⟨rs16 r.t, .slice (some ⟨w3.heap.size, 0, none⟩) 1 1, r.vv, [0], r.v⟩ : RV).ok _ from ⟨k5, v5⟩).one
    refine WL.store rfl rfl rfl s6 ?_
    refine WL.done ?_
    refine EW.on ?_
    refine EW.ret ?_
    exact EW.returnsC Try.results12 rfl b6 Try.underlying32 rfl (info32 _) ⟨(⟨rs16 r.t, .slice (some ⟨w3.heap.size, 0, none⟩) 1 1, r.vv, [0], r.v⟩ : RV), rfl, ⟨k5.keep (B := 0) x6 (.inr fun k e => by simp [Value.ownBlock] at e; omega), v5.keep (B := 0) x6 (.inl ⟨w, hr.hv, by omega⟩)⟩, hDD, e5.trans (x6.below (fun k hk e => by omega) (by have := e5.size; omega))⟩
set_option maxRecDepth 100000 in
set_option maxHeartbeats 1000000 in
theorem right_01 (r : RV) (w : World) (hr : r.ok w) (hk0 : r.k = []) (hvb : 900 < r.v.length) : Calls Try.prog 12 #[r.val] w fun e w' => ∃ r' : RV, e = .returned r'.val ∧ r'.ok w' ∧ r'.d = rightD r.d ∧ Below w.heap.size w w' := by
    obtain ⟨w1, q1, r1, b1, e1, hq1⟩ := box32 r w
    obtain ⟨w2, q2, r2, b2, f2, hq2⟩ := new32 w1
    have e2 := e1.trans (f2.mono e1.size)
    have lb1 := b1.lt
    replace b1 := b1.on f2
    have l1 := e1.size
    have l2 := e2.size
    have lq2 := b2.lt
    have lq1 := b1.lt
    obtain ⟨w3, s3, b3, x3⟩ := stI b1 (show 0 < r.cs.length by show 0 < 3; decide) (rs16 r.t)
    have hk3 := (hr.hk.below e2).keep (B := 0) x3 (.inl ⟨w, hr.hk, by omega⟩)
    have hv3 := (hr.hv.below e2).keep (B := 0) x3 (.inl ⟨w, hr.hv, by omega⟩)
    have e3 : Below w.heap.size w w3 := e2.trans (x3.below (fun k hk e => by omega) (by omega))
    have b2' := b2.fx x3 (by show q2 ≠ q1; omega)
    have x3s := x3.size
    have hk0 : r.k = [] := by assumption
    have z1 : ((r.k.length : Nat) : Int) = 0 := by rw [hk0]; rfl
    have z2 : ¬ (64 : Int) < (([(0 : UInt8)].length : Nat) : Int) := by decide
    have z3 : (900 : Int) < ((r.v.length : Nat) : Int) := by omega
    have hD0 : (if r.k = [] then [0] else r.k.take 64) = [0] := (if_pos hk0)
    have hD1 : r.v.take 900 = r.v.take 900 := rfl
    have hDD : (⟨rs16 r.t, [0], r.v.take 900⟩ : Rc) = rightD r.d := by unfold rightD RV.d; dsimp only; rw [hD0]
    refine calls_of_args [r.val] Try.func12 rfl 30 Try.ntmps12 (by show 1 ≤ 30; decide) ?_
    refine EW.seq ?_
    refine EW.region ?_
    refine WL.box rfl rfl rfl r1 ?_
    refine WL.new rfl rfl r2 ?_
    refine WL.done ?_
    refine EW.on ?_
    refine EW.seq ?_
    refine EW.region ?_
    refine WL.field rfl rfl rfl (rfld0 _ _) ?_
    refine WL.load rfl rfl rfl (ldI b1 rfl) ?_
    refine WL.call [.int .i64 r.t, .int .i64 16] enter33 rfl rfl rfl (rest_any _ _) ?_
    rintro _ wz ⟨rfl, hz⟩
    rw [hz]
    refine ⟨_, rfl, ?_⟩
    refine WL.field rfl rfl rfl (rfld0 _ _) ?_
    refine WL.store rfl rfl rfl s3 ?_
    refine WL.done ?_
    refine EW.on ?_
    refine EW.seq ?_
    refine EW.seq ?_
    refine EW.region ?_
    refine WL.field rfl rfl rfl (rfld1 _ _) ?_
    refine WL.load rfl rfl rfl (ldS b3 rfl) ?_
    refine WL.len rfl rfl rfl (hr.hk.len _ _) ?_
    first | refine WL.bin rfl rfl rfl rfl (int_eq_t ‹_› _ _ _) ?_ | refine WL.bin rfl rfl rfl rfl (int_eq_f ‹_› _ _ _) ?_ | refine WL.bin rfl rfl rfl rfl (int_eq_d _ _ _ _ _) ?_
    refine WL.done ?_
    refine EW.on ?_
    refine EW.cond_t rfl ?_
    refine EW.region ?_
    refine WL.bslN [(0, byt 0)] rfl rfl rfl (bsl22_1 0 _) ?_
    refine WL.field rfl rfl rfl (rfld1 _ _) ?_
    have n4 := below_new w3 (.cells ([(0 : UInt8)].map byt).toArray 5)
    obtain ⟨w4, s4, b4, x4⟩ := stS (b3.on n4) (show 1 < _ by show 1 < 3; decide) (some ⟨w3.heap.size, 0, none⟩) 1 1
    refine WL.store rfl rfl rfl s4 ?_
    have k4 : Has w4 (.slice (some ⟨w3.heap.size, 0, none⟩) 1 1) [0] := Has.new (bs := [0]) ((Blk.new w3 _ 5).fx x4 (by show w3.heap.size ≠ q1; have := x3.size; omega)) 1 (Nat.le_refl _)
    have v4 := (hv3.below n4).keep (B := 0) x4 (.inl ⟨w, hr.hv, by omega⟩)
    have e4 : Below w.heap.size w w4 := (e3.trans (n4.mono e3.size)).trans (x4.below (fun k hk e => by omega) (by have := n4.size; have := e3.size; omega))
    have c4 := ((b2'.on n4)).fx x4 (by show q2 ≠ q1; omega)
    refine WL.done ?_
    refine EW.on ?_
    refine EW.seq ?_
    refine EW.seq ?_
    refine EW.region ?_
    refine WL.field rfl rfl rfl (rfld1 _ _) ?_
    refine WL.load rfl rfl rfl (ldS b4 rfl) ?_
    refine WL.len rfl rfl rfl (k4.len _ _) ?_
    first | refine WL.bin rfl rfl rfl rfl (int_gt_t ‹_› _ _ _) ?_ | refine WL.bin rfl rfl rfl rfl (int_gt_f ‹_› _ _ _) ?_ | refine WL.bin rfl rfl rfl rfl (int_gt_d _ _ _ _ _) ?_
    refine WL.done ?_
    refine EW.on ?_
    refine EW.cond_f rfl ?_
    refine EW.skip ?_
    refine EW.on ?_
    refine EW.seq ?_
    refine EW.seq ?_
    refine EW.region ?_
    refine WL.field rfl rfl rfl (rfld2 _ _) ?_
    refine WL.load rfl rfl rfl (ldS b4 rfl) ?_
    refine WL.len rfl rfl rfl (hr.hv.len _ _) ?_
    first | refine WL.bin rfl rfl rfl rfl (int_gt_t ‹_› _ _ _) ?_ | refine WL.bin rfl rfl rfl rfl (int_gt_f ‹_› _ _ _) ?_ | refine WL.bin rfl rfl rfl rfl (int_gt_d _ _ _ _ _) ?_
    refine WL.done ?_
    refine EW.on ?_
    refine EW.cond_t rfl ?_
    refine EW.region ?_
    refine WL.field rfl rfl rfl (rfld2 _ _) ?_
    refine WL.load rfl rfl rfl (ldS b4 rfl) ?_
    refine WL.sliceH rfl rfl rfl rfl (by rw [sl22]; exact hr.hv.cutH 900 (by omega) _) ?_
    refine WL.field rfl rfl rfl (rfld2 _ _) ?_
    obtain ⟨ao2, cc2, hcut2⟩ := cut_shape hr.hv 0 900
    rw [hcut2]
    obtain ⟨w5, s5, b5, x5⟩ := stS b4 (show 2 < _ by show 2 < 3; decide) ao2 (900 - 0) cc2
    refine WL.store rfl rfl rfl s5 ?_
    have k5 := k4.keep (B := 0) x5 (.inr fun k e => by simp [Value.ownBlock] at e; omega)
    have v5 : Has w5 (.slice ao2 (900 - 0) cc2) (r.v.take 900) := by have := (v4.cut 0 900 (by omega) (by omega)).keep (B := 0) x5 (.inl ⟨w, hr.hv.cut 0 900 (by omega) (by omega), by omega⟩); rw [hcut2] at this; simpa using this
    have e5 : Below w.heap.size w w5 := e4.trans (x5.below (fun k hk e => by omega) (by have := e4.size; omega))
    have c5 := c4.fx x5 (by show q2 ≠ q1; omega)
    refine WL.done ?_
    refine EW.on ?_
    refine EW.seq ?_
    refine EW.region ?_
    refine WL.load rfl rfl rfl (ld32 (r := (⟨rs16 r.t, .slice (some ⟨w3.heap.size, 0, none⟩) 1 1, .slice ao2 (900 - 0) cc2, [0], r.v.take 900⟩ : RV)) b5) ?_
    obtain ⟨w6, s6, b6, x6⟩ := st32 (r := (⟨rs16 r.t, .slice (some ⟨w3.heap.size, 0, none⟩) 1 1, .slice ao2 (900 - 0) cc2, [0], r.v.take 900⟩ : RV)) c5 rfl (show (⟨rs16 r.t, .slice (some ⟨w3.heap.size, 0, none⟩) 1 1, .slice ao2 (900 - 0) cc2, [0], r.v.take 900⟩ : RV).ok _ from ⟨k5, v5⟩).one
    refine WL.store rfl rfl rfl s6 ?_
    refine WL.done ?_
    refine EW.on ?_
    refine EW.ret ?_
    exact EW.returnsC Try.results12 rfl b6 Try.underlying32 rfl (info32 _) ⟨(⟨rs16 r.t, .slice (some ⟨w3.heap.size, 0, none⟩) 1 1, .slice ao2 (900 - 0) cc2, [0], r.v.take 900⟩ : RV), rfl, ⟨k5.keep (B := 0) x6 (.inr fun k e => by simp [Value.ownBlock] at e; omega), v5.keep (B := 0) x6 (.inl ⟨w, by have := hr.hv.cut 0 900 (by omega) (by omega); rw [hcut2] at this; simpa using this, by omega⟩)⟩, hDD, e5.trans (x6.below (fun k hk e => by omega) (by have := e5.size; omega))⟩
set_option maxRecDepth 100000 in
set_option maxHeartbeats 1000000 in
theorem right_10 (r : RV) (w : World) (hr : r.ok w) (hk0 : r.k ≠ []) (hkb : r.k.length ≤ 64) (hvb : r.v.length ≤ 900) : Calls Try.prog 12 #[r.val] w fun e w' => ∃ r' : RV, e = .returned r'.val ∧ r'.ok w' ∧ r'.d = rightD r.d ∧ Below w.heap.size w w' := by
    obtain ⟨w1, q1, r1, b1, e1, hq1⟩ := box32 r w
    obtain ⟨w2, q2, r2, b2, f2, hq2⟩ := new32 w1
    have e2 := e1.trans (f2.mono e1.size)
    have lb1 := b1.lt
    replace b1 := b1.on f2
    have l1 := e1.size
    have l2 := e2.size
    have lq2 := b2.lt
    have lq1 := b1.lt
    obtain ⟨w3, s3, b3, x3⟩ := stI b1 (show 0 < r.cs.length by show 0 < 3; decide) (rs16 r.t)
    have hk3 := (hr.hk.below e2).keep (B := 0) x3 (.inl ⟨w, hr.hk, by omega⟩)
    have hv3 := (hr.hv.below e2).keep (B := 0) x3 (.inl ⟨w, hr.hv, by omega⟩)
    have e3 : Below w.heap.size w w3 := e2.trans (x3.below (fun k hk e => by omega) (by omega))
    have b2' := b2.fx x3 (by show q2 ≠ q1; omega)
    have x3s := x3.size
    have z1 : ¬ ((r.k.length : Nat) : Int) = 0 := by have := List.length_pos_iff.2 hk0; omega
    have z2 : ¬ (64 : Int) < ((r.k.length : Nat) : Int) := by omega
    have z3 : ¬ (900 : Int) < ((r.v.length : Nat) : Int) := by omega
    have hD0 : (if r.k = [] then [0] else r.k.take 64) = r.k := ((if_neg hk0).trans (List.take_of_length_le (by omega)))
    have hD1 : r.v.take 900 = r.v := (List.take_of_length_le (by omega))
    have hDD : (⟨rs16 r.t, r.k, r.v⟩ : Rc) = rightD r.d := by unfold rightD RV.d; dsimp only; rw [hD0, hD1]
    refine calls_of_args [r.val] Try.func12 rfl 30 Try.ntmps12 (by show 1 ≤ 30; decide) ?_
    refine EW.seq ?_
    refine EW.region ?_
    refine WL.box rfl rfl rfl r1 ?_
    refine WL.new rfl rfl r2 ?_
    refine WL.done ?_
    refine EW.on ?_
    refine EW.seq ?_
    refine EW.region ?_
    refine WL.field rfl rfl rfl (rfld0 _ _) ?_
    refine WL.load rfl rfl rfl (ldI b1 rfl) ?_
    refine WL.call [.int .i64 r.t, .int .i64 16] enter33 rfl rfl rfl (rest_any _ _) ?_
    rintro _ wz ⟨rfl, hz⟩
    rw [hz]
    refine ⟨_, rfl, ?_⟩
    refine WL.field rfl rfl rfl (rfld0 _ _) ?_
    refine WL.store rfl rfl rfl s3 ?_
    refine WL.done ?_
    refine EW.on ?_
    refine EW.seq ?_
    refine EW.seq ?_
    refine EW.region ?_
    refine WL.field rfl rfl rfl (rfld1 _ _) ?_
    refine WL.load rfl rfl rfl (ldS b3 rfl) ?_
    refine WL.len rfl rfl rfl (hr.hk.len _ _) ?_
    first | refine WL.bin rfl rfl rfl rfl (int_eq_t ‹_› _ _ _) ?_ | refine WL.bin rfl rfl rfl rfl (int_eq_f ‹_› _ _ _) ?_ | refine WL.bin rfl rfl rfl rfl (int_eq_d _ _ _ _ _) ?_
    refine WL.done ?_
    refine EW.on ?_
    refine EW.cond_f rfl ?_
    refine EW.skip ?_
    refine EW.on ?_
    refine EW.seq ?_
    refine EW.seq ?_
    refine EW.region ?_
    refine WL.field rfl rfl rfl (rfld1 _ _) ?_
    refine WL.load rfl rfl rfl (ldS b3 rfl) ?_
    refine WL.len rfl rfl rfl (hr.hk.len _ _) ?_
    first | refine WL.bin rfl rfl rfl rfl (int_gt_t ‹_› _ _ _) ?_ | refine WL.bin rfl rfl rfl rfl (int_gt_f ‹_› _ _ _) ?_ | refine WL.bin rfl rfl rfl rfl (int_gt_d _ _ _ _ _) ?_
    refine WL.done ?_
    refine EW.on ?_
    refine EW.cond_f rfl ?_
    refine EW.skip ?_
    refine EW.on ?_
    refine EW.seq ?_
    refine EW.seq ?_
    have k4 := hk3
    have v4 := hv3
    have e4 := e3
    have c4 := b2'
    refine EW.region ?_
    refine WL.field rfl rfl rfl (rfld2 _ _) ?_
    refine WL.load rfl rfl rfl (ldS b3 rfl) ?_
    refine WL.len rfl rfl rfl (hr.hv.len _ _) ?_
    first | refine WL.bin rfl rfl rfl rfl (int_gt_t ‹_› _ _ _) ?_ | refine WL.bin rfl rfl rfl rfl (int_gt_f ‹_› _ _ _) ?_ | refine WL.bin rfl rfl rfl rfl (int_gt_d _ _ _ _ _) ?_
    refine WL.done ?_
    refine EW.on ?_
    refine EW.cond_f rfl ?_
    refine EW.skip ?_
    refine EW.on ?_
    refine EW.seq ?_
    have k5 := k4
    have v5 := v4
    have e5 := e4
    have c5 := c4
    refine EW.region ?_
    refine WL.load rfl rfl rfl (ld32 (r := (⟨rs16 r.t, r.vk, r.vv, r.k, r.v⟩ : RV)) b3) ?_
    obtain ⟨w6, s6, b6, x6⟩ := st32 (r := (⟨rs16 r.t, r.vk, r.vv, r.k, r.v⟩ : RV)) c5 rfl (show (⟨rs16 r.t, r.vk, r.vv, r.k, r.v⟩ : RV).ok _ from ⟨k5, v5⟩).one
    refine WL.store rfl rfl rfl s6 ?_
    refine WL.done ?_
    refine EW.on ?_
    refine EW.ret ?_
    exact EW.returnsC Try.results12 rfl b6 Try.underlying32 rfl (info32 _) ⟨(⟨rs16 r.t, r.vk, r.vv, r.k, r.v⟩ : RV), rfl, ⟨k5.keep (B := 0) x6 (.inl ⟨w, hr.hk, by omega⟩), v5.keep (B := 0) x6 (.inl ⟨w, hr.hv, by omega⟩)⟩, hDD, e5.trans (x6.below (fun k hk e => by omega) (by have := e5.size; omega))⟩
set_option maxRecDepth 100000 in
set_option maxHeartbeats 1000000 in
theorem right_11 (r : RV) (w : World) (hr : r.ok w) (hk0 : r.k ≠ []) (hkb : r.k.length ≤ 64) (hvb : 900 < r.v.length) : Calls Try.prog 12 #[r.val] w fun e w' => ∃ r' : RV, e = .returned r'.val ∧ r'.ok w' ∧ r'.d = rightD r.d ∧ Below w.heap.size w w' := by
    obtain ⟨w1, q1, r1, b1, e1, hq1⟩ := box32 r w
    obtain ⟨w2, q2, r2, b2, f2, hq2⟩ := new32 w1
    have e2 := e1.trans (f2.mono e1.size)
    have lb1 := b1.lt
    replace b1 := b1.on f2
    have l1 := e1.size
    have l2 := e2.size
    have lq2 := b2.lt
    have lq1 := b1.lt
    obtain ⟨w3, s3, b3, x3⟩ := stI b1 (show 0 < r.cs.length by show 0 < 3; decide) (rs16 r.t)
    have hk3 := (hr.hk.below e2).keep (B := 0) x3 (.inl ⟨w, hr.hk, by omega⟩)
    have hv3 := (hr.hv.below e2).keep (B := 0) x3 (.inl ⟨w, hr.hv, by omega⟩)
    have e3 : Below w.heap.size w w3 := e2.trans (x3.below (fun k hk e => by omega) (by omega))
    have b2' := b2.fx x3 (by show q2 ≠ q1; omega)
    have x3s := x3.size
    have z1 : ¬ ((r.k.length : Nat) : Int) = 0 := by have := List.length_pos_iff.2 hk0; omega
    have z2 : ¬ (64 : Int) < ((r.k.length : Nat) : Int) := by omega
    have z3 : (900 : Int) < ((r.v.length : Nat) : Int) := by omega
    have hD0 : (if r.k = [] then [0] else r.k.take 64) = r.k := ((if_neg hk0).trans (List.take_of_length_le (by omega)))
    have hD1 : r.v.take 900 = r.v.take 900 := rfl
    have hDD : (⟨rs16 r.t, r.k, r.v.take 900⟩ : Rc) = rightD r.d := by unfold rightD RV.d; dsimp only; rw [hD0]
    refine calls_of_args [r.val] Try.func12 rfl 30 Try.ntmps12 (by show 1 ≤ 30; decide) ?_
    refine EW.seq ?_
    refine EW.region ?_
    refine WL.box rfl rfl rfl r1 ?_
    refine WL.new rfl rfl r2 ?_
    refine WL.done ?_
    refine EW.on ?_
    refine EW.seq ?_
    refine EW.region ?_
    refine WL.field rfl rfl rfl (rfld0 _ _) ?_
    refine WL.load rfl rfl rfl (ldI b1 rfl) ?_
    refine WL.call [.int .i64 r.t, .int .i64 16] enter33 rfl rfl rfl (rest_any _ _) ?_
    rintro _ wz ⟨rfl, hz⟩
    rw [hz]
    refine ⟨_, rfl, ?_⟩
    refine WL.field rfl rfl rfl (rfld0 _ _) ?_
    refine WL.store rfl rfl rfl s3 ?_
    refine WL.done ?_
    refine EW.on ?_
    refine EW.seq ?_
    refine EW.seq ?_
    refine EW.region ?_
    refine WL.field rfl rfl rfl (rfld1 _ _) ?_
    refine WL.load rfl rfl rfl (ldS b3 rfl) ?_
    refine WL.len rfl rfl rfl (hr.hk.len _ _) ?_
    first | refine WL.bin rfl rfl rfl rfl (int_eq_t ‹_› _ _ _) ?_ | refine WL.bin rfl rfl rfl rfl (int_eq_f ‹_› _ _ _) ?_ | refine WL.bin rfl rfl rfl rfl (int_eq_d _ _ _ _ _) ?_
    refine WL.done ?_
    refine EW.on ?_
    refine EW.cond_f rfl ?_
    refine EW.skip ?_
    refine EW.on ?_
    refine EW.seq ?_
    refine EW.seq ?_
    refine EW.region ?_
    refine WL.field rfl rfl rfl (rfld1 _ _) ?_
    refine WL.load rfl rfl rfl (ldS b3 rfl) ?_
    refine WL.len rfl rfl rfl (hr.hk.len _ _) ?_
    first | refine WL.bin rfl rfl rfl rfl (int_gt_t ‹_› _ _ _) ?_ | refine WL.bin rfl rfl rfl rfl (int_gt_f ‹_› _ _ _) ?_ | refine WL.bin rfl rfl rfl rfl (int_gt_d _ _ _ _ _) ?_
    refine WL.done ?_
    refine EW.on ?_
    refine EW.cond_f rfl ?_
    refine EW.skip ?_
    refine EW.on ?_
    refine EW.seq ?_
    refine EW.seq ?_
    have k4 := hk3
    have v4 := hv3
    have e4 := e3
    have c4 := b2'
    refine EW.region ?_
    refine WL.field rfl rfl rfl (rfld2 _ _) ?_
    refine WL.load rfl rfl rfl (ldS b3 rfl) ?_
    refine WL.len rfl rfl rfl (hr.hv.len _ _) ?_
    first | refine WL.bin rfl rfl rfl rfl (int_gt_t ‹_› _ _ _) ?_ | refine WL.bin rfl rfl rfl rfl (int_gt_f ‹_› _ _ _) ?_ | refine WL.bin rfl rfl rfl rfl (int_gt_d _ _ _ _ _) ?_
    refine WL.done ?_
    refine EW.on ?_
    refine EW.cond_t rfl ?_
    refine EW.region ?_
    refine WL.field rfl rfl rfl (rfld2 _ _) ?_
    refine WL.load rfl rfl rfl (ldS b3 rfl) ?_
    refine WL.sliceH rfl rfl rfl rfl (by rw [sl22]; exact hr.hv.cutH 900 (by omega) _) ?_
    refine WL.field rfl rfl rfl (rfld2 _ _) ?_
    obtain ⟨ao2, cc2, hcut2⟩ := cut_shape hr.hv 0 900
    rw [hcut2]
    obtain ⟨w5, s5, b5, x5⟩ := stS b3 (show 2 < _ by show 2 < 3; decide) ao2 (900 - 0) cc2
    refine WL.store rfl rfl rfl s5 ?_
    have k5 := k4.keep (B := 0) x5 (.inl ⟨w, hr.hk, by omega⟩)
    have v5 : Has w5 (.slice ao2 (900 - 0) cc2) (r.v.take 900) := by have := (v4.cut 0 900 (by omega) (by omega)).keep (B := 0) x5 (.inl ⟨w, hr.hv.cut 0 900 (by omega) (by omega), by omega⟩); rw [hcut2] at this; simpa using this
    have e5 : Below w.heap.size w w5 := e4.trans (x5.below (fun k hk e => by omega) (by have := e4.size; omega))
    have c5 := c4.fx x5 (by show q2 ≠ q1; omega)
    refine WL.done ?_
    refine EW.on ?_
    refine EW.seq ?_
    refine EW.region ?_
    refine WL.load rfl rfl rfl (ld32 (r := (⟨rs16 r.t, r.vk, .slice ao2 (900 - 0) cc2, r.k, r.v.take 900⟩ : RV)) b5) ?_
    obtain ⟨w6, s6, b6, x6⟩ := st32 (r := (⟨rs16 r.t, r.vk, .slice ao2 (900 - 0) cc2, r.k, r.v.take 900⟩ : RV)) c5 rfl (show (⟨rs16 r.t, r.vk, .slice ao2 (900 - 0) cc2, r.k, r.v.take 900⟩ : RV).ok _ from ⟨k5, v5⟩).one
    refine WL.store rfl rfl rfl s6 ?_
    refine WL.done ?_
    refine EW.on ?_
    refine EW.ret ?_
    exact EW.returnsC Try.results12 rfl b6 Try.underlying32 rfl (info32 _) ⟨(⟨rs16 r.t, r.vk, .slice ao2 (900 - 0) cc2, r.k, r.v.take 900⟩ : RV), rfl, ⟨k5.keep (B := 0) x6 (.inl ⟨w, hr.hk, by omega⟩), v5.keep (B := 0) x6 (.inl ⟨w, by have := hr.hv.cut 0 900 (by omega) (by omega); rw [hcut2] at this; simpa using this, by omega⟩)⟩, hDD, e5.trans (x6.below (fun k hk e => by omega) (by have := e5.size; omega))⟩
set_option maxRecDepth 100000 in
set_option maxHeartbeats 1000000 in
theorem right_20 (r : RV) (w : World) (hr : r.ok w) (hkb : 64 < r.k.length) (hvb : r.v.length ≤ 900) : Calls Try.prog 12 #[r.val] w fun e w' => ∃ r' : RV, e = .returned r'.val ∧ r'.ok w' ∧ r'.d = rightD r.d ∧ Below w.heap.size w w' := by
    obtain ⟨w1, q1, r1, b1, e1, hq1⟩ := box32 r w
    obtain ⟨w2, q2, r2, b2, f2, hq2⟩ := new32 w1
    have e2 := e1.trans (f2.mono e1.size)
    have lb1 := b1.lt
    replace b1 := b1.on f2
    have l1 := e1.size
    have l2 := e2.size
    have lq2 := b2.lt
    have lq1 := b1.lt
    obtain ⟨w3, s3, b3, x3⟩ := stI b1 (show 0 < r.cs.length by show 0 < 3; decide) (rs16 r.t)
    have hk3 := (hr.hk.below e2).keep (B := 0) x3 (.inl ⟨w, hr.hk, by omega⟩)
    have hv3 := (hr.hv.below e2).keep (B := 0) x3 (.inl ⟨w, hr.hv, by omega⟩)
    have e3 : Below w.heap.size w w3 := e2.trans (x3.below (fun k hk e => by omega) (by omega))
    have b2' := b2.fx x3 (by show q2 ≠ q1; omega)
    have x3s := x3.size
    have z1 : ¬ ((r.k.length : Nat) : Int) = 0 := by omega
    have z2 : (64 : Int) < ((r.k.length : Nat) : Int) := by omega
    have z3 : ¬ (900 : Int) < ((r.v.length : Nat) : Int) := by omega
    have hD0 : (if r.k = [] then [0] else r.k.take 64) = r.k.take 64 := (if_neg (fun e => by rw [e] at hkb; simp at hkb))
    have hD1 : r.v.take 900 = r.v := (List.take_of_length_le (by omega))
    have hDD : (⟨rs16 r.t, r.k.take 64, r.v⟩ : Rc) = rightD r.d := by unfold rightD RV.d; dsimp only; rw [hD0, hD1]
    refine calls_of_args [r.val] Try.func12 rfl 30 Try.ntmps12 (by show 1 ≤ 30; decide) ?_
    refine EW.seq ?_
    refine EW.region ?_
    refine WL.box rfl rfl rfl r1 ?_
    refine WL.new rfl rfl r2 ?_
    refine WL.done ?_
    refine EW.on ?_
    refine EW.seq ?_
    refine EW.region ?_
    refine WL.field rfl rfl rfl (rfld0 _ _) ?_
    refine WL.load rfl rfl rfl (ldI b1 rfl) ?_
    refine WL.call [.int .i64 r.t, .int .i64 16] enter33 rfl rfl rfl (rest_any _ _) ?_
    rintro _ wz ⟨rfl, hz⟩
    rw [hz]
    refine ⟨_, rfl, ?_⟩
    refine WL.field rfl rfl rfl (rfld0 _ _) ?_
    refine WL.store rfl rfl rfl s3 ?_
    refine WL.done ?_
    refine EW.on ?_
    refine EW.seq ?_
    refine EW.seq ?_
    refine EW.region ?_
    refine WL.field rfl rfl rfl (rfld1 _ _) ?_
    refine WL.load rfl rfl rfl (ldS b3 rfl) ?_
    refine WL.len rfl rfl rfl (hr.hk.len _ _) ?_
    first | refine WL.bin rfl rfl rfl rfl (int_eq_t ‹_› _ _ _) ?_ | refine WL.bin rfl rfl rfl rfl (int_eq_f ‹_› _ _ _) ?_ | refine WL.bin rfl rfl rfl rfl (int_eq_d _ _ _ _ _) ?_
    refine WL.done ?_
    refine EW.on ?_
    refine EW.cond_f rfl ?_
    refine EW.skip ?_
    refine EW.on ?_
    refine EW.seq ?_
    refine EW.seq ?_
    refine EW.region ?_
    refine WL.field rfl rfl rfl (rfld1 _ _) ?_
    refine WL.load rfl rfl rfl (ldS b3 rfl) ?_
    refine WL.len rfl rfl rfl (hr.hk.len _ _) ?_
    first | refine WL.bin rfl rfl rfl rfl (int_gt_t ‹_› _ _ _) ?_ | refine WL.bin rfl rfl rfl rfl (int_gt_f ‹_› _ _ _) ?_ | refine WL.bin rfl rfl rfl rfl (int_gt_d _ _ _ _ _) ?_
    refine WL.done ?_
    refine EW.on ?_
    refine EW.cond_t rfl ?_
    refine EW.region ?_
    refine WL.field rfl rfl rfl (rfld1 _ _) ?_
    refine WL.load rfl rfl rfl (ldS b3 rfl) ?_
    refine WL.sliceH rfl rfl rfl rfl (by rw [sl22]; exact hr.hk.cutH 64 (by omega) _) ?_
    refine WL.field rfl rfl rfl (rfld1 _ _) ?_
    obtain ⟨ao, cc, hcut⟩ := cut_shape hr.hk 0 64
    rw [hcut]
    obtain ⟨w4, s4, b4, x4⟩ := stS b3 (show 1 < _ by show 1 < 3; decide) ao (64 - 0) cc
    refine WL.store rfl rfl rfl s4 ?_
    have k4 : Has w4 (.slice ao (64 - 0) cc) (r.k.take 64) := by have := (hk3.cut 0 64 (by omega) (by omega)).keep (B := 0) x4 (.inl ⟨w, hr.hk.cut 0 64 (by omega) (by omega), by omega⟩); rw [hcut] at this; simpa using this
    have v4 := hv3.keep (B := 0) x4 (.inl ⟨w, hr.hv, by omega⟩)
    have e4 : Below w.heap.size w w4 := e3.trans (x4.below (fun k hk e => by omega) (by have := e3.size; omega))
    have c4 := b2'.fx x4 (by show q2 ≠ q1; omega)
    refine WL.done ?_
    refine EW.on ?_
    refine EW.seq ?_
    refine EW.seq ?_
    refine EW.region ?_
    refine WL.field rfl rfl rfl (rfld2 _ _) ?_
    refine WL.load rfl rfl rfl (ldS b4 rfl) ?_
    refine WL.len rfl rfl rfl (hr.hv.len _ _) ?_
    first | refine WL.bin rfl rfl rfl rfl (int_gt_t ‹_› _ _ _) ?_ | refine WL.bin rfl rfl rfl rfl (int_gt_f ‹_› _ _ _) ?_ | refine WL.bin rfl rfl rfl rfl (int_gt_d _ _ _ _ _) ?_
    refine WL.done ?_
    refine EW.on ?_
    refine EW.cond_f rfl ?_
    refine EW.skip ?_
    refine EW.on ?_
    refine EW.seq ?_
    have k5 := k4
    have v5 := v4
    have e5 := e4
    have c5 := c4
    refine EW.region ?_
    refine WL.load rfl rfl rfl (ld32 (r := (⟨rs16 r.t, .slice ao (64 - 0) cc, r.vv, r.k.take 64, r.v⟩ : RV)) b4) ?_
    obtain ⟨w6, s6, b6, x6⟩ := st32 (r := (⟨rs16 r.t, .slice ao (64 - 0) cc, r.vv, r.k.take 64, r.v⟩ : RV)) c5 rfl (show (⟨rs16 r.t, .slice ao (64 - 0) cc, r.vv, r.k.take 64, r.v⟩ : RV).ok _ from ⟨k5, v5⟩).one
    refine WL.store rfl rfl rfl s6 ?_
    refine WL.done ?_
    refine EW.on ?_
    refine EW.ret ?_
    exact EW.returnsC Try.results12 rfl b6 Try.underlying32 rfl (info32 _) ⟨(⟨rs16 r.t, .slice ao (64 - 0) cc, r.vv, r.k.take 64, r.v⟩ : RV), rfl, ⟨k5.keep (B := 0) x6 (.inl ⟨w, by have := hr.hk.cut 0 64 (by omega) (by omega); rw [hcut] at this; simpa using this, by omega⟩), v5.keep (B := 0) x6 (.inl ⟨w, hr.hv, by omega⟩)⟩, hDD, e5.trans (x6.below (fun k hk e => by omega) (by have := e5.size; omega))⟩
set_option maxRecDepth 100000 in
set_option maxHeartbeats 1000000 in
theorem right_21 (r : RV) (w : World) (hr : r.ok w) (hkb : 64 < r.k.length) (hvb : 900 < r.v.length) : Calls Try.prog 12 #[r.val] w fun e w' => ∃ r' : RV, e = .returned r'.val ∧ r'.ok w' ∧ r'.d = rightD r.d ∧ Below w.heap.size w w' := by
    obtain ⟨w1, q1, r1, b1, e1, hq1⟩ := box32 r w
    obtain ⟨w2, q2, r2, b2, f2, hq2⟩ := new32 w1
    have e2 := e1.trans (f2.mono e1.size)
    have lb1 := b1.lt
    replace b1 := b1.on f2
    have l1 := e1.size
    have l2 := e2.size
    have lq2 := b2.lt
    have lq1 := b1.lt
    obtain ⟨w3, s3, b3, x3⟩ := stI b1 (show 0 < r.cs.length by show 0 < 3; decide) (rs16 r.t)
    have hk3 := (hr.hk.below e2).keep (B := 0) x3 (.inl ⟨w, hr.hk, by omega⟩)
    have hv3 := (hr.hv.below e2).keep (B := 0) x3 (.inl ⟨w, hr.hv, by omega⟩)
    have e3 : Below w.heap.size w w3 := e2.trans (x3.below (fun k hk e => by omega) (by omega))
    have b2' := b2.fx x3 (by show q2 ≠ q1; omega)
    have x3s := x3.size
    have z1 : ¬ ((r.k.length : Nat) : Int) = 0 := by omega
    have z2 : (64 : Int) < ((r.k.length : Nat) : Int) := by omega
    have z3 : (900 : Int) < ((r.v.length : Nat) : Int) := by omega
    have hD0 : (if r.k = [] then [0] else r.k.take 64) = r.k.take 64 := (if_neg (fun e => by rw [e] at hkb; simp at hkb))
    have hD1 : r.v.take 900 = r.v.take 900 := rfl
    have hDD : (⟨rs16 r.t, r.k.take 64, r.v.take 900⟩ : Rc) = rightD r.d := by unfold rightD RV.d; dsimp only; rw [hD0]
    refine calls_of_args [r.val] Try.func12 rfl 30 Try.ntmps12 (by show 1 ≤ 30; decide) ?_
    refine EW.seq ?_
    refine EW.region ?_
    refine WL.box rfl rfl rfl r1 ?_
    refine WL.new rfl rfl r2 ?_
    refine WL.done ?_
    refine EW.on ?_
    refine EW.seq ?_
    refine EW.region ?_
    refine WL.field rfl rfl rfl (rfld0 _ _) ?_
    refine WL.load rfl rfl rfl (ldI b1 rfl) ?_
    refine WL.call [.int .i64 r.t, .int .i64 16] enter33 rfl rfl rfl (rest_any _ _) ?_
    rintro _ wz ⟨rfl, hz⟩
    rw [hz]
    refine ⟨_, rfl, ?_⟩
    refine WL.field rfl rfl rfl (rfld0 _ _) ?_
    refine WL.store rfl rfl rfl s3 ?_
    refine WL.done ?_
    refine EW.on ?_
    refine EW.seq ?_
    refine EW.seq ?_
    refine EW.region ?_
    refine WL.field rfl rfl rfl (rfld1 _ _) ?_
    refine WL.load rfl rfl rfl (ldS b3 rfl) ?_
    refine WL.len rfl rfl rfl (hr.hk.len _ _) ?_
    first | refine WL.bin rfl rfl rfl rfl (int_eq_t ‹_› _ _ _) ?_ | refine WL.bin rfl rfl rfl rfl (int_eq_f ‹_› _ _ _) ?_ | refine WL.bin rfl rfl rfl rfl (int_eq_d _ _ _ _ _) ?_
    refine WL.done ?_
    refine EW.on ?_
    refine EW.cond_f rfl ?_
    refine EW.skip ?_
    refine EW.on ?_
    refine EW.seq ?_
    refine EW.seq ?_
    refine EW.region ?_
    refine WL.field rfl rfl rfl (rfld1 _ _) ?_
    refine WL.load rfl rfl rfl (ldS b3 rfl) ?_
    refine WL.len rfl rfl rfl (hr.hk.len _ _) ?_
    first | refine WL.bin rfl rfl rfl rfl (int_gt_t ‹_› _ _ _) ?_ | refine WL.bin rfl rfl rfl rfl (int_gt_f ‹_› _ _ _) ?_ | refine WL.bin rfl rfl rfl rfl (int_gt_d _ _ _ _ _) ?_
    refine WL.done ?_
    refine EW.on ?_
    refine EW.cond_t rfl ?_
    refine EW.region ?_
    refine WL.field rfl rfl rfl (rfld1 _ _) ?_
    refine WL.load rfl rfl rfl (ldS b3 rfl) ?_
    refine WL.sliceH rfl rfl rfl rfl (by rw [sl22]; exact hr.hk.cutH 64 (by omega) _) ?_
    refine WL.field rfl rfl rfl (rfld1 _ _) ?_
    obtain ⟨ao, cc, hcut⟩ := cut_shape hr.hk 0 64
    rw [hcut]
    obtain ⟨w4, s4, b4, x4⟩ := stS b3 (show 1 < _ by show 1 < 3; decide) ao (64 - 0) cc
    refine WL.store rfl rfl rfl s4 ?_
    have k4 : Has w4 (.slice ao (64 - 0) cc) (r.k.take 64) := by have := (hk3.cut 0 64 (by omega) (by omega)).keep (B := 0) x4 (.inl ⟨w, hr.hk.cut 0 64 (by omega) (by omega), by omega⟩); rw [hcut] at this; simpa using this
    have v4 := hv3.keep (B := 0) x4 (.inl ⟨w, hr.hv, by omega⟩)
    have e4 : Below w.heap.size w w4 := e3.trans (x4.below (fun k hk e => by omega) (by have := e3.size; omega))
    have c4 := b2'.fx x4 (by show q2 ≠ q1; omega)
    refine WL.done ?_
    refine EW.on ?_
    refine EW.seq ?_
    refine EW.seq ?_
    refine EW.region ?_
    refine WL.field rfl rfl rfl (rfld2 _ _) ?_
    refine WL.load rfl rfl rfl (ldS b4 rfl) ?_
    refine WL.len rfl rfl rfl (hr.hv.len _ _) ?_
    first | refine WL.bin rfl rfl rfl rfl (int_gt_t ‹_› _ _ _) ?_ | refine WL.bin rfl rfl rfl rfl (int_gt_f ‹_› _ _ _) ?_ | refine WL.bin rfl rfl rfl rfl (int_gt_d _ _ _ _ _) ?_
    refine WL.done ?_
    refine EW.on ?_
    refine EW.cond_t rfl ?_
    refine EW.region ?_
    refine WL.field rfl rfl rfl (rfld2 _ _) ?_
    refine WL.load rfl rfl rfl (ldS b4 rfl) ?_
    refine WL.sliceH rfl rfl rfl rfl (by rw [sl22]; exact hr.hv.cutH 900 (by omega) _) ?_
    refine WL.field rfl rfl rfl (rfld2 _ _) ?_
    obtain ⟨ao2, cc2, hcut2⟩ := cut_shape hr.hv 0 900
    rw [hcut2]
    obtain ⟨w5, s5, b5, x5⟩ := stS b4 (show 2 < _ by show 2 < 3; decide) ao2 (900 - 0) cc2
    refine WL.store rfl rfl rfl s5 ?_
    have k5 := k4.keep (B := 0) x5 (.inl ⟨w, by have := hr.hk.cut 0 64 (by omega) (by omega); rw [hcut] at this; simpa using this, by omega⟩)
    have v5 : Has w5 (.slice ao2 (900 - 0) cc2) (r.v.take 900) := by have := (v4.cut 0 900 (by omega) (by omega)).keep (B := 0) x5 (.inl ⟨w, hr.hv.cut 0 900 (by omega) (by omega), by omega⟩); rw [hcut2] at this; simpa using this
    have e5 : Below w.heap.size w w5 := e4.trans (x5.below (fun k hk e => by omega) (by have := e4.size; omega))
    have c5 := c4.fx x5 (by show q2 ≠ q1; omega)
    refine WL.done ?_
    refine EW.on ?_
    refine EW.seq ?_
    refine EW.region ?_
    refine WL.load rfl rfl rfl (ld32 (r := (⟨rs16 r.t, .slice ao (64 - 0) cc, .slice ao2 (900 - 0) cc2, r.k.take 64, r.v.take 900⟩ : RV)) b5) ?_
    obtain ⟨w6, s6, b6, x6⟩ := st32 (r := (⟨rs16 r.t, .slice ao (64 - 0) cc, .slice ao2 (900 - 0) cc2, r.k.take 64, r.v.take 900⟩ : RV)) c5 rfl (show (⟨rs16 r.t, .slice ao (64 - 0) cc, .slice ao2 (900 - 0) cc2, r.k.take 64, r.v.take 900⟩ : RV).ok _ from ⟨k5, v5⟩).one
    refine WL.store rfl rfl rfl s6 ?_
    refine WL.done ?_
    refine EW.on ?_
    refine EW.ret ?_
    exact EW.returnsC Try.results12 rfl b6 Try.underlying32 rfl (info32 _) ⟨(⟨rs16 r.t, .slice ao (64 - 0) cc, .slice ao2 (900 - 0) cc2, r.k.take 64, r.v.take 900⟩ : RV), rfl, ⟨k5.keep (B := 0) x6 (.inl ⟨w, by have := hr.hk.cut 0 64 (by omega) (by omega); rw [hcut] at this; simpa using this, by omega⟩), v5.keep (B := 0) x6 (.inl ⟨w, by have := hr.hv.cut 0 900 (by omega) (by omega); rw [hcut2] at this; simpa using this, by omega⟩)⟩, hDD, e5.trans (x6.below (fun k hk e => by omega) (by have := e5.size; omega))⟩
theorem right_any (r : RV) (w : World) (hr : r.ok w) : Calls Try.prog 12 #[r.val] w fun e w' => ∃ r' : RV, e = .returned r'.val ∧ r'.ok w' ∧ r'.d = rightD r.d ∧ Below w.heap.size w w' := by
  by_cases hv : r.v.length ≤ 900
  · by_cases hk : r.k = []
    · exact right_00 r w hr hk hv
    · by_cases hk2 : r.k.length ≤ 64
      · exact right_10 r w hr hk hk2 hv
      · exact right_20 r w hr (by omega) hv
  · by_cases hk : r.k = []
    · exact right_01 r w hr hk (by omega)
    · by_cases hk2 : r.k.length ≤ 64
      · exact right_11 r w hr hk hk2 (by omega)
      · exact right_21 r w hr (by omega) (by omega)
end Go.Proofs.Yteghbkeaojbdgaa
