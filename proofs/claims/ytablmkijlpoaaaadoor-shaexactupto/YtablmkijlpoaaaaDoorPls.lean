import Derived.Test.YtablmkijlpoaaaaDoorPle
namespace Go.Proofs.YtablmkijlpoaaaaDoor
open Go.RowKit

theorem opG_store {P : Program} {ops : Array Oper} {Q : Exit → Act → World → Prop} {i : Nat} {o : Oper} (hi : ops[i]? = some o) {K : Act → World → Prop} {a : Act} {w : World} (hw : Region.wanted o (yielded ops a.tmps) = true) (hdst : o.dst = none) (ty : TypeId) (x y : Operand) (ho : o.op = .store ty x y)
    (b off : Nat) (cells : Array Value) (hx : a.eval x = .pointer (some ⟨b, off, none⟩)) (hy : a.eval y = .agg cells)
    (ht : w.there b off cells.size) (hsz : (P.info? ty).map (·.size) = some cells.size) (h1 : cells.all (·.oneCell') = true)
    (h : K a (w.setCells b off cells.toList)) : wpOp P ops Q i K a w := by
  refine opG_wp hi hw (wp_store_mid ty x y ho b off cells hx hy ht hsz h1 ?_)
  rw [hdst]
  exact h

set_option maxHeartbeats 1000000 in
set_option maxRecDepth 100000 in
/-- 'plays' of KSum. -/
theorem plays_sum (p : Nat) (hs : List Nat) (vs : List Value) (ms : List (List UInt8)) (which tw : Int) (vB vC : Value) (bB bC : List UInt8) (st : List (BitVec 32)) (bl : List UInt8) (L d : Nat) (w x : World)
    (hT : Tb w x p hs vs ms ms) (hms : ms.length = 3) (hB : Has w vB bB) (hC : Has w vC bC) (hK : Kst w) (hR : Rst w) (hS : Bst w) (hlen : ∀ i, i < 3 → (ms.getD i []).length ≤ L) (hL : bB.length + bC.length + bB.length ≤ 100000000000000) :
    Calls Tryd.prog 11 #[.pointer (some ⟨p, 0, none⟩), .agg (opC 1 which tw vB vC st bl).toArray] x fun e y => e = .returned (.bool true) ∧ ∃ hs' vs' ms', Tb w y p hs' vs' ms' ms' ∧ ms'.length = 3 ∧ ∀ i, i < 3 → (ms'.getD i []).length ≤ L + d := by
  obtain ⟨aB, cB, rfl⟩ := hB.slice
  obtain ⟨aC, cC, rfl⟩ := hC.slice
  obtain ⟨lB, hlB⟩ : ∃ l, bB.length = l := ⟨_, rfl⟩
  obtain ⟨lC, hlC⟩ : ∃ l, bC.length = l := ⟨_, rfl⟩
  rw [hlB] at hB hL ⊢
  rw [hlC] at hC hL ⊢
  have HT := hide hT
  have HMS := hide hms
  have HK := hide hK
  have HR := hide hR
  have HS := hide hS
  have HL := hide hlen
  have HB := hide hB
  have HC := hide hC
  have HLB : Lk bB.length lB := ⟨hlB⟩
  have HLC : Lk bC.length lC := ⟨hlC⟩
  obtain ⟨BC, hBC⟩ : ∃ b, bB ++ bC = b := ⟨_, rfl⟩
  obtain ⟨BA, hBA⟩ : ∃ b, BC ++ bB = b := ⟨_, rfl⟩
  have HBC : Lk (bB ++ bC) BC := ⟨hBC⟩
  have HBA : Lk (BC ++ bB) BA := ⟨hBA⟩
  have LBC : Lk BC.length (lB + lC) := ⟨by rw [← hBC, List.length_append, hlB, hlC]⟩
  have LBA : Lk BA.length (lB + lC + lB) := ⟨by rw [← hBA, List.length_append, LBC.h, hlB]⟩
  obtain ⟨oc, hoc⟩ : ∃ oc, opC 1 which tw (.slice aB lB cB) (.slice aC lC cC) st bl = oc := ⟨_, rfl⟩
  have O0 : Lk oc[0]? (some (.int .i64 1)) := ⟨by rw [← hoc]; rfl⟩
  have O3 : Lk oc[3]? (some (.slice aB lB cB)) := ⟨by rw [← hoc]; rfl⟩
  have O4 : Lk oc[4]? (some (.slice aC lC cC)) := ⟨by rw [← hoc]; rfl⟩
  rw [hoc]
  clear hoc hBC hBA hlB hlC hT hms hB hC hK hR hS hlen
  go_enter Tryd.func11, Tryd.ntmps11
  go_upto_region 1 with (first
    | (refine wpList_boxAt rfl 37 _ rfl oc rfl x.heap.size rfl ?_)
    | fail)
  have X2 : Hid (Tb w (x.alloc (.cells oc.toArray 37)) p hs vs ms ms) := HT.out.below (below_new x _)
  have OB : Hid (Blk (x.alloc (.cells oc.toArray 37)) x.heap.size oc 37) := Blk.new x _ _
  have c0 := (OB.out.cell 0).trans O0.h
  generalize x.alloc (.cells oc.toArray 37) = x2 at X2 OB c0 ⊢
  generalize x.heap.size = bx at OB c0 ⊢
  clear HT
  have UB : Hid (Has x2 (.slice aB lB cB) bB) := hide (HB.out.below X2.out.be)
  have UC : Hid (Has x2 (.slice aC lC cC) bC) := hide (HC.out.below X2.out.be)
  have S0H : Hid (∀ y, Below x2.heap.size x2 y → y.cell? ⟨bx, 3, none⟩ = some (.slice aB lB cB) ∧ y.cell? ⟨bx, 4, none⟩ = some (.slice aC lC cC)) := hide (fun y hy => ⟨((OB.out.below hy OB.out.lt).cell 3).trans O3.h, ((OB.out.below hy OB.out.lt).cell 4).trans O4.h⟩)
  go_upto_region 3 with fail
  clear c0
  refine wp_region_noPanic ?_
  refine wp_region_held (S := fun y => y.cell? ⟨bx, 3, none⟩ = some (.slice aB lB cB) ∧ y.cell? ⟨bx, 4, none⟩ = some (.slice aC lC cC)) (by kernel_rfl) ?_
  have Z0 : Below x2.heap.size x2 { x2 with drawn := x2.drawn + 1 } := (Below.refl _ _).drew
  generalize { x2 with drawn := x2.drawn + 1 } = z0 at Z0 ⊢
  refine takeH (i := 0) rfl (.fieldAddr 37 (.tmp 3) 3) rfl 12 rfl (v := (.pointer (some ⟨bx, 3, none⟩))) (by kernel_rfl) (by kernel_rfl) (by kernel_rfl) (fun _ _ _ h => h) (by rfl) (fun o' ho W hW => by clear hW; go_simp) (S0H.out _ Z0) ?_
  simp only [Act.put, List.setIfInBounds_toArray, List.set_cons_zero, List.set_cons_succ]
  refine takeH (i := 1) rfl (.load 27 (.tmp 12)) rfl 13 rfl (v := (.slice aB lB cB)) (by kernel_rfl) (by kernel_rfl) (by kernel_rfl) (fun _ _ _ h => h) (by rfl) (fun o' ho W hW => by obtain ⟨s1, s2⟩ := hW; go_simp) (S0H.out _ Z0) ?_
  simp only [Act.put, List.setIfInBounds_toArray, List.set_cons_zero, List.set_cons_succ]
  refine takeH (i := 3) rfl (.fieldAddr 37 (.tmp 3) 4) rfl 15 rfl (v := (.pointer (some ⟨bx, 4, none⟩))) (by kernel_rfl) (by kernel_rfl) (by kernel_rfl) (fun _ _ _ h => h) (by rfl) (fun o' ho W hW => by clear hW; go_simp) (S0H.out _ Z0) ?_
  simp only [Act.put, List.setIfInBounds_toArray, List.set_cons_zero, List.set_cons_succ]
  refine takeH (i := 4) rfl (.load 27 (.tmp 15)) rfl 16 rfl (v := (.slice aC lC cC)) (by kernel_rfl) (by kernel_rfl) (by kernel_rfl) (fun _ _ _ h => h) (by rfl) (fun o' ho W hW => by obtain ⟨s1, s2⟩ := hW; go_simp) (S0H.out _ Z0) ?_
  simp only [Act.put, List.setIfInBounds_toArray, List.set_cons_zero, List.set_cons_succ]
  refine takeH (i := 6) rfl (.fieldAddr 37 (.tmp 3) 3) rfl 18 rfl (v := (.pointer (some ⟨bx, 3, none⟩))) (by kernel_rfl) (by kernel_rfl) (by kernel_rfl) (fun _ _ _ h => h) (by rfl) (fun o' ho W hW => by clear hW; go_simp) (S0H.out _ Z0) ?_
  simp only [Act.put, List.setIfInBounds_toArray, List.set_cons_zero, List.set_cons_succ]
  refine takeH (i := 7) rfl (.load 27 (.tmp 18)) rfl 19 rfl (v := (.slice aB lB cB)) (by kernel_rfl) (by kernel_rfl) (by kernel_rfl) (fun _ _ _ h => h) (by rfl) (fun o' ho W hW => by obtain ⟨s1, s2⟩ := hW; go_simp) (S0H.out _ Z0) ?_
  simp only [Act.put, List.setIfInBounds_toArray, List.set_cons_zero, List.set_cons_succ]
  refine onlyH (i := 2) (by kernel_rfl) ?_
  refine opG_app rfl (by rfl) (.const (.slice none 0 0)) (.tmp 13) rfl 14 rfl x2.heap.size (.slice none 0 0) ([]) rfl (Own.nil _ _) (.slice aB lB cB) (bB) rfl (UB.out.below Z0) (by rw [HLB.h]; simp; omega) (Z0.size) ?_
  intro v1 z1 ho1 hg1
  rw [show [] ++ bB = bB from List.nil_append bB] at ho1
  obtain ⟨a1, q1, rfl⟩ := ho1.slice
  rw [HLB.h] at ho1 ⊢
  have Z1 : Below x2.heap.size x2 z1 := Z0.grown hg1 Z0.size (fun k hk => by cases hk)
  refine ⟨S0H.out _ Z1, ?_⟩
  simp only [Act.put, List.setIfInBounds_toArray, List.set_cons_zero, List.set_cons_succ]
  refine onlyH (i := 5) (by kernel_rfl) ?_
  refine opG_app rfl (by rfl) (.tmp 14) (.tmp 16) rfl 17 rfl x2.heap.size (.slice a1 lB q1) (bB) rfl (ho1) (.slice aC lC cC) (bC) rfl (UC.out.below Z1) (by rw [HLB.h, HLC.h]; omega) (Z1.size) ?_
  intro v2 z2 ho2 hg2
  rw [show bB ++ bC = BC from HBC.h] at ho2
  obtain ⟨a2, q2, rfl⟩ := ho2.slice
  rw [LBC.h] at ho2 ⊢
  have Z2 : Below x2.heap.size x2 z2 := Z1.grown hg2 Z1.size ho1.ownBlock
  refine ⟨S0H.out _ Z2, ?_⟩
  simp only [Act.put, List.setIfInBounds_toArray, List.set_cons_zero, List.set_cons_succ]
  refine onlyH (i := 8) (by kernel_rfl) ?_
  refine opG_app rfl (by rfl) (.tmp 17) (.tmp 19) rfl 20 rfl x2.heap.size (.slice a2 (lB + lC) q2) (BC) rfl (ho2) (.slice aB lB cB) (bB) rfl (UB.out.below Z2) (by rw [HLB.h, LBC.h]; omega) (Z2.size) ?_
  intro v3 z3 ho3 hg3
  rw [show BC ++ bB = BA from HBA.h] at ho3
  obtain ⟨a3, q3, rfl⟩ := ho3.slice
  rw [LBA.h] at ho3 ⊢
  have Z3 : Below x2.heap.size x2 z3 := Z2.grown hg3 Z2.size ho2.ownBlock
  refine ⟨S0H.out _ Z3, ?_⟩
  simp only [Act.put, List.setIfInBounds_toArray, List.set_cons_zero, List.set_cons_succ]
  refine takeH (i := 9) rfl (.assign (.tmp 20)) rfl 5 rfl (v := (.slice a3 (lB + lC + lB) q3)) (by kernel_rfl) (by kernel_rfl) (by kernel_rfl) (fun _ _ _ h => h) (by rfl) (fun o' ho W hW => by clear hW; go_simp) (S0H.out _ Z3) ?_
  simp only [Act.put, List.setIfInBounds_toArray, List.set_cons_zero, List.set_cons_succ]
  refine wpAnyH_done (by kernel_rfl) (NoPanic.normal ?_) _
  have A3 : Hid (Has z3 (.slice a3 (lB + lC + lB) q3) BA) := hide ho3.has
  have Z3H := hide Z3
  clear Z0 Z1 Z2 Z3 ho1 ho2 ho3 hg1 hg2 hg3
  go_upto_region 4 with fail
  refine wp_region_noPanic ?_
  refine wp_region_held (S := fun y => y.cell? ⟨bx, 3, none⟩ = some (.slice aB lB cB) ∧ y.cell? ⟨bx, 4, none⟩ = some (.slice aC lC cC)) (by kernel_rfl) ?_
  have Y0 : Below x2.heap.size x2 { z3 with drawn := z3.drawn + 1 } := Z3H.out.drew
  have A4 : Has { z3 with drawn := z3.drawn + 1 } (.slice a3 (lB + lC + lB) q3) BA := A3.out.below (Below.refl _ _).drew
  generalize { z3 with drawn := z3.drawn + 1 } = y0 at Y0 A4 ⊢
  refine takeH (i := 0) rfl (.fieldAddr 37 (.tmp 3) 3) rfl 21 rfl (v := (.pointer (some ⟨bx, 3, none⟩))) (by kernel_rfl) (by kernel_rfl) (by kernel_rfl) (fun _ _ _ h => h) (by rfl) (fun o' ho W hW => by clear hW; go_simp) (S0H.out _ Y0) ?_
  simp only [Act.put, List.setIfInBounds_toArray, List.set_cons_zero, List.set_cons_succ]
  refine takeH (i := 1) rfl (.load 27 (.tmp 21)) rfl 22 rfl (v := (.slice aB lB cB)) (by kernel_rfl) (by kernel_rfl) (by kernel_rfl) (fun _ _ _ h => h) (by rfl) (fun o' ho W hW => by obtain ⟨s1, s2⟩ := hW; go_simp) (S0H.out _ Y0) ?_
  simp only [Act.put, List.setIfInBounds_toArray, List.set_cons_zero, List.set_cons_succ]
  refine takeH (i := 3) rfl (.fieldAddr 37 (.tmp 3) 4) rfl 24 rfl (v := (.pointer (some ⟨bx, 4, none⟩))) (by kernel_rfl) (by kernel_rfl) (by kernel_rfl) (fun _ _ _ h => h) (by rfl) (fun o' ho W hW => by clear hW; go_simp) (S0H.out _ Y0) ?_
  simp only [Act.put, List.setIfInBounds_toArray, List.set_cons_zero, List.set_cons_succ]
  refine takeH (i := 4) rfl (.load 27 (.tmp 24)) rfl 25 rfl (v := (.slice aC lC cC)) (by kernel_rfl) (by kernel_rfl) (by kernel_rfl) (fun _ _ _ h => h) (by rfl) (fun o' ho W hW => by obtain ⟨s1, s2⟩ := hW; go_simp) (S0H.out _ Y0) ?_
  simp only [Act.put, List.setIfInBounds_toArray, List.set_cons_zero, List.set_cons_succ]
  refine onlyH (i := 2) (by kernel_rfl) ?_
  refine opG_app rfl (by rfl) (.const (.slice none 0 0)) (.tmp 22) rfl 23 rfl y0.heap.size (.slice none 0 0) ([]) rfl (Own.nil _ _) (.slice aB lB cB) (bB) rfl (UB.out.below Y0) (by rw [HLB.h]; simp; omega) (Nat.le_refl _) ?_
  intro v4 y1 ho4 hg4
  rw [show [] ++ bB = bB from List.nil_append bB] at ho4
  obtain ⟨a4, q4, rfl⟩ := ho4.slice
  rw [HLB.h] at ho4 ⊢
  have Y1 : Below y0.heap.size y0 y1 := (Below.refl _ _).grown hg4 (Nat.le_refl _) (fun k hk => by cases hk)
  have W1 := Y0.trans (Y1.mono Y0.size)
  refine ⟨S0H.out _ W1, ?_⟩
  simp only [Act.put, List.setIfInBounds_toArray, List.set_cons_zero, List.set_cons_succ]
  refine onlyH (i := 5) (by kernel_rfl) ?_
  refine opG_app rfl (by rfl) (.tmp 23) (.tmp 25) rfl 26 rfl y0.heap.size (.slice a4 lB q4) (bB) rfl (ho4) (.slice aC lC cC) (bC) rfl (UC.out.below W1) (by rw [HLB.h, HLC.h]; omega) (Y1.size) ?_
  intro v5 y2 ho5 hg5
  rw [show bB ++ bC = BC from HBC.h] at ho5
  obtain ⟨a5, q5, rfl⟩ := ho5.slice
  rw [LBC.h] at ho5 ⊢
  have Y2 : Below y0.heap.size y0 y2 := Y1.grown hg5 Y1.size ho4.ownBlock
  have W2 := Y0.trans (Y2.mono Y0.size)
  refine ⟨S0H.out _ W2, ?_⟩
  simp only [Act.put, List.setIfInBounds_toArray, List.set_cons_zero, List.set_cons_succ]
  refine onlyH (i := 6) (by kernel_rfl) ?_
  refine opG_call (R := fun v wz => ∃ ar cr, v = .slice ar (lB + lC + 3) cr ∧ Has wz (.slice ar (lB + lC + 3) cr) (BC ++ marks) ∧ Below x2.heap.size x2 wz ∧ Below y0.heap.size y0 wz) rfl (by rfl) (.call { callee := .value (.func 27), args := #[.tmp 26], argTypes := #[27] }) rfl 27 rfl 27 #[.slice a5 (lB + lC) q5] (fun o' ho => by go_simp) ((room_any (.slice a5 (lB + lC) q5) BC y2 ho5.has (by rw [LBC.h]; omega)).mono fun e wz ⟨ar, cr, h1, h2, h3⟩ => ⟨_, h1, ar, cr, by rw [LBC.h], by rw [LBC.h] at h2; exact h2.has, W2.trans (h3.mono W2.size), Y2.trans (h3.mono Y2.size)⟩) ?_
  rintro v y3 ⟨ar, cr, rfl, hroom, W3, Y3⟩
  refine ⟨S0H.out _ W3, ?_⟩
  simp only [Act.put, List.setIfInBounds_toArray, List.set_cons_zero, List.set_cons_succ]
  refine takeH (i := 7) rfl (.assign (.tmp 27)) rfl 6 rfl (v := (.slice ar (lB + lC + 3) cr)) (by kernel_rfl) (by kernel_rfl) (by kernel_rfl) (fun _ _ _ h => h) (by rfl) (fun o' ho W hW => by clear hW; go_simp) (S0H.out _ W3) ?_
  simp only [Act.put, List.setIfInBounds_toArray, List.set_cons_zero, List.set_cons_succ]
  refine wpAnyH_done (by kernel_rfl) (NoPanic.normal ?_) _
  have A5 : Hid (Has y3 (.slice a3 (lB + lC + lB) q3) BA) := hide (A4.below Y3)
  have RM := hide hroom
  have W3H := hide W3
  clear Y0 Y1 Y2 Y3 W1 W2 W3 A4 A3 Z3H ho4 ho5 hg4 hg5 hroom
  obtain ⟨a8, c8, hV8⟩ := cut_shape RM.out lB (lB + lC)
  have hcut := fun W => RM.out.cutLH lB (lB + lC) (by omega) (by rw [List.length_append, LBC.h]; simp [marks]) W
  have HV8 : Hid (Has y3 (.slice a8 lC c8) bC) := by
    have h1 := RM.out.cut lB (lB + lC) (by omega) (by rw [List.length_append, LBC.h]; simp [marks])
    rw [hV8, show lB + lC - lB = lC by omega] at h1
    have e : ((BC ++ marks).drop lB).take lC = bC := by
      rw [← HBC.h, List.append_assoc, List.drop_append_of_le_length (by rw [HLB.h]; exact Nat.le_refl _), List.drop_eq_nil_of_le (by rw [HLB.h]; exact Nat.le_refl _), List.nil_append, List.take_append_of_le_length (by rw [HLC.h]; exact Nat.le_refl _), List.take_of_length_le (by rw [HLC.h]; exact Nat.le_refl _)]
    rw [e] at h1
    exact hide h1
  rw [hV8, show lB + lC - lB = lC by omega, Int.natCast_add] at hcut
  have HV9 : Hid (Has y3 (.slice ar lB cr) bB) := by
    have h1 := take_slice RM.out (by rw [List.length_append, LBC.h]; rfl) lB (by omega)
    have e : (BC ++ marks).take lB = bB := by rw [← HBC.h, List.append_assoc, List.take_append_of_le_length (by rw [HLB.h]; exact Nat.le_refl _), List.take_of_length_le (by rw [HLB.h]; exact Nat.le_refl _)]
    rw [e] at h1
    exact hide h1
  have hrc := has_cap RM.out
  obtain ⟨D, hD⟩ : ∃ D, sumOf BA = D := ⟨_, rfl⟩
  have HD : Lk (sumOf BA) D := ⟨hD⟩
  have DL : Lk D.length 32 := ⟨by rw [← hD]; exact sumOf_length BA⟩
  have i42 := info24 D DL.h
  clear hD hV8
  go_upto_region 5 with fail
  go_cut [7] (fun s wx => ∃ d0, s = .pointer (some ⟨d0, 0, none⟩) ∧ Hid (Dgt x2 wx d0 D) ∧ Hid (Below y3.heap.size y3 wx))
  case first =>
    refine wp_region_noPanic ?_
    refine wp_region_held (S := fun y => y.cell? ⟨bx, 3, none⟩ = some (.slice aB lB cB) ∧ y.cell? ⟨bx, 4, none⟩ = some (.slice aC lC cC)) (by kernel_rfl) ?_
    have Y0 : Below x2.heap.size x2 { y3 with drawn := y3.drawn + 1 } := W3H.out.drew
    have V0 : Below y3.heap.size y3 { y3 with drawn := y3.drawn + 1 } := (Below.refl _ _).drew
    generalize { y3 with drawn := y3.drawn + 1 } = y4 at Y0 V0 ⊢
    have q1 : IntKind.i64.wrap ((lB : Int) + (lC : Int)) = (lB : Int) + (lC : Int) := by rw [IntKind.wrap_i64]; omega
    have cA : (lB : Int) ≤ (cr : Int) := by omega
    have cB1 : lB ≤ cr := by omega
    refine takeH (i := 0) rfl (.move (.tmp 6)) rfl 28 rfl (v := (.slice ar (lB + lC + 3) cr)) (by kernel_rfl) (by kernel_rfl) (by kernel_rfl) (fun _ _ _ h => h) (by rfl) (fun o' ho W hW => by clear hW; go_simp) (S0H.out _ Y0) ?_
    simp only [Act.put, List.setIfInBounds_toArray, List.set_cons_zero, List.set_cons_succ]
    refine takeH (i := 1) rfl (.fieldAddr 37 (.tmp 3) 3) rfl 29 rfl (v := (.pointer (some ⟨bx, 3, none⟩))) (by kernel_rfl) (by kernel_rfl) (by kernel_rfl) (fun _ _ _ h => h) (by rfl) (fun o' ho W hW => by clear hW; go_simp) (S0H.out _ Y0) ?_
    simp only [Act.put, List.setIfInBounds_toArray, List.set_cons_zero, List.set_cons_succ]
    refine takeH (i := 2) rfl (.load 27 (.tmp 29)) rfl 30 rfl (v := (.slice aB lB cB)) (by kernel_rfl) (by kernel_rfl) (by kernel_rfl) (fun _ _ _ h => h) (by rfl) (fun o' ho W hW => by obtain ⟨s1, s2⟩ := hW; go_simp) (S0H.out _ Y0) ?_
    simp only [Act.put, List.setIfInBounds_toArray, List.set_cons_zero, List.set_cons_succ]
    refine takeH (i := 3) rfl (.call { callee := .builtin .len, args := #[.tmp 30], argTypes := #[27] }) rfl 31 rfl (v := (.int .i64 (lB : Int))) (by kernel_rfl) (by kernel_rfl) (by kernel_rfl) (fun _ _ _ h => h) (by rfl) (fun o' ho W hW => by clear hW; go_simp) (S0H.out _ Y0) ?_
    simp only [Act.put, List.setIfInBounds_toArray, List.set_cons_zero, List.set_cons_succ]
    refine takeH (i := 4) rfl (.slice 27 (.tmp 28) none (some (.tmp 31)) none) rfl 32 rfl (v := (.slice ar lB cr)) (by kernel_rfl) (by kernel_rfl) (by kernel_rfl) (fun _ _ _ h => h) (by rfl) (fun o' ho W hW => by clear hW; go_simp) (S0H.out _ Y0) ?_
    simp only [Act.put, List.setIfInBounds_toArray, List.set_cons_zero, List.set_cons_succ]
    refine takeH (i := 5) rfl (.move (.tmp 6)) rfl 33 rfl (v := (.slice ar (lB + lC + 3) cr)) (by kernel_rfl) (by kernel_rfl) (by kernel_rfl) (fun _ _ _ h => h) (by rfl) (fun o' ho W hW => by clear hW; go_simp) (S0H.out _ Y0) ?_
    simp only [Act.put, List.setIfInBounds_toArray, List.set_cons_zero, List.set_cons_succ]
    refine takeH (i := 6) rfl (.fieldAddr 37 (.tmp 3) 3) rfl 34 rfl (v := (.pointer (some ⟨bx, 3, none⟩))) (by kernel_rfl) (by kernel_rfl) (by kernel_rfl) (fun _ _ _ h => h) (by rfl) (fun o' ho W hW => by clear hW; go_simp) (S0H.out _ Y0) ?_
    simp only [Act.put, List.setIfInBounds_toArray, List.set_cons_zero, List.set_cons_succ]
    refine takeH (i := 7) rfl (.load 27 (.tmp 34)) rfl 35 rfl (v := (.slice aB lB cB)) (by kernel_rfl) (by kernel_rfl) (by kernel_rfl) (fun _ _ _ h => h) (by rfl) (fun o' ho W hW => by obtain ⟨s1, s2⟩ := hW; go_simp) (S0H.out _ Y0) ?_
    simp only [Act.put, List.setIfInBounds_toArray, List.set_cons_zero, List.set_cons_succ]
    refine takeH (i := 8) rfl (.call { callee := .builtin .len, args := #[.tmp 35], argTypes := #[27] }) rfl 36 rfl (v := (.int .i64 (lB : Int))) (by kernel_rfl) (by kernel_rfl) (by kernel_rfl) (fun _ _ _ h => h) (by rfl) (fun o' ho W hW => by clear hW; go_simp) (S0H.out _ Y0) ?_
    simp only [Act.put, List.setIfInBounds_toArray, List.set_cons_zero, List.set_cons_succ]
    refine takeH (i := 9) rfl (.fieldAddr 37 (.tmp 3) 3) rfl 37 rfl (v := (.pointer (some ⟨bx, 3, none⟩))) (by kernel_rfl) (by kernel_rfl) (by kernel_rfl) (fun _ _ _ h => h) (by rfl) (fun o' ho W hW => by clear hW; go_simp) (S0H.out _ Y0) ?_
    simp only [Act.put, List.setIfInBounds_toArray, List.set_cons_zero, List.set_cons_succ]
    refine takeH (i := 10) rfl (.load 27 (.tmp 37)) rfl 38 rfl (v := (.slice aB lB cB)) (by kernel_rfl) (by kernel_rfl) (by kernel_rfl) (fun _ _ _ h => h) (by rfl) (fun o' ho W hW => by obtain ⟨s1, s2⟩ := hW; go_simp) (S0H.out _ Y0) ?_
    simp only [Act.put, List.setIfInBounds_toArray, List.set_cons_zero, List.set_cons_succ]
    refine takeH (i := 11) rfl (.call { callee := .builtin .len, args := #[.tmp 38], argTypes := #[27] }) rfl 39 rfl (v := (.int .i64 (lB : Int))) (by kernel_rfl) (by kernel_rfl) (by kernel_rfl) (fun _ _ _ h => h) (by rfl) (fun o' ho W hW => by clear hW; go_simp) (S0H.out _ Y0) ?_
    simp only [Act.put, List.setIfInBounds_toArray, List.set_cons_zero, List.set_cons_succ]
    refine takeH (i := 12) rfl (.fieldAddr 37 (.tmp 3) 4) rfl 40 rfl (v := (.pointer (some ⟨bx, 4, none⟩))) (by kernel_rfl) (by kernel_rfl) (by kernel_rfl) (fun _ _ _ h => h) (by rfl) (fun o' ho W hW => by clear hW; go_simp) (S0H.out _ Y0) ?_
    simp only [Act.put, List.setIfInBounds_toArray, List.set_cons_zero, List.set_cons_succ]
    refine takeH (i := 13) rfl (.load 27 (.tmp 40)) rfl 41 rfl (v := (.slice aC lC cC)) (by kernel_rfl) (by kernel_rfl) (by kernel_rfl) (fun _ _ _ h => h) (by rfl) (fun o' ho W hW => by obtain ⟨s1, s2⟩ := hW; go_simp) (S0H.out _ Y0) ?_
    simp only [Act.put, List.setIfInBounds_toArray, List.set_cons_zero, List.set_cons_succ]
    refine takeH (i := 14) rfl (.call { callee := .builtin .len, args := #[.tmp 41], argTypes := #[27] }) rfl 42 rfl (v := (.int .i64 (lC : Int))) (by kernel_rfl) (by kernel_rfl) (by kernel_rfl) (fun _ _ _ h => h) (by rfl) (fun o' ho W hW => by clear hW; go_simp) (S0H.out _ Y0) ?_
    simp only [Act.put, List.setIfInBounds_toArray, List.set_cons_zero, List.set_cons_succ]
    refine takeH (i := 15) rfl (.binOp .add 3 (.tmp 39) (.tmp 42) 3) rfl 43 rfl (v := (.int .i64 ((lB : Int) + (lC : Int)))) (by kernel_rfl) (by kernel_rfl) (by kernel_rfl) (fun _ _ _ h => h) (by rfl) (fun o' ho W hW => by clear hW; go_simp) (S0H.out _ Y0) ?_
    simp only [Act.put, List.setIfInBounds_toArray, List.set_cons_zero, List.set_cons_succ]
    refine takeH (i := 16) rfl (.slice 27 (.tmp 33) (some (.tmp 36)) (some (.tmp 43)) none) rfl 44 rfl (v := (.slice a8 lC c8)) (by kernel_rfl) (by kernel_rfl) (by kernel_rfl) (fun _ _ _ h => h) (by rfl) (fun o' ho W hW => by clear hW; go_simp) (S0H.out _ Y0) ?_
    simp only [Act.put, List.setIfInBounds_toArray, List.set_cons_zero, List.set_cons_succ]
    refine takeH (i := 17) rfl (.move (.tmp 6)) rfl 45 rfl (v := (.slice ar (lB + lC + 3) cr)) (by kernel_rfl) (by kernel_rfl) (by kernel_rfl) (fun _ _ _ h => h) (by rfl) (fun o' ho W hW => by clear hW; go_simp) (S0H.out _ Y0) ?_
    simp only [Act.put, List.setIfInBounds_toArray, List.set_cons_zero, List.set_cons_succ]
    refine takeH (i := 18) rfl (.fieldAddr 37 (.tmp 3) 3) rfl 46 rfl (v := (.pointer (some ⟨bx, 3, none⟩))) (by kernel_rfl) (by kernel_rfl) (by kernel_rfl) (fun _ _ _ h => h) (by rfl) (fun o' ho W hW => by clear hW; go_simp) (S0H.out _ Y0) ?_
    simp only [Act.put, List.setIfInBounds_toArray, List.set_cons_zero, List.set_cons_succ]
    refine takeH (i := 19) rfl (.load 27 (.tmp 46)) rfl 47 rfl (v := (.slice aB lB cB)) (by kernel_rfl) (by kernel_rfl) (by kernel_rfl) (fun _ _ _ h => h) (by rfl) (fun o' ho W hW => by obtain ⟨s1, s2⟩ := hW; go_simp) (S0H.out _ Y0) ?_
    simp only [Act.put, List.setIfInBounds_toArray, List.set_cons_zero, List.set_cons_succ]
    refine takeH (i := 20) rfl (.call { callee := .builtin .len, args := #[.tmp 47], argTypes := #[27] }) rfl 48 rfl (v := (.int .i64 (lB : Int))) (by kernel_rfl) (by kernel_rfl) (by kernel_rfl) (fun _ _ _ h => h) (by rfl) (fun o' ho W hW => by clear hW; go_simp) (S0H.out _ Y0) ?_
    simp only [Act.put, List.setIfInBounds_toArray, List.set_cons_zero, List.set_cons_succ]
    refine takeH (i := 21) rfl (.slice 27 (.tmp 45) none (some (.tmp 48)) none) rfl 49 rfl (v := (.slice ar lB cr)) (by kernel_rfl) (by kernel_rfl) (by kernel_rfl) (fun _ _ _ h => h) (by rfl) (fun o' ho W hW => by clear hW; go_simp) (S0H.out _ Y0) ?_
    simp only [Act.put, List.setIfInBounds_toArray, List.set_cons_zero, List.set_cons_succ]
    have Ey4 := Y0
    have Vy4 := V0
    have ys := V0.size
    refine eitherH (i := 22) (j := 24) (by kernel_rfl) ?_ ?_
    · skip
      have Pu1 : Parts (y4.alloc (.cells #[.slice ar lB cr, .slice a8 lC c8, .slice ar lB cr] 27)) (.slice (some ⟨y4.heap.size, 0, none⟩) 3 3) [(.slice ar lB cr, bB), (.slice a8 lC c8, bC), (.slice ar lB cr, bB)] := parts_new y4 [(.slice ar lB cr, bB), (.slice a8 lC c8, bC), (.slice ar lB cr, bB)] (three_all (HV9.out.below Vy4) (HV8.out.below Vy4) (HV9.out.below Vy4))
      have Eu1 : Below x2.heap.size x2 (y4.alloc (.cells #[.slice ar lB cr, .slice a8 lC c8, .slice ar lB cr] 27)) := Ey4.alloc Ey4.size _
      have Vu1 : Below y3.heap.size y3 (y4.alloc (.cells #[.slice ar lB cr, .slice a8 lC c8, .slice ar lB cr] 27)) := Vy4.alloc Vy4.size _
      refine opG_run rfl (by rfl) (.buildSlice 68 3 #[(0, .tmp 32), (1, .tmp 44), (2, .tmp 49)]) rfl 50 rfl (.slice (some ⟨y4.heap.size, 0, none⟩) 3 3) (y4.alloc (.cells #[.slice ar lB cr, .slice a8 lC c8, .slice ar lB cr] 27)) (fun o' ho => by go_simp) ?_
      refine ⟨S0H.out _ Eu1, ?_⟩
      generalize y4.alloc (.cells #[.slice ar lB cr, .slice a8 lC c8, .slice ar lB cr] 27) = u1 at Pu1 Eu1 Vu1  ⊢
      generalize y4.heap.size = s2 at Pu1 ⊢
      simp only [Act.put, List.setIfInBounds_toArray, List.set_cons_zero, List.set_cons_succ]
      refine eitherH (i := 23) (j := 24) (by kernel_rfl) ?_ ?_
      · skip
        refine opG_call (R := fun v wz => v = .agg (D.map byt).toArray ∧ Below u1.heap.size u1 wz) rfl (by rfl) (.call { callee := .value (.func 17), args := #[.tmp 50], argTypes := #[68] }) rfl 51 rfl 17 #[.slice (some ⟨s2, 0, none⟩) 3 3] (fun o' ho => by go_simp) ((sum_gen (.slice (some ⟨s2, 0, none⟩) 3 3) [(.slice ar lB cr, bB), (.slice a8 lC c8, bC), (.slice ar lB cr, bB)] BA D (by simp; rw [← HBA.h, ← HBC.h, List.append_assoc]) HD.h u1 Pu1 (HK.out.below (X2.out.be.trans (Eu1.mono X2.out.be.size)) HK.out.lt) (by rw [LBA.h]; omega) (by simp)).mono fun e wz ⟨h1, h2⟩ => ⟨_, h1, rfl, h2⟩) ?_
        rintro v u2 ⟨rfl, hbu2⟩
        have Eu2 : Below x2.heap.size x2 u2 := Eu1.trans (hbu2.mono Eu1.size)
        have Vu2 : Below y3.heap.size y3 u2 := Vu1.trans (hbu2.mono Vu1.size)
        refine ⟨S0H.out _ Eu2, ?_⟩
        simp only [Act.put, List.setIfInBounds_toArray, List.set_cons_zero, List.set_cons_succ]
        refine onlyH (i := 24) (by kernel_rfl) ?_
        have D0u3 : y3.heap.size ≤ u2.heap.size := Vu2.size
        have Nu3 : Dgt x2 (u2.alloc (.cells (z32.map byt).toArray 42)) u2.heap.size z32 := Dgt.new Eu2
        have Eu3 : Below x2.heap.size x2 (u2.alloc (.cells (z32.map byt).toArray 42)) := Eu2.alloc Eu2.size _
        have Vu3 : Below y3.heap.size y3 (u2.alloc (.cells (z32.map byt).toArray 42)) := Vu2.alloc Vu2.size _
        refine opG_run rfl (by rfl) (.alloc 42) rfl 7 rfl (.pointer (some ⟨u2.heap.size, 0, none⟩)) (u2.alloc (.cells (z32.map byt).toArray 42)) (fun o' ho => run_new42 ho u2) ?_
        refine ⟨S0H.out _ Eu3, ?_⟩
        generalize u2.alloc (.cells (z32.map byt).toArray 42) = u3 at Nu3 Eu3 Vu3 ⊢
        generalize u2.heap.size = d0 at Nu3 D0u3 ⊢
        simp only [Act.put, List.setIfInBounds_toArray, List.set_cons_zero, List.set_cons_succ]
        refine onlyH (i := 25) (by kernel_rfl) ?_
        have F : Dgt x2 (u3.setCells d0 0 (D.map byt)) d0 D := Nu3.put (by rw [DL.h]; rfl)
        have FV : Below y3.heap.size y3 (u3.setCells d0 0 (D.map byt)) := Vu3.trans ((Fx.setCells (S := One d0) d0 rfl _ _ _).below (fun k hk (e : k = d0) => by have := D0u3; omega) Vu3.size)
        refine opG_store rfl (by rfl) rfl 42 (.tmp 7) (.tmp 51) rfl d0 0 (D.map byt).toArray rfl rfl (Nu3.bl.there _ (by simp [z32, DL.h])) i42 (byts_one _) ?_
        refine ⟨S0H.out _ F.be, ?_⟩
        refine wpAnyH_done (by kernel_rfl) (NoPanic.normal ?_) _
        go_wp2
        go_meet
        exact ⟨d0, rfl, hide F, hide FV⟩
      · skip
        have Pu2 := Pu1.below (below_new u1 (.cells (z32.map byt).toArray 42))
        have D0u2 : y3.heap.size ≤ u1.heap.size := Vu1.size
        have Nu2 : Dgt x2 (u1.alloc (.cells (z32.map byt).toArray 42)) u1.heap.size z32 := Dgt.new Eu1
        have Eu2 : Below x2.heap.size x2 (u1.alloc (.cells (z32.map byt).toArray 42)) := Eu1.alloc Eu1.size _
        have Vu2 : Below y3.heap.size y3 (u1.alloc (.cells (z32.map byt).toArray 42)) := Vu1.alloc Vu1.size _
        refine opG_run rfl (by rfl) (.alloc 42) rfl 7 rfl (.pointer (some ⟨u1.heap.size, 0, none⟩)) (u1.alloc (.cells (z32.map byt).toArray 42)) (fun o' ho => run_new42 ho u1) ?_
        refine ⟨S0H.out _ Eu2, ?_⟩
        generalize u1.alloc (.cells (z32.map byt).toArray 42) = u2 at Nu2 Eu2 Vu2 Pu2 ⊢
        generalize u1.heap.size = d0 at Nu2 D0u2 ⊢
        simp only [Act.put, List.setIfInBounds_toArray, List.set_cons_zero, List.set_cons_succ]
        refine onlyH (i := 23) (by kernel_rfl) ?_
        refine opG_call (R := fun v wz => v = .agg (D.map byt).toArray ∧ Below u2.heap.size u2 wz) rfl (by rfl) (.call { callee := .value (.func 17), args := #[.tmp 50], argTypes := #[68] }) rfl 51 rfl 17 #[.slice (some ⟨s2, 0, none⟩) 3 3] (fun o' ho => by go_simp) ((sum_gen (.slice (some ⟨s2, 0, none⟩) 3 3) [(.slice ar lB cr, bB), (.slice a8 lC c8, bC), (.slice ar lB cr, bB)] BA D (by simp; rw [← HBA.h, ← HBC.h, List.append_assoc]) HD.h u2 Pu2 (HK.out.below (X2.out.be.trans (Eu2.mono X2.out.be.size)) HK.out.lt) (by rw [LBA.h]; omega) (by simp)).mono fun e wz ⟨h1, h2⟩ => ⟨_, h1, rfl, h2⟩) ?_
        rintro v u3 ⟨rfl, hbu3⟩
        have Eu3 : Below x2.heap.size x2 u3 := Eu2.trans (hbu3.mono Eu2.size)
        have Vu3 : Below y3.heap.size y3 u3 := Vu2.trans (hbu3.mono Vu2.size)
        refine ⟨S0H.out _ Eu3, ?_⟩
        simp only [Act.put, List.setIfInBounds_toArray, List.set_cons_zero, List.set_cons_succ]
        have Nu3 := Nu2.below hbu3
        have D0u3 := D0u2
        refine onlyH (i := 25) (by kernel_rfl) ?_
        have F : Dgt x2 (u3.setCells d0 0 (D.map byt)) d0 D := Nu3.put (by rw [DL.h]; rfl)
        have FV : Below y3.heap.size y3 (u3.setCells d0 0 (D.map byt)) := Vu3.trans ((Fx.setCells (S := One d0) d0 rfl _ _ _).below (fun k hk (e : k = d0) => by have := D0u3; omega) Vu3.size)
        refine opG_store rfl (by rfl) rfl 42 (.tmp 7) (.tmp 51) rfl d0 0 (D.map byt).toArray rfl rfl (Nu3.bl.there _ (by simp [z32, DL.h])) i42 (byts_one _) ?_
        refine ⟨S0H.out _ F.be, ?_⟩
        refine wpAnyH_done (by kernel_rfl) (NoPanic.normal ?_) _
        go_wp2
        go_meet
        exact ⟨d0, rfl, hide F, hide FV⟩
    · skip
      have D0u1 : y3.heap.size ≤ y4.heap.size := ys
      have Nu1 : Dgt x2 (y4.alloc (.cells (z32.map byt).toArray 42)) y4.heap.size z32 := Dgt.new Ey4
      have Eu1 : Below x2.heap.size x2 (y4.alloc (.cells (z32.map byt).toArray 42)) := Ey4.alloc Ey4.size _
      have Vu1 : Below y3.heap.size y3 (y4.alloc (.cells (z32.map byt).toArray 42)) := Vy4.alloc Vy4.size _
      refine opG_run rfl (by rfl) (.alloc 42) rfl 7 rfl (.pointer (some ⟨y4.heap.size, 0, none⟩)) (y4.alloc (.cells (z32.map byt).toArray 42)) (fun o' ho => run_new42 ho y4) ?_
      refine ⟨S0H.out _ Eu1, ?_⟩
      generalize y4.alloc (.cells (z32.map byt).toArray 42) = u1 at Nu1 Eu1 Vu1 ⊢
      generalize y4.heap.size = d0 at Nu1 D0u1 ⊢
      simp only [Act.put, List.setIfInBounds_toArray, List.set_cons_zero, List.set_cons_succ]
      refine onlyH (i := 22) (by kernel_rfl) ?_
      have Nu2 := Nu1.alloc (.cells #[.slice ar lB cr, .slice a8 lC c8, .slice ar lB cr] 27)
      have Pu2 : Parts (u1.alloc (.cells #[.slice ar lB cr, .slice a8 lC c8, .slice ar lB cr] 27)) (.slice (some ⟨u1.heap.size, 0, none⟩) 3 3) [(.slice ar lB cr, bB), (.slice a8 lC c8, bC), (.slice ar lB cr, bB)] := parts_new u1 [(.slice ar lB cr, bB), (.slice a8 lC c8, bC), (.slice ar lB cr, bB)] (three_all (HV9.out.below Vu1) (HV8.out.below Vu1) (HV9.out.below Vu1))
      have Eu2 : Below x2.heap.size x2 (u1.alloc (.cells #[.slice ar lB cr, .slice a8 lC c8, .slice ar lB cr] 27)) := Eu1.alloc Eu1.size _
      have Vu2 : Below y3.heap.size y3 (u1.alloc (.cells #[.slice ar lB cr, .slice a8 lC c8, .slice ar lB cr] 27)) := Vu1.alloc Vu1.size _
      refine opG_run rfl (by rfl) (.buildSlice 68 3 #[(0, .tmp 32), (1, .tmp 44), (2, .tmp 49)]) rfl 50 rfl (.slice (some ⟨u1.heap.size, 0, none⟩) 3 3) (u1.alloc (.cells #[.slice ar lB cr, .slice a8 lC c8, .slice ar lB cr] 27)) (fun o' ho => by go_simp) ?_
      refine ⟨S0H.out _ Eu2, ?_⟩
      generalize u1.alloc (.cells #[.slice ar lB cr, .slice a8 lC c8, .slice ar lB cr] 27) = u2 at Pu2 Eu2 Vu2 Nu2 ⊢
      generalize u1.heap.size = s2 at Pu2 ⊢
      simp only [Act.put, List.setIfInBounds_toArray, List.set_cons_zero, List.set_cons_succ]
      refine onlyH (i := 23) (by kernel_rfl) ?_
      refine opG_call (R := fun v wz => v = .agg (D.map byt).toArray ∧ Below u2.heap.size u2 wz) rfl (by rfl) (.call { callee := .value (.func 17), args := #[.tmp 50], argTypes := #[68] }) rfl 51 rfl 17 #[.slice (some ⟨s2, 0, none⟩) 3 3] (fun o' ho => by go_simp) ((sum_gen (.slice (some ⟨s2, 0, none⟩) 3 3) [(.slice ar lB cr, bB), (.slice a8 lC c8, bC), (.slice ar lB cr, bB)] BA D (by simp; rw [← HBA.h, ← HBC.h, List.append_assoc]) HD.h u2 Pu2 (HK.out.below (X2.out.be.trans (Eu2.mono X2.out.be.size)) HK.out.lt) (by rw [LBA.h]; omega) (by simp)).mono fun e wz ⟨h1, h2⟩ => ⟨_, h1, rfl, h2⟩) ?_
      rintro v u3 ⟨rfl, hbu3⟩
      have Eu3 : Below x2.heap.size x2 u3 := Eu2.trans (hbu3.mono Eu2.size)
      have Vu3 : Below y3.heap.size y3 u3 := Vu2.trans (hbu3.mono Vu2.size)
      refine ⟨S0H.out _ Eu3, ?_⟩
      simp only [Act.put, List.setIfInBounds_toArray, List.set_cons_zero, List.set_cons_succ]
      have Nu3 := Nu2.below hbu3
      have D0u3 := D0u1
      refine onlyH (i := 25) (by kernel_rfl) ?_
      have F : Dgt x2 (u3.setCells d0 0 (D.map byt)) d0 D := Nu3.put (by rw [DL.h]; rfl)
      have FV : Below y3.heap.size y3 (u3.setCells d0 0 (D.map byt)) := Vu3.trans ((Fx.setCells (S := One d0) d0 rfl _ _ _).below (fun k hk (e : k = d0) => by have := D0u3; omega) Vu3.size)
      refine opG_store rfl (by rfl) rfl 42 (.tmp 7) (.tmp 51) rfl d0 0 (D.map byt).toArray rfl rfl (Nu3.bl.there _ (by simp [z32, DL.h])) i42 (byts_one _) ?_
      refine ⟨S0H.out _ F.be, ?_⟩
      refine wpAnyH_done (by kernel_rfl) (NoPanic.normal ?_) _
      go_wp2
      go_meet
      exact ⟨d0, rfl, hide F, hide FV⟩
  case rest =>
    obtain ⟨d0, rfl, hG, hF⟩ := hcut
    have hu42 := Tryd.underlying42
    have h42l := info42l D DL.h
    have hEQ : ∀ W : World, (Op.equalIn 10000 42 (.agg (D.map byt).toArray) (.agg (D.map byt).toArray)).run Tryd.prog W = .ok true W := fun W => eq42 D DL.h W
    have hGD := guard24
    have A6 : Hid (Has wc (.slice a3 (lB + lC + lB) q3) BA) := hide (A5.out.below hF.out)
    have RM6 : Hid (Has wc (.slice ar (lB + lC + 3) cr) (BC ++ marks)) := hide (RM.out.below hF.out)
    clear A5 RM hF
    go_upto_region 6 with fail
    refine wp_region_noPanic ?_
    refine wp_region_held (S := fun y => (y.cell? ⟨bx, 3, none⟩ = some (.slice aB lB cB) ∧ y.cell? ⟨bx, 4, none⟩ = some (.slice aC lC cC)) ∧ y.rangeAt d0 0 (D.map byt)) (by kernel_rfl) ?_
    have S6 : Hid (∀ y, Below wc.heap.size wc y → (y.cell? ⟨bx, 3, none⟩ = some (.slice aB lB cB) ∧ y.cell? ⟨bx, 4, none⟩ = some (.slice aC lC cC)) ∧ y.rangeAt d0 0 (D.map byt)) := hide (fun y hy => ⟨S0H.out y (hG.out.below hy).be, (hG.out.below hy).rg⟩)
    have T0 : Below wc.heap.size wc { wc with drawn := wc.drawn + 1 } := (Below.refl _ _).drew
    generalize { wc with drawn := wc.drawn + 1 } = t0 at T0 ⊢
    refine takeH_load (i := 0) rfl 52 rfl 42 (.tmp 7) rfl (by kernel_rfl) (by kernel_rfl) (by kernel_rfl) (fun _ _ _ h => h) (by rfl) d0 0 rfl (D.map byt) rfl (fun W hW => hW.2) hu42 rfl h42l (S6.out _ T0) ?_
    simp only [Act.put, List.setIfInBounds_toArray, List.set_cons_zero, List.set_cons_succ]
    refine takeH (i := 1) rfl (.move (.tmp 5)) rfl 53 rfl (v := (.slice a3 (lB + lC + lB) q3)) (by kernel_rfl) (by kernel_rfl) (by kernel_rfl) (fun _ _ _ h => h) (by rfl) (fun o' ho W hW => by clear hW; go_simp) (S6.out _ T0) ?_
    simp only [Act.put, List.setIfInBounds_toArray, List.set_cons_zero, List.set_cons_succ]
    refine onlyH (i := 2) (by kernel_rfl) ?_
    refine opG_call (R := fun v wz => v = .agg (D.map byt).toArray ∧ Below wc.heap.size wc wz) rfl (by rfl) (.call { callee := .value (.func 28), args := #[.tmp 53], argTypes := #[27] }) rfl 54 rfl 28 #[.slice a3 (lB + lC + lB) q3] (fun o' ho => by go_simp) ((refsum_is (.slice a3 (lB + lC + lB) q3) BA D HD.h t0 (A6.out.below T0) (by rw [LBA.h]; exact hL) (HR.out.below (X2.out.be.trans ((hG.out.below T0).be.mono X2.out.be.size)) HR.out.lt) (HS.out.below (X2.out.be.trans ((hG.out.below T0).be.mono X2.out.be.size)) HS.out.lt)).mono fun e wz ⟨h1, h2⟩ => ⟨_, h1, rfl, T0.trans (h2.mono T0.size)⟩) ?_
    rintro v t1 ⟨rfl, T1⟩
    refine ⟨S6.out _ T1, ?_⟩
    simp only [Act.put, List.setIfInBounds_toArray, List.set_cons_zero, List.set_cons_succ]
    refine takeH (i := 3) rfl (.binOp .eql 42 (.tmp 52) (.tmp 54) 42) rfl 55 rfl (v := (.bool true)) (by kernel_rfl) (by kernel_rfl) (by kernel_rfl) (fun _ _ _ h => h) (by rfl) (fun o' ho W hW => by clear hW; go_simp) (S6.out _ T1) ?_
    simp only [Act.put, List.setIfInBounds_toArray, List.set_cons_zero, List.set_cons_succ]
    refine takeH (i := 4) rfl (.move (.tmp 55)) rfl 56 rfl (v := (.bool true)) (by kernel_rfl) (by kernel_rfl) (by kernel_rfl) (fun _ _ _ h => h) (by rfl) (fun o' ho W hW => by clear hW; go_simp) (S6.out _ T1) ?_
    simp only [Act.put, List.setIfInBounds_toArray, List.set_cons_zero, List.set_cons_succ]
    refine takeH (i := 5) rfl (.move (.tmp 6)) rfl 57 rfl (v := (.slice ar (lB + lC + 3) cr)) (by kernel_rfl) (by kernel_rfl) (by kernel_rfl) (fun _ _ _ h => h) (by rfl) (fun o' ho W hW => by clear hW; go_simp) (S6.out _ T1) ?_
    simp only [Act.put, List.setIfInBounds_toArray, List.set_cons_zero, List.set_cons_succ]
    refine takeH (i := 6) rfl (.fieldAddr 37 (.tmp 3) 3) rfl 58 rfl (v := (.pointer (some ⟨bx, 3, none⟩))) (by kernel_rfl) (by kernel_rfl) (by kernel_rfl) (fun _ _ _ h => h) (by rfl) (fun o' ho W hW => by clear hW; go_simp) (S6.out _ T1) ?_
    simp only [Act.put, List.setIfInBounds_toArray, List.set_cons_zero, List.set_cons_succ]
    refine takeH (i := 7) rfl (.load 27 (.tmp 58)) rfl 59 rfl (v := (.slice aB lB cB)) (by kernel_rfl) (by kernel_rfl) (by kernel_rfl) (fun _ _ _ h => h) (by rfl) (fun o' ho W hW => by obtain ⟨⟨s1, s2⟩, s3⟩ := hW; clear s3; go_simp) (S6.out _ T1) ?_
    simp only [Act.put, List.setIfInBounds_toArray, List.set_cons_zero, List.set_cons_succ]
    refine takeH (i := 9) rfl (.fieldAddr 37 (.tmp 3) 4) rfl 61 rfl (v := (.pointer (some ⟨bx, 4, none⟩))) (by kernel_rfl) (by kernel_rfl) (by kernel_rfl) (fun _ _ _ h => h) (by rfl) (fun o' ho W hW => by clear hW; go_simp) (S6.out _ T1) ?_
    simp only [Act.put, List.setIfInBounds_toArray, List.set_cons_zero, List.set_cons_succ]
    refine takeH (i := 10) rfl (.load 27 (.tmp 61)) rfl 62 rfl (v := (.slice aC lC cC)) (by kernel_rfl) (by kernel_rfl) (by kernel_rfl) (fun _ _ _ h => h) (by rfl) (fun o' ho W hW => by obtain ⟨⟨s1, s2⟩, s3⟩ := hW; clear s3; go_simp) (S6.out _ T1) ?_
    simp only [Act.put, List.setIfInBounds_toArray, List.set_cons_zero, List.set_cons_succ]
    refine onlyH (i := 8) (by kernel_rfl) ?_
    refine opG_app rfl (by rfl) (.const (.slice none 0 0)) (.tmp 59) rfl 60 rfl t1.heap.size (.slice none 0 0) ([]) rfl (Own.nil _ _) (.slice aB lB cB) (bB) rfl (HB.out.below (X2.out.be.trans ((hG.out.below T1).be.mono X2.out.be.size))) (by rw [HLB.h]; simp; omega) (Nat.le_refl _) ?_
    intro v6 t2 ho6 hg6
    rw [show [] ++ bB = bB from List.nil_append bB] at ho6
    obtain ⟨a6, q6, rfl⟩ := ho6.slice
    rw [HLB.h] at ho6 ⊢
    have I2 : Below t1.heap.size t1 t2 := (Below.refl _ _).grown hg6 (Nat.le_refl _) (fun k hk => by cases hk)
    have T2 := T1.trans (I2.mono T1.size)
    refine ⟨S6.out _ T2, ?_⟩
    simp only [Act.put, List.setIfInBounds_toArray, List.set_cons_zero, List.set_cons_succ]
    refine onlyH (i := 11) (by kernel_rfl) ?_
    refine opG_app rfl (by rfl) (.tmp 60) (.tmp 62) rfl 63 rfl t1.heap.size (.slice a6 lB q6) (bB) rfl (ho6) (.slice aC lC cC) (bC) rfl (HC.out.below (X2.out.be.trans ((hG.out.below T2).be.mono X2.out.be.size))) (by rw [HLB.h, HLC.h]; omega) (I2.size) ?_
    intro v7 t3 ho7 hg7
    rw [show bB ++ bC = BC from HBC.h] at ho7
    obtain ⟨a7, q7, rfl⟩ := ho7.slice
    rw [LBC.h] at ho7 ⊢
    have I3 : Below t1.heap.size t1 t3 := I2.grown hg7 I2.size ho6.ownBlock
    have T3 := T1.trans (I3.mono T1.size)
    refine ⟨S6.out _ T3, ?_⟩
    simp only [Act.put, List.setIfInBounds_toArray, List.set_cons_zero, List.set_cons_succ]
    refine onlyH (i := 12) (by kernel_rfl) ?_
    refine opG_call (R := fun v wz => v = .bool true ∧ Below wc.heap.size wc wz) rfl (by rfl) (.call { callee := .value (.func 29), args := #[.tmp 57, .tmp 63], argTypes := #[27, 27] }) rfl 64 rfl 29 #[.slice ar (lB + lC + 3) cr, .slice a7 (lB + lC) q7] (fun o' ho => by go_simp) ((kept_yes (.slice ar (lB + lC + 3) cr) (.slice a7 (lB + lC) q7) BC t3 (RM6.out.below T3) ho7.has (by rw [LBC.h]; omega)).mono fun e wz ⟨h1, h2⟩ => ⟨_, h1, rfl, T3.trans (h2.mono T3.size)⟩) ?_
    rintro v t4 ⟨rfl, T4⟩
    refine ⟨S6.out _ T4, ?_⟩
    simp only [Act.put, List.setIfInBounds_toArray, List.set_cons_zero, List.set_cons_succ]
    refine takeH (i := 13) rfl (.pick (.tmp 56) (.tmp 64) (.const (.bool false))) rfl 65 rfl (v := (.bool true)) (by kernel_rfl) (by kernel_rfl) (by kernel_rfl) (fun _ _ _ h => h) (by rfl) (fun o' ho W hW => by clear hW; go_simp) (S6.out _ T4) ?_
    simp only [Act.put, List.setIfInBounds_toArray, List.set_cons_zero, List.set_cons_succ]
    refine takeH (i := 14) rfl (.assign (.tmp 65)) rfl 4 rfl (v := (.bool true)) (by kernel_rfl) (by kernel_rfl) (by kernel_rfl) (fun _ _ _ h => h) (by rfl) (fun o' ho W hW => by clear hW; go_simp) (S6.out _ T4) ?_
    simp only [Act.put, List.setIfInBounds_toArray, List.set_cons_zero, List.set_cons_succ]
    refine wpAnyH_done (by kernel_rfl) (NoPanic.normal ?_) _
    have X9 : Hid (Tb w t4 p hs vs ms ms) := hide ((X2.out.below hG.out.be).below T4)
    clear T0 T1 T2 T3 T4 S6 ho6 ho7 hg6 hg7
    go_wp2
    go_ret
    exact ⟨rfl, _, _, _, X9.out, HMS.out, fun i hi => Nat.le_trans (HL.out i hi) (Nat.le_add_right _ _)⟩
end Go.Proofs.YtablmkijlpoaaaaDoor
