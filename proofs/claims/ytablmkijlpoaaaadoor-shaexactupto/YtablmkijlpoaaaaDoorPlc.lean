import Derived.Test.YtablmkijlpoaaaaDoorSk
namespace Go.Proofs.YtablmkijlpoaaaaDoor
open Go.RowKit

theorem comp_is (s : List (BitVec 32)) (b : List UInt8) (S : List (BitVec 32)) (hS : comp s b = S) (hs : s.length = 8) (hb : b.length = 64) (w : World) (hk : Kst w) :
    Calls Tryd.prog 30 #[.agg (wvs s).toArray, .agg (b.map byt).toArray] w fun e w' => e = .returned (.agg (wvs S).toArray) ∧ Below w.heap.size w w' := by
  subst hS
  exact comp_any s hs b hb w hk
theorem eqWords_same (L : List (BitVec 32)) (d : Nat) (W : World) : ∀ is : List Nat, (∀ i ∈ is, i < L.length) → (Op.eqItems (d + 1) 33 1 (wvs L).toArray (wvs L).toArray is).run Tryd.prog W = .ok true W
  | [], _ => by simp [Op.eqItems]
  | i :: is, h => by
    have hi := h i (by simp)
    have hp : (part 33 (wvs L).toArray (i * 1)).run Tryd.prog W = .ok (.int .u32 (wn (L.getD i 0))) W := by
      have h1 : (wvs L).toArray[i]? = some (.int .u32 (wn (L.getD i 0))) := by rw [List.getElem?_toArray, wvs_at L i hi]
      simp only [part, Sem.run_bind, Tryd.isAgg33, Result.andThen_ok, Nat.mul_one, h1]
      simp
    have he := run_equalIn_int (P := Tryd.prog) W d 33 .u32 .u32 (wn (L.getD i 0)) (wn (L.getD i 0)) Tryd.underlying33
    simp only [Op.eqItems, Sem.run_bind, hp, he, Result.andThen_ok]
    simp
    exact eqWords_same L d W is (fun j hj => h j (by simp [hj]))
theorem Tryd.info33 : (Tryd.prog.info? 33).map (fun i => (i.zero, i.size, i.bytes)) = some (some (.int .u32 0), 1, 4) := by kernel_rfl
theorem eq34 (L : List (BitVec 32)) (hl : L.length = 8) (W : World) : (Op.equalIn 10000 34 (.agg (wvs L).toArray) (.agg (wvs L).toArray)).run Tryd.prog W = .ok true W := by
  obtain ⟨i0, hi, _⟩ := info_parts Tryd.info33
  rw [run_equalIn_array W 9999 (wvs L).toArray (wvs L).toArray Tryd.underlying34 hi]
  have hc : Tryd.prog.cellsOf 33 = 1 := by kernel_rfl
  rw [hc]
  exact eqWords_same L 9998 W _ (fun i hi => by rw [hl]; exact List.mem_range.1 hi)
theorem guard34 : Tryd.prog.eqGuardType Tryd.prog.depth 34 = false := by kernel_rfl

set_option maxHeartbeats 1000000 in
set_option maxRecDepth 100000 in
/-- 'plays' of KCompress. -/
theorem plays_comp (p : Nat) (hs : List Nat) (vs : List Value) (ms : List (List UInt8)) (which tw : Int) (vB vC : Value) (d : Nat) (st : List (BitVec 32)) (bl : List UInt8) (L : Nat) (w x : World)
    (hT : Tb w x p hs vs ms ms) (hms : ms.length = 3) (hst : st.length = 8) (hbl : bl.length = 64) (hK : Kst w) (hR : Rst w) (hlen : ∀ i, i < 3 → (ms.getD i []).length ≤ L) :
    Calls Tryd.prog 11 #[.pointer (some ⟨p, 0, none⟩), .agg (opC 2 which tw vB vC st bl).toArray] x fun e y => e = .returned (.bool true) ∧ ∃ hs' vs' ms', Tb w y p hs' vs' ms' ms' ∧ ms'.length = 3 ∧ ∀ i, i < 3 → (ms'.getD i []).length ≤ L + d := by
  have HT := hide hT
  have HMS := hide hms
  have HK := hide hK
  have HR := hide hR
  have HL := hide hlen
  have SL : Lk st.length 8 := ⟨hst⟩
  have BL : Lk bl.length 64 := ⟨hbl⟩
  obtain ⟨CC, hCC⟩ : ∃ C, comp st bl = C := ⟨_, rfl⟩
  have HCC : Lk (comp st bl) CC := ⟨hCC⟩
  have CL : CC.length = 8 := by rw [← hCC, comp_length]; exact hst
  obtain ⟨oc, hoc⟩ : ∃ oc, opC 2 which tw vB vC st bl = oc := ⟨_, rfl⟩
  have o0 : oc[0]? = some (.int .i64 2) := by rw [← hoc]; rfl
  have orow : ∀ (y : World) (b : Nat), Blk y b oc 37 → y.rangeAt b 5 (wvs st) ∧ y.rangeAt b 13 (bl.map byt) := by
    intro y b hb
    have hl : (wvs st).length = 8 := by rw [wvs_length]; exact hst
    refine ⟨fun j v hv => ?_, fun j v hv => ?_⟩
    · have hj : j < (wvs st).length := (List.getElem?_eq_some_iff.1 hv).1
      rw [hb.cell, ← hoc, opC, List.getElem?_append_right (by simp), List.getElem?_append_left (by simp; omega)]
      simpa using hv
    · rw [hb.cell, ← hoc, opC, List.getElem?_append_right (by simp; omega), List.getElem?_append_right (by simp; omega), hl]
      simp only [List.length_cons, List.length_nil]
      rw [show 13 + j - (0 + 1 + 1 + 1 + 1 + 1) - 8 = j by omega]
      exact hv
  rw [hoc]
  have O0 : Lk oc[0]? (some (.int .i64 2)) := ⟨o0⟩
  have OR := hide orow
  have h34 : (Tryd.prog.info? 34).map (·.size) = some (wvs st).length := by rw [wvs_length, hst]; kernel_rfl
  have h35 : (Tryd.prog.info? 35).map (·.size) = some (bl.map byt).length := by rw [List.length_map, hbl]; kernel_rfl
  have hEQ : ∀ W : World, (Op.equalIn 10000 34 (.agg (wvs CC).toArray) (.agg (wvs CC).toArray)).run Tryd.prog W = .ok true W := fun W => eq34 CC CL W
  have hGD := guard34
  clear hoc o0 orow hCC CL hT hms hst hbl hK hR hlen
  go_enter Tryd.func11, Tryd.ntmps11
  go_upto_region 1 with (first
    | (refine wpList_boxAt rfl 37 _ rfl oc rfl x.heap.size rfl ?_)
    | fail)
  have X2 : Hid (Tb w (x.alloc (.cells oc.toArray 37)) p hs vs ms ms) := HT.out.below (below_new x _)
  have OB : Hid (Blk (x.alloc (.cells oc.toArray 37)) x.heap.size oc 37) := Blk.new x _ _
  have c0 := (OB.out.cell 0).trans O0.h
  generalize x.alloc (.cells oc.toArray 37) = x2 at X2 OB c0 ⊢
  generalize x.heap.size = bx at OB c0 ⊢
  clear HT
  go_upto_region 8 with fail
  clear c0
  refine wp_region_noPanic ?_
  refine wp_region_held (S := fun y => y.rangeAt bx 5 (wvs st) ∧ y.rangeAt bx 13 (bl.map byt)) (by kernel_rfl) ?_
  have Z0 : Below x2.heap.size x2 { x2 with drawn := x2.drawn + 1 } := (Below.refl _ _).drew
  have S0H : Hid (∀ y, Below x2.heap.size x2 y → y.rangeAt bx 5 (wvs st) ∧ y.rangeAt bx 13 (bl.map byt)) := hide (fun y hy => OR.out y bx (OB.out.below hy OB.out.lt))
  generalize { x2 with drawn := x2.drawn + 1 } = z0 at Z0 ⊢
  refine takeH (i := 0) rfl (.fieldAddr 37 (.tmp 3) 5) rfl 68 rfl (v := (.pointer (some ⟨bx, 5, none⟩))) (by kernel_rfl) (by kernel_rfl) (by kernel_rfl) (fun _ _ _ h => h) (by rfl) (fun o' ho W hW => by clear hW; go_simp) (S0H.out _ Z0) ?_
  simp only [Act.put, List.setIfInBounds_toArray, List.set_cons_zero, List.set_cons_succ]
  refine takeH_load (i := 1) rfl 69 rfl 34 (.tmp 68) rfl (by kernel_rfl) (by kernel_rfl) (by kernel_rfl) (fun _ _ _ h => h) (by rfl) bx 5 rfl (wvs st) rfl (fun W hW => hW.1) Tryd.underlying34 rfl h34 (S0H.out _ Z0) ?_
  simp only [Act.put, List.setIfInBounds_toArray, List.set_cons_zero, List.set_cons_succ]
  refine takeH (i := 2) rfl (.fieldAddr 37 (.tmp 3) 6) rfl 70 rfl (v := (.pointer (some ⟨bx, 13, none⟩))) (by kernel_rfl) (by kernel_rfl) (by kernel_rfl) (fun _ _ _ h => h) (by rfl) (fun o' ho W hW => by clear hW; go_simp) (S0H.out _ Z0) ?_
  simp only [Act.put, List.setIfInBounds_toArray, List.set_cons_zero, List.set_cons_succ]
  refine takeH_load (i := 3) rfl 71 rfl 35 (.tmp 70) rfl (by kernel_rfl) (by kernel_rfl) (by kernel_rfl) (fun _ _ _ h => h) (by rfl) bx 13 rfl (bl.map byt) rfl (fun W hW => hW.2) Tryd.underlying35 rfl h35 (S0H.out _ Z0) ?_
  simp only [Act.put, List.setIfInBounds_toArray, List.set_cons_zero, List.set_cons_succ]
  refine takeH (i := 5) rfl (.fieldAddr 37 (.tmp 3) 5) rfl 73 rfl (v := (.pointer (some ⟨bx, 5, none⟩))) (by kernel_rfl) (by kernel_rfl) (by kernel_rfl) (fun _ _ _ h => h) (by rfl) (fun o' ho W hW => by clear hW; go_simp) (S0H.out _ Z0) ?_
  simp only [Act.put, List.setIfInBounds_toArray, List.set_cons_zero, List.set_cons_succ]
  refine takeH_load (i := 6) rfl 74 rfl 34 (.tmp 73) rfl (by kernel_rfl) (by kernel_rfl) (by kernel_rfl) (fun _ _ _ h => h) (by rfl) bx 5 rfl (wvs st) rfl (fun W hW => hW.1) Tryd.underlying34 rfl h34 (S0H.out _ Z0) ?_
  simp only [Act.put, List.setIfInBounds_toArray, List.set_cons_zero, List.set_cons_succ]
  refine takeH (i := 7) rfl (.fieldAddr 37 (.tmp 3) 6) rfl 75 rfl (v := (.pointer (some ⟨bx, 13, none⟩))) (by kernel_rfl) (by kernel_rfl) (by kernel_rfl) (fun _ _ _ h => h) (by rfl) (fun o' ho W hW => by clear hW; go_simp) (S0H.out _ Z0) ?_
  simp only [Act.put, List.setIfInBounds_toArray, List.set_cons_zero, List.set_cons_succ]
  refine takeH_load (i := 8) rfl 76 rfl 35 (.tmp 75) rfl (by kernel_rfl) (by kernel_rfl) (by kernel_rfl) (fun _ _ _ h => h) (by rfl) bx 13 rfl (bl.map byt) rfl (fun W hW => hW.2) Tryd.underlying35 rfl h35 (S0H.out _ Z0) ?_
  simp only [Act.put, List.setIfInBounds_toArray, List.set_cons_zero, List.set_cons_succ]
  refine onlyH (i := 4) (by kernel_rfl) ?_
  refine opG_call (R := fun v wz => v = .agg (wvs CC).toArray ∧ Below x2.heap.size x2 wz) rfl (by rfl) (.call { callee := .value (.func 30), args := #[.tmp 69, .tmp 71], argTypes := #[34, 35] }) rfl 72 rfl 30 #[.agg (wvs st).toArray, .agg (bl.map byt).toArray] (fun o' ho => by go_simp) ((comp_is st bl CC HCC.h SL.h BL.h z0 (HK.out.below (X2.out.be.trans (Z0.mono X2.out.be.size)) HK.out.lt)).mono fun e wz ⟨h1, h2⟩ => ⟨_, h1, rfl, Z0.trans (h2.mono Z0.size)⟩) ?_
  rintro v z1 ⟨rfl, Z1⟩
  refine ⟨S0H.out _ Z1, ?_⟩
  simp only [Act.put, List.setIfInBounds_toArray, List.set_cons_zero, List.set_cons_succ]
  refine onlyH (i := 9) (by kernel_rfl) ?_
  refine opG_call (R := fun v wz => v = .agg (wvs CC).toArray ∧ Below x2.heap.size x2 wz) rfl (by rfl) (.call { callee := .value (.func 31), args := #[.tmp 74, .tmp 76], argTypes := #[34, 35] }) rfl 77 rfl 31 #[.agg (wvs st).toArray, .agg (bl.map byt).toArray] (fun o' ho => by go_simp) ((block_is st bl CC HCC.h SL.h BL.h z1 (HR.out.below (X2.out.be.trans (Z1.mono X2.out.be.size)) HR.out.lt)).mono fun e wz ⟨h1, h2⟩ => ⟨_, h1, rfl, Z1.trans (h2.mono Z1.size)⟩) ?_
  rintro v z2 ⟨rfl, Z2⟩
  refine ⟨S0H.out _ Z2, ?_⟩
  simp only [Act.put, List.setIfInBounds_toArray, List.set_cons_zero, List.set_cons_succ]
  refine takeH (i := 10) rfl (.binOp .eql 34 (.tmp 72) (.tmp 77) 34) rfl 78 rfl (v := (.bool true)) (by kernel_rfl) (by kernel_rfl) (by kernel_rfl) (fun _ _ _ h => h) (by rfl) (fun o' ho W hW => by clear hW; go_simp) (S0H.out _ Z2) ?_
  simp only [Act.put, List.setIfInBounds_toArray, List.set_cons_zero, List.set_cons_succ]
  refine takeH (i := 11) rfl (.assign (.tmp 78)) rfl 4 rfl (v := (.bool true)) (by kernel_rfl) (by kernel_rfl) (by kernel_rfl) (fun _ _ _ h => h) (by rfl) (fun o' ho W hW => by clear hW; go_simp) (S0H.out _ Z2) ?_
  simp only [Act.put, List.setIfInBounds_toArray, List.set_cons_zero, List.set_cons_succ]
  refine wpAnyH_done (by kernel_rfl) (NoPanic.normal ?_) _
  have X9 := hide (X2.out.below Z2)
  clear Z0 Z1 Z2 S0H
  go_wp2
  go_ret
  exact ⟨rfl, _, _, _, X9.out, HMS.out, fun i hi => Nat.le_trans (HL.out i hi) (Nat.le_add_right _ _)⟩
end Go.Proofs.YtablmkijlpoaaaaDoor
