import Derived.Test.YtacancfmgnmpiaaPr
set_option linter.unusedVariables false
set_option linter.unusedSimpArgs false
namespace Go.Proofs.Ytacancfmgnmpiaa
open Go.RowKit

section
variable {P : Program} {ops : Array Oper} {Q : Exit → Act → World → Prop} {S : World → Prop}
theorem uni_midG {o : Oper} {a : Act} (hw : Region.wanted o (yielded ops a.tmps) = true) (ty : TypeId) (x : Operand) (ho : o.op = .load ty x) (g off : Nat) (cs : List Value) (hx : a.eval x = .pointer (some ⟨g, off, none⟩))
    (hb : ∀ W, S W → W.rangeAt g off cs) {d : TypeDesc} (hu : P.underlying ty = some d) (hd : d.isRow = true) (hi : (P.info? ty).map (·.size) = some cs.length) : Uni P ops S o (.agg cs.toArray) a := by
  refine .inl ⟨hw, .inl fun W hW => ?_⟩
  unfold execOp
  simp only [ho, hx, Instr.loadAt, Instr.sureAddr, Sem.run_bind, Sem.run_pure, Result.andThen_ok, run_loadVar_mid W g off ty cs d (hb W hW) hu hd hi]
end
theorem pair_at0 {C B : List UInt8} (hC : C.length = 32) : ∀ j, j < (C.map byt).length → ((C ++ B).map byt)[0 + j]? = (C.map byt)[j]? := fun j hj => by
  rw [Nat.zero_add, List.map_append, List.getElem?_append_left hj]
theorem pair_at1 {C B : List UInt8} (hC : C.length = 32) : ∀ j, j < (B.map byt).length → ((C ++ B).map byt)[32 + j]? = (B.map byt)[j]? := fun j hj => by
  have hl : (C.map byt).length = 32 := by simp [hC]
  rw [List.map_append, List.getElem?_append_right (by omega), hl]
  congr 1
  omega

set_option maxRecDepth 100000 in
set_option maxHeartbeats 8000000 in
theorem agrees_walk (a b CA BA CB BB X : List UInt8) (la : a.length = 32) (lb : b.length = 32) (lCA : CA.length = 32) (lBA : BA.length = 32) (lCB : CB.length = 32) (lBB : BB.length = 32) (lX : X.length = 32) (lPA : (CA ++ BA).length = 64) (lPB : (CB ++ BB).length = 64)
    (n1 : ∀ (g c : Nat) (W : World), g < W.heap.size → W.rangeAt g 0 (a.map byt) → Calls Try.prog 12 #[.slice (some ⟨g, 0, none⟩) 32 c] W fun e w' => e = .returned (.tuple #[.agg ((CA ++ BA).map byt).toArray, .int .i64 0]) ∧ Below W.heap.size W w')
    (n2 : ∀ (g c : Nat) (W : World), g < W.heap.size → W.rangeAt g 0 (b.map byt) → Calls Try.prog 12 #[.slice (some ⟨g, 0, none⟩) 32 c] W fun e w' => e = .returned (.tuple #[.agg ((CB ++ BB).map byt).toArray, .int .i64 0]) ∧ Below W.heap.size W w')
    (c1 : ∀ W, Calls Try.prog 13 #[.agg (CA.map byt).toArray, .agg (BB.map byt).toArray] W fun e w' => e = .returned (.tuple #[.agg (X.map byt).toArray, .int .i64 0]) ∧ Below W.heap.size W w') (c2 : ∀ W, Calls Try.prog 13 #[.agg (CB.map byt).toArray, .agg (BA.map byt).toArray] W fun e w' => e = .returned (.tuple #[.agg (X.map byt).toArray, .int .i64 0]) ∧ Below W.heap.size W w') (c3 : ∀ W, Calls Try.prog 14 #[.agg (b.map byt).toArray] W fun e w' => e = .returned (.agg (BB.map byt).toArray) ∧ Below W.heap.size W w') (c4 : ∀ W, Calls Try.prog 10 #[.agg (a.map byt).toArray, .agg (BB.map byt).toArray] W fun e w' => e = .returned (.agg (X.map byt).toArray) ∧ Below W.heap.size W w') (c5 : ∀ W, Calls Try.prog 11 #[.agg (a.map byt).toArray] W fun e w' => e = .returned (.agg (CA.map byt).toArray) ∧ Below W.heap.size W w') (c6 : ∀ W, Calls Try.prog 14 #[.agg (a.map byt).toArray] W fun e w' => e = .returned (.agg (BA.map byt).toArray) ∧ Below W.heap.size W w')
    (he1 : ∀ W, (Op.equalIn 10000 24 (.agg (X.map byt).toArray) (.agg (X.map byt).toArray)).run Try.prog W = .ok true W)
    (he2 : ∀ W, (Op.equalIn 10000 24 (.agg (CA.map byt).toArray) (.agg (CA.map byt).toArray)).run Try.prog W = .ok true W)
    (he3 : ∀ W, (Op.equalIn 10000 24 (.agg (BA.map byt).toArray) (.agg (BA.map byt).toArray)).run Try.prog W = .ok true W)
    (w : World) : Calls Try.prog 5 #[.agg (a.map byt).toArray, .agg (b.map byt).toArray] w fun e w' => e = .returned (.bool true) ∧ Below w.heap.size w w' := by
  go_enter Try.func5, Try.ntmps5
  go_upto_region 1 with (first | (refine wpList_boxAt rfl 24 (.tmp 0) rfl (a.map byt) rfl (w.heap.size) rfl ?_) | (refine wpList_boxAt rfl 24 (.tmp 1) rfl (b.map byt) rfl (w.heap.size + 1) (by simp) ?_))
  have b0 : Blk ((w.alloc (.cells (a.map byt).toArray 24)).alloc (.cells (b.map byt).toArray 24)) (w.heap.size) (a.map byt) 24 := by
    have := (Blk.new w (a.map byt) 24).alloc (.cells (b.map byt).toArray 24)
    simpa using this
  have b1 : Blk ((w.alloc (.cells (a.map byt).toArray 24)).alloc (.cells (b.map byt).toArray 24)) (w.heap.size + 1) (b.map byt) 24 := by
    have := Blk.new (w.alloc (.cells (a.map byt).toArray 24)) (b.map byt) 24
    simpa using this
  have be : Below w.heap.size w ((w.alloc (.cells (a.map byt).toArray 24)).alloc (.cells (b.map byt).toArray 24)) := by go_grown
  generalize ((w.alloc (.cells (a.map byt).toArray 24)).alloc (.cells (b.map byt).toArray 24)) = w1 at b0 b1 be ⊢
  obtain ⟨n, hn⟩ : ∃ n, w.heap.size = n := ⟨_, rfl⟩
  rw [hn] at b0 b1 be ⊢
  try simp only [Act.put, List.setIfInBounds_toArray, List.set_cons_zero, List.set_cons_succ]
  refine lst_then 5 ?_
  simp only [List.take_succ_cons, List.take_zero]
  refine wpLex_cons2 _ (uni_val (by rfl) (Op.slice 24 (Operand.tmp 2) none none none) rfl (.slice (some ⟨n, 0, none⟩) 32 32) (fun o' ho W _ => by go_simp)) (by simp only [Act.put, List.setIfInBounds_toArray, List.set_cons_zero, List.set_cons_succ]; rfl) ?_
  refine wpLex_cons2 _ (uni_callF (by rfl) 12 [Operand.tmp 16] #[33] rfl [.slice (some ⟨n, 0, none⟩) 32 32] (.tuple #[.agg ((CA ++ BA).map byt).toArray, .int .i64 0]) rfl enter12 (fun W hW => n1 n 32 W (b0.on hW).lt ((b0.on hW).range (fun j _ => by rw [Nat.zero_add])))) (by simp only [Act.put, List.setIfInBounds_toArray, List.set_cons_zero, List.set_cons_succ]; rfl) ?_
  refine wpLex_cons2 _ (uni_val (by rfl) (Op.move (Operand.tmp 17)) rfl ((.tuple #[.agg ((CA ++ BA).map byt).toArray, .int .i64 0])) (fun o' ho W _ => by go_simp)) (by simp only [Act.put, List.setIfInBounds_toArray, List.set_cons_zero, List.set_cons_succ]; rfl) ?_
  refine wpLex_cons2 _ (uni_val (by rfl) (Op.extract (Operand.tmp 15) 0) rfl (.agg ((CA ++ BA).map byt).toArray) (fun o' ho W _ => by go_simp)) (by simp only [Act.put, List.setIfInBounds_toArray, List.set_cons_zero, List.set_cons_succ]; rfl) ?_
  refine wpLex_cons2 _ (uni_val (by rfl) (Op.extract (Operand.tmp 15) 1) rfl (.int .i64 0) (fun o' ho W _ => by go_simp)) (by simp only [Act.put, List.setIfInBounds_toArray, List.set_cons_zero, List.set_cons_succ]; rfl) ?_
  intro wy hW
  simp only [List.drop_succ_cons, List.drop_zero]
  replace b0 := b0.on hW
  replace b1 := b1.on hW
  replace be := be.trans (hW.mono (by have := be.size; omega))
  clear hW
  obtain ⟨gpa, hgpa⟩ : ∃ g, wy.heap.size = g := ⟨_, rfl⟩
  refine wpList_newAt rfl 29 rfl (z64.map byt) zero29 gpa hgpa ?_
  simp only [Act.put, List.setIfInBounds_toArray, List.set_cons_zero, List.set_cons_succ]
  have ltb0 := b0.lt
  have ltb1 := b1.lt
  have pa := Blk.new wy (z64.map byt) 29
  rw [hgpa] at pa ltb0 ltb1
  have hsz := be.size
  rw [hgpa, hn] at hsz
  replace b0 := b0.alloc (.cells (z64.map byt).toArray 29)
  replace b1 := b1.alloc (.cells (z64.map byt).toArray 29)
  replace be := be.alloc (by rw [hgpa]; exact hsz) (.cells (z64.map byt).toArray 29)
  generalize wy.alloc (.cells (z64.map byt).toArray 29) = wv at pa be ⊢ b0 b1
  refine lst_row rfl rfl 29 (.tmp 5) (.tmp 18) rfl gpa ((CA ++ BA).map byt) (z64.map byt) 29 rfl rfl pa (pair_info lPA) (pair_len lPA) (byts_one _) ?_
  replace pa := pa.setRow ((CA ++ BA).map byt)
  replace b0 := b0.setRowOther gpa ((CA ++ BA).map byt).toArray (by omega)
  replace b1 := b1.setRowOther gpa ((CA ++ BA).map byt).toArray (by omega)
  replace be := below_setRow be gpa ((CA ++ BA).map byt).toArray hsz
  generalize wv.setRow gpa ((CA ++ BA).map byt).toArray = w2 at pa be ⊢ b0 b1
  clear hgpa hsz ltb0 ltb1 wv wy w1
  refine lst_val rfl (Op.assign (Operand.tmp 19)) rfl (.int .i64 0) (fun o' ho => by go_simp) (by simp only [Act.put, List.setIfInBounds_toArray, List.set_cons_zero, List.set_cons_succ]; rfl) ?_
  refine wpList_nil ?_
  go_upto_region 2 with fail
  refine lst_then 5 ?_
  simp only [List.take_succ_cons, List.take_zero]
  refine wpLex_cons2 _ (uni_val (by rfl) (Op.slice 24 (Operand.tmp 3) none none none) rfl (.slice (some ⟨n + 1, 0, none⟩) 32 32) (fun o' ho W _ => by go_simp)) (by simp only [Act.put, List.setIfInBounds_toArray, List.set_cons_zero, List.set_cons_succ]; rfl) ?_
  refine wpLex_cons2 _ (uni_callF (by rfl) 12 [Operand.tmp 21] #[33] rfl [.slice (some ⟨n + 1, 0, none⟩) 32 32] (.tuple #[.agg ((CB ++ BB).map byt).toArray, .int .i64 0]) rfl enter12 (fun W hW => n2 (n + 1) 32 W (b1.on hW).lt ((b1.on hW).range (fun j _ => by rw [Nat.zero_add])))) (by simp only [Act.put, List.setIfInBounds_toArray, List.set_cons_zero, List.set_cons_succ]; rfl) ?_
  refine wpLex_cons2 _ (uni_val (by rfl) (Op.move (Operand.tmp 22)) rfl ((.tuple #[.agg ((CB ++ BB).map byt).toArray, .int .i64 0])) (fun o' ho W _ => by go_simp)) (by simp only [Act.put, List.setIfInBounds_toArray, List.set_cons_zero, List.set_cons_succ]; rfl) ?_
  refine wpLex_cons2 _ (uni_val (by rfl) (Op.extract (Operand.tmp 20) 0) rfl (.agg ((CB ++ BB).map byt).toArray) (fun o' ho W _ => by go_simp)) (by simp only [Act.put, List.setIfInBounds_toArray, List.set_cons_zero, List.set_cons_succ]; rfl) ?_
  refine wpLex_cons2 _ (uni_val (by rfl) (Op.extract (Operand.tmp 20) 1) rfl (.int .i64 0) (fun o' ho W _ => by go_simp)) (by simp only [Act.put, List.setIfInBounds_toArray, List.set_cons_zero, List.set_cons_succ]; rfl) ?_
  intro wy hW
  simp only [List.drop_succ_cons, List.drop_zero]
  replace b0 := b0.on hW
  replace b1 := b1.on hW
  replace pa := pa.on hW
  replace be := be.trans (hW.mono (by have := be.size; omega))
  clear hW
  obtain ⟨gpb, hgpb⟩ : ∃ g, wy.heap.size = g := ⟨_, rfl⟩
  refine wpList_newAt rfl 29 rfl (z64.map byt) zero29 gpb hgpb ?_
  simp only [Act.put, List.setIfInBounds_toArray, List.set_cons_zero, List.set_cons_succ]
  have ltb0 := b0.lt
  have ltb1 := b1.lt
  have ltpa := pa.lt
  have pb := Blk.new wy (z64.map byt) 29
  rw [hgpb] at pb ltb0 ltb1 ltpa
  have hsz := be.size
  rw [hgpb, hn] at hsz
  replace b0 := b0.alloc (.cells (z64.map byt).toArray 29)
  replace b1 := b1.alloc (.cells (z64.map byt).toArray 29)
  replace pa := pa.alloc (.cells (z64.map byt).toArray 29)
  replace be := be.alloc (by rw [hgpb]; exact hsz) (.cells (z64.map byt).toArray 29)
  generalize wy.alloc (.cells (z64.map byt).toArray 29) = wv at pb be ⊢ b0 b1 pa
  refine lst_row rfl rfl 29 (.tmp 7) (.tmp 23) rfl gpb ((CB ++ BB).map byt) (z64.map byt) 29 rfl rfl pb (pair_info lPB) (pair_len lPB) (byts_one _) ?_
  replace pb := pb.setRow ((CB ++ BB).map byt)
  replace b0 := b0.setRowOther gpb ((CB ++ BB).map byt).toArray (by omega)
  replace b1 := b1.setRowOther gpb ((CB ++ BB).map byt).toArray (by omega)
  replace pa := pa.setRowOther gpb ((CB ++ BB).map byt).toArray (by omega)
  replace be := below_setRow be gpb ((CB ++ BB).map byt).toArray hsz
  generalize wv.setRow gpb ((CB ++ BB).map byt).toArray = w3 at pb be ⊢ b0 b1 pa
  clear hgpb hsz ltb0 ltb1 ltpa wv wy w2
  refine lst_val rfl (Op.assign (Operand.tmp 24)) rfl (.int .i64 0) (fun o' ho => by go_simp) (by simp only [Act.put, List.setIfInBounds_toArray, List.set_cons_zero, List.set_cons_succ]; rfl) ?_
  refine wpList_nil ?_
  clear n1 n2
  go_upto_region 3 with fail
  refine lst_then 8 ?_
  simp only [List.take_succ_cons, List.take_zero]
  refine wpLex_cons2 _ (uni_val (by rfl) (Op.fieldAddr 29 (Operand.tmp 5) 0) rfl (.pointer (some ⟨gpa, 0, none⟩)) (fun o' ho W _ => by go_simp)) (by simp only [Act.put, List.setIfInBounds_toArray, List.set_cons_zero, List.set_cons_succ]; rfl) ?_
  refine wpLex_cons2 _ (uni_mid rfl 24 (.tmp 26) rfl (gpa) 0 (CA.map byt) rfl (fun W hW => (pa.on hW).range (pair_at0 lCA)) Try.underlying24 rfl (key_info lCA)) (by simp only [Act.put, List.setIfInBounds_toArray, List.set_cons_zero, List.set_cons_succ]; rfl) ?_
  refine wpLex_cons2 _ (uni_val (by rfl) (Op.fieldAddr 29 (Operand.tmp 7) 1) rfl (.pointer (some ⟨gpb, 32, none⟩)) (fun o' ho W _ => by go_simp)) (by simp only [Act.put, List.setIfInBounds_toArray, List.set_cons_zero, List.set_cons_succ]; rfl) ?_
  refine wpLex_cons2 _ (uni_mid rfl 24 (.tmp 28) rfl (gpb) 32 (BB.map byt) rfl (fun W hW => (pb.on hW).range (pair_at1 lCB)) Try.underlying24 rfl (key_info lBB)) (by simp only [Act.put, List.setIfInBounds_toArray, List.set_cons_zero, List.set_cons_succ]; rfl) ?_
  refine wpLex_cons2 _ (uni_callF (by rfl) 13 [Operand.tmp 27, Operand.tmp 29] #[24, 24] rfl [.agg (CA.map byt).toArray, .agg (BB.map byt).toArray] (.tuple #[.agg (X.map byt).toArray, .int .i64 0]) rfl enter13 (fun W hW => c1 W)) (by simp only [Act.put, List.setIfInBounds_toArray, List.set_cons_zero, List.set_cons_succ]; rfl) ?_
  refine wpLex_cons2 _ (uni_val (by rfl) (Op.move (Operand.tmp 30)) rfl ((.tuple #[.agg (X.map byt).toArray, .int .i64 0])) (fun o' ho W _ => by go_simp)) (by simp only [Act.put, List.setIfInBounds_toArray, List.set_cons_zero, List.set_cons_succ]; rfl) ?_
  refine wpLex_cons2 _ (uni_val (by rfl) (Op.extract (Operand.tmp 25) 0) rfl (.agg (X.map byt).toArray) (fun o' ho W _ => by go_simp)) (by simp only [Act.put, List.setIfInBounds_toArray, List.set_cons_zero, List.set_cons_succ]; rfl) ?_
  refine wpLex_cons2 _ (uni_val (by rfl) (Op.extract (Operand.tmp 25) 1) rfl (.int .i64 0) (fun o' ho W _ => by go_simp)) (by simp only [Act.put, List.setIfInBounds_toArray, List.set_cons_zero, List.set_cons_succ]; rfl) ?_
  intro wy hW
  simp only [List.drop_succ_cons, List.drop_zero]
  replace b0 := b0.on hW
  replace b1 := b1.on hW
  replace pa := pa.on hW
  replace pb := pb.on hW
  replace be := be.trans (hW.mono (by have := be.size; omega))
  clear hW
  obtain ⟨gkx, hgkx⟩ : ∃ g, wy.heap.size = g := ⟨_, rfl⟩
  refine wpList_newAt rfl 24 rfl (z32.map byt) zero23 gkx hgkx ?_
  simp only [Act.put, List.setIfInBounds_toArray, List.set_cons_zero, List.set_cons_succ]
  have ltb0 := b0.lt
  have ltb1 := b1.lt
  have ltpa := pa.lt
  have ltpb := pb.lt
  have kx := Blk.new wy (z32.map byt) 24
  rw [hgkx] at kx ltb0 ltb1 ltpa ltpb
  have hsz := be.size
  rw [hgkx, hn] at hsz
  replace b0 := b0.alloc (.cells (z32.map byt).toArray 24)
  replace b1 := b1.alloc (.cells (z32.map byt).toArray 24)
  replace pa := pa.alloc (.cells (z32.map byt).toArray 24)
  replace pb := pb.alloc (.cells (z32.map byt).toArray 24)
  replace be := be.alloc (by rw [hgkx]; exact hsz) (.cells (z32.map byt).toArray 24)
  generalize wy.alloc (.cells (z32.map byt).toArray 24) = wv at kx be ⊢ b0 b1 pa pb
  refine lst_row rfl rfl 24 (.tmp 9) (.tmp 31) rfl gkx (X.map byt) (z32.map byt) 24 rfl rfl kx (key_info lX) (key_len lX) (byts_one _) ?_
  replace kx := kx.setRow (X.map byt)
  replace b0 := b0.setRowOther gkx (X.map byt).toArray (by omega)
  replace b1 := b1.setRowOther gkx (X.map byt).toArray (by omega)
  replace pa := pa.setRowOther gkx (X.map byt).toArray (by omega)
  replace pb := pb.setRowOther gkx (X.map byt).toArray (by omega)
  replace be := below_setRow be gkx (X.map byt).toArray hsz
  generalize wv.setRow gkx (X.map byt).toArray = w4 at kx be ⊢ b0 b1 pa pb
  clear hgkx hsz ltb0 ltb1 ltpa ltpb wv wy w3
  refine lst_val rfl (Op.assign (Operand.tmp 32)) rfl (.int .i64 0) (fun o' ho => by go_simp) (by simp only [Act.put, List.setIfInBounds_toArray, List.set_cons_zero, List.set_cons_succ]; rfl) ?_
  refine wpList_nil ?_
  go_upto_region 4 with fail
  refine lst_then 8 ?_
  simp only [List.take_succ_cons, List.take_zero]
  refine wpLex_cons2 _ (uni_val (by rfl) (Op.fieldAddr 29 (Operand.tmp 7) 0) rfl (.pointer (some ⟨gpb, 0, none⟩)) (fun o' ho W _ => by go_simp)) (by simp only [Act.put, List.setIfInBounds_toArray, List.set_cons_zero, List.set_cons_succ]; rfl) ?_
  refine wpLex_cons2 _ (uni_mid rfl 24 (.tmp 34) rfl (gpb) 0 (CB.map byt) rfl (fun W hW => (pb.on hW).range (pair_at0 lCB)) Try.underlying24 rfl (key_info lCB)) (by simp only [Act.put, List.setIfInBounds_toArray, List.set_cons_zero, List.set_cons_succ]; rfl) ?_
  refine wpLex_cons2 _ (uni_val (by rfl) (Op.fieldAddr 29 (Operand.tmp 5) 1) rfl (.pointer (some ⟨gpa, 32, none⟩)) (fun o' ho W _ => by go_simp)) (by simp only [Act.put, List.setIfInBounds_toArray, List.set_cons_zero, List.set_cons_succ]; rfl) ?_
  refine wpLex_cons2 _ (uni_mid rfl 24 (.tmp 36) rfl (gpa) 32 (BA.map byt) rfl (fun W hW => (pa.on hW).range (pair_at1 lCA)) Try.underlying24 rfl (key_info lBA)) (by simp only [Act.put, List.setIfInBounds_toArray, List.set_cons_zero, List.set_cons_succ]; rfl) ?_
  refine wpLex_cons2 _ (uni_callF (by rfl) 13 [Operand.tmp 35, Operand.tmp 37] #[24, 24] rfl [.agg (CB.map byt).toArray, .agg (BA.map byt).toArray] (.tuple #[.agg (X.map byt).toArray, .int .i64 0]) rfl enter13 (fun W hW => c2 W)) (by simp only [Act.put, List.setIfInBounds_toArray, List.set_cons_zero, List.set_cons_succ]; rfl) ?_
  refine wpLex_cons2 _ (uni_val (by rfl) (Op.move (Operand.tmp 38)) rfl ((.tuple #[.agg (X.map byt).toArray, .int .i64 0])) (fun o' ho W _ => by go_simp)) (by simp only [Act.put, List.setIfInBounds_toArray, List.set_cons_zero, List.set_cons_succ]; rfl) ?_
  refine wpLex_cons2 _ (uni_val (by rfl) (Op.extract (Operand.tmp 33) 0) rfl (.agg (X.map byt).toArray) (fun o' ho W _ => by go_simp)) (by simp only [Act.put, List.setIfInBounds_toArray, List.set_cons_zero, List.set_cons_succ]; rfl) ?_
  refine wpLex_cons2 _ (uni_val (by rfl) (Op.extract (Operand.tmp 33) 1) rfl (.int .i64 0) (fun o' ho W _ => by go_simp)) (by simp only [Act.put, List.setIfInBounds_toArray, List.set_cons_zero, List.set_cons_succ]; rfl) ?_
  intro wy hW
  simp only [List.drop_succ_cons, List.drop_zero]
  replace b0 := b0.on hW
  replace b1 := b1.on hW
  replace pa := pa.on hW
  replace pb := pb.on hW
  replace kx := kx.on hW
  replace be := be.trans (hW.mono (by have := be.size; omega))
  clear hW
  obtain ⟨gky, hgky⟩ : ∃ g, wy.heap.size = g := ⟨_, rfl⟩
  refine wpList_newAt rfl 24 rfl (z32.map byt) zero23 gky hgky ?_
  simp only [Act.put, List.setIfInBounds_toArray, List.set_cons_zero, List.set_cons_succ]
  have ltb0 := b0.lt
  have ltb1 := b1.lt
  have ltpa := pa.lt
  have ltpb := pb.lt
  have ltkx := kx.lt
  have ky := Blk.new wy (z32.map byt) 24
  rw [hgky] at ky ltb0 ltb1 ltpa ltpb ltkx
  have hsz := be.size
  rw [hgky, hn] at hsz
  replace b0 := b0.alloc (.cells (z32.map byt).toArray 24)
  replace b1 := b1.alloc (.cells (z32.map byt).toArray 24)
  replace pa := pa.alloc (.cells (z32.map byt).toArray 24)
  replace pb := pb.alloc (.cells (z32.map byt).toArray 24)
  replace kx := kx.alloc (.cells (z32.map byt).toArray 24)
  replace be := be.alloc (by rw [hgky]; exact hsz) (.cells (z32.map byt).toArray 24)
  generalize wy.alloc (.cells (z32.map byt).toArray 24) = wv at ky be ⊢ b0 b1 pa pb kx
  refine lst_row rfl rfl 24 (.tmp 11) (.tmp 39) rfl gky (X.map byt) (z32.map byt) 24 rfl rfl ky (key_info lX) (key_len lX) (byts_one _) ?_
  replace ky := ky.setRow (X.map byt)
  replace b0 := b0.setRowOther gky (X.map byt).toArray (by omega)
  replace b1 := b1.setRowOther gky (X.map byt).toArray (by omega)
  replace pa := pa.setRowOther gky (X.map byt).toArray (by omega)
  replace pb := pb.setRowOther gky (X.map byt).toArray (by omega)
  replace kx := kx.setRowOther gky (X.map byt).toArray (by omega)
  replace be := below_setRow be gky (X.map byt).toArray hsz
  generalize wv.setRow gky (X.map byt).toArray = w5 at ky be ⊢ b0 b1 pa pb kx
  clear hgky hsz ltb0 ltb1 ltpa ltpb ltkx wv wy w4
  refine lst_val rfl (Op.assign (Operand.tmp 40)) rfl (.int .i64 0) (fun o' ho => by go_simp) (by simp only [Act.put, List.setIfInBounds_toArray, List.set_cons_zero, List.set_cons_succ]; rfl) ?_
  refine wpList_nil ?_
  clear c1 c2
  go_upto_region 5 with fail
  refine reg_newT (by kernel_rfl) 4 rfl rfl rfl (by kernel_rfl) rfl 13 rfl 24 rfl (z32.map byt) zero23 rfl rfl (.tmp 44) rfl ?_
  simp only [List.take_succ_cons, List.take_zero]
  refine wpLex_cons2 _ (uni_row rfl 24 (.tmp 2) rfl (n) (a.map byt) 24 rfl (fun W hW => b0.on hW) Try.underlying24 rfl (key_info la)) (by simp only [Act.put, List.setIfInBounds_toArray, List.set_cons_zero, List.set_cons_succ]; rfl) ?_
  refine wpLex_cons2 _ (uni_row rfl 24 (.tmp 3) rfl (n + 1) (b.map byt) 24 rfl (fun W hW => b1.on hW) Try.underlying24 rfl (key_info lb)) (by simp only [Act.put, List.setIfInBounds_toArray, List.set_cons_zero, List.set_cons_succ]; rfl) ?_
  refine wpLex_cons2 _ (uni_callF (by rfl) 14 [Operand.tmp 42] #[24] rfl [.agg (b.map byt).toArray] (.agg (BB.map byt).toArray) rfl enter14 (fun W hW => c3 W)) (by simp only [Act.put, List.setIfInBounds_toArray, List.set_cons_zero, List.set_cons_succ]; rfl) ?_
  refine wpLex_cons2 _ (uni_callF (by rfl) 10 [Operand.tmp 41, Operand.tmp 43] #[24, 24] rfl [.agg (a.map byt).toArray, (.agg (BB.map byt).toArray)] (.agg (X.map byt).toArray) rfl enter10 (fun W hW => c4 W)) (by simp only [Act.put, List.setIfInBounds_toArray, List.set_cons_zero, List.set_cons_succ]; rfl) ?_
  refine ⟨X.map byt, rfl, by simp, by simp, key_info lX, key_len lX, byts_one _, fun gkz w6 lo hW kz => ?_⟩
  simp only [Act.put, List.setIfInBounds_toArray, List.set_cons_zero, List.set_cons_succ]
  replace b0 := b0.on hW
  replace b1 := b1.on hW
  replace pa := pa.on hW
  replace pb := pb.on hW
  replace kx := kx.on hW
  replace ky := ky.on hW
  replace be := be.trans (hW.mono (by have := be.size; omega))
  clear hW lo  w5
  clear c3 c4
  go_upto_region 6 with fail
  refine lst_all ?_
  refine wpLex_cons2 _ (uni_callF (by rfl) 9 [] #[] rfl [] (.bool true) rfl enter9 (fun W hW => fixed_any W)) (by simp only [Act.put, List.setIfInBounds_toArray, List.set_cons_zero, List.set_cons_succ]; rfl) ?_
  refine wpLex_cons2 _ (uni_val (by rfl) (Op.assign (Operand.tmp 45)) rfl ((.bool true)) (fun o' ho W _ => by go_simp)) (by simp only [Act.put, List.setIfInBounds_toArray, List.set_cons_zero, List.set_cons_succ]; rfl) ?_
  intro w7 hW
  replace b0 := b0.on hW
  replace b1 := b1.on hW
  replace pa := pa.on hW
  replace pb := pb.on hW
  replace kx := kx.on hW
  replace ky := ky.on hW
  replace kz := kz.on hW
  replace be := be.trans (hW.mono (by have := be.size; omega))
  clear hW w6
  go_upto_region 7 with fail
  refine reg_all (by kernel_rfl) (by kernel_rfl) ?_
  refine wpLex_cons2 _ (uni_val (by rfl) (Op.move (Operand.tmp 14)) rfl ((.bool true)) (fun o' ho W _ => by go_simp)) (by simp only [Act.put, List.setIfInBounds_toArray, List.set_cons_zero, List.set_cons_succ]; rfl) ?_
  refine wpLex_cons2 _ (uni_val (by rfl) (Op.move (Operand.tmp 46)) rfl ((.bool true)) (fun o' ho W _ => by go_simp)) (by simp only [Act.put, List.setIfInBounds_toArray, List.set_cons_zero, List.set_cons_succ]; rfl) ?_
  refine wpLex_cons2 _ (uni_val (by rfl) (Op.move (Operand.tmp 6)) rfl (.int .i64 0) (fun o' ho W _ => by go_simp)) (by simp only [Act.put, List.setIfInBounds_toArray, List.set_cons_zero, List.set_cons_succ]; rfl) ?_
  refine wpLex_cons2 _ (uni_val (by rfl) (Op.binOp BinOp.eql 30 (Operand.tmp 48) (Operand.const (Value.int IntKind.i64 0)) 30) rfl (.bool true) (fun o' ho W _ => by go_simp)) (by simp only [Act.put, List.setIfInBounds_toArray, List.set_cons_zero, List.set_cons_succ]; rfl) ?_
  refine wpLex_cons2 _ (uni_val (by rfl) (Op.pick (Operand.tmp 47) (Operand.tmp 49) (Operand.const (Value.bool false))) rfl (.bool true) (fun o' ho W _ => by go_simp)) (by simp only [Act.put, List.setIfInBounds_toArray, List.set_cons_zero, List.set_cons_succ]; rfl) ?_
  refine wpLex_cons2 _ (uni_val (by rfl) (Op.move (Operand.tmp 50)) rfl (.bool true) (fun o' ho W _ => by go_simp)) (by simp only [Act.put, List.setIfInBounds_toArray, List.set_cons_zero, List.set_cons_succ]; rfl) ?_
  refine wpLex_cons2 _ (uni_val (by rfl) (Op.move (Operand.tmp 8)) rfl (.int .i64 0) (fun o' ho W _ => by go_simp)) (by simp only [Act.put, List.setIfInBounds_toArray, List.set_cons_zero, List.set_cons_succ]; rfl) ?_
  refine wpLex_cons2 _ (uni_val (by rfl) (Op.binOp BinOp.eql 30 (Operand.tmp 52) (Operand.const (Value.int IntKind.i64 0)) 30) rfl (.bool true) (fun o' ho W _ => by go_simp)) (by simp only [Act.put, List.setIfInBounds_toArray, List.set_cons_zero, List.set_cons_succ]; rfl) ?_
  refine wpLex_cons2 _ (uni_val (by rfl) (Op.pick (Operand.tmp 51) (Operand.tmp 53) (Operand.const (Value.bool false))) rfl (.bool true) (fun o' ho W _ => by go_simp)) (by simp only [Act.put, List.setIfInBounds_toArray, List.set_cons_zero, List.set_cons_succ]; rfl) ?_
  refine wpLex_cons2 _ (uni_val (by rfl) (Op.move (Operand.tmp 54)) rfl (.bool true) (fun o' ho W _ => by go_simp)) (by simp only [Act.put, List.setIfInBounds_toArray, List.set_cons_zero, List.set_cons_succ]; rfl) ?_
  refine wpLex_cons2 _ (uni_val (by rfl) (Op.move (Operand.tmp 10)) rfl (.int .i64 0) (fun o' ho W _ => by go_simp)) (by simp only [Act.put, List.setIfInBounds_toArray, List.set_cons_zero, List.set_cons_succ]; rfl) ?_
  refine wpLex_cons2 _ (uni_val (by rfl) (Op.binOp BinOp.eql 30 (Operand.tmp 56) (Operand.const (Value.int IntKind.i64 0)) 30) rfl (.bool true) (fun o' ho W _ => by go_simp)) (by simp only [Act.put, List.setIfInBounds_toArray, List.set_cons_zero, List.set_cons_succ]; rfl) ?_
  refine wpLex_cons2 _ (uni_val (by rfl) (Op.pick (Operand.tmp 55) (Operand.tmp 57) (Operand.const (Value.bool false))) rfl (.bool true) (fun o' ho W _ => by go_simp)) (by simp only [Act.put, List.setIfInBounds_toArray, List.set_cons_zero, List.set_cons_succ]; rfl) ?_
  refine wpLex_cons2 _ (uni_val (by rfl) (Op.move (Operand.tmp 58)) rfl (.bool true) (fun o' ho W _ => by go_simp)) (by simp only [Act.put, List.setIfInBounds_toArray, List.set_cons_zero, List.set_cons_succ]; rfl) ?_
  refine wpLex_cons2 _ (uni_val (by rfl) (Op.move (Operand.tmp 12)) rfl (.int .i64 0) (fun o' ho W _ => by go_simp)) (by simp only [Act.put, List.setIfInBounds_toArray, List.set_cons_zero, List.set_cons_succ]; rfl) ?_
  refine wpLex_cons2 _ (uni_val (by rfl) (Op.binOp BinOp.eql 30 (Operand.tmp 60) (Operand.const (Value.int IntKind.i64 0)) 30) rfl (.bool true) (fun o' ho W _ => by go_simp)) (by simp only [Act.put, List.setIfInBounds_toArray, List.set_cons_zero, List.set_cons_succ]; rfl) ?_
  refine wpLex_cons2 _ (uni_val (by rfl) (Op.pick (Operand.tmp 59) (Operand.tmp 61) (Operand.const (Value.bool false))) rfl (.bool true) (fun o' ho W _ => by go_simp)) (by simp only [Act.put, List.setIfInBounds_toArray, List.set_cons_zero, List.set_cons_succ]; rfl) ?_
  refine wpLex_cons2 _ (uni_val (by rfl) (Op.move (Operand.tmp 62)) rfl (.bool true) (fun o' ho W _ => by go_simp)) (by simp only [Act.put, List.setIfInBounds_toArray, List.set_cons_zero, List.set_cons_succ]; rfl) ?_
  refine wpLex_cons2 _ (uni_rowG (by rfl) 24 (.tmp 9) rfl (gkx) (X.map byt) 24 rfl (fun W hW => kx.on hW) Try.underlying24 rfl (key_info lX)) (by simp only [Act.put, List.setIfInBounds_toArray, List.set_cons_zero, List.set_cons_succ]; rfl) ?_
  refine wpLex_cons2 _ (uni_rowG (by rfl) 24 (.tmp 11) rfl (gky) (X.map byt) 24 rfl (fun W hW => ky.on hW) Try.underlying24 rfl (key_info lX)) (by simp only [Act.put, List.setIfInBounds_toArray, List.set_cons_zero, List.set_cons_succ]; rfl) ?_
  refine wpLex_cons2 _ (uni_val (by rfl) (Op.binOp BinOp.eql 24 (Operand.tmp 64) (Operand.tmp 65) 24) rfl (.bool true) (fun o' ho W _ => by have hg := guard24; go_simp)) (by simp only [Act.put, List.setIfInBounds_toArray, List.set_cons_zero, List.set_cons_succ]; rfl) ?_
  refine wpLex_cons2 _ (uni_val (by rfl) (Op.pick (Operand.tmp 63) (Operand.tmp 66) (Operand.const (Value.bool false))) rfl (.bool true) (fun o' ho W _ => by go_simp)) (by simp only [Act.put, List.setIfInBounds_toArray, List.set_cons_zero, List.set_cons_succ]; rfl) ?_
  refine wpLex_cons2 _ (uni_val (by rfl) (Op.move (Operand.tmp 67)) rfl (.bool true) (fun o' ho W _ => by go_simp)) (by simp only [Act.put, List.setIfInBounds_toArray, List.set_cons_zero, List.set_cons_succ]; rfl) ?_
  refine wpLex_cons2 _ (uni_rowG (by rfl) 24 (.tmp 9) rfl (gkx) (X.map byt) 24 rfl (fun W hW => kx.on hW) Try.underlying24 rfl (key_info lX)) (by simp only [Act.put, List.setIfInBounds_toArray, List.set_cons_zero, List.set_cons_succ]; rfl) ?_
  refine wpLex_cons2 _ (uni_rowG (by rfl) 24 (.tmp 13) rfl (gkz) (X.map byt) 24 rfl (fun W hW => kz.on hW) Try.underlying24 rfl (key_info lX)) (by simp only [Act.put, List.setIfInBounds_toArray, List.set_cons_zero, List.set_cons_succ]; rfl) ?_
  refine wpLex_cons2 _ (uni_val (by rfl) (Op.binOp BinOp.eql 24 (Operand.tmp 69) (Operand.tmp 70) 24) rfl (.bool true) (fun o' ho W _ => by have hg := guard24; go_simp)) (by simp only [Act.put, List.setIfInBounds_toArray, List.set_cons_zero, List.set_cons_succ]; rfl) ?_
  refine wpLex_cons2 _ (uni_val (by rfl) (Op.pick (Operand.tmp 68) (Operand.tmp 71) (Operand.const (Value.bool false))) rfl (.bool true) (fun o' ho W _ => by go_simp)) (by simp only [Act.put, List.setIfInBounds_toArray, List.set_cons_zero, List.set_cons_succ]; rfl) ?_
  refine wpLex_cons2 _ (uni_val (by rfl) (Op.move (Operand.tmp 72)) rfl (.bool true) (fun o' ho W _ => by go_simp)) (by simp only [Act.put, List.setIfInBounds_toArray, List.set_cons_zero, List.set_cons_succ]; rfl) ?_
  refine wpLex_cons2 _ (uni_val (by rfl) (Op.fieldAddr 29 (Operand.tmp 5) 0) rfl (.pointer (some ⟨gpa, 0, none⟩)) (fun o' ho W _ => by go_simp)) (by simp only [Act.put, List.setIfInBounds_toArray, List.set_cons_zero, List.set_cons_succ]; rfl) ?_
  refine wpLex_cons2 _ (uni_midG (by rfl) 24 (.tmp 74) rfl (gpa) 0 (CA.map byt) rfl (fun W hW => (pa.on hW).range (pair_at0 lCA)) Try.underlying24 rfl (key_info lCA)) (by simp only [Act.put, List.setIfInBounds_toArray, List.set_cons_zero, List.set_cons_succ]; rfl) ?_
  refine wpLex_cons2 _ (uni_rowG (by rfl) 24 (.tmp 2) rfl (n) (a.map byt) 24 rfl (fun W hW => b0.on hW) Try.underlying24 rfl (key_info la)) (by simp only [Act.put, List.setIfInBounds_toArray, List.set_cons_zero, List.set_cons_succ]; rfl) ?_
  refine wpLex_cons2 _ (uni_callF (by rfl) 11 [Operand.tmp 76] #[24] rfl [.agg (a.map byt).toArray] (.agg (CA.map byt).toArray) rfl enter11 (fun W hW => c5 W)) (by simp only [Act.put, List.setIfInBounds_toArray, List.set_cons_zero, List.set_cons_succ]; rfl) ?_
  refine wpLex_cons2 _ (uni_val (by rfl) (Op.binOp BinOp.eql 24 (Operand.tmp 75) (Operand.tmp 77) 24) rfl (.bool true) (fun o' ho W _ => by have hg := guard24; go_simp)) (by simp only [Act.put, List.setIfInBounds_toArray, List.set_cons_zero, List.set_cons_succ]; rfl) ?_
  refine wpLex_cons2 _ (uni_val (by rfl) (Op.pick (Operand.tmp 73) (Operand.tmp 78) (Operand.const (Value.bool false))) rfl (.bool true) (fun o' ho W _ => by go_simp)) (by simp only [Act.put, List.setIfInBounds_toArray, List.set_cons_zero, List.set_cons_succ]; rfl) ?_
  refine wpLex_cons2 _ (uni_val (by rfl) (Op.move (Operand.tmp 79)) rfl (.bool true) (fun o' ho W _ => by go_simp)) (by simp only [Act.put, List.setIfInBounds_toArray, List.set_cons_zero, List.set_cons_succ]; rfl) ?_
  refine wpLex_cons2 _ (uni_val (by rfl) (Op.fieldAddr 29 (Operand.tmp 5) 1) rfl (.pointer (some ⟨gpa, 32, none⟩)) (fun o' ho W _ => by go_simp)) (by simp only [Act.put, List.setIfInBounds_toArray, List.set_cons_zero, List.set_cons_succ]; rfl) ?_
  refine wpLex_cons2 _ (uni_midG (by rfl) 24 (.tmp 81) rfl (gpa) 32 (BA.map byt) rfl (fun W hW => (pa.on hW).range (pair_at1 lCA)) Try.underlying24 rfl (key_info lBA)) (by simp only [Act.put, List.setIfInBounds_toArray, List.set_cons_zero, List.set_cons_succ]; rfl) ?_
  refine wpLex_cons2 _ (uni_rowG (by rfl) 24 (.tmp 2) rfl (n) (a.map byt) 24 rfl (fun W hW => b0.on hW) Try.underlying24 rfl (key_info la)) (by simp only [Act.put, List.setIfInBounds_toArray, List.set_cons_zero, List.set_cons_succ]; rfl) ?_
  refine wpLex_cons2 _ (uni_callF (by rfl) 14 [Operand.tmp 83] #[24] rfl [.agg (a.map byt).toArray] (.agg (BA.map byt).toArray) rfl enter14 (fun W hW => c6 W)) (by simp only [Act.put, List.setIfInBounds_toArray, List.set_cons_zero, List.set_cons_succ]; rfl) ?_
  refine wpLex_cons2 _ (uni_val (by rfl) (Op.binOp BinOp.eql 24 (Operand.tmp 82) (Operand.tmp 84) 24) rfl (.bool true) (fun o' ho W _ => by have hg := guard24; go_simp)) (by simp only [Act.put, List.setIfInBounds_toArray, List.set_cons_zero, List.set_cons_succ]; rfl) ?_
  refine wpLex_cons2 _ (uni_val (by rfl) (Op.pick (Operand.tmp 80) (Operand.tmp 85) (Operand.const (Value.bool false))) rfl (.bool true) (fun o' ho W _ => by go_simp)) (by simp only [Act.put, List.setIfInBounds_toArray, List.set_cons_zero, List.set_cons_succ]; rfl) ?_
  refine wpLex_cons2 _ (uni_val (by rfl) (Op.assign (Operand.tmp 86)) rfl (.bool true) (fun o' ho W _ => by go_simp)) (by simp only [Act.put, List.setIfInBounds_toArray, List.set_cons_zero, List.set_cons_succ]; rfl) ?_
  intro w8 hW
  replace b0 := b0.on hW
  replace b1 := b1.on hW
  replace pa := pa.on hW
  replace pb := pb.on hW
  replace kx := kx.on hW
  replace ky := ky.on hW
  replace kz := kz.on hW
  replace be := be.trans (hW.mono (by have := be.size; omega))
  clear hW w7
  go_wp2
  go_ret
  exact ⟨rfl, by first | (rw [hn]; exact be) | exact be⟩
end Go.Proofs.Ytacancfmgnmpiaa
