import Derived.Test.YtoceepmehmacbaaDoorKXr
set_option linter.unusedVariables false
set_option linter.unusedSimpArgs false
namespace Go.Proofs.YtoceepmehmacbaaDoor.Cv
open Go.RowKit

set_option maxRecDepth 100000 in
set_option maxHeartbeats 2000000 in
theorem refshared_walk (k u T : List UInt8) (hk : k.length = 32) (hu : u.length = 32) (hl : T.length = 32)
    (c1 : ∀ W, Calls Tryd.prog 65 #[.agg (k.map byt).toArray, .agg (u.map byt).toArray] W fun e w' => e = .returned (.agg (T.map byt).toArray) ∧ Below W.heap.size W w')
    (w : World) : Calls Tryd.prog 46 #[.agg (k.map byt).toArray, .agg (u.map byt).toArray] w fun e w' => e = .returned (.tuple #[.agg (T.map byt).toArray, .int .i64 (if T = z32 then 70 else 0)]) ∧ Below w.heap.size w w' := by
  obtain ⟨Z, hZ⟩ : ∃ Z, z32 = Z := ⟨_, rfl⟩
  have hzl : Z.length = 32 := by rw [← hZ]; exact z32_length
  have hbz : ∀ W, (Instr.build 23 #[]).run Tryd.prog W = .ok (.agg (Z.map byt).toArray) W := fun W => by rw [← hZ]; exact build24 W
  have zsz : (z32.map byt).toArray.size = (Z.map byt).toArray.size := by rw [hZ]
  have he := fun W => eq23 T Z hl hzl W
  rw [hZ]
  obtain ⟨E, hE⟩ : ∃ E : Int, (if T = Z then 70 else 0) = E := ⟨_, rfl⟩
  obtain ⟨q, hq⟩ : ∃ q, decide (T = Z) = q := ⟨_, rfl⟩
  rw [hE]
  rw [hq] at he
  have HE := hide hE
  have HQ := hide hq
  clear hE hZ hq
  go_enter Tryd.func46, Tryd.ntmps46
  go_upto_region 1 with (first | (refine wpList_boxAt rfl 23 (.tmp 0) rfl (k.map byt) rfl (w.heap.size) rfl ?_) | (refine wpList_boxAt rfl 23 (.tmp 1) rfl (u.map byt) rfl (w.heap.size + 1) (by simp) ?_) | (refine wpList_newAt rfl 23 rfl (z32.map byt) zero23 (w.heap.size + 1 + 1) (size2 _ _ _) ?_))
  have b0 : Blk (((w.alloc (.cells (k.map byt).toArray 23)).alloc (.cells (u.map byt).toArray 23)).alloc (.cells ((z32.map byt)).toArray 23)) (w.heap.size) (k.map byt) 23 := by
    have := ((Blk.new w (k.map byt) 23).alloc (.cells (u.map byt).toArray 23)).alloc (.cells ((z32.map byt)).toArray 23)
    simpa using this
  have b1 : Blk (((w.alloc (.cells (k.map byt).toArray 23)).alloc (.cells (u.map byt).toArray 23)).alloc (.cells ((z32.map byt)).toArray 23)) (w.heap.size + 1) (u.map byt) 23 := by
    have := (Blk.new (w.alloc (.cells (k.map byt).toArray 23)) (u.map byt) 23).alloc (.cells ((z32.map byt)).toArray 23)
    simpa using this
  have b2 : Blk (((w.alloc (.cells (k.map byt).toArray 23)).alloc (.cells (u.map byt).toArray 23)).alloc (.cells ((z32.map byt)).toArray 23)) (w.heap.size + 1 + 1) ((z32.map byt)) 23 := by
    have := Blk.new ((w.alloc (.cells (k.map byt).toArray 23)).alloc (.cells (u.map byt).toArray 23)) ((z32.map byt)) 23
    simpa using this
  have be : Below w.heap.size w (((w.alloc (.cells (k.map byt).toArray 23)).alloc (.cells (u.map byt).toArray 23)).alloc (.cells ((z32.map byt)).toArray 23)) := by go_grown
  generalize (((w.alloc (.cells (k.map byt).toArray 23)).alloc (.cells (u.map byt).toArray 23)).alloc (.cells ((z32.map byt)).toArray 23)) = w1 at b0 b1 b2 be ⊢
  obtain ⟨n, hn⟩ : ∃ n, w.heap.size = n := ⟨_, rfl⟩
  rw [hn] at b0 b1 b2 be ⊢
  try simp only [Act.put, List.setIfInBounds_toArray, List.set_cons_zero, List.set_cons_succ]
  have hlow := b2.lt
  refine lst_newT 3 rfl rfl rfl rfl 6 rfl 23 rfl (z32.map byt) zero23 rfl rfl (.tmp 9) rfl ?_
  simp only [List.take_succ_cons, List.take_zero]
  refine wpLex_cons2 _ (uni_row rfl 23 (.tmp 2) rfl (n) (k.map byt) 23 rfl (fun W hW => b0.on hW) Tryd.underlying23 rfl (key_info hk)) (by simp only [Act.put, List.setIfInBounds_toArray, List.set_cons_zero, List.set_cons_succ]; rfl) ?_; refine wpLex_cons2 _ (uni_row rfl 23 (.tmp 3) rfl (n + 1) (u.map byt) 23 rfl (fun W hW => b1.on hW) Tryd.underlying23 rfl (key_info hu)) (by simp only [Act.put, List.setIfInBounds_toArray, List.set_cons_zero, List.set_cons_succ]; rfl) ?_; refine wpLex_cons2 _ (uni_callF (by rfl) 65 [Operand.tmp 7, Operand.tmp 8] #[23, 23] rfl [.agg (k.map byt).toArray, .agg (u.map byt).toArray] (.agg (T.map byt).toArray) rfl enter65 (fun W hW => c1 W)) (by simp only [Act.put, List.setIfInBounds_toArray, List.set_cons_zero, List.set_cons_succ]; rfl) ?_; refine ⟨(T.map byt), rfl, by simp, by simp, key_info hl, key_len hl, byts_one _, fun gct w2 lo0 hW ct => ?_⟩
  simp only [Act.put, List.setIfInBounds_toArray, List.set_cons_zero, List.set_cons_succ]
  replace b0 := b0.on hW
  replace b1 := b1.on hW
  replace b2 := b2.on hW
  replace be := be.trans (hW.mono (by have := be.size; omega))
  have lct : n + 1 + 1 < gct := Nat.lt_of_lt_of_le hlow lo0
  clear hlow hW lo0  w1
  clear c1
  go_upto_region 2 with fail
  refine lst_all ?_; refine wpLex_cons2 _ (uni_row rfl 23 (.tmp 6) rfl (gct) (T.map byt) 23 rfl (fun W hW => ct.on hW) Tryd.underlying23 rfl (key_info hl)) (by simp only [Act.put, List.setIfInBounds_toArray, List.set_cons_zero, List.set_cons_succ]; rfl) ?_; refine wpLex_cons2 _ (uni_build0 (by rfl) 23 rfl (.agg (Z.map byt).toArray) hbz) (by simp only [Act.put, List.setIfInBounds_toArray, List.set_cons_zero, List.set_cons_succ]; rfl) ?_; refine wpLex_cons2 _ (uni_val (by rfl) (Op.binOp BinOp.eql 23 (Operand.tmp 10) (Operand.tmp 11) 23) rfl (.bool q) (fun o' ho W _ => by have hg := guard24; go_simp)) (by simp only [Act.put, List.setIfInBounds_toArray, List.set_cons_zero, List.set_cons_succ]; rfl) ?_
  intro w3 hW
  replace b0 := b0.on hW
  replace b1 := b1.on hW
  replace b2 := b2.on hW
  replace ct := ct.on hW
  replace be := be.trans (hW.mono (by have := be.size; omega))
  clear hW w2 he
  by_cases hT : T = Z
  · have hq1 : q = true := by rw [← HQ.out]; exact decide_eq_true hT
    rw [hq1]
    have HB := hide hT
    clear hT HQ hq1
    go_upto_region 3 with fail
    refine lst_then 1 ?_
    simp only [List.take_succ_cons, List.take_zero]
    refine wpLex_cons2 _ (uni_build0 (by rfl) 23 rfl (.agg (Z.map byt).toArray) hbz) (by simp only [Act.put, List.setIfInBounds_toArray, List.set_cons_zero, List.set_cons_succ]; rfl) ?_
    intro w4 hW
    simp only [List.drop_succ_cons, List.drop_zero]
    replace b2 := b2.on hW
    replace be := be.trans (hW.mono (by have := be.size; omega))
    clear hW hbz
    refine lst_row rfl rfl 23 (.tmp 4) (.tmp 13) rfl (n + 1 + 1) (Z.map byt) (z32.map byt) 23 rfl rfl b2 (key_info hzl) (by simpa using zsz) (byts_one _) ?_; refine lst_val rfl (Op.assign (Operand.const (Value.int IntKind.i64 70))) rfl (.int .i64 70) (fun o' ho => by go_simp) (by simp only [Act.put, List.setIfInBounds_toArray, List.set_cons_zero, List.set_cons_succ]; rfl) ?_; refine wpList_nil ?_
    go_wp2
    refine bodyPost_ret (results_cellvar Tryd.results46 _ _ (n + 1 + 1) 23 (Z.map byt).toArray _ (.int .i64 70) rfl rfl (b2.setRow _) Tryd.underlying23 rfl (key_infoA hzl)) rfl ?_
    exact ⟨by rw [← HE.out, if_pos HB.out, HB.out], by first | (rw [hn]; exact below_setRow be _ _ (by omega)) | exact below_setRow be _ _ (by omega)⟩
  · have hq1 : q = false := by rw [← HQ.out]; exact decide_eq_false hT
    rw [hq1]
    have HT := hide hT
    clear hT HQ hq1 hbz
    go_wp2_with (first | (refine wpList_load_row rfl 23 (.tmp 6) rfl gct rfl 23 (T.map byt).toArray (0, 0) _ ct Tryd.underlying23 rfl (key_infoA hl) ?_) | (refine wpList_store_row rfl 23 (.tmp 4) (.tmp 14) rfl (n + 1 + 1) (T.map byt).toArray rfl rfl 23 (z32.map byt).toArray b2 (key_infoA hl) (key_size hl) (byts_one _) ?_))
    refine bodyPost_ret (results_cellvar Tryd.results46 _ _ (n + 1 + 1) 23 (T.map byt).toArray _ (.int .i64 0) rfl rfl (b2.setRow _) Tryd.underlying23 rfl (key_infoA hl)) rfl ?_
    exact ⟨by rw [← HE.out, if_neg HT.out], by first | (rw [hn]; exact below_setRow be _ _ (by omega)) | exact below_setRow be _ _ (by omega)⟩
end Go.Proofs.YtoceepmehmacbaaDoor.Cv
