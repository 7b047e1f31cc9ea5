import Derived.Test.YtnakeieeopbeiaaPw2
set_option linter.unusedVariables false
set_option linter.unusedSimpArgs false
namespace Go.Proofs.Ytnakeieeopbeiaa
open Go.RowKit

/-- The power 2^255 - 21. -/
def invE (x : L5) : L5 := mulE (mulE (mulE (sqN (onesE x) 5) (sqN (mulE x x) 2)) (mulE x x)) x

set_option maxRecDepth 100000 in
set_option maxHeartbeats 20000000 in
theorem inv_any (x : L5) (w : World) :
    Calls Try.prog 21 #[x.v] w fun e w' => e = .returned (invE x).v ∧ Below w.heap.size w w' := by
  have HR : Hid (invE x = mulE (mulE (mulE (sqN (onesE x) 5) (sqN (mulE x x) 2)) (mulE x x)) x) := by rw [invE]; trivial
  generalize invE x = R at HR ⊢
  go_enter Try.func21, Try.ntmps21
  go_upto_region 1 with (first | (refine wpList_boxAt rfl 27 (.tmp 0) rfl (x.cs) rfl (w.heap.size) rfl ?_) | (refine wpList_newAt rfl 27 rfl z5 zero27 (w.heap.size + 1) (by simp) ?_))
  have b0 : Blk ((w.alloc (.cells (x.cs).toArray 27)).alloc (.cells (z5).toArray 27)) (w.heap.size) (x.cs) 27 := by
    have := (Blk.new w (x.cs) 27).alloc (.cells (z5).toArray 27)
    simpa using this
  have b1 : Blk ((w.alloc (.cells (x.cs).toArray 27)).alloc (.cells (z5).toArray 27)) (w.heap.size + 1) (z5) 27 := by
    have := Blk.new (w.alloc (.cells (x.cs).toArray 27)) (z5) 27
    simpa using this
  have be : Below w.heap.size w ((w.alloc (.cells (x.cs).toArray 27)).alloc (.cells (z5).toArray 27)) := by go_grown
  generalize ((w.alloc (.cells (x.cs).toArray 27)).alloc (.cells (z5).toArray 27)) = w1 at b0 b1 be ⊢
  obtain ⟨n, hn⟩ : ∃ n, w.heap.size = n := ⟨_, rfl⟩
  rw [hn] at b0 b1 be ⊢
  try simp only [Act.put, List.setIfInBounds_toArray, List.set_cons_zero, List.set_cons_succ]
  refine lst_newT 2 rfl rfl rfl rfl 3 rfl 27 rfl z5 zero27 rfl rfl (.tmp 6) rfl ?_
  simp only [List.take_succ_cons, List.take_zero]
  refine wpLex_cons2 _ (uni_row rfl 27 (.tmp 1) rfl n x.cs 27 rfl (fun W hW => b0.on hW) Try.underlying27 rfl (cs_info _)) (by simp only [Act.put, List.setIfInBounds_toArray, List.set_cons_zero, List.set_cons_succ]; rfl) ?_
  refine wpLex_cons2 _ (uni_callF (by rfl) 20 [Operand.tmp 5] #[27] rfl [x.v] ((mulE x x).v) rfl enter20 (fun W hW => square_any x W)) (by simp only [Act.put, List.setIfInBounds_toArray, List.set_cons_zero, List.set_cons_succ]; rfl) ?_
  refine ⟨(mulE x x).cs, rfl, by simp, by simp, cs_info _, cs_len _, cs_one _, fun gcs w2 hg hW cs => ?_⟩
  simp only [Act.put, List.setIfInBounds_toArray, List.set_cons_zero, List.set_cons_succ]
  replace b0 := b0.on hW
  replace b1 := b1.on hW
  replace be := be.trans (hW.mono (by have := be.size; omega))
  clear hW hg w1
  go_upto_region 2 with fail
  refine lst_newT 2 rfl rfl rfl rfl 4 rfl 27 rfl z5 zero27 rfl rfl (.tmp 8) rfl ?_
  simp only [List.take_succ_cons, List.take_zero]
  refine wpLex_cons2 _ (uni_row rfl 27 (.tmp 3) rfl gcs (mulE x x).cs 27 rfl (fun W hW => cs.on hW) Try.underlying27 rfl (cs_info _)) (by simp only [Act.put, List.setIfInBounds_toArray, List.set_cons_zero, List.set_cons_succ]; rfl) ?_
  refine wpLex_cons2 _ (uni_callF (by rfl) 31 [Operand.tmp 7, Operand.const (Value.int IntKind.i64 2)] #[27, 3] rfl [(mulE x x).v, Value.int IntKind.i64 2] ((sqN (mulE x x) 2).v) rfl enter31 (fun W hW => squared_at (mulE x x) 2 W)) (by simp only [Act.put, List.setIfInBounds_toArray, List.set_cons_zero, List.set_cons_succ]; rfl) ?_
  refine ⟨(sqN (mulE x x) 2).cs, rfl, by simp, by simp, cs_info _, cs_len _, cs_one _, fun gce w3 hg hW ce => ?_⟩
  simp only [Act.put, List.setIfInBounds_toArray, List.set_cons_zero, List.set_cons_succ]
  replace b0 := b0.on hW
  replace b1 := b1.on hW
  replace cs := cs.on hW
  replace be := be.trans (hW.mono (by have := be.size; omega))
  clear hW hg w2
  go_upto_region 3 with fail
  refine reg_putT (by kernel_rfl) 9 rfl rfl (by kernel_rfl) rfl rfl 27 (.tmp 2) (.tmp 17) rfl ?_
  simp only [List.take_succ_cons, List.take_zero]
  refine wpLex_cons2 _ (uni_row rfl 27 (.tmp 1) rfl n x.cs 27 rfl (fun W hW => b0.on hW) Try.underlying27 rfl (cs_info _)) (by simp only [Act.put, List.setIfInBounds_toArray, List.set_cons_zero, List.set_cons_succ]; rfl) ?_
  refine wpLex_cons2 _ (uni_callF (by rfl) 32 [Operand.tmp 9] #[27] rfl [x.v] ((onesE x).v) rfl enter32 (fun W hW => manyOnes_any x W)) (by simp only [Act.put, List.setIfInBounds_toArray, List.set_cons_zero, List.set_cons_succ]; rfl) ?_
  refine wpLex_cons2 _ (uni_callF (by rfl) 31 [Operand.tmp 10, Operand.const (Value.int IntKind.i64 5)] #[27, 3] rfl [((onesE x).v), Value.int IntKind.i64 5] ((sqN (onesE x) 5).v) rfl enter31 (fun W hW => squared_at (onesE x) 5 W)) (by simp only [Act.put, List.setIfInBounds_toArray, List.set_cons_zero, List.set_cons_succ]; rfl) ?_
  refine wpLex_cons2 _ (uni_row rfl 27 (.tmp 4) rfl gce (sqN (mulE x x) 2).cs 27 rfl (fun W hW => ce.on hW) Try.underlying27 rfl (cs_info _)) (by simp only [Act.put, List.setIfInBounds_toArray, List.set_cons_zero, List.set_cons_succ]; rfl) ?_
  refine wpLex_cons2 _ (uni_callF (by rfl) 16 [Operand.tmp 11, Operand.tmp 12] #[27, 27] rfl [((sqN (onesE x) 5).v), (sqN (mulE x x) 2).v] ((mulE (sqN (onesE x) 5) (sqN (mulE x x) 2)).v) rfl enter16 (fun W hW => mul_any (sqN (onesE x) 5) (sqN (mulE x x) 2) W)) (by simp only [Act.put, List.setIfInBounds_toArray, List.set_cons_zero, List.set_cons_succ]; rfl) ?_
  refine wpLex_cons2 _ (uni_row rfl 27 (.tmp 3) rfl gcs (mulE x x).cs 27 rfl (fun W hW => cs.on hW) Try.underlying27 rfl (cs_info _)) (by simp only [Act.put, List.setIfInBounds_toArray, List.set_cons_zero, List.set_cons_succ]; rfl) ?_
  refine wpLex_cons2 _ (uni_callF (by rfl) 16 [Operand.tmp 13, Operand.tmp 14] #[27, 27] rfl [((mulE (sqN (onesE x) 5) (sqN (mulE x x) 2)).v), (mulE x x).v] ((mulE (mulE (sqN (onesE x) 5) (sqN (mulE x x) 2)) (mulE x x)).v) rfl enter16 (fun W hW => mul_any (mulE (sqN (onesE x) 5) (sqN (mulE x x) 2)) (mulE x x) W)) (by simp only [Act.put, List.setIfInBounds_toArray, List.set_cons_zero, List.set_cons_succ]; rfl) ?_
  refine wpLex_cons2 _ (uni_row rfl 27 (.tmp 1) rfl n x.cs 27 rfl (fun W hW => b0.on hW) Try.underlying27 rfl (cs_info _)) (by simp only [Act.put, List.setIfInBounds_toArray, List.set_cons_zero, List.set_cons_succ]; rfl) ?_
  refine wpLex_cons2 _ (uni_callF (by rfl) 16 [Operand.tmp 15, Operand.tmp 16] #[27, 27] rfl [((mulE (mulE (sqN (onesE x) 5) (sqN (mulE x x) 2)) (mulE x x)).v), x.v] ((mulE (mulE (mulE (sqN (onesE x) 5) (sqN (mulE x x) 2)) (mulE x x)) x).v) rfl enter16 (fun W hW => mul_any (mulE (mulE (sqN (onesE x) 5) (sqN (mulE x x) 2)) (mulE x x)) x W)) (by simp only [Act.put, List.setIfInBounds_toArray, List.set_cons_zero, List.set_cons_succ]; rfl) ?_
  refine ⟨n + 1, (mulE (mulE (mulE (sqN (onesE x) 5) (sqN (mulE x x) 2)) (mulE x x)) x).cs, z5, 27, rfl, rfl, b1, cs_info _, cs_len _, cs_one _, fun wz hW => ?_⟩
  go_wp2
  refine bodyPost_ret (results_cell_row Try.results21 _ _ (n + 1) 27 ((mulE (mulE (mulE (sqN (onesE x) 5) (sqN (mulE x x) 2)) (mulE x x)) x).cs).toArray (0, 0) _ rfl ((b1.on hW).setRow _) Try.underlying27 rfl (cs_infoA _)) rfl ?_
  exact ⟨by rw [HR.out]; rfl, by rw [hn]; exact below_setRow (be.trans (hW.mono (by have := be.size; omega))) _ _ (by omega)⟩

end Go.Proofs.Ytnakeieeopbeiaa
