import Derived.Test.YtacancfmgnmpiaaRed
set_option linter.unusedVariables false
set_option linter.unusedSimpArgs false
namespace Go.Proofs.Ytacancfmgnmpiaa
open Go.RowKit

set_option maxRecDepth 100000 in
set_option maxHeartbeats 4000000 in
theorem meets_walk (a b u BU AU X : List UInt8) (la : a.length = 32) (lb : b.length = 32) (lu : u.length = 32) (lX : X.length = 32)
    (c1 : ∀ W, Calls Try.prog 10 #[.agg (b.map byt).toArray, .agg (u.map byt).toArray] W fun e w' => e = .returned (.agg (BU.map byt).toArray) ∧ Below W.heap.size W w')
    (c2 : ∀ W, Calls Try.prog 10 #[.agg (a.map byt).toArray, .agg (BU.map byt).toArray] W fun e w' => e = .returned (.agg (X.map byt).toArray) ∧ Below W.heap.size W w')
    (c3 : ∀ W, Calls Try.prog 10 #[.agg (a.map byt).toArray, .agg (u.map byt).toArray] W fun e w' => e = .returned (.agg (AU.map byt).toArray) ∧ Below W.heap.size W w')
    (c4 : ∀ W, Calls Try.prog 10 #[.agg (b.map byt).toArray, .agg (AU.map byt).toArray] W fun e w' => e = .returned (.agg (X.map byt).toArray) ∧ Below W.heap.size W w')
    (c5 : ∀ W, Calls Try.prog 15 #[.agg (X.map byt).toArray] W fun e w' => e = .returned (.bool true) ∧ Below W.heap.size W w')
    (he : ∀ W, (Op.equalIn 10000 24 (.agg (X.map byt).toArray) (.agg (X.map byt).toArray)).run Try.prog W = .ok true W)
    (w : World) : Calls Try.prog 6 #[.agg (a.map byt).toArray, .agg (b.map byt).toArray, .agg (u.map byt).toArray] w fun e w' => e = .returned (.bool true) ∧ Below w.heap.size w w' := by
  go_enter Try.func6, Try.ntmps6
  go_upto_region 1 with (first | (refine wpList_boxAt rfl 24 (.tmp 0) rfl (a.map byt) rfl (w.heap.size) rfl ?_) | (refine wpList_boxAt rfl 24 (.tmp 1) rfl (b.map byt) rfl (w.heap.size + 1) (by simp) ?_) | (refine wpList_boxAt rfl 24 (.tmp 2) rfl (u.map byt) rfl (w.heap.size + 1 + 1) (by simp) ?_))
  have b0 : Blk (((w.alloc (.cells (a.map byt).toArray 24)).alloc (.cells (b.map byt).toArray 24)).alloc (.cells (u.map byt).toArray 24)) (w.heap.size) (a.map byt) 24 := by
    have := ((Blk.new w (a.map byt) 24).alloc (.cells (b.map byt).toArray 24)).alloc (.cells (u.map byt).toArray 24)
    simpa using this
  have b1 : Blk (((w.alloc (.cells (a.map byt).toArray 24)).alloc (.cells (b.map byt).toArray 24)).alloc (.cells (u.map byt).toArray 24)) (w.heap.size + 1) (b.map byt) 24 := by
    have := (Blk.new (w.alloc (.cells (a.map byt).toArray 24)) (b.map byt) 24).alloc (.cells (u.map byt).toArray 24)
    simpa using this
  have b2 : Blk (((w.alloc (.cells (a.map byt).toArray 24)).alloc (.cells (b.map byt).toArray 24)).alloc (.cells (u.map byt).toArray 24)) (w.heap.size + 1 + 1) (u.map byt) 24 := by
    have := Blk.new ((w.alloc (.cells (a.map byt).toArray 24)).alloc (.cells (b.map byt).toArray 24)) (u.map byt) 24
    simpa using this
  have be : Below w.heap.size w (((w.alloc (.cells (a.map byt).toArray 24)).alloc (.cells (b.map byt).toArray 24)).alloc (.cells (u.map byt).toArray 24)) := by go_grown
  generalize (((w.alloc (.cells (a.map byt).toArray 24)).alloc (.cells (b.map byt).toArray 24)).alloc (.cells (u.map byt).toArray 24)) = w1 at b0 b1 b2 be ⊢
  obtain ⟨n, hn⟩ : ∃ n, w.heap.size = n := ⟨_, rfl⟩
  rw [hn] at b0 b1 b2 be ⊢
  try simp only [Act.put, List.setIfInBounds_toArray, List.set_cons_zero, List.set_cons_succ]
  refine reg_newT (by kernel_rfl) 5 rfl rfl rfl (by kernel_rfl) rfl 7 rfl 24 rfl (z32.map byt) zero23 rfl rfl (.tmp 14) rfl ?_
  simp only [List.take_succ_cons, List.take_zero]
  refine wpLex_cons2 _ (uni_row rfl 24 (.tmp 3) rfl (n) (a.map byt) 24 rfl (fun W hW => b0.on hW) Try.underlying24 rfl (key_info la)) (by simp only [Act.put, List.setIfInBounds_toArray, List.set_cons_zero, List.set_cons_succ]; rfl) ?_
  refine wpLex_cons2 _ (uni_row rfl 24 (.tmp 4) rfl (n + 1) (b.map byt) 24 rfl (fun W hW => b1.on hW) Try.underlying24 rfl (key_info lb)) (by simp only [Act.put, List.setIfInBounds_toArray, List.set_cons_zero, List.set_cons_succ]; rfl) ?_
  refine wpLex_cons2 _ (uni_row rfl 24 (.tmp 5) rfl (n + 1 + 1) (u.map byt) 24 rfl (fun W hW => b2.on hW) Try.underlying24 rfl (key_info lu)) (by simp only [Act.put, List.setIfInBounds_toArray, List.set_cons_zero, List.set_cons_succ]; rfl) ?_
  refine wpLex_cons2 _ (uni_callF (by rfl) 10 [Operand.tmp 11, Operand.tmp 12] #[24, 24] rfl [.agg (b.map byt).toArray, .agg (u.map byt).toArray] (.agg (BU.map byt).toArray) rfl enter10 (fun W hW => c1 W)) (by simp only [Act.put, List.setIfInBounds_toArray, List.set_cons_zero, List.set_cons_succ]; rfl) ?_
  refine wpLex_cons2 _ (uni_callF (by rfl) 10 [Operand.tmp 10, Operand.tmp 13] #[24, 24] rfl [.agg (a.map byt).toArray, (.agg (BU.map byt).toArray)] (.agg (X.map byt).toArray) rfl enter10 (fun W hW => c2 W)) (by simp only [Act.put, List.setIfInBounds_toArray, List.set_cons_zero, List.set_cons_succ]; rfl) ?_
  refine ⟨X.map byt, rfl, by simp, by simp, key_info lX, key_len lX, byts_one _, fun gkx w2 lo hW kx => ?_⟩
  simp only [Act.put, List.setIfInBounds_toArray, List.set_cons_zero, List.set_cons_succ]
  replace b0 := b0.on hW
  replace b1 := b1.on hW
  replace b2 := b2.on hW
  replace be := be.trans (hW.mono (by have := be.size; omega))
  clear hW lo w1
  go_upto_region 2 with fail
  refine reg_newT (by kernel_rfl) 5 rfl rfl rfl (by kernel_rfl) rfl 8 rfl 24 rfl (z32.map byt) zero23 rfl rfl (.tmp 19) rfl ?_
  simp only [List.take_succ_cons, List.take_zero]
  refine wpLex_cons2 _ (uni_row rfl 24 (.tmp 4) rfl (n + 1) (b.map byt) 24 rfl (fun W hW => b1.on hW) Try.underlying24 rfl (key_info lb)) (by simp only [Act.put, List.setIfInBounds_toArray, List.set_cons_zero, List.set_cons_succ]; rfl) ?_
  refine wpLex_cons2 _ (uni_row rfl 24 (.tmp 3) rfl (n) (a.map byt) 24 rfl (fun W hW => b0.on hW) Try.underlying24 rfl (key_info la)) (by simp only [Act.put, List.setIfInBounds_toArray, List.set_cons_zero, List.set_cons_succ]; rfl) ?_
  refine wpLex_cons2 _ (uni_row rfl 24 (.tmp 5) rfl (n + 1 + 1) (u.map byt) 24 rfl (fun W hW => b2.on hW) Try.underlying24 rfl (key_info lu)) (by simp only [Act.put, List.setIfInBounds_toArray, List.set_cons_zero, List.set_cons_succ]; rfl) ?_
  refine wpLex_cons2 _ (uni_callF (by rfl) 10 [Operand.tmp 16, Operand.tmp 17] #[24, 24] rfl [.agg (a.map byt).toArray, .agg (u.map byt).toArray] (.agg (AU.map byt).toArray) rfl enter10 (fun W hW => c3 W)) (by simp only [Act.put, List.setIfInBounds_toArray, List.set_cons_zero, List.set_cons_succ]; rfl) ?_
  refine wpLex_cons2 _ (uni_callF (by rfl) 10 [Operand.tmp 15, Operand.tmp 18] #[24, 24] rfl [.agg (b.map byt).toArray, (.agg (AU.map byt).toArray)] (.agg (X.map byt).toArray) rfl enter10 (fun W hW => c4 W)) (by simp only [Act.put, List.setIfInBounds_toArray, List.set_cons_zero, List.set_cons_succ]; rfl) ?_
  refine ⟨X.map byt, rfl, by simp, by simp, key_info lX, key_len lX, byts_one _, fun gky w3 lo hW ky => ?_⟩
  simp only [Act.put, List.setIfInBounds_toArray, List.set_cons_zero, List.set_cons_succ]
  replace b0 := b0.on hW
  replace b1 := b1.on hW
  replace b2 := b2.on hW
  replace kx := kx.on hW
  replace be := be.trans (hW.mono (by have := be.size; omega))
  clear hW lo w2
  clear c1 c2 c3 c4
  go_upto_region 3 with fail
  refine lst_all ?_
  refine wpLex_cons2 _ (uni_callF (by rfl) 9 [] #[] rfl [] (.bool true) rfl enter9 (fun W hW => fixed_any W)) (by simp only [Act.put, List.setIfInBounds_toArray, List.set_cons_zero, List.set_cons_succ]; rfl) ?_
  refine wpLex_cons2 _ (uni_val (by rfl) (Op.assign (Operand.tmp 20)) rfl ((.bool true)) (fun o' ho W _ => by go_simp)) (by simp only [Act.put, List.setIfInBounds_toArray, List.set_cons_zero, List.set_cons_succ]; rfl) ?_
  intro w4 hW
  replace b0 := b0.on hW
  replace b1 := b1.on hW
  replace b2 := b2.on hW
  replace kx := kx.on hW
  replace ky := ky.on hW
  replace be := be.trans (hW.mono (by have := be.size; omega))
  clear hW w3
  go_upto_region 4 with fail
  refine lst_all ?_
  refine wpLex_cons2 _ (uni_val (by rfl) (Op.move (Operand.tmp 9)) rfl ((.bool true)) (fun o' ho W _ => by go_simp)) (by simp only [Act.put, List.setIfInBounds_toArray, List.set_cons_zero, List.set_cons_succ]; rfl) ?_
  refine wpLex_cons2 _ (uni_val (by rfl) (Op.move (Operand.tmp 21)) rfl ((.bool true)) (fun o' ho W _ => by go_simp)) (by simp only [Act.put, List.setIfInBounds_toArray, List.set_cons_zero, List.set_cons_succ]; rfl) ?_
  refine wpLex_cons2 _ (uni_rowG (by rfl) 24 (.tmp 7) rfl (gkx) (X.map byt) 24 rfl (fun W hW => kx.on hW) Try.underlying24 rfl (key_info lX)) (by simp only [Act.put, List.setIfInBounds_toArray, List.set_cons_zero, List.set_cons_succ]; rfl) ?_
  refine wpLex_cons2 _ (uni_rowG (by rfl) 24 (.tmp 8) rfl (gky) (X.map byt) 24 rfl (fun W hW => ky.on hW) Try.underlying24 rfl (key_info lX)) (by simp only [Act.put, List.setIfInBounds_toArray, List.set_cons_zero, List.set_cons_succ]; rfl) ?_
  refine wpLex_cons2 _ (uni_val (by rfl) (Op.binOp BinOp.eql 24 (Operand.tmp 23) (Operand.tmp 24) 24) rfl (.bool true) (fun o' ho W _ => by have hg := guard24; go_simp)) (by simp only [Act.put, List.setIfInBounds_toArray, List.set_cons_zero, List.set_cons_succ]; rfl) ?_
  refine wpLex_cons2 _ (uni_val (by rfl) (Op.pick (Operand.tmp 22) (Operand.tmp 25) (Operand.const (Value.bool false))) rfl (.bool true) (fun o' ho W _ => by go_simp)) (by simp only [Act.put, List.setIfInBounds_toArray, List.set_cons_zero, List.set_cons_succ]; rfl) ?_
  refine wpLex_cons2 _ (uni_val (by rfl) (Op.move (Operand.tmp 26)) rfl (.bool true) (fun o' ho W _ => by go_simp)) (by simp only [Act.put, List.setIfInBounds_toArray, List.set_cons_zero, List.set_cons_succ]; rfl) ?_
  refine wpLex_cons2 _ (uni_rowG (by rfl) 24 (.tmp 7) rfl (gkx) (X.map byt) 24 rfl (fun W hW => kx.on hW) Try.underlying24 rfl (key_info lX)) (by simp only [Act.put, List.setIfInBounds_toArray, List.set_cons_zero, List.set_cons_succ]; rfl) ?_
  refine wpLex_cons2 _ (uni_callF (by rfl) 15 [Operand.tmp 28] #[24] rfl [.agg (X.map byt).toArray] (.bool true) rfl enter15 (fun W hW => c5 W)) (by simp only [Act.put, List.setIfInBounds_toArray, List.set_cons_zero, List.set_cons_succ]; rfl) ?_
  refine wpLex_cons2 _ (uni_val (by rfl) (Op.pick (Operand.tmp 27) (Operand.tmp 29) (Operand.const (Value.bool false))) rfl (.bool true) (fun o' ho W _ => by go_simp)) (by simp only [Act.put, List.setIfInBounds_toArray, List.set_cons_zero, List.set_cons_succ]; rfl) ?_
  refine wpLex_cons2 _ (uni_val (by rfl) (Op.assign (Operand.tmp 30)) rfl (.bool true) (fun o' ho W _ => by go_simp)) (by simp only [Act.put, List.setIfInBounds_toArray, List.set_cons_zero, List.set_cons_succ]; rfl) ?_
  intro w5 hW
  replace b0 := b0.on hW
  replace b1 := b1.on hW
  replace b2 := b2.on hW
  replace kx := kx.on hW
  replace ky := ky.on hW
  replace be := be.trans (hW.mono (by have := be.size; omega))
  clear hW w4
  go_wp2
  go_ret
  exact ⟨rfl, by first | (rw [hn]; exact be) | exact be⟩
theorem times_meets (a b u : List UInt8) (la : a.length = 32) (lb : b.length = 32) : timesL a (timesL b u) = timesL b (timesL a u) := by
  rw [times_num a, times_num b (timesL a u), un_times, un_times, Edw.meetsP _ _ (clamp_lt a la) (clamp_lt b lb)]
theorem times_kn (a u : List UInt8) : kn (timesL a u) < Prm.P := by
  rw [times_num]
  have h := (Edw.tmK Edw.cP (kn (clampL a)) (un u)).isLt
  have hP : Prm.P < 115792089237316195423570985008687907853269984665640564039457584007913129639936 := by decide +kernel
  rw [kn_nb _ (by omega)]
  exact h
theorem meets_any (a b u : List UInt8) (la : a.length = 32) (lb : b.length = 32) (lu : u.length = 32) (w : World) : Calls Try.prog 6 #[.agg (a.map byt).toArray, .agg (b.map byt).toArray, .agg (u.map byt).toArray] w fun e w' => e = .returned (.bool true) ∧ Below w.heap.size w w' := by
  have l1 := times_length b u
  have l2 := times_length a u
  have l3 := times_length a (timesL b u)
  have h4 := times_meets a b u la lb
  refine meets_walk a b u (timesL b u) (timesL a u) (timesL a (timesL b u)) la lb lu l3 (fun W => times_any b u lb lu W) (fun W => times_any a _ la l1 W) (fun W => times_any a u la lu W) (fun W => ?_) (fun W => reduced_yes _ l3 (times_kn a _) W) (fun W => ?_) w
  · rw [h4]; exact times_any b _ lb l2 W
  · have := eq23 (timesL a (timesL b u)) (timesL a (timesL b u)) l3 l3 W; rwa [decide_eq_true rfl] at this
end Go.Proofs.Ytacancfmgnmpiaa
