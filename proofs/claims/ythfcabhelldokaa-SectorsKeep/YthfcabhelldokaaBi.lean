import Derived.Test.YthfcabhelldokaaLst
set_option linter.unusedVariables false
set_option linter.unusedSimpArgs false
namespace Go.Proofs.Ythfcabhelldokaa
open Go.RowKit

/-- The numbers of a crash that keeps just write number k. -/
def bitK (k : Nat) : List (BitVec 64) := List.replicate (k / 64) 0 ++ [1#64 <<< (k % 64)]
def allK : List (BitVec 64) := [18446744073709551615#64, 18446744073709551615#64]
theorem and_one (x : BitVec 64) (s : Nat) : decide (wn (x >>> s &&& 1#64) = 1) = x.getLsbD s := by
  have h : (x >>> s &&& 1#64).toNat = (x.getLsbD s).toNat := by
    rw [BitVec.toNat_and, BitVec.toNat_ushiftRight, show (1#64).toNat = 1 from rfl, Nat.and_one_is_mod, BitVec.getLsbD, Nat.testBit, Nat.and_comm 1, Nat.and_one_is_mod]
    rcases Nat.mod_two_eq_zero_or_one (x.toNat >>> s) with h | h <;> rw [h] <;> rfl
  unfold wn
  rw [h]
  cases x.getLsbD s <;> rfl
theorem bit_kept (k : Nat) (hk : k < 100) (j : Nat) (hj : j < 100) : keptB (bitK k) j = decide (j = k) := by
  unfold keptB bitK
  rw [and_one]
  by_cases h1 : j / 64 < k / 64
  · rw [List.getD_eq_getElem?_getD, List.getElem?_append_left (by simpa using h1), List.getElem?_replicate_of_lt h1, decide_eq_false (show ¬ j = k by intro e; subst e; omega)]
    simp
  · by_cases h2 : j / 64 = k / 64
    · rw [List.getD_eq_getElem?_getD, List.getElem?_append_right (by simp; omega), h2]
      simp only [List.length_replicate, Nat.sub_self, List.getElem?_cons_zero, Option.getD_some, List.length_append, List.length_cons, List.length_nil, Nat.zero_add, Nat.lt_add_one, decide_true, Bool.true_and]
      rw [BitVec.getLsbD_shiftLeft]
      have a1 : j % 64 < 64 := Nat.mod_lt _ (by decide)
      by_cases h3 : j = k
      · subst h3
        simp [a1]
      · rw [decide_eq_false h3]
        by_cases h4 : j % 64 < k % 64
        · simp [h4]
        · have h5 : j % 64 - k % 64 ≠ 0 := by omega
          rw [show (1#64).getLsbD (j % 64 - k % 64) = false by rw [BitVec.getLsbD_one]; simp; omega]
          simp
    · rw [decide_eq_false (show ¬ j / 64 < _ by simp; omega), Bool.false_and, decide_eq_false (by intro e; subst e; omega)]
theorem all_kept : ∀ j, j < 100 → keptB allK j = true := by decide +kernel
theorem nil_kept (j : Nat) : keptB [] j = false := by simp [keptB]
theorem idx36b (g n m : Nat) (h : m < n) (W : World) : (Instr.indexAt 36 (.slice (some ⟨g, 0, none⟩) n n) (.int .i64 (m : Int))).run Try.prog W = .ok (.pointer (some ⟨g, m, none⟩)) W := by
  rw [idx36 ⟨g, 0, none⟩ n n m h W, add_plain]
theorem zero38 (w : World) : (zeroValue 38).run Try.prog w = .ok (.agg (lossC (.slice none 0 0) 0 0).toArray) w := by kernel_rfl
theorem build38m (v : Value) {g n : Nat} (W : World) : (Instr.build 38 #[(0, .slice (some ⟨g, 0, none⟩) n n), (1, .int .i64 (-1))]).run Try.prog W = .ok (.agg (lossC (.slice (some ⟨g, 0, none⟩) n n) (-1) 0).toArray) W := by kernel_rfl
theorem lossC_one (g n : Nat) (t o : Int) : (lossC (.slice (some ⟨g, 0, none⟩) n n) t o).toArray.all (·.oneCell') = true := all_oneCell_toArray fun v hv => by
  simp only [lossC, List.mem_cons, List.not_mem_nil, or_false] at hv
  rcases hv with rfl | rfl | rfl <;> rfl
theorem wv_zero : wv 0 = .int .u64 0 := by simp [wv, wn]
theorem bit_has (W : World) (g q : Nat) (X : BitVec 64) (B : Blk W g ((List.replicate (q + 1) (Value.int .u64 0)).set q (.int .u64 (wn X))) 39) : Has64 W (.slice (some ⟨g, 0, none⟩) (q + 1) (q + 1)) (List.replicate q 0 ++ [X]) := by
  have hl : (List.replicate q (0 : BitVec 64) ++ [X]).length = q + 1 := by rw [List.length_append, List.length_replicate]; rfl
  refine .inr ⟨⟨g, 0, none⟩, q + 1, by rw [hl], by rw [hl]; exact Nat.le_refl _, fun i u hu => ?_⟩
  have hi : i < q + 1 := by rw [← hl]; exact (List.getElem?_eq_some_iff.1 hu).1
  rw [add_plain, B.cell]
  by_cases hiq : i = q
  · subst hiq
    rw [List.getElem?_append_right (by rw [List.length_replicate]; exact Nat.le_refl _), List.length_replicate, Nat.sub_self, List.getElem?_cons_zero, Option.some.injEq] at hu
    rw [List.getElem?_set_self (by rw [List.length_replicate]; exact hi), hu, wv]
  · rw [List.getElem?_append_left (by rw [List.length_replicate]; omega), List.getElem?_replicate_of_lt (by omega), Option.some.injEq] at hu
    rw [List.getElem?_set_ne (Ne.symm hiq), List.getElem?_replicate_of_lt hi, ← hu, wv_zero]
theorem wshl1 (k : Nat) : IntKind.u64.wrap ((1 : Int) * 2 ^ k) = wn (1#64 <<< k) := wshl 1#64 k

set_option maxRecDepth 100000 in
set_option maxHeartbeats 2000000 in
theorem bit_any (k : Nat) (hk : k < 100) (w : World) : Calls Try.prog 14 #[.int .i64 (k : Int)] w fun e w' => ∃ g n, e = .returned (.agg (lossC (.slice (some ⟨g, 0, none⟩) n n) (-1) 0).toArray) ∧ Below w.heap.size w w' ∧ w.heap.size ≤ g ∧ Has64 w' (.slice (some ⟨g, 0, none⟩) n n) (bitK k) := by
  have q1 : (k : Int) / 64 = ((k / 64 : Nat) : Int) := by omega
  have q2 : (k : Int) % 64 = ((k % 64 : Nat) : Int) := by omega
  have q4 : k / 64 < 100 := by omega
  have hbk : bitK k = List.replicate (k / 64) 0 ++ [1#64 <<< (k % 64)] := rfl
  have hr3 : k % 64 < 64 := Nat.mod_lt _ (by decide)
  obtain ⟨q, hq⟩ : ∃ q, k / 64 = q := ⟨_, rfl⟩
  obtain ⟨r, hr⟩ : ∃ r, k % 64 = r := ⟨_, rfl⟩
  rw [hq] at q1 q4 hbk
  rw [hr] at q2 hbk hr3
  clear hq hr
  have B0 : Blk (w.alloc (.cells (lossC (.slice none 0 0) 0 0).toArray 38)) w.heap.size (lossC (.slice none 0 0) 0 0) 38 := Blk.new w _ _
  have be0 : Below w.heap.size w (w.alloc (.cells (lossC (.slice none 0 0) 0 0).toArray 38)) := below_new w _
  obtain ⟨g0, hg0⟩ : ∃ g, w.heap.size = g := ⟨_, rfl⟩
  obtain ⟨w0, hw0⟩ : ∃ w0, w.alloc (.cells (lossC (.slice none 0 0) 0 0).toArray 38) = w0 := ⟨_, rfl⟩
  have sz0 : w0.heap.size = g0 + 1 := by rw [← hw0, ← hg0]; simp
  rw [hw0, hg0] at B0 be0
  have hmk := run_mk36 w0 (q + 1) (by omega)
  have B1 : Blk (w0.alloc (.cells (List.replicate (q + 1) (Value.int .u64 0)).toArray 39)) (g0 + 1) (List.replicate (q + 1) (Value.int .u64 0)) 39 := Blk.newAt sz0
  have be1 : Below w0.heap.size w0 (w0.alloc (.cells (List.replicate (q + 1) (Value.int .u64 0)).toArray 39)) := below_new w0 _
  obtain ⟨w1, hw1⟩ : ∃ w1, w0.alloc (.cells (List.replicate (q + 1) (Value.int .u64 0)).toArray 39) = w1 := ⟨_, rfl⟩
  rw [hw1] at hmk B1 be1
  rw [sz0] at hmk
  have hix := fun W => idx36b (g0 + 1) (q + 1) q (by omega) W
  have S1 : Hid (IntKind.u64.wrap ((2 : Int) ^ r) = wn (1#64 <<< r)) := hide (by have := wshl1 r; rwa [Int.one_mul] at this)
  obtain ⟨X, hX⟩ : ∃ X, (1#64 <<< r) = X := ⟨_, rfl⟩
  rw [hX] at S1 hbk
  have HBK := hide hbk
  have HB0 := hide B0
  have HB1 := hide B1
  have HE0 := hide be0
  have HE1 := hide be1
  have E0 : Hid (IntKind.i64.wrap (q : Int) = (q : Int)) := hide (by rw [IntKind.wrap_i64]; omega)
  have E1 : Hid ((k : Int).tmod 64 = (r : Int)) := hide (by rw [Int.tmod_eq_emod_of_nonneg (by omega)]; exact q2)
  have e0 : wrap64 (q : Int) = (q : Int) := IntWalk.wrap64_in _ (by omega)
  have e3 : wrap64 ((q : Int) + 1) = ((q + 1 : Nat) : Int) := by rw [IntWalk.wrap64_in _ (by omega)]; simp
  have e4 : (q : Int) + 1 = ((q + 1 : Nat) : Int) := by simp
  have HL : ((List.replicate (q + 1) (Value.int .u64 0)).set q (.int .u64 (wn X))).length = q + 1 := by rw [List.length_set, List.length_replicate]
  have hrep : (List.replicate (q + 1) (Value.int .u64 0))[q]? = some (Value.int .u64 0) := by rw [List.getElem?_replicate_of_lt (by omega)]
  have HREP := hide hrep
  clear hrep HL B0 B1 be0 be1 hX hbk
  have hbd := fun W => build38m (.slice none 0 0) (g := g0 + 1) (n := q + 1) W
  have hi38 := info38A (.slice (some ⟨g0 + 1, 0, none⟩) (q + 1) (q + 1)) (-1) 0
  have h1 := lossC_one (g0 + 1) (q + 1) (-1) 0
  have HI := hide hi38
  have H1 := hide h1
  clear h1 hi38
  obtain ⟨n1, hn1⟩ : ∃ n1, q + 1 = n1 := ⟨_, rfl⟩
  have HN1 := hide hn1
  rw [hn1] at hmk hix e3 e4 hbd HI H1
  clear hn1
  go_enter Try.func14, Try.ntmps14
  go_upto_region 2 with (first | (refine wpList_newAt rfl 38 rfl _ zero38 g0 hg0 ?_; rw [hw0]) | fail)
  refine lst_then 6 ?_
  simp only [List.take_succ_cons, List.take_zero]
  refine wpLex_cons2 _ (uni_val (by rfl) (Op.move (Operand.tmp 3)) rfl (.slice (some ⟨g0 + 1, 0, none⟩) n1 n1) (fun o' ho W hW => by go_simp)) (by simp only [Act.put, List.setIfInBounds_toArray, List.set_cons_zero, List.set_cons_succ]; rfl) ?_
  refine wpLex_cons2 _ (uni_val (by rfl) (Op.move (Operand.tmp 0)) rfl (.int .i64 (k : Int)) (fun o' ho W hW => by go_simp)) (by simp only [Act.put, List.setIfInBounds_toArray, List.set_cons_zero, List.set_cons_succ]; rfl) ?_
  refine wpLex_cons2 _ (uni_val (by rfl) (Op.binOp BinOp.quo 3 (Operand.tmp 9) (Operand.const (Value.int IntKind.i64 64)) 3) rfl (.int .i64 (q : Int)) (fun o' ho W hW => by go_simp; exact E0.out)) (by simp only [Act.put, List.setIfInBounds_toArray, List.set_cons_zero, List.set_cons_succ]; rfl) ?_
  refine wpLex_cons2 _ (uni_val (by rfl) (Op.move (Operand.tmp 0)) rfl (.int .i64 (k : Int)) (fun o' ho W hW => by go_simp)) (by simp only [Act.put, List.setIfInBounds_toArray, List.set_cons_zero, List.set_cons_succ]; rfl) ?_
  refine wpLex_cons2 _ (uni_val (by rfl) (Op.binOp BinOp.rem 3 (Operand.tmp 11) (Operand.const (Value.int IntKind.i64 64)) 3) rfl (.int .i64 (r : Int)) (fun o' ho W hW => by go_simp; exact E1.out)) (by simp only [Act.put, List.setIfInBounds_toArray, List.set_cons_zero, List.set_cons_succ]; rfl) ?_
  refine wpLex_cons2 _ (uni_val (by rfl) (Op.binOp BinOp.shl 39 (Operand.const (Value.int IntKind.u64 1)) (Operand.tmp 12) 3) rfl (.int .u64 (wn X)) (fun o' ho W hW => by go_simp; exact S1.out)) (by simp only [Act.put, List.setIfInBounds_toArray, List.set_cons_zero, List.set_cons_succ]; rfl) ?_
  intro W hW
  simp only [List.drop_succ_cons, List.drop_zero]
  have B1 := HB1.out.on hW
  have hold := (B1.cell q).trans HREP.out
  have hfz := B1.frozen q
  have B2 := B1.set q (.int .u64 (wn X))
  have f2 : Fx (One (g0 + 1)) W (W.setCell ⟨g0 + 1, q, none⟩ (.int .u64 (wn X))) := Fx.setCell _ _ _ _ rfl
  obtain ⟨w2, hw2⟩ : ∃ w2, W.setCell ⟨g0 + 1, q, none⟩ (.int .u64 (wn X)) = w2 := ⟨_, rfl⟩
  rw [hw2] at B2 f2
  have B02 : Blk w2 g0 (lossC (.slice none 0 0) 0 0) 38 := ((HB0.out.on HE1.out).on hW).fx f2 (fun e => by have : g0 = g0 + 1 := e; omega)
  have be2 : Below g0 w w2 := (HE0.out.trans ((HE1.out.trans (hW.mono HE1.out.size)).mono (by omega))).trans (f2.below (fun k hk e => by have : k = g0 + 1 := e; omega) (by have := HE1.out.size; have := hW.size; omega))
  have H64 : Hid (Has64 (w2.setRow g0 (lossC (.slice (some ⟨g0 + 1, 0, none⟩) n1 n1) (-1) 0).toArray) (.slice (some ⟨g0 + 1, 0, none⟩) n1 n1) (bitK k)) := by
    rw [HBK.out, ← HN1.out]
    exact hide (bit_has _ _ _ _ (B2.setRowOther g0 _ (by omega)))
  have HB02 := hide B02
  have HBE := hide be2
  clear B02 be2 B2 f2 B1 hW HBK S1
  go_wp2_with (first
    | (refine wpList_store_row rfl 38 (.tmp 2) (.tmp 16) rfl g0 (lossC (.slice (some ⟨g0 + 1, 0, none⟩) n1 n1) (-1) 0).toArray rfl rfl 38 _ HB02.out HI.out rfl H1.out ?_)
    | fail)
  refine bodyPost_ret (results_cell_row Try.results14 _ _ g0 38 (lossC (.slice (some ⟨g0 + 1, 0, none⟩) n1 n1) (-1) 0).toArray (0, 0) _ rfl (HB02.out.setRow _) Try.underlying38 rfl HI.out) rfl ?_
  exact ⟨g0 + 1, n1, rfl, by first | exact below_setRow HBE.out _ _ (Nat.le_refl _) | (rw [hg0]; exact below_setRow HBE.out _ _ (Nat.le_refl _)), by omega, H64.out⟩
end Go.Proofs.Ythfcabhelldokaa
