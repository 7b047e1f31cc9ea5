import Derived.Test.YthfcabhelldokaaSpG
import Derived.Test.YthfcabhelldokaaArm
set_option linter.unusedVariables false
set_option linter.unusedSimpArgs false
namespace Go.Proofs.Ythfcabhelldokaa
open Go.RowKit

section
variable {P : Program} {ops : Array Oper} {Q : Exit → Act → World → Prop} {S : World → Prop}
theorem lst_then {id : Nat} {l : List Oper} {a : Act} {w : World} (n : Nat)
    (h : wpLex P l.toArray (fun W => Below w.heap.size w W) (fun a' => ∀ W, Below w.heap.size w W → wpList P l.toArray Q (l.drop n) a' W) (l.take n) a) : (Code.region id l.toArray false).wp P Q a w := by
  refine wp_region_lit ?_
  have := wpList_of_lex (P := P) (Q := Q) (stable_below w) _ (l.drop n) (fun a' W (hk : ∀ W, Below w.heap.size w W → wpList P l.toArray Q (l.drop n) a' W) hW => hk W hW) (l.take n) a w (Below.refl _ _) h
  rwa [List.take_append_drop] at this
/-- One operation of one value in a list. -/
theorem lst_val {o : Oper} {rest : List Oper} {a a' : Act} {w : World} (hg : o.guard = none) (op : Op) (ho : o.op = op) (v : Value) (hrun : ∀ o' : Oper, o'.op = op → (execOp a.eval o').run P w = .ok (.value v) w) (ha : a.put o.dst v = a') (k : wpList P ops Q rest a' w) : wpList P ops Q (o :: rest) a w := by
  have hwa : Region.wanted o (yielded ops a.tmps) = true := by simp [Region.wanted, hg]
  unfold wpList
  simp only [hwa, if_true, Oper.wp, hrun o ho, Oper.upon]
  rw [ha]
  exact .inl k
theorem lst_row {op : Oper} {rest : List Oper} {a : Act} {w : World} (hg : op.guard = none) (hd : op.dst = none) (ty : TypeId) (x y : Operand) (ho : op.op = .store ty x y)
    (b : Nat) (cs old : List Value) (t : TypeId) (hx : a.eval x = .pointer (some ⟨b, 0, none⟩)) (hy : a.eval y = .agg cs.toArray)
    (hb : Blk w b old t) (hi : (P.info? ty).map (·.size) = some cs.length) (hl : old.length = cs.length) (h1 : cs.toArray.all (·.oneCell') = true)
    (h : wpList P ops Q rest a (w.setRow b cs.toArray)) : wpList P ops Q (op :: rest) a w := by
  refine wpList_store_row hg ty x y ho b cs.toArray hx hy t old.toArray hb (by simpa using hi) (by simpa using hl) h1 ?_
  rw [hd]
  exact h
end
end Go.Proofs.Ythfcabhelldokaa

set_option linter.unusedVariables false
set_option linter.unusedSimpArgs false
namespace Go.Proofs.Ythfcabhelldokaa
open Go.RowKit

/-- The numbers of a crash that keeps just write number k. -/
def bitK (k : Nat) : List (BitVec 64) := List.replicate (k / 64) 0 ++ [1#64 <<< (k % 64)]
def allK : List (BitVec 64) := [18446744073709551615#64, 18446744073709551615#64]
theorem and_one (x : BitVec 64) (s : Nat) : decide (wn (x >>> s &&& 1#64) = 1) = x.getLsbD s := by
  have h : (x >>> s &&& 1#64).toNat = (x.getLsbD s).toNat := by
    rw [BitVec.toNat_and, BitVec.toNat_ushiftRight, show (1#64).toNat = 1 from rfl, Nat.and_one_is_mod, BitVec.getLsbD, Nat.testBit, Nat.and_comm 1, Nat.and_one_is_mod]
    rcases Nat.mod_two_eq_zero_or_one (x.toNat >>> s) with h | h <;> rw [h] <;> rfl
  unfold wn
  rw [h]
  cases x.getLsbD s <;> rfl
theorem bit_kept (k : Nat) (hk : k < 100) (j : Nat) (hj : j < 100) : keptB (bitK k) j = decide (j = k) := by
  unfold keptB bitK
  rw [and_one]
  by_cases h1 : j / 64 < k / 64
  · rw [List.getD_eq_getElem?_getD, List.getElem?_append_left (by simpa using h1), List.getElem?_replicate_of_lt h1, decide_eq_false (show ¬ j = k by intro e; subst e; omega)]
    simp
  · by_cases h2 : j / 64 = k / 64
    · rw [List.getD_eq_getElem?_getD, List.getElem?_append_right (by simp; omega), h2]
      simp only [List.length_replicate, Nat.sub_self, List.getElem?_cons_zero, Option.getD_some, List.length_append, List.length_cons, List.length_nil, Nat.zero_add, Nat.lt_add_one, decide_true, Bool.true_and]
      rw [BitVec.getLsbD_shiftLeft]
      have a1 : j % 64 < 64 := Nat.mod_lt _ (by decide)
      by_cases h3 : j = k
      · subst h3
        simp [a1]
      · rw [decide_eq_false h3]
        by_cases h4 : j % 64 < k % 64
        · simp [h4]
        · have h5 : j % 64 - k % 64 ≠ 0 := by omega
          rw [show (1#64).getLsbD (j % 64 - k % 64) = false by rw [BitVec.getLsbD_one]; simp; omega]
          simp
    · rw [decide_eq_false (show ¬ j / 64 < _ by simp; omega), Bool.false_and, decide_eq_false (by intro e; subst e; omega)]
theorem all_kept : ∀ j, j < 100 → keptB allK j = true := by decide +kernel
theorem nil_kept (j : Nat) : keptB [] j = false := by simp [keptB]
theorem idx36b (g n m : Nat) (h : m < n) (W : World) : (Instr.indexAt 36 (.slice (some ⟨g, 0, none⟩) n n) (.int .i64 (m : Int))).run Try.prog W = .ok (.pointer (some ⟨g, m, none⟩)) W := by
  rw [idx36 ⟨g, 0, none⟩ n n m h W, add_plain]
theorem zero38 (w : World) : (zeroValue 38).run Try.prog w = .ok (.agg (lossC (.slice none 0 0) 0 0).toArray) w := by kernel_rfl
theorem build38m (v : Value) {g n : Nat} (W : World) : (Instr.build 38 #[(0, .slice (some ⟨g, 0, none⟩) n n), (1, .int .i64 (-1))]).run Try.prog W = .ok (.agg (lossC (.slice (some ⟨g, 0, none⟩) n n) (-1) 0).toArray) W := by kernel_rfl
theorem lossC_one (g n : Nat) (t o : Int) : (lossC (.slice (some ⟨g, 0, none⟩) n n) t o).toArray.all (·.oneCell') = true := all_oneCell_toArray fun v hv => by
  simp only [lossC, List.mem_cons, List.not_mem_nil, or_false] at hv
  rcases hv with rfl | rfl | rfl <;> rfl
theorem wv_zero : wv 0 = .int .u64 0 := by simp [wv, wn]
theorem bit_has (W : World) (g q : Nat) (X : BitVec 64) (B : Blk W g ((List.replicate (q + 1) (Value.int .u64 0)).set q (.int .u64 (wn X))) 39) : Has64 W (.slice (some ⟨g, 0, none⟩) (q + 1) (q + 1)) (List.replicate q 0 ++ [X]) := by
  have hl : (List.replicate q (0 : BitVec 64) ++ [X]).length = q + 1 := by rw [List.length_append, List.length_replicate]; rfl
  refine .inr ⟨⟨g, 0, none⟩, q + 1, by rw [hl], by rw [hl]; exact Nat.le_refl _, fun i u hu => ?_⟩
  have hi : i < q + 1 := by rw [← hl]; exact (List.getElem?_eq_some_iff.1 hu).1
  rw [add_plain, B.cell]
  by_cases hiq : i = q
  · subst hiq
    rw [List.getElem?_append_right (by rw [List.length_replicate]; exact Nat.le_refl _), List.length_replicate, Nat.sub_self, List.getElem?_cons_zero, Option.some.injEq] at hu
    rw [List.getElem?_set_self (by rw [List.length_replicate]; exact hi), hu, wv]
  · rw [List.getElem?_append_left (by rw [List.length_replicate]; omega), List.getElem?_replicate_of_lt (by omega), Option.some.injEq] at hu
    rw [List.getElem?_set_ne (Ne.symm hiq), List.getElem?_replicate_of_lt hi, ← hu, wv_zero]
theorem wshl1 (k : Nat) : IntKind.u64.wrap ((1 : Int) * 2 ^ k) = wn (1#64 <<< k) := wshl 1#64 k

set_option maxRecDepth 100000 in
set_option maxHeartbeats 2000000 in
theorem bit_any (k : Nat) (hk : k < 100) (w : World) : Calls Try.prog 14 #[.int .i64 (k : Int)] w fun e w' => ∃ g n, e = .returned (.agg (lossC (.slice (some ⟨g, 0, none⟩) n n) (-1) 0).toArray) ∧ Below w.heap.size w w' ∧ w.heap.size ≤ g ∧ Has64 w' (.slice (some ⟨g, 0, none⟩) n n) (bitK k) := by
  have q1 : (k : Int) / 64 = ((k / 64 : Nat) : Int) := by omega
  have q2 : (k : Int) % 64 = ((k % 64 : Nat) : Int) := by omega
  have q4 : k / 64 < 100 := by omega
  have hbk : bitK k = List.replicate (k / 64) 0 ++ [1#64 <<< (k % 64)] := rfl
  have hr3 : k % 64 < 64 := Nat.mod_lt _ (by decide)
  obtain ⟨q, hq⟩ : ∃ q, k / 64 = q := ⟨_, rfl⟩
  obtain ⟨r, hr⟩ : ∃ r, k % 64 = r := ⟨_, rfl⟩
  rw [hq] at q1 q4 hbk
  rw [hr] at q2 hbk hr3
  clear hq hr
  have B0 : Blk (w.alloc (.cells (lossC (.slice none 0 0) 0 0).toArray 38)) w.heap.size (lossC (.slice none 0 0) 0 0) 38 := Blk.new w _ _
  have be0 : Below w.heap.size w (w.alloc (.cells (lossC (.slice none 0 0) 0 0).toArray 38)) := below_new w _
  obtain ⟨g0, hg0⟩ : ∃ g, w.heap.size = g := ⟨_, rfl⟩
  obtain ⟨w0, hw0⟩ : ∃ w0, w.alloc (.cells (lossC (.slice none 0 0) 0 0).toArray 38) = w0 := ⟨_, rfl⟩
  have sz0 : w0.heap.size = g0 + 1 := by rw [← hw0, ← hg0]; simp
  rw [hw0, hg0] at B0 be0
  have hmk := run_mk36 w0 (q + 1) (by omega)
  have B1 : Blk (w0.alloc (.cells (List.replicate (q + 1) (Value.int .u64 0)).toArray 39)) (g0 + 1) (List.replicate (q + 1) (Value.int .u64 0)) 39 := Blk.newAt sz0
  have be1 : Below w0.heap.size w0 (w0.alloc (.cells (List.replicate (q + 1) (Value.int .u64 0)).toArray 39)) := below_new w0 _
  obtain ⟨w1, hw1⟩ : ∃ w1, w0.alloc (.cells (List.replicate (q + 1) (Value.int .u64 0)).toArray 39) = w1 := ⟨_, rfl⟩
  rw [hw1] at hmk B1 be1
  rw [sz0] at hmk
  have hix := fun W => idx36b (g0 + 1) (q + 1) q (by omega) W
  have S1 : Hid (IntKind.u64.wrap ((2 : Int) ^ r) = wn (1#64 <<< r)) := hide (by have := wshl1 r; rwa [Int.one_mul] at this)
  obtain ⟨X, hX⟩ : ∃ X, (1#64 <<< r) = X := ⟨_, rfl⟩
  rw [hX] at S1 hbk
  have HBK := hide hbk
  have HB0 := hide B0
  have HB1 := hide B1
  have HE0 := hide be0
  have HE1 := hide be1
  have E0 : Hid (IntKind.i64.wrap (q : Int) = (q : Int)) := hide (by rw [IntKind.wrap_i64]; omega)
  have E1 : Hid ((k : Int).tmod 64 = (r : Int)) := hide (by rw [Int.tmod_eq_emod_of_nonneg (by omega)]; exact q2)
  have e0 : wrap64 (q : Int) = (q : Int) := IntWalk.wrap64_in _ (by omega)
  have e3 : wrap64 ((q : Int) + 1) = ((q + 1 : Nat) : Int) := by rw [IntWalk.wrap64_in _ (by omega)]; simp
  have e4 : (q : Int) + 1 = ((q + 1 : Nat) : Int) := by simp
  have HL : ((List.replicate (q + 1) (Value.int .u64 0)).set q (.int .u64 (wn X))).length = q + 1 := by rw [List.length_set, List.length_replicate]
  have hrep : (List.replicate (q + 1) (Value.int .u64 0))[q]? = some (Value.int .u64 0) := by rw [List.getElem?_replicate_of_lt (by omega)]
  have HREP := hide hrep
  clear hrep HL B0 B1 be0 be1 hX hbk
  have hbd := fun W => build38m (.slice none 0 0) (g := g0 + 1) (n := q + 1) W
  have hi38 := info38A (.slice (some ⟨g0 + 1, 0, none⟩) (q + 1) (q + 1)) (-1) 0
  have h1 := lossC_one (g0 + 1) (q + 1) (-1) 0
  have HI := hide hi38
  have H1 := hide h1
  clear h1 hi38
  obtain ⟨n1, hn1⟩ : ∃ n1, q + 1 = n1 := ⟨_, rfl⟩
  have HN1 := hide hn1
  rw [hn1] at hmk hix e3 e4 hbd HI H1
  clear hn1
  go_enter Try.func14, Try.ntmps14
  go_upto_region 2 with (first | (refine wpList_newAt rfl 38 rfl _ zero38 g0 hg0 ?_; rw [hw0]) | fail)
  refine lst_then 6 ?_
  simp only [List.take_succ_cons, List.take_zero]
  refine wpLex_cons2 _ (uni_val (by rfl) (Op.move (Operand.tmp 3)) rfl (.slice (some ⟨g0 + 1, 0, none⟩) n1 n1) (fun o' ho W hW => by go_simp)) (by simp only [Act.put, List.setIfInBounds_toArray, List.set_cons_zero, List.set_cons_succ]; rfl) ?_
  refine wpLex_cons2 _ (uni_val (by rfl) (Op.move (Operand.tmp 0)) rfl (.int .i64 (k : Int)) (fun o' ho W hW => by go_simp)) (by simp only [Act.put, List.setIfInBounds_toArray, List.set_cons_zero, List.set_cons_succ]; rfl) ?_
  refine wpLex_cons2 _ (uni_val (by rfl) (Op.binOp BinOp.quo 3 (Operand.tmp 9) (Operand.const (Value.int IntKind.i64 64)) 3) rfl (.int .i64 (q : Int)) (fun o' ho W hW => by go_simp; exact E0.out)) (by simp only [Act.put, List.setIfInBounds_toArray, List.set_cons_zero, List.set_cons_succ]; rfl) ?_
  refine wpLex_cons2 _ (uni_val (by rfl) (Op.move (Operand.tmp 0)) rfl (.int .i64 (k : Int)) (fun o' ho W hW => by go_simp)) (by simp only [Act.put, List.setIfInBounds_toArray, List.set_cons_zero, List.set_cons_succ]; rfl) ?_
  refine wpLex_cons2 _ (uni_val (by rfl) (Op.binOp BinOp.rem 3 (Operand.tmp 11) (Operand.const (Value.int IntKind.i64 64)) 3) rfl (.int .i64 (r : Int)) (fun o' ho W hW => by go_simp; exact E1.out)) (by simp only [Act.put, List.setIfInBounds_toArray, List.set_cons_zero, List.set_cons_succ]; rfl) ?_
  refine wpLex_cons2 _ (uni_val (by rfl) (Op.binOp BinOp.shl 39 (Operand.const (Value.int IntKind.u64 1)) (Operand.tmp 12) 3) rfl (.int .u64 (wn X)) (fun o' ho W hW => by go_simp; exact S1.out)) (by simp only [Act.put, List.setIfInBounds_toArray, List.set_cons_zero, List.set_cons_succ]; rfl) ?_
  intro W hW
  simp only [List.drop_succ_cons, List.drop_zero]
  have B1 := HB1.out.on hW
  have hold := (B1.cell q).trans HREP.out
  have hfz := B1.frozen q
  have B2 := B1.set q (.int .u64 (wn X))
  have f2 : Fx (One (g0 + 1)) W (W.setCell ⟨g0 + 1, q, none⟩ (.int .u64 (wn X))) := Fx.setCell _ _ _ _ rfl
  obtain ⟨w2, hw2⟩ : ∃ w2, W.setCell ⟨g0 + 1, q, none⟩ (.int .u64 (wn X)) = w2 := ⟨_, rfl⟩
  rw [hw2] at B2 f2
  have B02 : Blk w2 g0 (lossC (.slice none 0 0) 0 0) 38 := ((HB0.out.on HE1.out).on hW).fx f2 (fun e => by have : g0 = g0 + 1 := e; omega)
  have be2 : Below g0 w w2 := (HE0.out.trans ((HE1.out.trans (hW.mono HE1.out.size)).mono (by omega))).trans (f2.below (fun k hk e => by have : k = g0 + 1 := e; omega) (by have := HE1.out.size; have := hW.size; omega))
  have H64 : Hid (Has64 (w2.setRow g0 (lossC (.slice (some ⟨g0 + 1, 0, none⟩) n1 n1) (-1) 0).toArray) (.slice (some ⟨g0 + 1, 0, none⟩) n1 n1) (bitK k)) := by
    rw [HBK.out, ← HN1.out]
    exact hide (bit_has _ _ _ _ (B2.setRowOther g0 _ (by omega)))
  have HB02 := hide B02
  have HBE := hide be2
  clear B02 be2 B2 f2 B1 hW HBK S1
  go_wp2_with (first
    | (refine wpList_store_row rfl 38 (.tmp 2) (.tmp 16) rfl g0 (lossC (.slice (some ⟨g0 + 1, 0, none⟩) n1 n1) (-1) 0).toArray rfl rfl 38 _ HB02.out HI.out rfl H1.out ?_)
    | fail)
  refine bodyPost_ret (results_cell_row Try.results14 _ _ g0 38 (lossC (.slice (some ⟨g0 + 1, 0, none⟩) n1 n1) (-1) 0).toArray (0, 0) _ rfl (HB02.out.setRow _) Try.underlying38 rfl HI.out) rfl ?_
  exact ⟨g0 + 1, n1, rfl, by first | exact below_setRow HBE.out _ _ (Nat.le_refl _) | (rw [hg0]; exact below_setRow HBE.out _ _ (Nat.le_refl _)), by omega, H64.out⟩
end Go.Proofs.Ythfcabhelldokaa

set_option linter.unusedVariables false
set_option linter.unusedSimpArgs false
namespace Go.Proofs.Ythfcabhelldokaa
open Go.RowKit

theorem size39 : (Try.prog.info? 39).map (·.size) = some 1 := info39s
theorem elem36 : Try.prog.elem 36 = 39 := by kernel_rfl
theorem sl36 (g n cap : Nat) (hn : n ≤ cap) (hc : 0 < cap) (hb : cap < 9223372036854775808) (W : World) : (Instr.slice 36 (.slice (some ⟨g, 0, none⟩) cap cap) none (some (.int .i64 (n : Int))) none).run Try.prog W = .ok (.slice (some ⟨g, 0, none⟩) n cap) W := by
  have ht : Try.prog.underlying 36 = some (.slice (Try.prog.elem 36)) := by rw [elem36]; exact Try.underlying36
  rw [run_slice_h W 36 _ _ cap ht .i64 n (by omega) (by omega), elem36]
  obtain ⟨i0, hi, h0⟩ : ∃ i0, Try.prog.info? 39 = some i0 ∧ i0.size = 1 := by
    have := size39
    rw [Option.map_eq_some_iff] at this
    obtain ⟨a, b, c⟩ := this
    exact ⟨a, b, c⟩
  simp [Result.andThen, sizeOf, typeInfo, hi, h0, sliced, show ¬ cap = 0 by omega, Addr.add]
/-- A copy while it is filled. -/
def tw (ks : List (BitVec 64)) (t : Nat) : List Value := (ks.take t).map wv ++ List.replicate (ks.length + 2 - t) (Value.int .u64 0)
theorem tw_length (ks : List (BitVec 64)) (t : Nat) (h : t ≤ ks.length) : (tw ks t).length = ks.length + 2 := by simp [tw]; omega
theorem tw_zero (ks : List (BitVec 64)) : tw ks 0 = List.replicate (ks.length + 2) (Value.int .u64 0) := by simp [tw]
theorem tw_set (ks : List (BitVec 64)) (t : Nat) (u : BitVec 64) (h : ks[t]? = some u) : (tw ks t).set t (wv u) = tw ks (t + 1) := by
  have ht : t < ks.length := by
    rcases Nat.lt_or_ge t ks.length with h1 | h1
    · exact h1
    · rw [List.getElem?_eq_none h1] at h; cases h
  have e : List.replicate (ks.length + 2 - t) (Value.int .u64 0) = Value.int .u64 0 :: List.replicate (ks.length + 2 - (t + 1)) (Value.int .u64 0) := by
    rw [show ks.length + 2 - t = (ks.length + 2 - (t + 1)) + 1 by omega, List.replicate_succ]
  have hl : ((ks.take t).map wv).length = t := by simp; omega
  unfold tw
  rw [List.set_append_right _ _ (by omega), hl, Nat.sub_self, e, List.set_cons_zero, List.take_add_one, h, List.map_append, List.append_assoc]
  rfl
theorem tw_has (ks : List (BitVec 64)) (w : World) (g : Nat) (h : Blk w g (tw ks ks.length) 39) : Has64 w (.slice (some ⟨g, 0, none⟩) ks.length (ks.length + 2)) ks :=
  .inr ⟨⟨g, 0, none⟩, ks.length + 2, rfl, by omega, fun i u hu => by
    have hi : i < ks.length := by
      rcases Nat.lt_or_ge i ks.length with h1 | h1
      · exact h1
      · rw [List.getElem?_eq_none h1] at hu; cases hu
    rw [add_plain, h.cell, tw, List.take_length, List.getElem?_append_left (by simpa using hi), List.getElem?_map, hu]; rfl⟩
set_option maxRecDepth 100000 in
set_option maxHeartbeats 2000000 in
theorem twin_any (v : Value) (ks : List (BitVec 64)) (torn off : Int) (hkl : ks.length + 2 ≤ 17592186044416) (w : World) (hv : Has64 w v ks) : Calls Try.prog 20 #[.agg (lossC v torn off).toArray] w fun e w' =>
    e = .returned (.agg (lossC (.slice (some ⟨w.heap.size + 2, 0, none⟩) ks.length (ks.length + 2)) torn off).toArray) ∧ Below w.heap.size w w' ∧ Has64 w' (.slice (some ⟨w.heap.size + 2, 0, none⟩) ks.length (ks.length + 2)) ks := by
  have hlen := hv.len2
  obtain ⟨g0, hg0⟩ : ∃ g, w.heap.size = g := ⟨_, rfl⟩
  have be0 : Below w.heap.size w (w.alloc (.cells (lossC v torn off).toArray 38)) := below_new w _
  have b0 : Blk (w.alloc (.cells (lossC v torn off).toArray 38)) g0 (lossC v torn off) 38 := Blk.newAt hg0
  have sz0 : (w.alloc (.cells (lossC v torn off).toArray 38)).heap.size = g0 + 1 := by simp [hg0]
  obtain ⟨w0, hw0⟩ : ∃ w0, w.alloc (.cells (lossC v torn off).toArray 38) = w0 := ⟨_, rfl⟩
  rw [hw0] at be0 b0 sz0
  have be1 : Below w0.heap.size w0 (w0.alloc (.cells (lossC (.slice none 0 0) 0 0).toArray 38)) := below_new w0 _
  have b1 : Blk (w0.alloc (.cells (lossC (.slice none 0 0) 0 0).toArray 38)) (g0 + 1) (lossC (.slice none 0 0) 0 0) 38 := Blk.newAt sz0
  have sz1 : (w0.alloc (.cells (lossC (.slice none 0 0) 0 0).toArray 38)).heap.size = g0 + 2 := by simp [sz0]
  obtain ⟨w1, hw1⟩ : ∃ w1, w0.alloc (.cells (lossC (.slice none 0 0) 0 0).toArray 38) = w1 := ⟨_, rfl⟩
  rw [hw1] at be1 b1 sz1
  have b01 := b0.on be1
  have be01 : Below w.heap.size w w1 := be0.trans (be1.mono be0.size)
  have hv1 := hv.fx (Fx.of_below (S := fun _ => False) be01) (fun _ _ h => h)
  have hmk := run_mk36 w1 (ks.length + 2) hkl
  rw [sz1, ← tw_zero] at hmk
  have B2 : ∀ t, Blk (w1.alloc (.cells (tw ks t).toArray 39)) (g0 + 2) (tw ks t) 39 := fun t => Blk.newAt sz1
  have L2 : ∀ t, Blk (w1.alloc (.cells (tw ks t).toArray 39)) g0 (lossC v torn off) 38 := fun t => b01.on (below_new w1 _)
  have N2 : ∀ t, Blk (w1.alloc (.cells (tw ks t).toArray 39)) (g0 + 1) (lossC (.slice none 0 0) 0 0) 38 := fun t => b1.on (below_new w1 _)
  have hsl := fun W => sl36 (g0 + 2) ks.length (ks.length + 2) (by omega) (by omega) (by omega) W
  obtain ⟨n, hn⟩ : ∃ n, ks.length = n := ⟨_, rfl⟩
  have HB2 := hide B2
  have HL2 := hide L2
  have HN2 := hide N2
  have HV1 := hide hv1
  have BE := hide be01
  have HKL := hide hkl
  have HN := hide hn
  have e1 : wrap64 ((ks.length : Int) + 2) = ((ks.length + 2 : Nat) : Int) := by rw [IntWalk.wrap64_in _ (by omega)]; simp
  have e2 : (ks.length : Int) + 2 = ((ks.length + 2 : Nat) : Int) := by simp
  have e3 : wrap64 ((ks.length + 2 : Nat) : Int) = ((ks.length + 2 : Nat) : Int) := IntWalk.wrap64_in _ (by omega)
  rw [hn] at hlen hmk hsl e1 e2 e3
  obtain ⟨n2, hn2⟩ : ∃ n2, n + 2 = n2 := ⟨_, rfl⟩
  have HN22 := hide hn2
  rw [hn2] at hmk hsl e1 e2 e3
  clear hn2 hn hkl be01 hv1 N2 L2 B2 b01 b1 b0 be0 be1 hv
  obtain ⟨w3, hw3⟩ : ∃ w3, w1.alloc (.cells (tw ks 0).toArray 39) = w3 := ⟨_, rfl⟩
  have HW3 := hide hw3
  rw [hw3] at hmk
  have r0 : w3.cell? ⟨g0, 0, none⟩ = some v := by rw [← hw3]; exact ((HL2.out 0).cell 0).trans rfl
  have r1 : w1.cell? ⟨g0, 0, none⟩ = some v := by
    have h1 := (HL2.out 0).cell 0
    rw [Below.cell (below_new w1 _) (show g0 < w1.heap.size by omega)] at h1
    exact h1.trans rfl
  clear hw3
  go_enter Try.func20, Try.ntmps20
  go_wp2_with (first
    | (refine wpList_boxAt rfl 38 (.tmp 0) rfl (lossC v torn off) rfl g0 hg0 ?_; rw [hw0])
    | (refine wpList_newAt rfl 38 rfl _ zero38 (g0 + 1) sz0 ?_; rw [hw1])
    | fail)
  go_loopw [4] (fun i wr => ∃ t : Nat, t ≤ n ∧ i = .int .i64 t ∧ Hid (wr = w1.alloc (.cells (tw ks t).toArray 39))) (fun i _ => n - (intOf i).toNat)
  case atStart => exact ⟨0, by omega, rfl, hide HW3.out.symm⟩
  case round =>
    obtain ⟨t, ht, rfl, hs⟩ := hrel
    have q0 : wr.cell? ⟨g0, 0, none⟩ = some v := by rw [hs.out]; exact ((HL2.out t).cell 0).trans rfl
    by_cases hlt : t < n
    · have hlz : (t : Int) < (n : Int) := by omega
      have hnb : n < 17592186044416 := by have := HKL.out; have := HN.out; omega
      obtain ⟨ad, cap, rfl, hcells⟩ : ∃ ad cap, v = .slice (some ad) n cap ∧ ∀ i u, ks[i]? = some u → w1.cell? (ad.add i) = some (wv u) := by
        rcases HV1.out with ⟨_, h⟩ | ⟨ad, cap, h1, _, h3⟩
        · have := HN.out; rw [h] at this; simp at this; omega
        · exact ⟨ad, cap, by rw [h1, HN.out], h3⟩
      obtain ⟨u, hu⟩ : ∃ u, ks[t]? = some u := ⟨ks[t]'(by have := HN.out; omega), by rw [List.getElem?_eq_getElem]⟩
      have hsrc : wr.cell? (ad.add t) = some (.int .u64 (wn u)) := by
        rw [hs.out]
        exact ((below_new w1 _).cell (cell_lt (hcells t u hu))).trans (hcells t u hu)
      have hix := fun W => idx36 ad n cap t hlt W
      have hix2 : ∀ W, (Instr.indexAt 36 (.slice (some ⟨g0 + 2, 0, none⟩) n2 n2) (.int .i64 (t : Int))).run Try.prog W = .ok (.pointer (some ⟨g0 + 2, t, none⟩)) W := fun W => by rw [idx36 ⟨g0 + 2, 0, none⟩ n2 n2 t (by have := HN22.out; omega) W, add_plain]
      have B0 : Blk wr (g0 + 2) (tw ks t) 39 := by rw [hs.out]; exact HB2.out t
      obtain ⟨z, hz⟩ : ∃ z, (tw ks t)[t]? = some z := ⟨(tw ks t)[t]'(by rw [tw_length ks t (by have := HN.out; omega)]; have := HN.out; omega), by rw [List.getElem?_eq_getElem]⟩
      have hold := (B0.cell t).trans hz
      have hfz := B0.frozen t
      have E1 : Hid (wr.setCell ⟨g0 + 2, t, none⟩ (.int .u64 (wn u)) = w1.alloc (.cells (tw ks (t + 1)).toArray 39)) := hide (by rw [hs.out, ← tw_set ks t u hu, ← sz1, alloc_setCell]; rfl)
      clear hcells hs B0 hz
      go_wp2
      go_roundw
      case rel => exact ⟨t + 1, by omega, by go_num, hide E1.out⟩
      case measure => simp [intOf]; omega
    · obtain rfl : t = n := by omega
      have LL : Blk wr g0 (lossC v torn off) 38 := by rw [hs.out]; exact HL2.out t
      have KK : Blk wr (g0 + 2) (tw ks t) 39 := by rw [hs.out]; exact HB2.out t
      have NN : Blk wr (g0 + 1) (lossC (.slice none 0 0) 0 0) 38 := by rw [hs.out]; exact HN2.out t
      have BB : Below w.heap.size w wr := by rw [hs.out]; exact BE.out.trans ((below_new w1 _).mono BE.out.size)
      have hlz : ¬ (t : Int) < (t : Int) := by omega
      have hfz := LL.frozen 0
      have LL2 : Blk (wr.setCell ⟨g0, 0, none⟩ (.slice (some ⟨g0 + 2, 0, none⟩) t n2)) g0 (lossC (.slice (some ⟨g0 + 2, 0, none⟩) t n2) torn off) 38 := LL.set 0 _
      have F2 : Fx (One g0) wr (wr.setCell ⟨g0, 0, none⟩ (.slice (some ⟨g0 + 2, 0, none⟩) t n2)) := Fx.setCell _ _ _ _ rfl
      have BB2 : Below w.heap.size w (wr.setCell ⟨g0, 0, none⟩ (.slice (some ⟨g0 + 2, 0, none⟩) t n2)) := BB.trans (F2.below (fun k hk e => by have : k = g0 := e; omega) (by have := BB.size; omega))
      have KK2 := KK.fx F2 (fun e => by have : g0 + 2 = g0 := e; omega)
      have NN2 := NN.fx F2 (fun e => by have : g0 + 1 = g0 := e; omega)
      obtain ⟨w5, hw5⟩ : ∃ w5, wr.setCell ⟨g0, 0, none⟩ (.slice (some ⟨g0 + 2, 0, none⟩) t n2) = w5 := ⟨_, rfl⟩
      rw [hw5] at LL2 F2 BB2 KK2 NN2
      have HLL := hide LL2
      have HKK := hide KK2
      have HNN := hide NN2
      have HBB := hide BB2
      have HI := hide (info38A (.slice (some ⟨g0 + 2, 0, none⟩) t n2) torn off)
      have H1 := hide (lossC_oneA (some ⟨g0 + 2, 0, none⟩) t n2 torn off)
      clear LL KK NN BB LL2 KK2 NN2 BB2 F2 hs
      go_wp2_with (first
        | (refine wpList_load_row rfl 38 (.tmp 1) rfl g0 rfl 38 (lossC (.slice (some ⟨g0 + 2, 0, none⟩) t n2) torn off).toArray (0, 0) _ HLL.out Try.underlying38 rfl HI.out ?_)
        | (refine wpList_store_row rfl 38 (.tmp 2) (.tmp 31) rfl (g0 + 1) (lossC (.slice (some ⟨g0 + 2, 0, none⟩) t n2) torn off).toArray rfl rfl 38 _ HNN.out HI.out rfl H1.out ?_)
        | fail)
      refine bodyPost_ret (results_cell_row Try.results20 _ _ (g0 + 1) 38 (lossC (.slice (some ⟨g0 + 2, 0, none⟩) t n2) torn off).toArray (0, 0) _ rfl (HNN.out.setRow _) Try.underlying38 rfl HI.out) rfl ?_
      have hn0 := HN.out
      have hn2 := HN22.out
      have hsz := HKK.out.lt
      have HBC := HBB.out
      rw [hg0] at HBC
      refine ⟨?_, below_setRow HBC _ _ (by omega), ?_⟩
      · rw [hn0, hn2]
      · have hk := HKK.out.setRowOther (g0 + 1) (lossC (.slice (some ⟨g0 + 2, 0, none⟩) t n2) torn off).toArray (by omega)
        rw [← hn0] at hk ⊢
        exact tw_has ks _ _ hk
end Go.Proofs.Ythfcabhelldokaa
