import Derived.Test.YtnakeieeopbeiaaGm
set_option linter.unusedVariables false
set_option linter.unusedSimpArgs false
namespace Go.Proofs.Ytnakeieeopbeiaa
open Go.RowKit

theorem min_two : dpre (minD primeD (numD 2) 16) 16 = PP - 2 := by
  have h1 := minD_val primeD_dig (numD_dig 2) 16 (by rw [primeD_length]; exact Nat.le_refl _)
  rw [primeD_val, num_of (show 2 < PP by decide)] at h1
  have h2 := dpre_lt (minD_digits primeD_dig (numD_dig 2) 16) 16
  have := mns_aux h1 h2 (borD_le primeD (numD 2) 16) (by decide)
  omega
set_option maxRecDepth 100000 in
set_option maxHeartbeats 1000000 in
theorem less2_num (w : World) : Calls Try.prog 57 #[] w fun e w' => e = .returned (.agg ((nb (PP - 2)).map byt).toArray) ∧ Below w.heap.size w w' := by
  have r1 := new22 w
  have b1 := Blk.new w (z32.map byt) 22
  have e1 : Below w.heap.size w (w.alloc (.cells (z32.map byt).toArray 22)) := below_new _ _
  obtain ⟨n, hn⟩ : ∃ n, w.heap.size = n := ⟨_, rfl⟩
  rw [hn] at r1 b1 e1
  rw [hn]
  obtain ⟨w1, hw1⟩ : ∃ w1, w.alloc (.cells (z32.map byt).toArray 22) = w1 := ⟨_, rfl⟩
  rw [hw1] at r1 b1 e1
  have hl1 := b1.lt
  have hN := nb_length (PP - 2)
  refine calls_of_args [] Try.func57 rfl 5 Try.ntmps57 (by show 0 ≤ 5; decide) ?_
  refine EW.seq ?_
  refine EW.region ?_
  refine WL.new rfl rfl r1 ?_
  refine WL.done ?_
  refine EW.on ?_
  refine EW.seq ?_
  refine EW.region ?_
  refine WL.call [] enter48 rfl rfl rfl (primeD_any w1) ?_
  rintro x w2 ⟨rfl, hb2⟩
  refine ⟨_, rfl, ?_⟩
  refine WL.call [.int .u64 2] enter38 rfl rfl rfl (int_num 2 (by decide) w2) ?_
  rintro x w3 ⟨rfl, hb3⟩
  refine ⟨_, rfl, ?_⟩
  refine WL.call [.agg (dv primeD).toArray, .agg (dv (numD 2)).toArray] enter56 rfl rfl rfl (minus_any primeD (numD 2) primeD_length (numD_length 2) primeD_dig (numD_dig 2) w3) ?_
  rintro x w4 ⟨rfl, hb4⟩
  refine ⟨_, rfl, ?_⟩
  have hby := bytes_num (minD primeD (numD 2) 16) (minD_nm primeD_nm (numD_nm 2)) w4
  rw [min_two] at hby
  refine WL.call [.agg (dv (minD primeD (numD 2) 16)).toArray] enter43 rfl rfl rfl hby ?_
  rintro x w5 ⟨rfl, hb5⟩
  refine ⟨_, rfl, ?_⟩
  have s2 := hb2.size
  have s3 := hb3.size
  have s4 := hb4.size
  have b5 := (((b1.on hb2).on hb3).on hb4).on hb5
  have e5 := (((e1.trans (hb2.mono (by omega))).trans (hb3.mono (by omega))).trans (hb4.mono (by omega))).trans (hb5.mono (by omega))
  refine WL.store rfl rfl rfl (st22 z32_len hN b5) ?_
  refine WL.done ?_
  refine EW.on ?_
  refine EW.ret ?_
  repeat (first | refine pr_then ?_ | refine pr_block ?_)
  exact EW.returnsC Try.results57 rfl (b5.setRow ((nb (PP - 2)).map byt)) Try.underlying22 rfl (info22 hN) ⟨rfl, below_setRow e5 n _ (Nat.le_refl _)⟩
theorem two49 {w : World} (a : List Nat) : ∃ w1 w2, (Instr.box 49 (.agg (dv a).toArray)).run Try.prog w = .ok (.pointer (some ⟨w.heap.size, 0, none⟩)) w1 ∧ (Instr.alloc 49 true (.tuple #[])).run Try.prog w1 = .ok (.pointer (some ⟨w.heap.size + 1, 0, none⟩)) w2 ∧ Blk w2 w.heap.size (dv a) 49 ∧ Blk w2 (w.heap.size + 1) (dv z16) 49 ∧ w2.heap.size = w.heap.size + 2 ∧ Below w.heap.size w w2 := by
  obtain ⟨w1, hw1⟩ : ∃ w1, w.alloc (.cells (dv a).toArray 49) = w1 := ⟨_, rfl⟩
  have s1 : w1.heap.size = w.heap.size + 1 := by rw [← hw1]; simp
  have b1 : Blk w1 w.heap.size (dv a) 49 := by rw [← hw1]; exact Blk.new _ _ _
  have e1 : Below w.heap.size w w1 := by rw [← hw1]; exact below_new _ _
  obtain ⟨w2, hw2⟩ : ∃ w2, w1.alloc (.cells (dv z16).toArray 49) = w2 := ⟨_, rfl⟩
  have s2 : w2.heap.size = w.heap.size + 2 := by rw [← hw2]; simp [s1]
  have b2 : Blk w2 w1.heap.size (dv z16) 49 := by rw [← hw2]; exact Blk.new _ _ _
  have e2 : Below w1.heap.size w1 w2 := by rw [← hw2]; exact below_new _ _
  have r1 := box49 a w
  have r2 := new49 w1
  rw [hw1] at r1
  rw [hw2] at r2
  have c1 := b1.on e2
  have e4 : Below w.heap.size w w2 := e1.trans (e2.mono (by omega))
  rw [s1] at r2 b2
  exact ⟨w1, w2, r1, r2, c1, b2, s2, e4⟩
set_option maxRecDepth 100000 in
set_option maxHeartbeats 1000000 in
theorem inv_num (a : List Nat) (ha : Nm a) (w : World) : Calls Try.prog 51 #[.agg (dv a).toArray] w fun e w' => e = .returned (.agg (dv (numD (pN (dpre a 16) (nb (PP - 2)) 256))).toArray) ∧ Below w.heap.size w w' := by
  obtain ⟨w1, w2, r1, r2, ba, bz, hs2, be2⟩ := two49 (w := w) a
  obtain ⟨n, hn⟩ : ∃ n, w.heap.size = n := ⟨_, rfl⟩
  rw [hn] at r1 r2 ba bz hs2 be2
  rw [hn]
  refine calls_of_args [.agg (dv a).toArray] Try.func51 rfl 6 Try.ntmps51 (by show 1 ≤ 6; decide) ?_
  refine EW.seq ?_
  refine EW.region ?_
  refine WL.box rfl rfl rfl r1 ?_
  refine WL.new rfl rfl r2 ?_
  refine WL.done ?_
  refine EW.on ?_
  refine EW.seq ?_
  refine EW.putT (by kernel_rfl) 3 rfl rfl (by kernel_rfl) rfl rfl 49 (.tmp 2) (.tmp 5) rfl ?_
  simp only [List.take_succ_cons, List.take_zero]
  refine LE.row rfl rfl (fun W hW => ba.on hW) Try.underlying49 rfl (info49 ha.ln) ?_
  refine LE.call [] enter57 rfl rfl (fun W _ => less2_num W) ?_
  refine LE.call [.agg (dv a).toArray, .agg ((nb (PP - 2)).map byt).toArray] enter50 rfl rfl (fun W _ => pow_num a _ ha (nb_length _) W) ?_
  refine ⟨n + 1, _, dv z16, 49, rfl, rfl, bz, info49 (numD_length _), by rw [dv_length, dv_length, z16_length, numD_length], dv_one _, ?_⟩
  intro W hW
  have hbz := bz.on hW
  have hbw : Below n w W := be2.trans (hW.mono (by omega))
  refine EW.on ?_
  refine EW.ret ?_
  repeat (first | refine pr_then ?_ | refine pr_block ?_)
  exact EW.returnsC Try.results51 rfl (hbz.setRow _) Try.underlying49 rfl (info49 (numD_length _)) ⟨rfl, below_setRow hbw (n + 1) _ (by omega)⟩
end Go.Proofs.Ytnakeieeopbeiaa

set_option linter.unusedVariables false
set_option linter.unusedSimpArgs false
namespace Go.Proofs.Ytnakeieeopbeiaa
open Go.RowKit

theorem run_partD (L : List Nat) (i : Nat) (h : i < L.length) (W : World) : (part 3 (dv L).toArray (i * 1)).run Try.prog W = .ok (.int .i64 ((L.getD i 0 : Nat) : Int)) W := by
  have h1 : (dv L).toArray[i]? = some (.int .i64 ((L.getD i 0 : Nat) : Int)) := by rw [List.getElem?_toArray, dv_at L i h]
  have h2 : ∀ W, (isAgg 3).run Try.prog W = .ok false W := fun W => by kernel_rfl
  simp only [part, Sem.run_bind, h2, Result.andThen_ok, Nat.mul_one, h1]
  simp
theorem eqItemsD (L M : List Nat) (d : Nat) (W : World) : ∀ (is : List Nat), (∀ i ∈ is, i < L.length ∧ i < M.length) →
    (Op.eqItems (d + 1) 3 1 (dv L).toArray (dv M).toArray is).run Try.prog W = .ok (is.all fun i => L.getD i 0 == M.getD i 0) W
  | [], _ => by simp [Op.eqItems]
  | i :: is, h => by
    obtain ⟨h1, h2⟩ := h i (by simp)
    have he := run_equalIn_int (P := Try.prog) W d 3 .i64 .i64 ((L.getD i 0 : Nat) : Int) ((M.getD i 0 : Nat) : Int) Try.underlying3
    have ih := eqItemsD L M d W is (fun j hj => h j (by simp [hj]))
    simp only [Op.eqItems, Sem.run_bind, run_partD L i h1 W, run_partD M i h2 W, he, Result.andThen_ok, List.all_cons]
    generalize (is.all fun i => L.getD i 0 == M.getD i 0) = r at ih ⊢
    generalize L.getD i 0 = x
    generalize M.getD i 0 = y
    by_cases hq : x = y
    · subst hq
      simp
      exact ih
    · have : (x : Int) ≠ (y : Int) := by omega
      simp [hq, this]
theorem eq49 (L M : List Nat) (h1 : L.length = 16) (h2 : M.length = 16) (W : World) : (Op.equalIn 10000 49 (.agg (dv L).toArray) (.agg (dv M).toArray)).run Try.prog W = .ok (decide (L = M)) W := by
  obtain ⟨i0, hi, _⟩ := info_parts info3i
  rw [run_equalIn_array W 9999 (dv L).toArray (dv M).toArray Try.underlying49 hi]
  have hc : Try.prog.cellsOf 3 = 1 := by kernel_rfl
  rw [hc, eqItemsD L M 9998 W _ (fun i hi => by have := List.mem_range.1 hi; omega)]
  congr 1
  by_cases hq : L = M
  · subst hq
    simp
  · rw [decide_eq_false hq, List.all_eq_false]
    refine Classical.byContradiction fun hn => hq ?_
    apply List.ext_getElem (by omega)
    intro i hi hi'
    refine Classical.byContradiction fun hne => hn ⟨i, List.mem_range.2 (by omega), ?_⟩
    rw [List.getD_eq_getElem?_getD, List.getD_eq_getElem?_getD, List.getElem?_eq_getElem hi, List.getElem?_eq_getElem hi']
    simpa using hne
theorem guard49 : Try.prog.eqGuardType Try.prog.depth 49 = false := by kernel_rfl
theorem neq49 (L M : List Nat) (h1 : L.length = 16) (h2 : M.length = 16) (q : Bool) (hq : decide (L = M) = q) (W : World) (x y : Operand) : (do eqGuard .neq 49 x y (.agg (dv L).toArray) (.agg (dv M).toArray); binOp .neq 49 (.agg (dv L).toArray) (.agg (dv M).toArray) : Sem Value).run Try.prog W = .ok (.bool (!q)) W := by
  have he := fun W => eq49 L M h1 h2 W
  rw [hq] at he
  have hg := guard49
  go_simp
theorem eql49 (L M : List Nat) (h1 : L.length = 16) (h2 : M.length = 16) (q : Bool) (hq : decide (L = M) = q) (W : World) (x y : Operand) : (do eqGuard .eql 49 x y (.agg (dv L).toArray) (.agg (dv M).toArray); binOp .eql 49 (.agg (dv L).toArray) (.agg (dv M).toArray) : Sem Value).run Try.prog W = .ok (.bool q) W := by
  have he := fun W => eq49 L M h1 h2 W
  rw [hq] at he
  have hg := guard49
  go_simp
theorem numD_inj {U V : Nat} (hU : U < PP) (hV : V < PP) : (numD U = numD V) = (U = V) := by
  apply propext
  constructor
  · intro h
    have := congrArg (dpre · 16) h
    simp only [num_of hU, num_of hV] at this
    exact this
  · intro h; rw [h]
theorem LE.bin {P : Program} {N : Nat} {ops : Array Oper} {S : World → Prop} {K : List (Nat × Value) → Prop} {i : Nat} {ty : TypeId} {ps : String} {af : Array Edge} {r : List Oper} {e : List (Nat × Value)} {op : BinOp} {t t2 : TypeId} {x y : Operand} {u u' v : Value} (hi : decide (i < N) = true) (hx : evE e x = some u) (hy : evE e y = some u') (hr : ∀ w, (do eqGuard op t x y u u'; binOp op t u u' : Sem Value).run P w = .ok v w) (k : wpLexE P N ops S K r ((i, v) :: e)) : wpLexE P N ops S K (⟨some i, .binOp op t x y t2, ty, ps, af, none⟩ :: r) e :=
  ⟨_, fun j hj => by cases hj; exact of_decide_eq_true hi, fun a ha => .inl ⟨by simp [Region.wanted], .inl fun W _ => by
    unfold execOp
    simp only [ha.ev hx, ha.ev hy]
    rw [Sem.run_bind, hr]; rfl⟩, k⟩
end Go.Proofs.Ytnakeieeopbeiaa
