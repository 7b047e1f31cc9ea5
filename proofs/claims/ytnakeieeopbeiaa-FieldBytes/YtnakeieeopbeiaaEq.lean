import Derived.Test.YtnakeieeopbeiaaByt
set_option linter.unusedVariables false
set_option linter.unusedSimpArgs false
namespace Go.Proofs.Ytnakeieeopbeiaa
open Go.RowKit

theorem Try.info5 : (Try.prog.info? 5).map (fun i => (i.zero, i.size, i.bytes)) = some (some (.int .u8 0), 1, 1) := by kernel_rfl
theorem byts_at (L : List UInt8) (i : Nat) (h : i < L.length) : (L.map byt)[i]? = some (.int .u8 ((L.getD i 0).toNat : Int)) := by
  simp [List.getElem?_eq_getElem h, byt]
theorem run_part (L : List UInt8) (i : Nat) (h : i < L.length) (W : World) : (part 5 (L.map byt).toArray (i * 1)).run Try.prog W = .ok (.int .u8 ((L.getD i 0).toNat : Int)) W := by
  have h1 : (L.map byt).toArray[i]? = some (.int .u8 ((L.getD i 0).toNat : Int)) := by rw [List.getElem?_toArray, byts_at L i h]
  simp only [part, Sem.run_bind, Try.isAgg5, Result.andThen_ok, Nat.mul_one, h1]
  simp
theorem eqItems_is (L M : List UInt8) (d : Nat) (W : World) : ∀ (is : List Nat), (∀ i ∈ is, i < L.length ∧ i < M.length) →
    (Op.eqItems (d + 1) 5 1 (L.map byt).toArray (M.map byt).toArray is).run Try.prog W = .ok (is.all fun i => L.getD i 0 == M.getD i 0) W
  | [], _ => by simp [Op.eqItems]
  | i :: is, h => by
    obtain ⟨h1, h2⟩ := h i (by simp)
    have he := run_equalIn_int (P := Try.prog) W d 5 .u8 .u8 ((L.getD i 0).toNat : Int) ((M.getD i 0).toNat : Int) Try.underlying5
    have ih := eqItems_is L M d W is (fun j hj => h j (by simp [hj]))
    simp only [Op.eqItems, Sem.run_bind, run_part L i h1 W, run_part M i h2 W, he, Result.andThen_ok, List.all_cons]
    generalize (is.all fun i => L.getD i 0 == M.getD i 0) = r at ih ⊢
    generalize L.getD i 0 = x
    generalize M.getD i 0 = y
    by_cases hq : x = y
    · subst hq
      simp
      exact ih
    · have : (x.toNat : Int) ≠ (y.toNat : Int) := by
        intro hh
        exact hq (UInt8.toNat_inj.1 (by omega))
      simp [hq, this]

theorem getD_ext {L M : List UInt8} {n : Nat} (h1 : L.length = n) (h2 : M.length = n) (h : ∀ i, i < n → L.getD i 0 = M.getD i 0) : L = M := by
  apply List.ext_getElem (by omega)
  intro i hi hi'
  have := h i (by omega)
  rw [List.getD_eq_getElem?_getD, List.getD_eq_getElem?_getD, List.getElem?_eq_getElem hi, List.getElem?_eq_getElem hi'] at this
  simpa using this

theorem eq23 (L M : List UInt8) (h1 : L.length = 32) (h2 : M.length = 32) (W : World) : (Op.equalIn 10000 23 (.agg (L.map byt).toArray) (.agg (M.map byt).toArray)).run Try.prog W = .ok (decide (L = M)) W := by
  obtain ⟨i0, hi, _⟩ := info_parts Try.info5
  rw [run_equalIn_array W 9999 (L.map byt).toArray (M.map byt).toArray Try.underlying23 hi]
  have hc : Try.prog.cellsOf 5 = 1 := by kernel_rfl
  rw [hc, eqItems_is L M 9998 W _ (fun i hi => by have := List.mem_range.1 hi; omega)]
  congr 1
  by_cases hq : L = M
  · subst hq
    simp
  · rw [decide_eq_false hq, List.all_eq_false]
    refine Classical.byContradiction fun hn => hq (getD_ext h1 h2 fun i hi => ?_)
    refine Classical.byContradiction fun hne => hn ⟨i, List.mem_range.2 hi, ?_⟩
    simpa using hne
theorem guard23 : Try.prog.eqGuardType Try.prog.depth 23 = false := by kernel_rfl

set_option maxRecDepth 100000 in
set_option maxHeartbeats 2000000 in
theorem equal_any (x y : L5) (w : World) :
    Calls Try.prog 12 #[x.v, y.v] w fun e w' => e = .returned (.bool (decide (tellE x = tellE y))) ∧ Below w.heap.size w w' := by
  have hl1 := tell_length x
  have hl2 := tell_length y
  have hx := fun W => bytes_any x W
  have hy := fun W => bytes_any y W
  generalize tellE x = L at hx hl1 ⊢
  generalize tellE y = M at hy hl2 ⊢
  have he := fun W => eq23 L M hl1 hl2 W
  generalize decide (L = M) = q at he ⊢
  clear hl1 hl2
  go_enter Try.func12, Try.ntmps12
  go_upto_region 1 with (first | (refine wpList_boxAt rfl 27 (.tmp 0) rfl x.cs rfl w.heap.size rfl ?_) | (refine wpList_boxAt rfl 27 (.tmp 1) rfl y.cs rfl (w.heap.size + 1) (by simp) ?_))
  have b1 : Blk ((w.alloc (.cells x.cs.toArray 27)).alloc (.cells y.cs.toArray 27)) w.heap.size x.cs 27 := (Blk.new _ _ _).alloc _
  have b2 : Blk ((w.alloc (.cells x.cs.toArray 27)).alloc (.cells y.cs.toArray 27)) (w.heap.size + 1) y.cs 27 := by
    have := Blk.new (w.alloc (.cells x.cs.toArray 27)) y.cs 27
    simpa using this
  have be : Below w.heap.size w ((w.alloc (.cells x.cs.toArray 27)).alloc (.cells y.cs.toArray 27)) := by go_grown
  generalize (w.alloc (.cells x.cs.toArray 27)).alloc (.cells y.cs.toArray 27) = w1 at b1 b2 be ⊢
  obtain ⟨n, hn⟩ : ∃ n, w.heap.size = n := ⟨_, rfl⟩
  rw [hn] at b1 b2 be ⊢
  refine reg_all (by kernel_rfl) (by kernel_rfl) ?_
  refine wpLex_cons _ (uni_row rfl 27 (.tmp 2) rfl n x.cs 27 rfl (fun W hW => b1.on hW) Try.underlying27 rfl (cs_info _)) ?_
  simp only [Act.put, List.setIfInBounds_toArray, List.set_cons_zero, List.set_cons_succ]
  refine wpLex_cons _ (uni_callF (by rfl) 10 [Operand.tmp 5] #[27] rfl [x.v] (.agg (L.map byt).toArray) rfl enter10 (fun W hW => hx W)) ?_
  simp only [Act.put, List.setIfInBounds_toArray, List.set_cons_zero, List.set_cons_succ]
  refine wpLex_cons _ (uni_row rfl 27 (.tmp 3) rfl (n + 1) y.cs 27 rfl (fun W hW => b2.on hW) Try.underlying27 rfl (cs_info _)) ?_
  simp only [Act.put, List.setIfInBounds_toArray, List.set_cons_zero, List.set_cons_succ]
  refine wpLex_cons _ (uni_callF (by rfl) 10 [Operand.tmp 7] #[27] rfl [y.v] (.agg (M.map byt).toArray) rfl enter10 (fun W hW => hy W)) ?_
  simp only [Act.put, List.setIfInBounds_toArray, List.set_cons_zero, List.set_cons_succ]
  refine wpLex_cons _ (uni_val (by rfl) (Op.binOp BinOp.eql 23 (Operand.tmp 6) (Operand.tmp 8) 23) rfl (.bool q) (fun o' ho W _ => by have hg := guard23; go_simp)) ?_
  simp only [Act.put, List.setIfInBounds_toArray, List.set_cons_zero, List.set_cons_succ]
  refine wpLex_cons _ (uni_val (by rfl) (Op.assign (Operand.tmp 9)) rfl (.bool q) (fun o' ho W _ => by go_simp)) ?_
  simp only [Act.put, List.setIfInBounds_toArray, List.set_cons_zero, List.set_cons_succ]
  intro w2 hW
  go_wp2
  go_ret
  exact ⟨rfl, by rw [hn]; exact be.trans (hW.mono (by have := be.size; omega))⟩

set_option maxRecDepth 100000 in
set_option maxHeartbeats 2000000 in
theorem fits_any (k : List UInt8) (hk : k.length = 32) (w : World) :
    Calls Try.prog 11 #[.agg (k.map byt).toArray] w fun e w' => e = .returned (.bool (decide (tellE (readE k) = k))) ∧ Below w.heap.size w w' := by
  have hks : (Try.prog.info? 23).map (·.size) = some (k.map byt).length := by rw [List.length_map, hk]; kernel_rfl
  have hr := fun W => read_any k hk W
  generalize readE k = x at hr ⊢
  have hl1 := tell_length x
  have hx := fun W => bytes_any x W
  generalize tellE x = L at hx hl1 ⊢
  have he := fun W => eq23 L k hl1 hk W
  generalize decide (L = k) = q at he ⊢
  clear hl1
  go_enter Try.func11, Try.ntmps11
  go_upto_region 1 with (refine wpList_boxAt rfl 23 (.tmp 0) rfl (k.map byt) rfl w.heap.size rfl ?_)
  have b1 : Blk (w.alloc (.cells (k.map byt).toArray 23)) w.heap.size (k.map byt) 23 := Blk.new _ _ _
  have be : Below w.heap.size w (w.alloc (.cells (k.map byt).toArray 23)) := by go_grown
  generalize w.alloc (.cells (k.map byt).toArray 23) = w1 at b1 be ⊢
  obtain ⟨n, hn⟩ : ∃ n, w.heap.size = n := ⟨_, rfl⟩
  rw [hn] at b1 be ⊢
  refine reg_all (by kernel_rfl) (by kernel_rfl) ?_
  refine wpLex_cons _ (uni_row rfl 23 (.tmp 1) rfl n (k.map byt) 23 rfl (fun W hW => b1.on hW) Try.underlying23 rfl hks) ?_
  simp only [Act.put, List.setIfInBounds_toArray, List.set_cons_zero, List.set_cons_succ]
  refine wpLex_cons _ (uni_callF (by rfl) 9 [Operand.tmp 3] #[23] rfl [.agg (k.map byt).toArray] x.v rfl enter9 (fun W hW => hr W)) ?_
  simp only [Act.put, List.setIfInBounds_toArray, List.set_cons_zero, List.set_cons_succ]
  refine wpLex_cons _ (uni_callF (by rfl) 10 [Operand.tmp 4] #[27] rfl [x.v] (.agg (L.map byt).toArray) rfl enter10 (fun W hW => hx W)) ?_
  simp only [Act.put, List.setIfInBounds_toArray, List.set_cons_zero, List.set_cons_succ]
  refine wpLex_cons _ (uni_row rfl 23 (.tmp 1) rfl n (k.map byt) 23 rfl (fun W hW => b1.on hW) Try.underlying23 rfl hks) ?_
  simp only [Act.put, List.setIfInBounds_toArray, List.set_cons_zero, List.set_cons_succ]
  refine wpLex_cons _ (uni_val (by rfl) (Op.binOp BinOp.eql 23 (Operand.tmp 5) (Operand.tmp 6) 23) rfl (.bool q) (fun o' ho W _ => by have hg := guard23; go_simp)) ?_
  simp only [Act.put, List.setIfInBounds_toArray, List.set_cons_zero, List.set_cons_succ]
  refine wpLex_cons _ (uni_val (by rfl) (Op.assign (Operand.tmp 7)) rfl (.bool q) (fun o' ho W _ => by go_simp)) ?_
  simp only [Act.put, List.setIfInBounds_toArray, List.set_cons_zero, List.set_cons_succ]
  intro w2 hW
  go_wp2
  go_ret
  exact ⟨rfl, by rw [hn]; exact be.trans (hW.mono (by have := be.size; omega))⟩
end Go.Proofs.Ytnakeieeopbeiaa
