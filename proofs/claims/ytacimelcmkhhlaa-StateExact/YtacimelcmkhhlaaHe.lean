import Derived.Test.YtacimelcmkhhlaaHd
set_option linter.unusedVariables false
set_option linter.unusedSimpArgs false
namespace Go.Proofs.Ytacimelcmkhhlaa
open Go.RowKit

theorem byts_at (L : List UInt8) (i : Nat) (h : i < L.length) : (L.map byt)[i]? = some (.int .u8 ((L.getD i 0).toNat : Int)) := by
  simp [List.getElem?_eq_getElem h, byt]
theorem run_part (L : List UInt8) (i : Nat) (h : i < L.length) (W : World) : (part 5 (L.map byt).toArray (i * 1)).run Try.prog W = .ok (.int .u8 ((L.getD i 0).toNat : Int)) W := by
  have h1 : (L.map byt).toArray[i]? = some (.int .u8 ((L.getD i 0).toNat : Int)) := by rw [List.getElem?_toArray, byts_at L i h]
  simp only [part, Sem.run_bind, Try.isAgg5, Result.andThen_ok, Nat.mul_one, h1]
  simp
theorem eqItems_is (L M : List UInt8) (d : Nat) (W : World) : ∀ (is : List Nat), (∀ i ∈ is, i < L.length ∧ i < M.length) →
    (Op.eqItems (d + 1) 5 1 (L.map byt).toArray (M.map byt).toArray is).run Try.prog W = .ok (is.all fun i => L.getD i 0 == M.getD i 0) W
  | [], _ => by simp [Op.eqItems]
  | i :: is, h => by
    obtain ⟨h1, h2⟩ := h i (by simp)
    have he := run_equalIn_int (P := Try.prog) W d 5 .u8 .u8 ((L.getD i 0).toNat : Int) ((M.getD i 0).toNat : Int) Try.underlying5
    have ih := eqItems_is L M d W is (fun j hj => h j (by simp [hj]))
    simp only [Op.eqItems, Sem.run_bind, run_part L i h1 W, run_part M i h2 W, he, Result.andThen_ok, List.all_cons]
    generalize (is.all fun i => L.getD i 0 == M.getD i 0) = r at ih ⊢
    generalize L.getD i 0 = x
    generalize M.getD i 0 = y
    by_cases hq : x = y
    · subst hq
      simp
      exact ih
    · have : (x.toNat : Int) ≠ (y.toNat : Int) := by
        intro hh
        exact hq (UInt8.toNat_inj.1 (by omega))
      simp [hq, this]
theorem getD_ext {L M : List UInt8} {n : Nat} (h1 : L.length = n) (h2 : M.length = n) (h : ∀ i, i < n → L.getD i 0 = M.getD i 0) : L = M := by
  apply List.ext_getElem (by omega)
  intro i hi hi'
  have := h i (by omega)
  rw [List.getD_eq_getElem?_getD, List.getD_eq_getElem?_getD, List.getElem?_eq_getElem hi, List.getElem?_eq_getElem hi'] at this
  simpa using this
theorem arrD (ty : TypeId) (n : Nat) (hu : Try.prog.underlying ty = some (.array n 5)) (L M : List UInt8) (h1 : L.length = n) (h2 : M.length = n) (d : Nat) (W : World) : (Op.equalIn (d + 2) ty (.agg (L.map byt).toArray) (.agg (M.map byt).toArray)).run Try.prog W = .ok (decide (L = M)) W := by
  obtain ⟨i0, hi, _⟩ := info_parts Try.info5
  rw [run_equalIn_array W (d + 1) (L.map byt).toArray (M.map byt).toArray hu hi]
  have hc : Try.prog.cellsOf 5 = 1 := by kernel_rfl
  have key : ((List.range n).all fun i => L.getD i 0 == M.getD i 0) = decide (L = M) := by
    by_cases hq : L = M
    · subst hq
      simp
    · rw [decide_eq_false hq, List.all_eq_false]
      refine Classical.byContradiction fun hn => hq (getD_ext h1 h2 fun i hi => ?_)
      refine Classical.byContradiction fun hne => hn ⟨i, List.mem_range.2 hi, ?_⟩
      simpa using hne
  rw [hc, eqItems_is L M d W _ (fun i hi => by have := List.mem_range.1 hi; omega), key]
theorem eqF_nil (d : Nat) (xs ys : Array Value) (W : World) : (Op.eqFields d xs ys []).run Try.prog W = .ok true W := rfl
theorem eqF_cons {d : Nat} {xs ys : Array Value} {f : Field} {fs : List Field} {W : World} {a b : Value} {r r' : Bool} (hn : f.name ≠ "_") (ha : (part f.type xs f.offset).run Try.prog W = .ok a W) (hb : (part f.type ys f.offset).run Try.prog W = .ok b W) (he : (Op.equalIn d f.type a b).run Try.prog W = .ok r W) (ht : (Op.eqFields d xs ys fs).run Try.prog W = .ok r' W) : (Op.eqFields d xs ys (f :: fs)).run Try.prog W = .ok (r && r') W := by
  simp only [Op.eqFields, hn, ne_eq, not_false_eq_true, if_true, Sem.run_bind, ha, hb, he, Result.andThen_ok]
  cases r
  · simp
  · simp [ht]
theorem part_row {ty : TypeId} {cs a m b : List Value} {o : Nat} (hg : ∀ w, (isAgg ty).run Try.prog w = .ok true w) (hs : ∀ w, (sizeOf ty).run Try.prog w = .ok m.length w) (hc : cs = a ++ (m ++ b)) (ho : a.length = o) (W : World) : (part ty cs.toArray o).run Try.prog W = .ok (.agg m.toArray) W := by
  have e : cs.toArray.extract o (o + m.length) = m.toArray := by
    rw [hc, List.extract_toArray, List.extract_eq_take_drop, ← ho, List.drop_left, Nat.add_sub_cancel_left, List.take_left]
  simp only [part, Sem.run_bind, hg, Result.andThen_ok, if_true, hs, e, Sem.run_pure]
theorem part_one {ty : TypeId} {cs a b : List Value} {x : Value} {o : Nat} (hg : ∀ w, (isAgg ty).run Try.prog w = .ok false w) (hc : cs = a ++ ([x] ++ b)) (ho : a.length = o) (W : World) : (part ty cs.toArray o).run Try.prog W = .ok x W := by
  have e : cs.toArray[o]? = some x := by
    rw [List.getElem?_toArray, hc, List.getElem?_append_right (by omega), ho, Nat.sub_self]; rfl
  simp only [part, Sem.run_bind, hg, Result.andThen_ok, Bool.false_eq_true, if_false, e, Sem.run_pure]
theorem eqU (d n m : Nat) (W : World) : (Op.equalIn (d + 1) 28 (u32v n) (u32v m)).run Try.prog W = .ok (decide (n = m)) W := by
  unfold u32v
  rw [run_equalIn_int (P := Try.prog) W d 28 .u32 .u32 (n : Int) (m : Int) Try.underlying28]
  have key : ((n : Int) == (m : Int)) = decide (n = m) := by
    by_cases h : n = m
    · simp [h]
    · have : (n : Int) ≠ (m : Int) := by omega
      simp [h, this]
  rw [key]
theorem sz25 {K : List UInt8} (h : K.length = 32) : ∀ w, (sizeOf 25).run Try.prog w = .ok (K.map byt).length w := fun w => by rw [List.length_map, h]; exact Try.sizeOf25 w
theorem sz23 {K : List UInt8} (h : K.length = 16) : ∀ w, (sizeOf 23).run Try.prog w = .ok (K.map byt).length w := fun w => by rw [List.length_map, h]; exact Try.sizeOf23 w
instance : DecidableEq Hl := fun a b => decidable_of_iff (a.id = b.id ∧ a.once = b.once ∧ a.pre = b.pre) (by cases a; cases b; simp)
theorem eqHl (g h : Hl) (kg : g.ok) (kh : h.ok) (W : World) : (Op.equalIn 10000 30 g.v h.v).run Try.prog W = .ok (decide (g = h)) W := by
  unfold Hl.v
  rw [run_equalIn_struct W 9999 30 _ _ (by kernel_rfl) (by kernel_rfl)]
  simp only [Program.fieldsOf, Try.underlying30]
  have e : decide (g = h) = (decide (g.id = h.id) && (decide (g.once = h.once) && (decide (g.pre = h.pre) && true))) := by
    rw [Bool.and_true, ← Bool.decide_and, ← Bool.decide_and]
    apply decide_eq_decide.2
    cases g; cases h; simp
  rw [e]
  refine eqF_cons (by decide) (part_row (a := []) Try.isAgg25 (sz25 kg.i) rfl rfl W) (part_row (a := []) Try.isAgg25 (sz25 kh.i) rfl rfl W) (arrD 25 32 u25 _ _ kg.i kh.i 9997 W) ?_
  refine eqF_cons (by decide) (part_row (a := g.id.map byt) Try.isAgg25 (sz25 kg.o) rfl (by rw [List.length_map]; exact kg.i) W) (part_row (a := h.id.map byt) Try.isAgg25 (sz25 kh.o) rfl (by rw [List.length_map]; exact kh.i) W) (arrD 25 32 u25 _ _ kg.o kh.o 9997 W) ?_
  refine eqF_cons (by decide) (part_one (a := g.id.map byt ++ g.once.map byt) (b := []) Try.isAgg28 (by simp [Hl.cs]) (by simp [kg.i, kg.o]) W) (part_one (a := h.id.map byt ++ h.once.map byt) (b := []) Try.isAgg28 (by simp [Hl.cs]) (by simp [kh.i, kh.o]) W) (eqU 9998 _ _ W) ?_
  exact eqF_nil _ _ _ _
theorem eql30 (g h : Hl) (kg : g.ok) (kh : h.ok) (W : World) (x y : Operand) : (do eqGuard .eql 30 x y g.v h.v; binOp .eql 30 g.v h.v : Sem Value).run Try.prog W = .ok (.bool (decide (g = h))) W := by
  have he := eqHl g h kg kh W
  have hg : Try.prog.eqGuardType Try.prog.depth 30 = false := by kernel_rfl
  unfold Hl.v at *
  rw [Sem.run_bind, run_eqGuard_agg W .eql 30 x y _ _ hg, Result.andThen_ok, run_eql_struct, he, Result.andThen_ok]
theorem eql25 (K L : List UInt8) (hk : K.length = 32) (hl : L.length = 32) (W : World) (x y : Operand) : (do eqGuard .eql 25 x y (kv K) (kv L); binOp .eql 25 (kv K) (kv L) : Sem Value).run Try.prog W = .ok (.bool (decide (K = L))) W := by
  have he := arrD 25 32 u25 K L hk hl 9998 W
  have hg : Try.prog.eqGuardType Try.prog.depth 25 = false := by kernel_rfl
  unfold kv
  rw [Sem.run_bind, run_eqGuard_agg W .eql 25 x y _ _ hg, Result.andThen_ok, run_eql_struct, he, Result.andThen_ok]
theorem neq25 (K L : List UInt8) (hk : K.length = 32) (hl : L.length = 32) (W : World) (x y : Operand) : (do eqGuard .neq 25 x y (kv K) (kv L); binOp .neq 25 (kv K) (kv L) : Sem Value).run Try.prog W = .ok (.bool (decide (¬ K = L))) W := by
  have he := arrD 25 32 u25 K L hk hl 9998 W
  have hg : Try.prog.eqGuardType Try.prog.depth 25 = false := by kernel_rfl
  unfold kv
  rw [Sem.run_bind, run_eqGuard_agg W .neq 25 x y _ _ hg, Result.andThen_ok, run_neq_struct, he, Result.andThen_ok]
  rw [decide_not]
end Go.Proofs.Ytacimelcmkhhlaa
