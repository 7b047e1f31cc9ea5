import Derived.Test.YtiefgmgjlhjjhaaDoorHrG
import Derived.Test.YtiefgmgjlhjjhaaDoorOy
import Derived.Test.YtiefgmgjlhjjhaaDoorRefdG
import Derived.Test.YtiefgmgjlhjjhaaDoorRunG
import Derived.Lib.AppendStr
import Derived.Lib.OthersKept
import Derived.Lib.ConvBytes
import Derived.Laws.StructEq
import Derived.ChangeKeysEq
set_option linter.unusedVariables false
set_option linter.unusedSimpArgs false
namespace Go.Proofs.YtiefgmgjlhjjhaaDoor
open Go.RowKit

theorem bt {a b c : World} (h : Below a.heap.size a b) (k : Below b.heap.size b c) : Below a.heap.size a c := h.trans (k.mono h.size)
section
variable {P : Program} {n : Nat} {ops : Array Oper} {Q : Exit → Act → World → Prop} {i : Nat} {ty : TypeId} {ps : String} {af : Array Edge} {gd : Option (Nat × Bool)} {r : List Oper} {e : List (Nat × Value)} {w w' : World}
theorem WL.slice2 {t : TypeId} {x lo hi' : Operand} {u ul uh v : Value} (hw : wantE ops e ⟨some i, .slice t x (some lo) (some hi') none, ty, ps, af, gd⟩ = some true) (hi : decide (i < n) = true) (hx : evE e x = some u) (hl : evE e lo = some ul) (hh : evE e hi' = some uh) (hr : (Instr.sliceAt t u (some ul) (some uh) none).run P w = .ok v w) (k : WL P n ops Q r ((i, v) :: e) w) : WL P n ops Q (⟨some i, .slice t x (some lo) (some hi') none, ty, ps, af, gd⟩ :: r) e w :=
  WL.op i v hw rfl hi (fun a ha => by simp [execOp, ha.ev hx, ha.ev hl, ha.ev hh, hr, Result.andThen]) k
end
/-- A string by its bytes. -/
def sv (l : List UInt8) : Value := .string ⟨l.toArray⟩
theorem len_s (l : List UInt8) (ty : TypeId) (W : World) : (Builtin.len_ #[9] ty #[sv l]).run Tryd.prog W = .ok (.int .i64 (l.length : Int)) W := by
  unfold sv
  go_simp
  try simp [ByteArray.size]
theorem str_ne_d (a b : List UInt8) (W : World) (x y : Operand) : (do eqGuard .neq 9 x y (sv a) (sv b); binOp .neq 9 (sv a) (sv b) : Sem Value).run Tryd.prog W = .ok (.bool (decide (¬ a = b))) W := by
  unfold sv
  go_simp
  rw [Bool.eq_iff_iff]; simp
theorem str_cat (a b : List UInt8) (hl : a.length + b.length ≤ 1000000) (W : World) (x y : Operand) : (do eqGuard .add 9 x y (sv a) (sv b); binOp .add 9 (sv a) (sv b) : Sem Value).run Tryd.prog W = .ok (sv (a ++ b)) W := by
  have h1 : ¬ 9223372036854775807 < a.length + b.length := by omega
  unfold sv
  go_simp
  apply ByteArray.ext
  simp [ByteArray.data_append]
theorem Own.app {w : World} {base : Nat} {v : Value} {bs : List UInt8} (h : Own w base v bs) {u : Value} {ys : List UInt8} (hu : Has w u ys) (hb : bs.length + ys.length ≤ 150000000000000) (hbase : base ≤ w.heap.size) (ty : TypeId) : ∃ v' w', (Builtin.append_ #[24, 24] ty #[v, u]).run Tryd.prog w = .ok v' w' ∧ Own w' base v' (bs ++ ys) ∧ Below base w w' ∧ Fx (fun k => v.ownBlock = some k) w w' := by
  obtain ⟨i0, hi, hz0, hz1, hz2⟩ := info_parts Tryd.info5
  rcases hu with ⟨rfl, rfl⟩ | ⟨ad, cap, rfl, h2, h3⟩
  · exact ⟨_, w, run_append_owned_none (P := Tryd.prog) w base 24 ty 5 i0 1 Tryd.underlying24 hi v _ _ h, by simpa using h, Below.refl _ _, Fx.refl _ _⟩
  · obtain ⟨v', w', r1, r2, r3⟩ := run_app w base v bs h ad cap ys h3 hb hbase ty
    exact ⟨v', w', r1, r2, (grown_fx r3).below (fun k hk e => by have := h.ownBlock k e; omega) hbase, grown_fx r3⟩
theorem bsl24_1 (b : UInt8) (w : World) : (Instr.buildSlice 24 1 [(0, byt b)].toArray).run Tryd.prog w = .ok (.slice (some ⟨w.heap.size, 0, none⟩) 1 1) (w.alloc (.cells ([b].map byt).toArray 5)) := by
  unfold byt
  go_simp
  try simp
  try rfl
/-- A byte is put behind bytes of the call's own. -/
theorem Own.push {w : World} {base : Nat} {v : Value} {bs : List UInt8} (h : Own w base v bs) (u : UInt8) (hb : bs.length < 150000000000000) (hbase : base ≤ w.heap.size) (ty : TypeId) : ∃ s w1 v' w2, (Instr.buildSlice 24 1 [(0, byt u)].toArray).run Tryd.prog w = .ok s w1 ∧ (Builtin.append_ #[24, 24] ty #[v, s]).run Tryd.prog w1 = .ok v' w2 ∧ Own w2 base v' (bs ++ [u]) ∧ Below base w w2 ∧ Fx (fun k => v.ownBlock = some k) w w2 := by
  have hs := has_news w [u]
  have l1 := below_new w (.cells (([u] : List UInt8).map byt).toArray 5)
  obtain ⟨v', w2, r2, o2, b2, f2⟩ := (h.below l1).app hs (by simp; omega) (Nat.le_trans hbase l1.size) ty
  exact ⟨_, _, v', w2, bsl24_1 u w, r2, o2, (l1.mono hbase).trans b2, (Fx.of_below l1).trans f2 (fun _ _ e => e)⟩
section
variable {w : World} {q o : Nat} {cs a m b : List Value} {t : TypeId}
end
theorem run_part (L : List UInt8) (i : Nat) (h : i < L.length) (W : World) : (part 5 (L.map byt).toArray (i * 1)).run Tryd.prog W = .ok (.int .u8 ((L.getD i 0).toNat : Int)) W := by
  have h1 : (L.map byt).toArray[i]? = some (.int .u8 ((L.getD i 0).toNat : Int)) := by rw [List.getElem?_toArray, byts_at L i h]
  simp only [part, Sem.run_bind, Tryd.isAgg5, Result.andThen_ok, Nat.mul_one, h1]
  simp
theorem eqItems_is (L M : List UInt8) (d : Nat) (W : World) : ∀ (is : List Nat), (∀ i ∈ is, i < L.length ∧ i < M.length) →
    (Op.eqItems (d + 1) 5 1 (L.map byt).toArray (M.map byt).toArray is).run Tryd.prog W = .ok (is.all fun i => L.getD i 0 == M.getD i 0) W
  | [], _ => by simp [Op.eqItems]
  | i :: is, h => by
    obtain ⟨h1, h2⟩ := h i (by simp)
    have he := run_equalIn_int (P := Tryd.prog) W d 5 .u8 .u8 ((L.getD i 0).toNat : Int) ((M.getD i 0).toNat : Int) Tryd.underlying5
    have ih := eqItems_is L M d W is (fun j hj => h j (by simp [hj]))
    simp only [Op.eqItems, Sem.run_bind, run_part L i h1 W, run_part M i h2 W, he, Result.andThen_ok, List.all_cons]
    generalize (is.all fun i => L.getD i 0 == M.getD i 0) = r at ih ⊢
    generalize L.getD i 0 = x
    generalize M.getD i 0 = y
    by_cases hq : x = y
    · subst hq
      simp
      exact ih
    · have : (x.toNat : Int) ≠ (y.toNat : Int) := by
        intro hh
        exact hq (UInt8.toNat_inj.1 (by omega))
      simp [hq, this]
theorem getD_ext {L M : List UInt8} {n : Nat} (h1 : L.length = n) (h2 : M.length = n) (h : ∀ i, i < n → L.getD i 0 = M.getD i 0) : L = M := by
  apply List.ext_getElem (by omega)
  intro i hi hi'
  have := h i (by omega)
  rw [List.getD_eq_getElem?_getD, List.getD_eq_getElem?_getD, List.getElem?_eq_getElem hi, List.getElem?_eq_getElem hi'] at this
  simpa using this
theorem arrD (ty : TypeId) (n : Nat) (hu : Tryd.prog.underlying ty = some (.array n 5)) (L M : List UInt8) (h1 : L.length = n) (h2 : M.length = n) (d : Nat) (W : World) : (Op.equalIn (d + 2) ty (.agg (L.map byt).toArray) (.agg (M.map byt).toArray)).run Tryd.prog W = .ok (decide (L = M)) W := by
  obtain ⟨i0, hi, _⟩ := info_parts Tryd.info5
  rw [run_equalIn_array W (d + 1) (L.map byt).toArray (M.map byt).toArray hu hi]
  have hc : Tryd.prog.cellsOf 5 = 1 := by kernel_rfl
  have key : ((List.range n).all fun i => L.getD i 0 == M.getD i 0) = decide (L = M) := by
    by_cases hq : L = M
    · subst hq
      simp
    · rw [decide_eq_false hq, List.all_eq_false]
      refine Classical.byContradiction fun hn => hq (getD_ext h1 h2 fun i hi => ?_)
      refine Classical.byContradiction fun hne => hn ⟨i, List.mem_range.2 hi, ?_⟩
      simpa using hne
  rw [hc, eqItems_is L M d W _ (fun i hi => by have := List.mem_range.1 hi; omega), key]
theorem eqF_nil (d : Nat) (xs ys : Array Value) (W : World) : (Op.eqFields d xs ys []).run Tryd.prog W = .ok true W := rfl
theorem eqF_cons {d : Nat} {xs ys : Array Value} {f : Field} {fs : List Field} {W : World} {a b : Value} {r r' : Bool} (hn : f.name ≠ "_") (ha : (part f.type xs f.offset).run Tryd.prog W = .ok a W) (hb : (part f.type ys f.offset).run Tryd.prog W = .ok b W) (he : (Op.equalIn d f.type a b).run Tryd.prog W = .ok r W) (ht : (Op.eqFields d xs ys fs).run Tryd.prog W = .ok r' W) : (Op.eqFields d xs ys (f :: fs)).run Tryd.prog W = .ok (r && r') W := by
  simp only [Op.eqFields, hn, ne_eq, not_false_eq_true, if_true, Sem.run_bind, ha, hb, he, Result.andThen_ok]
  cases r
  · simp
  · simp [ht]
theorem part_one {ty : TypeId} {cs a b : List Value} {x : Value} {o : Nat} (hg : ∀ w, (isAgg ty).run Tryd.prog w = .ok false w) (hc : cs = a ++ ([x] ++ b)) (ho : a.length = o) (W : World) : (part ty cs.toArray o).run Tryd.prog W = .ok x W := by
  have e : cs.toArray[o]? = some x := by
    rw [List.getElem?_toArray, hc, List.getElem?_append_right (by omega), ho, Nat.sub_self]; rfl
  simp only [part, Sem.run_bind, hg, Result.andThen_ok, Bool.false_eq_true, if_false, e, Sem.run_pure]
theorem eqU (d n m : Nat) (W : World) : (Op.equalIn (d + 1) 22 (u32v n) (u32v m)).run Tryd.prog W = .ok (decide (n = m)) W := by
  unfold u32v
  rw [run_equalIn_int (P := Tryd.prog) W d 22 .u32 .u32 (n : Int) (m : Int) Tryd.underlying22]
  have key : ((n : Int) == (m : Int)) = decide (n = m) := by
    by_cases h : n = m
    · simp [h]
    · have : (n : Int) ≠ (m : Int) := by omega
      simp [h, this]
  rw [key]
end Go.Proofs.YtiefgmgjlhjjhaaDoor
