import Derived.Test.YtnfikgnploockaaDoorCb
import Derived.Lib.AppendStr
import Derived.Lib.OthersKept
import Derived.Lib.ConvBytes
import Derived.Laws.AppendOwnNone
import Derived.Laws.MakeOwn
set_option linter.unusedVariables false
set_option linter.unusedSimpArgs false
namespace Go.Proofs.YtnfikgnploockaaDoor
open Go.RowKit

theorem int_lt_d (a b : Int) (W : World) (x y : Operand) : (do eqGuard .lss 3 x y (.int .i64 a) (.int .i64 b); binOp .lss 3 (.int .i64 a) (.int .i64 b) : Sem Value).run Tryd.prog W = .ok (.bool (decide (a < b))) W := by
  by_cases h : a < b
  · rw [decide_eq_true h]; exact int_lt_t h W x y
  · rw [decide_eq_false h]; exact int_lt_f h W x y
theorem int_gt_d (a b : Int) (W : World) (x y : Operand) : (do eqGuard .gtr 3 x y (.int .i64 a) (.int .i64 b); binOp .gtr 3 (.int .i64 a) (.int .i64 b) : Sem Value).run Tryd.prog W = .ok (.bool (decide (b < a))) W := by
  by_cases h : b < a
  · rw [decide_eq_true h]; exact int_gt_t h W x y
  · rw [decide_eq_false h]; exact int_gt_f h W x y
theorem int_ge_d (a b : Int) (W : World) (x y : Operand) : (do eqGuard .geq 3 x y (.int .i64 a) (.int .i64 b); binOp .geq 3 (.int .i64 a) (.int .i64 b) : Sem Value).run Tryd.prog W = .ok (.bool (decide (b ≤ a))) W := by
  by_cases h : b ≤ a
  · rw [decide_eq_true h]; exact int_ge_t h W x y
  · rw [decide_eq_false h]; exact int_ge_f h W x y
theorem int_eq_d {t : TypeId} (a b : Int) (W : World) (x y : Operand) : (do eqGuard .eql t x y (.int .i64 a) (.int .i64 b); binOp .eql t (.int .i64 a) (.int .i64 b) : Sem Value).run Tryd.prog W = .ok (.bool (decide (a = b))) W := by
  by_cases h : a = b
  · rw [decide_eq_true h]; exact int_eq_t h W x y
  · rw [decide_eq_false h]; exact int_eq_f h W x y
theorem int_ne_d {t : TypeId} (a b : Int) (W : World) (x y : Operand) : (do eqGuard .neq t x y (.int .i64 a) (.int .i64 b); binOp .neq t (.int .i64 a) (.int .i64 b) : Sem Value).run Tryd.prog W = .ok (.bool (decide (¬ a = b))) W := by
  by_cases h : a = b
  · rw [decide_eq_false (by simpa using h)]; exact int_ne_f h W x y
  · rw [decide_eq_true h]; exact int_ne_t h W x y
theorem bt {a b c : World} (h : Below a.heap.size a b) (k : Below b.heap.size b c) : Below a.heap.size a c := h.trans (k.mono h.size)
/-- Two ways that meet. -/
theorem EW.join {P : Program} {n : Nat} {Q : Exit → Act → World → Prop} {e : List (Nat × Value)} {w : World} {α : Type} {x y : Code} (E : α → List (Nat × Value)) (R : α → World → Prop) (h : EW P n x (Exit.then (fun a w => ∃ d, Env n a (E d) ∧ R d w) Q) e w) (k : ∀ d w, R d w → EW P n y Q (E d) w) : EW P n (.seq x y) Q e w :=
  EW.seq (fun a ha => wp_mono (h a ha) (fun ex a' w' hq => by
    cases ex with
    | normal =>
      obtain ⟨d, h1, h2⟩ := hq
      exact k d w' h2 a' h1
    | _ => exact hq))
theorem EW.met {n : Nat} {Q : Exit → Act → World → Prop} {e : List (Nat × Value)} {w : World} {α : Type} {E : α → List (Nat × Value)} {R : α → World → Prop} (d : α) (l : List Nat) (he : keepE e l = E d) (hR : R d w) : ∀ a, Env n a e → Exit.then (fun a w => ∃ d, Env n a (E d) ∧ R d w) Q .normal a w := fun a ha => ⟨d, by rw [← he]; exact ha.less (keepE_sub e l), hR⟩

section
variable {P : Program} {n : Nat} {ops : Array Oper} {Q : Exit → Act → World → Prop} {i : Nat} {ty : TypeId} {ps : String} {af : Array Edge} {gd : Option (Nat × Bool)} {r : List Oper} {e : List (Nat × Value)} {w w' : World}
theorem WL.idx {t : TypeId} {x y : Operand} {u u' v : Value} (hw : wantE ops e ⟨some i, .index t x y, ty, ps, af, gd⟩ = some true) (hi : decide (i < n) = true) (hx : evE e x = some u) (hy : evE e y = some u') (hr : (Instr.index t u u').run P w = .ok v w) (k : WL P n ops Q r ((i, v) :: e) w) : WL P n ops Q (⟨some i, .index t x y, ty, ps, af, gd⟩ :: r) e w :=
  WL.op i v hw rfl hi (fun a ha => by simp [execOp, ha.ev hx, ha.ev hy, hr, Result.andThen]) k
theorem WL.slice2 {t : TypeId} {x lo hi' : Operand} {u ul uh v : Value} (hw : wantE ops e ⟨some i, .slice t x (some lo) (some hi') none, ty, ps, af, gd⟩ = some true) (hi : decide (i < n) = true) (hx : evE e x = some u) (hl : evE e lo = some ul) (hh : evE e hi' = some uh) (hr : (Instr.sliceAt t u (some ul) (some uh) none).run P w = .ok v w) (k : WL P n ops Q r ((i, v) :: e) w) : WL P n ops Q (⟨some i, .slice t x (some lo) (some hi') none, ty, ps, af, gd⟩ :: r) e w :=
  WL.op i v hw rfl hi (fun a ha => by simp [execOp, ha.ev hx, ha.ev hl, ha.ev hh, hr, Result.andThen]) k
theorem WL.sliceL {t : TypeId} {x lo : Operand} {u ul v : Value} (hw : wantE ops e ⟨some i, .slice t x (some lo) none none, ty, ps, af, gd⟩ = some true) (hi : decide (i < n) = true) (hx : evE e x = some u) (hl : evE e lo = some ul) (hr : (Instr.sliceAt t u (some ul) none none).run P w = .ok v w) (k : WL P n ops Q r ((i, v) :: e) w) : WL P n ops Q (⟨some i, .slice t x (some lo) none none, ty, ps, af, gd⟩ :: r) e w :=
  WL.op i v hw rfl hi (fun a ha => by simp [execOp, ha.ev hx, ha.ev hl, hr, Result.andThen]) k
theorem WL.sliceH {t : TypeId} {x hi' : Operand} {u uh v : Value} (hw : wantE ops e ⟨some i, .slice t x none (some hi') none, ty, ps, af, gd⟩ = some true) (hi : decide (i < n) = true) (hx : evE e x = some u) (hh : evE e hi' = some uh) (hr : (Instr.sliceAt t u none (some uh) none).run P w = .ok v w) (k : WL P n ops Q r ((i, v) :: e) w) : WL P n ops Q (⟨some i, .slice t x none (some hi') none, ty, ps, af, gd⟩ :: r) e w :=
  WL.op i v hw rfl hi (fun a ha => by simp [execOp, ha.ev hx, ha.ev hh, hr, Result.andThen]) k
theorem WL.rng {t : TypeId} {x : Operand} {u v : Value} (hw : wantE ops e ⟨some i, .range t x, ty, ps, af, gd⟩ = some true) (hi : decide (i < n) = true) (hx : evE e x = some u) (hr : (Instr.range t u).run P w = .ok v w') (k : WL P n ops Q r ((i, v) :: e) w') : WL P n ops Q (⟨some i, .range t x, ty, ps, af, gd⟩ :: r) e w :=
  WL.op i v hw rfl hi (fun a ha => by simp [execOp, ha.ev hx, hr, Result.andThen]) k
theorem WL.nxt {x : Operand} {b : Bool} {u v : Value} (hw : wantE ops e ⟨some i, .next x b, ty, ps, af, gd⟩ = some true) (hi : decide (i < n) = true) (hx : evE e x = some u) (hr : (Instr.next u b ty).run P w = .ok v w') (k : WL P n ops Q r ((i, v) :: e) w') : WL P n ops Q (⟨some i, .next x b, ty, ps, af, gd⟩ :: r) e w :=
  WL.op i v hw rfl hi (fun a ha => by simp [execOp, ha.ev hx, hr, Result.andThen]) k
theorem WL.appS {t t' : TypeId} {x y : Operand} {u u' v : Value} (hw : wantE ops e ⟨some i, .call { callee := .builtin .append, args := #[x, y], argTypes := #[t, t'] }, ty, ps, af, gd⟩ = some true) (hi : decide (i < n) = true) (hx : evE e x = some u) (hy : evE e y = some u') (hr : (Builtin.append_ #[t, t'] ty #[u, u']).run P w = .ok v w') (k : WL P n ops Q r ((i, v) :: e) w') : WL P n ops Q (⟨some i, .call { callee := .builtin .append, args := #[x, y], argTypes := #[t, t'] }, ty, ps, af, gd⟩ :: r) e w :=
  WL.op i v hw rfl hi (fun a ha => by simp [execOp, resolve, invoke, builtin, ha.ev hx, ha.ev hy, hr, Result.andThen]) k
end
/-- A string by its bytes. -/
def sv (l : List UInt8) : Value := .string ⟨l.toArray⟩
theorem len_s (l : List UInt8) (ty : TypeId) (W : World) : (Builtin.len_ #[9] ty #[sv l]).run Tryd.prog W = .ok (.int .i64 (l.length : Int)) W := by
  unfold sv
  go_simp
  try simp [ByteArray.size]
theorem str_eq_d (a b : List UInt8) (W : World) (x y : Operand) : (do eqGuard .eql 9 x y (sv a) (sv b); binOp .eql 9 (sv a) (sv b) : Sem Value).run Tryd.prog W = .ok (.bool (decide (a = b))) W := by
  unfold sv
  go_simp
  rw [Bool.eq_iff_iff]; simp
theorem str_ne_d (a b : List UInt8) (W : World) (x y : Operand) : (do eqGuard .neq 9 x y (sv a) (sv b); binOp .neq 9 (sv a) (sv b) : Sem Value).run Tryd.prog W = .ok (.bool (decide (¬ a = b))) W := by
  unfold sv
  go_simp
  rw [Bool.eq_iff_iff]; simp
theorem ext_s (l : List UInt8) (i j : Nat) : (⟨l.toArray⟩ : ByteArray).extract i j = ⟨((l.drop i).take (j - i)).toArray⟩ := by
  apply ByteArray.ext
  simp [ByteArray.data_extract, List.extract_eq_take_drop]
theorem str_lt_d (a b : List UInt8) (W : World) (x y : Operand) : (do eqGuard .lss 9 x y (sv a) (sv b); binOp .lss 9 (sv a) (sv b) : Sem Value).run Tryd.prog W = .ok (.bool (Op.bytesLess a b)) W := by
  unfold sv
  go_simp
theorem str_cat (a b : List UInt8) (hl : a.length + b.length ≤ 1000000) (W : World) (x y : Operand) : (do eqGuard .add 9 x y (sv a) (sv b); binOp .add 9 (sv a) (sv b) : Sem Value).run Tryd.prog W = .ok (sv (a ++ b)) W := by
  have h1 : ¬ 9223372036854775807 < a.length + b.length := by omega
  unfold sv
  go_simp
  apply ByteArray.ext
  simp [ByteArray.data_append]
theorem cut_s (l : List UInt8) (i j : Nat) (hij : i ≤ j) (hj : j ≤ l.length) (W : World) : (Instr.sliceAt 9 (sv l) (some (.int .i64 (i : Int))) (some (.int .i64 (j : Int))) none).run Tryd.prog W = .ok (sv ((l.drop i).take (j - i))) W := by
  unfold sv
  go_simp
  exact ext_s l i j
theorem cutL_s (l : List UInt8) (i : Nat) (hj : i ≤ l.length) (W : World) : (Instr.sliceAt 9 (sv l) (some (.int .i64 (i : Int))) none none).run Tryd.prog W = .ok (sv (l.drop i)) W := by
  unfold sv
  go_simp
  rw [ext_s, List.take_of_length_le (by simp)]
theorem cutH_s (l : List UInt8) (j : Nat) (hj : j ≤ l.length) (W : World) : (Instr.sliceAt 9 (sv l) none (some (.int .i64 (j : Int))) none).run Tryd.prog W = .ok (sv (l.take j)) W := by
  unfold sv
  go_simp
  rw [ext_s]
  simp
theorem idx_s (l : List UInt8) (i : Nat) (u : UInt8) (h : l[i]? = some u) (W : World) : (Instr.index 9 (sv l) (.int .i64 (i : Int))).run Tryd.prog W = .ok (byt u) W := by
  have hi : i < l.length := (List.getElem?_eq_some_iff.1 h).1
  unfold sv byt
  go_simp
  have e : (⟨l.toArray⟩ : ByteArray)[i]'(by simpa [ByteArray.size] using hi) = l[i] := rfl
  rw [List.getElem?_eq_getElem hi] at h
  cases h
  rw [e]
theorem conv_sb (l : List UInt8) (w : World) : ∃ v w', (Go.convert 9 27 (sv l)).run Tryd.prog w = .ok v w' ∧ Has w' v l ∧ Below w.heap.size w w' := by
  refine ⟨.slice (some ⟨w.heap.size, 0, none⟩) l.length (grownCap w l.length 0 5), Lib.bytesWorld w 5 ⟨l.toArray⟩, Lib.run_convert_string_bytes (P := Tryd.prog) w 9 27 5 ⟨l.toArray⟩ Tryd.underlying9 Tryd.underlying27 Tryd.underlying5, ?_, ?_⟩
  · refine .inr ⟨⟨w.heap.size, 0, none⟩, grownCap w l.length 0 5, rfl, grownCap_ge _ _ _ _, fun i u hu => ?_⟩
    have hi : i < l.length := (List.getElem?_eq_some_iff.1 hu).1
    rw [add_plain, Lib.bytesWorld_cell w 5 _ i (by simpa [ByteArray.size] using hi)]
    simp [byt, hu]
  · exact ⟨rfl, rfl, rfl, by rw [Lib.bytesWorld_size]; omega, fun k hk => Lib.bytesWorld_at_old w 5 _ k hk⟩
end Go.Proofs.YtnfikgnploockaaDoor
