import Derived.Test.YthfcabhelldokaaEn
import Derived.Test.YthfcabhelldokaaScG
set_option linter.unusedVariables false
set_option linter.unusedSimpArgs false
namespace Go.Proofs.Ythfcabhelldokaa
open Go.RowKit

section
variable {P : Program}
theorem run_boxR (t : TypeId) (cs : List Value) (w : World) (g : Nat) (hg : w.heap.size = g) : (Instr.box t (.agg cs.toArray)).run P w = .ok (.pointer (some ⟨g, 0, none⟩)) (w.alloc (.cells cs.toArray t)) := by
  subst hg
  simp [Instr.box, newVar, newRow, Value.cells]
theorem run_newR (t : TypeId) (cs : List Value) (hz : ∀ w, (zeroValue t).run P w = .ok (.agg cs.toArray) w) (w : World) (g : Nat) (hg : w.heap.size = g) : (Instr.alloc t true (.tuple #[])).run P w = .ok (.pointer (some ⟨g, 0, none⟩)) (w.alloc (.cells cs.toArray t)) := by
  subst hg
  simp [Instr.alloc, hz, newVar, newRow, Value.cells]
theorem run_storeR {w : World} {g : Nat} {t ty : TypeId} {old cs : List Value} (hg : Blk w g old t) (hi : (P.info? ty).map (·.size) = some cs.length) (ho : old.length = cs.length) (h1 : cs.toArray.all (·.oneCell') = true) : (Instr.storeAt ty (.pointer (some ⟨g, 0, none⟩)) (.agg cs.toArray)).run P w = .ok () (w.setRow g cs.toArray) := by
  simp only [Instr.storeAt, Instr.sureAddr, Sem.run_bind, Sem.run_pure, Result.andThen_ok, run_storeVar_row w g t ty old.toArray cs.toArray hg (by simpa using hi) (by simpa using ho) h1]
theorem run_loadR {w : World} {g : Nat} {t ty : TypeId} {cs : List Value} {d : TypeDesc} (hg : Blk w g cs t) (hu : P.underlying ty = some d) (hd : d.isRow = true) (hi : (P.info? ty).map (·.size) = some cs.length) : (Instr.loadAt ty (.pointer (some ⟨g, 0, none⟩))).run P w = .ok (.agg cs.toArray) w :=
  run_loadAt_mid w g 0 ty cs d (fun j v hj => by rw [Nat.zero_add, hg.cell]; exact hj) hu hd hi
theorem run_loadA {w : World} {ad : Addr} {ty : TypeId} {cs : List Value} {d : TypeDesc} (hg : At w ad cs) (hu : P.underlying ty = some d) (hd : d.isRow = true) (hi : (P.info? ty).map (·.size) = some cs.length) : (Instr.loadAt ty (.pointer (some ad))).run P w = .ok (.agg cs.toArray) w := by
  simp only [Instr.loadAt, Instr.sureAddr, Sem.run_bind, Sem.run_pure, Result.andThen_ok, run_loadVar_at w ad ty cs d hg hu hd hi]
variable {n : Nat} {e : List (Nat × Value)} {w : World} {Q : Exit → Act → World → Prop} {K : Act → World → Prop}
theorem px_then {id : Nat} (h : ∀ a, Env n a e → Q (.exit id) a w) : ∀ a, Env n a e → Exit.then K Q (.exit id) a w := h
theorem px_block {id : Nat} (h : ∀ a, Env n a e → Q .normal a w) : ∀ a, Env n a e → Exit.inBlock id Q (.exit id) a w := fun a ha => by
  simp only [Exit.inBlock, if_true]
  exact h a ha
theorem px_other {id id' : Nat} (hn : id' ≠ id) (h : ∀ a, Env n a e → Q (.exit id') a w) : ∀ a, Env n a e → Exit.inBlock id Q (.exit id') a w := fun a ha => by
  simp only [Exit.inBlock, if_neg hn]
  exact h a ha
theorem pn_block {id : Nat} (h : ∀ a, Env n a e → Q .normal a w) : ∀ a, Env n a e → Exit.inBlock id Q .normal a w := h
theorem pr_then (h : ∀ a, Env n a e → Q .ret a w) : ∀ a, Env n a e → Exit.then K Q .ret a w := h
theorem pr_block {id : Nat} (h : ∀ a, Env n a e → Q .ret a w) : ∀ a, Env n a e → Exit.inBlock id Q .ret a w := h
end
section
variable {P : Program} {n : Nat} {ops : Array Oper} {K : List (Nat × Value) → (World → Prop) → Prop} {i : Nat} {ty : TypeId} {ps : String} {af : Array Edge} {gd : Option (Nat × Bool)} {r : List (Oper × Bool)} {e : List (Nat × Value)} {S C : World → Prop}
theorem OE.val {op : Op} {v : Value} (hw : wantE ops e ⟨some i, op, ty, ps, af, gd⟩ = some true) (hi : decide (i < n) = true) (hrun : ∀ a, Env n a e → ∀ W, S W → (execOp a.eval ⟨some i, op, ty, ps, af, gd⟩).run P W = .ok (.value v) W) (k : wpOrdE P n ops K r ((i, v) :: e) S C) : wpOrdE P n ops K ((⟨some i, op, ty, ps, af, gd⟩, false) :: r) e S C :=
  ⟨v, fun j hj => by cases hj; exact of_decide_eq_true hi, fun a ha => .inl ⟨wantE_spec ha hw, fun W hW => hrun a ha W hW⟩, k⟩
theorem OE.move {x : Operand} {v : Value} (hw : wantE ops e ⟨some i, .move x, ty, ps, af, gd⟩ = some true) (hi : decide (i < n) = true) (hx : evE e x = some v) (k : wpOrdE P n ops K r ((i, v) :: e) S C) : wpOrdE P n ops K ((⟨some i, .move x, ty, ps, af, gd⟩, false) :: r) e S C :=
  OE.val hw hi (fun a ha W hW => by simp [execOp, ha.ev hx]) k
theorem OE.assign {x : Operand} {v : Value} (hw : wantE ops e ⟨some i, .assign x, ty, ps, af, gd⟩ = some true) (hi : decide (i < n) = true) (hx : evE e x = some v) (k : wpOrdE P n ops K r ((i, v) :: e) S C) : wpOrdE P n ops K ((⟨some i, .assign x, ty, ps, af, gd⟩, false) :: r) e S C :=
  OE.val hw hi (fun a ha W hW => by simp [execOp, ha.ev hx]) k
theorem OE.pick {c x y : Operand} {b : Bool} {v : Value} (hw : wantE ops e ⟨some i, .pick c x y, ty, ps, af, gd⟩ = some true) (hi : decide (i < n) = true) (hc : evE e c = some (.bool b)) (hx : evE e (if b then x else y) = some v) (k : wpOrdE P n ops K r ((i, v) :: e) S C) : wpOrdE P n ops K ((⟨some i, .pick c x y, ty, ps, af, gd⟩, false) :: r) e S C :=
  OE.val hw hi (fun a ha W hW => by cases b <;> simp [execOp, ha.ev hc, ← ha.ev hx, asBool]) k
theorem OE.bin {op : BinOp} {t t2 : TypeId} {x y : Operand} {u u' v : Value} (hw : wantE ops e ⟨some i, .binOp op t x y t2, ty, ps, af, gd⟩ = some true) (hi : decide (i < n) = true) (hx : evE e x = some u) (hy : evE e y = some u') (hr : ∀ w, (do eqGuard op t x y u u'; binOp op t u u' : Sem Value).run P w = .ok v w) (k : wpOrdE P n ops K r ((i, v) :: e) S C) : wpOrdE P n ops K ((⟨some i, .binOp op t x y t2, ty, ps, af, gd⟩, false) :: r) e S C :=
  OE.val hw hi (fun a ha W hW => by
    unfold execOp
    simp only [ha.ev hx, ha.ev hy]
    rw [Sem.run_bind, hr]; rfl) k
theorem OE.conv {s t : TypeId} {x : Operand} {u v : Value} (hw : wantE ops e ⟨some i, .convert s t x, ty, ps, af, gd⟩ = some true) (hi : decide (i < n) = true) (hx : evE e x = some u) (hr : ∀ w, S w → (Go.convert s t u).run P w = .ok v w) (k : wpOrdE P n ops K r ((i, v) :: e) S C) : wpOrdE P n ops K ((⟨some i, .convert s t x, ty, ps, af, gd⟩, false) :: r) e S C :=
  OE.val hw hi (fun a ha W hW => by simp [execOp, ha.ev hx, hr W hW, Result.andThen]) k
theorem OE.call {f : FuncId} {xs : List Operand} {ts : Array TypeId} (args : List Value) (v : Value) (S' C' : World → Prop) (hen : ∀ (args : Array Value) (W : World), (callFunc f args).run P W = .ok (.enter f args) W)
    (hw : wantE ops e ⟨some i, .call { callee := .value (.func f), args := xs.toArray, argTypes := ts }, ty, ps, af, gd⟩ = some true) (hi : decide (i < n) = true) (hx : xs.map (evE e) = args.map some) (h1 : ∀ w, C' w → S' w) (h2 : ∀ w, S' w → S w) (hc : ∀ w, C w → Calls P f args.toArray w (fun x w' => x = .returned v ∧ C' w'))
    (k : wpOrdE P n ops K r ((i, v) :: e) S' C') : wpOrdE P n ops K ((⟨some i, .call { callee := .value (.func f), args := xs.toArray, argTypes := ts }, ty, ps, af, gd⟩, true) :: r) e S C :=
  ⟨hw, fun j hj => by cases hj; exact of_decide_eq_true hi, v, S', C', h1, h2, fun w hw a ha => by
    have hargs : xs.map a.eval = args := by
      clear hc hw
      induction xs generalizing args with
      | nil => cases args with
        | nil => rfl
        | cons _ _ => simp at hx
      | cons x xs ih => cases args with
        | nil => simp at hx
        | cons y ys =>
          simp only [List.map_cons, List.cons.injEq] at hx ⊢
          exact ⟨ha.ev hx.1, ih ys ‹_› hx.2⟩
    exact OpTo.call f xs ts rfl args v hargs hen (hc w hw), k⟩
end
theorem EW.cond_t {P : Program} {n : Nat} {Q : Exit → Act → World → Prop} {e : List (Nat × Value)} {w : World} {c : Operand} {x y : Code} (hc : evE e c = some (.bool true)) (h : EW P n x Q e w) : EW P n (.cond c x y) Q e w := EW.cond true hc h
theorem EW.cond_f {P : Program} {n : Nat} {Q : Exit → Act → World → Prop} {e : List (Nat × Value)} {w : World} {c : Operand} {x y : Code} (hc : evE e c = some (.bool false)) (h : EW P n y Q e w) : EW P n (.cond c x y) Q e w := EW.cond false hc h
def argE : Nat → List Value → List (Nat × Value)
  | _, [] => []
  | k, v :: r => (k, v) :: argE (k + 1) r
theorem argE_at : ∀ (l : List Value) (k i : Nat) (v : Value), (argE k l).lookup i = some v → k ≤ i ∧ l[i - k]? = some v
  | [], k, i, v, h => by simp [argE] at h
  | x :: r, k, i, v, h => by
    rw [argE, List.lookup_cons] at h
    by_cases hi : i = k
    · subst hi
      simp at h
      simp [h]
    · have h1 : (i == k) = false := by simpa using hi
      rw [h1] at h
      obtain ⟨h2, h3⟩ := argE_at r (k + 1) i v h
      refine ⟨by omega, ?_⟩
      rw [show i - k = (i - (k + 1)) + 1 by omega, List.getElem?_cons_succ]
      exact h3
theorem argE_spec (l : List Value) (i : Nat) (v : Value) (h : (argE 0 l).lookup i = some v) : l.toArray[i]? = some v := by
  have := (argE_at l 0 i v h).2
  simpa using this
theorem calls_of_args {P : Program} {f : FuncId} {fn : Func} {c : Code} {w : World} {R : Ending → World → Prop} (l : List Value) (hf : P.funcs[f]? = some fn) (hb : fn.body = some c) (n : Nat) (hn : fn.ntmps = n) (hl : l.length ≤ n) (h : EW P n c (bodyPost P fn R) (argE 0 l) w) : Calls P f l.toArray w R := by
  subst hn
  exact calls_of_ew (argE 0 l) hf hb (by simpa using hl) (argE_spec l) h
theorem int_lt_t {a b : Int} (h : a < b) (W : World) (x y : Operand) : (do eqGuard .lss 3 x y (.int .i64 a) (.int .i64 b); binOp .lss 3 (.int .i64 a) (.int .i64 b) : Sem Value).run Try.prog W = .ok (.bool true) W := by go_simp
theorem int_lt_f {a b : Int} (h : ¬ a < b) (W : World) (x y : Operand) : (do eqGuard .lss 3 x y (.int .i64 a) (.int .i64 b); binOp .lss 3 (.int .i64 a) (.int .i64 b) : Sem Value).run Try.prog W = .ok (.bool false) W := by go_simp
theorem int_gt_t {a b : Int} (h : b < a) (W : World) (x y : Operand) : (do eqGuard .gtr 3 x y (.int .i64 a) (.int .i64 b); binOp .gtr 3 (.int .i64 a) (.int .i64 b) : Sem Value).run Try.prog W = .ok (.bool true) W := by go_simp
theorem int_gt_f {a b : Int} (h : ¬ b < a) (W : World) (x y : Operand) : (do eqGuard .gtr 3 x y (.int .i64 a) (.int .i64 b); binOp .gtr 3 (.int .i64 a) (.int .i64 b) : Sem Value).run Try.prog W = .ok (.bool false) W := by go_simp
theorem int_eq_t {t : TypeId} {a b : Int} (h : a = b) (W : World) (x y : Operand) : (do eqGuard .eql t x y (.int .i64 a) (.int .i64 b); binOp .eql t (.int .i64 a) (.int .i64 b) : Sem Value).run Try.prog W = .ok (.bool true) W := by go_simp
theorem int_eq_f {t : TypeId} {a b : Int} (h : ¬ a = b) (W : World) (x y : Operand) : (do eqGuard .eql t x y (.int .i64 a) (.int .i64 b); binOp .eql t (.int .i64 a) (.int .i64 b) : Sem Value).run Try.prog W = .ok (.bool false) W := by go_simp
theorem int_ne_t {t : TypeId} {a b : Int} (h : ¬ a = b) (W : World) (x y : Operand) : (do eqGuard .neq t x y (.int .i64 a) (.int .i64 b); binOp .neq t (.int .i64 a) (.int .i64 b) : Sem Value).run Try.prog W = .ok (.bool true) W := by go_simp
theorem int_ne_f {t : TypeId} {a b : Int} (h : a = b) (W : World) (x y : Operand) : (do eqGuard .neq t x y (.int .i64 a) (.int .i64 b); binOp .neq t (.int .i64 a) (.int .i64 b) : Sem Value).run Try.prog W = .ok (.bool false) W := by go_simp
theorem int_add {a b c : Int} (h : IntKind.i64.wrap (a + b) = c) (W : World) (x y : Operand) : (do eqGuard .add 3 x y (.int .i64 a) (.int .i64 b); binOp .add 3 (.int .i64 a) (.int .i64 b) : Sem Value).run Try.prog W = .ok (.int .i64 c) W := by go_simp
theorem int_sub {a b c : Int} (h : IntKind.i64.wrap (a - b) = c) (W : World) (x y : Operand) : (do eqGuard .sub 3 x y (.int .i64 a) (.int .i64 b); binOp .sub 3 (.int .i64 a) (.int .i64 b) : Sem Value).run Try.prog W = .ok (.int .i64 c) W := by go_simp
theorem ptr_eq_f (ad : Addr) (W : World) (x y : Operand) : (do eqGuard .eql 28 x y (.pointer (some ad)) (.pointer none); binOp .eql 28 (.pointer (some ad)) (.pointer none) : Sem Value).run Try.prog W = .ok (.bool false) W := by go_simp
theorem str_ne_f (s : ByteArray) (W : World) (x y : Operand) : (do eqGuard .neq 9 x y (.string s) (.string s); binOp .neq 9 (.string s) (.string s) : Sem Value).run Try.prog W = .ok (.bool false) W := by go_simp
theorem str_eq_t (s : ByteArray) (W : World) (x y : Operand) : (do eqGuard .eql 9 x y (.string s) (.string s); binOp .eql 9 (.string s) (.string s) : Sem Value).run Try.prog W = .ok (.bool true) W := by go_simp
theorem bool_eq_t (b : Bool) (W : World) (x y : Operand) : (do eqGuard .eql 4 x y (.bool b) (.bool b); binOp .eql 4 (.bool b) (.bool b) : Sem Value).run Try.prog W = .ok (.bool true) W := by go_simp
theorem not_t (b : Bool) (W : World) : (Op.unary .not (.bool b)).run Try.prog W = .ok (.bool (!b)) W := by go_simp
theorem ext_2 (a b : Value) (W : World) : (Instr.extract (.tuple #[a, b]) 0).run Try.prog W = .ok a W ∧ (Instr.extract (.tuple #[a, b]) 1).run Try.prog W = .ok b W := by constructor <;> go_simp
theorem fld53_0 (g : Nat) (W : World) : (Instr.fieldAt 53 (.pointer (some ⟨g, 0, none⟩)) 0).run Try.prog W = .ok (.pointer (some ⟨g, 0, none⟩)) W := by go_simp
theorem fld53_2 (g : Nat) (W : World) : (Instr.fieldAt 53 (.pointer (some ⟨g, 0, none⟩)) 2).run Try.prog W = .ok (.pointer (some ⟨g, 2, none⟩)) W := by go_simp
theorem ld3 {ad : Addr} {v : Value} {W : World} (h : W.cell? ad = some v) : (Instr.loadAt 3 (.pointer (some ad))).run Try.prog W = .ok v W := by go_simp
end Go.Proofs.Ythfcabhelldokaa
