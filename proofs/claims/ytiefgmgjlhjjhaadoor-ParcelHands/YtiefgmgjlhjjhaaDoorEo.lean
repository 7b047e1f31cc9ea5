import Derived.Test.YtiefgmgjlhjjhaaDoorEn
set_option linter.unusedVariables false
set_option linter.unusedSimpArgs false
namespace Go.Proofs.YtiefgmgjlhjjhaaDoor
open Go.RowKit

/-- Cells lie from an address on. -/
def At (w : World) (ad : Addr) (cs : List Value) : Prop := ∀ j v, cs[j]? = some v → w.cell? (ad.add j) = some v
section
variable {P : Program}
end
section
variable {P : Program}
theorem run_boxR (t : TypeId) (cs : List Value) (w : World) (g : Nat) (hg : w.heap.size = g) : (Instr.box t (.agg cs.toArray)).run P w = .ok (.pointer (some ⟨g, 0, none⟩)) (w.alloc (.cells cs.toArray t)) := by
  subst hg
  simp [Instr.box, newVar, newRow, Value.cells]
theorem run_newR (t : TypeId) (cs : List Value) (hz : ∀ w, (zeroValue t).run P w = .ok (.agg cs.toArray) w) (w : World) (g : Nat) (hg : w.heap.size = g) : (Instr.alloc t true (.tuple #[])).run P w = .ok (.pointer (some ⟨g, 0, none⟩)) (w.alloc (.cells cs.toArray t)) := by
  subst hg
  simp [Instr.alloc, hz, newVar, newRow, Value.cells]
variable {n : Nat} {e : List (Nat × Value)} {w : World} {Q : Exit → Act → World → Prop} {K : Act → World → Prop}
theorem px_then {id : Nat} (h : ∀ a, Env n a e → Q (.exit id) a w) : ∀ a, Env n a e → Exit.then K Q (.exit id) a w := h
theorem px_block {id : Nat} (h : ∀ a, Env n a e → Q .normal a w) : ∀ a, Env n a e → Exit.inBlock id Q (.exit id) a w := fun a ha => by
  simp only [Exit.inBlock, if_true]
  exact h a ha
theorem pn_block {id : Nat} (h : ∀ a, Env n a e → Q .normal a w) : ∀ a, Env n a e → Exit.inBlock id Q .normal a w := h
theorem pr_then (h : ∀ a, Env n a e → Q .ret a w) : ∀ a, Env n a e → Exit.then K Q .ret a w := h
theorem pr_block {id : Nat} (h : ∀ a, Env n a e → Q .ret a w) : ∀ a, Env n a e → Exit.inBlock id Q .ret a w := h
end
section
variable {P : Program} {n : Nat} {ops : Array Oper} {K : List (Nat × Value) → (World → Prop) → Prop} {i : Nat} {ty : TypeId} {ps : String} {af : Array Edge} {gd : Option (Nat × Bool)} {r : List (Oper × Bool)} {e : List (Nat × Value)} {S C : World → Prop}
end
theorem EW.cond_t {P : Program} {n : Nat} {Q : Exit → Act → World → Prop} {e : List (Nat × Value)} {w : World} {c : Operand} {x y : Code} (hc : evE e c = some (.bool true)) (h : EW P n x Q e w) : EW P n (.cond c x y) Q e w := EW.cond true hc h
theorem EW.cond_f {P : Program} {n : Nat} {Q : Exit → Act → World → Prop} {e : List (Nat × Value)} {w : World} {c : Operand} {x y : Code} (hc : evE e c = some (.bool false)) (h : EW P n y Q e w) : EW P n (.cond c x y) Q e w := EW.cond false hc h
def argE : Nat → List Value → List (Nat × Value)
  | _, [] => []
  | k, v :: r => (k, v) :: argE (k + 1) r
theorem argE_at : ∀ (l : List Value) (k i : Nat) (v : Value), (argE k l).lookup i = some v → k ≤ i ∧ l[i - k]? = some v
  | [], k, i, v, h => by simp [argE] at h
  | x :: r, k, i, v, h => by
    rw [argE, List.lookup_cons] at h
    by_cases hi : i = k
    · subst hi
      simp at h
      simp [h]
    · have h1 : (i == k) = false := by simpa using hi
      rw [h1] at h
      obtain ⟨h2, h3⟩ := argE_at r (k + 1) i v h
      refine ⟨by omega, ?_⟩
      rw [show i - k = (i - (k + 1)) + 1 by omega, List.getElem?_cons_succ]
      exact h3
theorem argE_spec (l : List Value) (i : Nat) (v : Value) (h : (argE 0 l).lookup i = some v) : l.toArray[i]? = some v := by
  have := (argE_at l 0 i v h).2
  simpa using this
theorem calls_of_args {P : Program} {f : FuncId} {fn : Func} {c : Code} {w : World} {R : Ending → World → Prop} (l : List Value) (hf : P.funcs[f]? = some fn) (hb : fn.body = some c) (n : Nat) (hn : fn.ntmps = n) (hl : l.length ≤ n) (h : EW P n c (bodyPost P fn R) (argE 0 l) w) : Calls P f l.toArray w R := by
  subst hn
  exact calls_of_ew (argE 0 l) hf hb (by simpa using hl) (argE_spec l) h
theorem int_lt_t {a b : Int} (h : a < b) (W : World) (x y : Operand) : (do eqGuard .lss 3 x y (.int .i64 a) (.int .i64 b); binOp .lss 3 (.int .i64 a) (.int .i64 b) : Sem Value).run Tryd.prog W = .ok (.bool true) W := by go_simp
theorem int_lt_f {a b : Int} (h : ¬ a < b) (W : World) (x y : Operand) : (do eqGuard .lss 3 x y (.int .i64 a) (.int .i64 b); binOp .lss 3 (.int .i64 a) (.int .i64 b) : Sem Value).run Tryd.prog W = .ok (.bool false) W := by go_simp
theorem int_gt_t {a b : Int} (h : b < a) (W : World) (x y : Operand) : (do eqGuard .gtr 3 x y (.int .i64 a) (.int .i64 b); binOp .gtr 3 (.int .i64 a) (.int .i64 b) : Sem Value).run Tryd.prog W = .ok (.bool true) W := by go_simp
theorem int_gt_f {a b : Int} (h : ¬ b < a) (W : World) (x y : Operand) : (do eqGuard .gtr 3 x y (.int .i64 a) (.int .i64 b); binOp .gtr 3 (.int .i64 a) (.int .i64 b) : Sem Value).run Tryd.prog W = .ok (.bool false) W := by go_simp
theorem int_eq_t {t : TypeId} {a b : Int} (h : a = b) (W : World) (x y : Operand) : (do eqGuard .eql t x y (.int .i64 a) (.int .i64 b); binOp .eql t (.int .i64 a) (.int .i64 b) : Sem Value).run Tryd.prog W = .ok (.bool true) W := by go_simp
theorem int_eq_f {t : TypeId} {a b : Int} (h : ¬ a = b) (W : World) (x y : Operand) : (do eqGuard .eql t x y (.int .i64 a) (.int .i64 b); binOp .eql t (.int .i64 a) (.int .i64 b) : Sem Value).run Tryd.prog W = .ok (.bool false) W := by go_simp
theorem int_ne_t {t : TypeId} {a b : Int} (h : ¬ a = b) (W : World) (x y : Operand) : (do eqGuard .neq t x y (.int .i64 a) (.int .i64 b); binOp .neq t (.int .i64 a) (.int .i64 b) : Sem Value).run Tryd.prog W = .ok (.bool true) W := by go_simp
theorem int_ne_f {t : TypeId} {a b : Int} (h : a = b) (W : World) (x y : Operand) : (do eqGuard .neq t x y (.int .i64 a) (.int .i64 b); binOp .neq t (.int .i64 a) (.int .i64 b) : Sem Value).run Tryd.prog W = .ok (.bool false) W := by go_simp
theorem int_add {a b c : Int} (h : IntKind.i64.wrap (a + b) = c) (W : World) (x y : Operand) : (do eqGuard .add 3 x y (.int .i64 a) (.int .i64 b); binOp .add 3 (.int .i64 a) (.int .i64 b) : Sem Value).run Tryd.prog W = .ok (.int .i64 c) W := by go_simp
theorem int_sub {a b c : Int} (h : IntKind.i64.wrap (a - b) = c) (W : World) (x y : Operand) : (do eqGuard .sub 3 x y (.int .i64 a) (.int .i64 b); binOp .sub 3 (.int .i64 a) (.int .i64 b) : Sem Value).run Tryd.prog W = .ok (.int .i64 c) W := by go_simp
theorem not_t (b : Bool) (W : World) : (Op.unary .not (.bool b)).run Tryd.prog W = .ok (.bool (!b)) W := by go_simp
theorem ext_2 (a b : Value) (W : World) : (Instr.extract (.tuple #[a, b]) 0).run Tryd.prog W = .ok a W ∧ (Instr.extract (.tuple #[a, b]) 1).run Tryd.prog W = .ok b W := by constructor <;> go_simp
section
variable {P : Program} {n : Nat} {ops : Array Oper} {Q : Exit → Act → World → Prop} {i : Nat} {ty : TypeId} {ps : String} {af : Array Edge} {gd : Option (Nat × Bool)} {r : List Oper} {e : List (Nat × Value)} {w w' : World}
theorem WL.app {t : TypeId} {x y : Operand} {u u' v : Value} (hw : wantE ops e ⟨some i, .call { callee := .builtin .append, args := #[x, y], argTypes := #[t, t] }, ty, ps, af, gd⟩ = some true) (hi : decide (i < n) = true) (hx : evE e x = some u) (hy : evE e y = some u') (hr : (Builtin.append_ #[t, t] ty #[u, u']).run P w = .ok v w') (k : WL P n ops Q r ((i, v) :: e) w') : WL P n ops Q (⟨some i, .call { callee := .builtin .append, args := #[x, y], argTypes := #[t, t] }, ty, ps, af, gd⟩ :: r) e w :=
  WL.op i v hw rfl hi (fun a ha => by simp [execOp, resolve, invoke, builtin, ha.ev hx, ha.ev hy, hr, Result.andThen]) k
end
section
variable {P : Program} {n : Nat} {ops : Array Oper} {K : List (Nat × Value) → (World → Prop) → Prop} {i : Nat} {ty : TypeId} {ps : String} {af : Array Edge} {gd : Option (Nat × Bool)} {r : List (Oper × Bool)} {e : List (Nat × Value)} {S C : World → Prop} {w w1 : World}
end
section
variable {P : Program} {N : Nat} {ops : Array Oper} {Q : Exit → Act → World → Prop}
end
section
variable {P : Program} {n : Nat} {e : List (Nat × Value)} {w : World}
theorem EW.returns2 {fn : Func} {R : Ending → World → Prop} {t u : Nat} {v v' : Value} (hres : fn.results = #[.tmp t, .tmp u]) (hv : e.lookup t = some v) (hv' : e.lookup u = some v') (h : R (.returned (.tuple #[v, v'])) w) : ∀ a, Env n a e → bodyPost P fn R .ret a w := fun a ha =>
  bodyPost_ret (v := .tuple #[v, v']) (by rw [results_tmp2 hres, ha.kn t v hv, ha.kn u v' hv']) ha.df h
theorem EW.falls {fn : Func} {R : Ending → World → Prop} (hres : fn.results = #[]) (h : R (.returned (.tuple #[])) w) : ∀ a, Env n a e → bodyPost P fn R .normal a w := fun a ha =>
  bodyPost_end (v := .tuple #[]) (by rw [results_none hres]) ha.df h
end
section
variable {P : Program} {n : Nat} {e : List (Nat × Value)} {w : World}
theorem EW.returnsC {fn : Func} {R : Ending → World → Prop} {t : Nat} {ty ty' : TypeId} {g : Nat} {cs : List Value} {d : TypeDesc} (hres : fn.results = #[.cell t ty]) (hv : e.lookup t = some (.pointer (some ⟨g, 0, none⟩))) (hg : Blk w g cs ty') (hu : P.underlying ty = some d) (hd : (match d with | .struct _ | .array _ _ => true | _ => false) = true) (hi : (P.info? ty).map (·.size) = some cs.length) (h : R (.returned (.agg cs.toArray)) w) : ∀ a, Env n a e → bodyPost P fn R .ret a w := fun a ha =>
  bodyPost_ret (v := .agg cs.toArray) (results_cell_row hres a.tmps w g ty' cs.toArray (0, 0) d (ha.kn t _ hv) hg hu hd (by simpa using hi)) ha.df h
end
theorem WL.mks {P : Program} {n : Nat} {ops : Array Oper} {Q : Exit → Act → World → Prop} {i : Nat} {ty : TypeId} {ps : String} {af : Array Edge} {gd : Option (Nat × Bool)} {r : List Oper} {e : List (Nat × Value)} {w w' : World} {t : TypeId} {x y : Operand} {u u' v : Value} (hw : wantE ops e ⟨some i, .makeSlice t x y, ty, ps, af, gd⟩ = some true) (hi : decide (i < n) = true) (hx : evE e x = some u) (hy : evE e y = some u') (hr : (Instr.makeSlice t u u').run P w = .ok v w') (k : WL P n ops Q r ((i, v) :: e) w') : WL P n ops Q (⟨some i, .makeSlice t x y, ty, ps, af, gd⟩ :: r) e w :=
  WL.op i v hw rfl hi (fun a ha => by simp [execOp, ha.ev hx, ha.ev hy, hr, Result.andThen]) k
section
variable {P : Program} {n : Nat} {ops : Array Oper} {i : Nat} {ty : TypeId} {ps : String} {af : Array Edge} {gd : Option (Nat × Bool)} {e : List (Nat × Value)} {w : World}
end
section
variable {P : Program} {n : Nat} {e : List (Nat × Value)} {w : World}
theorem EW.returns3 {fn : Func} {R : Ending → World → Prop} {t u x : Nat} {v v' v'' : Value} (hres : fn.results = #[.tmp t, .tmp u, .tmp x]) (hv : e.lookup t = some v) (hv' : e.lookup u = some v') (hv'' : e.lookup x = some v'') (h : R (.returned (.tuple #[v, v', v''])) w) : ∀ a, Env n a e → bodyPost P fn R .ret a w := fun a ha =>
  bodyPost_ret (v := .tuple #[v, v', v'']) (by rw [results_tmp3 hres, ha.kn t v hv, ha.kn u v' hv', ha.kn x v'' hv'']) ha.df h
end
theorem int_ge_t {a b : Int} (h : b ≤ a) (W : World) (x y : Operand) : (do eqGuard .geq 3 x y (.int .i64 a) (.int .i64 b); binOp .geq 3 (.int .i64 a) (.int .i64 b) : Sem Value).run Tryd.prog W = .ok (.bool true) W := by go_simp
theorem int_ge_f {a b : Int} (h : ¬ b ≤ a) (W : World) (x y : Operand) : (do eqGuard .geq 3 x y (.int .i64 a) (.int .i64 b); binOp .geq 3 (.int .i64 a) (.int .i64 b) : Sem Value).run Tryd.prog W = .ok (.bool false) W := by go_simp
end Go.Proofs.YtiefgmgjlhjjhaaDoor
