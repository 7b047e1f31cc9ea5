import Derived.Test.YtacimelcmkhhlaaOz
import Derived.Recover
set_option linter.unusedVariables false
set_option linter.unusedSimpArgs false
namespace Go.Proofs.Ytacimelcmkhhlaa
open Go.RowKit

/-- A function that defers is entered. -/
theorem calls_of_argsD {P : Program} {f : FuncId} {fn : Func} {c : Code} {w : World} {R : Ending → World → Prop} (l : List Value) (hf : P.funcs[f]? = some fn) (hb : fn.body = some c) (n : Nat) (hn : fn.ntmps = n) (hl : l.length ≤ n) (h : EW P ⟨n, []⟩ c (bodyPostD P fn R) (argE 0 l) w) : Calls P f l.toArray w R := by
  subst hn
  exact calls_of_wp_defers hf hb (h _ (frame_env fn.ntmps l.toArray (argE 0 l) (by simpa using hl) (argE_spec l)))
section
variable {P : Program} {n : Fm} {ops : Array Oper} {Q : Exit → Act → World → Prop} {e : List (Nat × Value)} {w : World} {ty : TypeId} {ps : String} {af : Array Edge} {gd : Option (Nat × Bool)} {r : List Oper}
theorem Env.defer {a : Act} (h : Env n a e) (d : Deferred) : Env ⟨n.k, d :: n.D⟩ ({ a with defers := d :: a.defers }.put none undef) e := ⟨by simp [Act.put, h.df], by simp [Act.put, h.sz], fun i v hi => by have := h.kn i v hi; simpa [Act.put] using this⟩
theorem WL.defer {x : Operand} {g : FuncId} {cap : Array Value} {ts : Array TypeId} (hw : wantE ops e ⟨none, .defer { callee := .value x, args := #[], argTypes := ts }, ty, ps, af, gd⟩ = some true) (hf : evE e x = some (.func (.func g) #[] cap))
    (k : WL P ⟨n.k, { target := .fn (.func g) cap, args := #[] } :: n.D⟩ ops Q r e w) : WL P n ops Q (⟨none, .defer { callee := .value x, args := #[], argTypes := ts }, ty, ps, af, gd⟩ :: r) e w := fun a ha => by
  unfold wpList
  rw [if_pos (wantE_spec ha hw)]
  left
  unfold Oper.wp
  have e1 : (execOp a.eval ⟨none, .defer { callee := .value x, args := #[], argTypes := ts }, ty, ps, af, gd⟩).run P w = .ok (.defer { target := .fn (.func g) cap, args := #[] }) w := by
    simp [execOp, resolve, Deferred.ofValue, ha.ev hf]
  rw [e1]
  exact k _ (ha.defer _)
/-- A call that may panic. -/
theorem WL.callP {i : Nat} {f : FuncId} {xs : List Operand} {ts : Array TypeId} {R : Ending → World → Prop} (args : List Value) (hen : ∀ (args : Array Value) (W : World), (callFunc f args).run P W = .ok (.enter f args) W)
    (hw : wantE ops e ⟨some i, .call { callee := .value (.func f), args := xs.toArray, argTypes := ts }, ty, ps, af, gd⟩ = some true) (hi : decide (i < n.k) = true) (hx : xs.map (evE e) = args.map some) (hc : Calls P f args.toArray w R)
    (k : ∀ x w', R x w' → (∃ v, x = .returned v ∧ WL P n ops Q r ((i, v) :: e) w') ∨ ∃ ch, x = .panicked ch ∧ ∀ a, Env n a e → Q (.panic ch) a w') : WL P n ops Q (⟨some i, .call { callee := .value (.func f), args := xs.toArray, argTypes := ts }, ty, ps, af, gd⟩ :: r) e w := fun a ha => by
  unfold wpList
  rw [if_pos (wantE_spec ha hw)]
  left
  unfold Oper.wp
  have e1 : (execOp a.eval ⟨some i, .call { callee := .value (.func f), args := xs.toArray, argTypes := ts }, ty, ps, af, gd⟩).run P w = .ok (.enter f args.toArray) w := by
    have e2 : (execOp a.eval ⟨some i, .call { callee := .value (.func f), args := xs.toArray, argTypes := ts }, ty, ps, af, gd⟩).run P w = (callFunc f (xs.toArray.map a.eval)).run P w := by
      simp [execOp, resolve, Deferred.ofValue, invoke, Act.eval]
    rw [e2, hen, List.map_toArray, args_ev ha hx]
  rw [e1]
  simp only [Oper.upon]
  refine hc.mono fun y w' hy => ?_
  rcases k y w' hy with ⟨v, rfl, hk⟩ | ⟨ch, rfl, hk⟩
  · exact hk _ (ha.put i v (of_decide_eq_true hi))
  · exact hk a ha
theorem WL.panic {x : Operand} {t : TypeId} {v : Value} (hw : wantE ops e ⟨none, .panic x, ty, ps, af, gd⟩ = some true) (hx : evE e x = some (.iface t v)) (k : ∀ a, Env n a e → Q (.panic [{ v := .iface t v, recovered := false }]) a w) : WL P n ops Q (⟨none, .panic x, ty, ps, af, gd⟩ :: r) e w := fun a ha => by
  unfold wpList
  rw [if_pos (wantE_spec ha hw)]
  left
  unfold Oper.wp
  have e1 : (execOp a.eval ⟨none, .panic x, ty, ps, af, gd⟩).run P w = .halt (.panic (.iface t v)) w := by
    simp [execOp, ha.ev hx, Instr.panic, Result.andThen]
  rw [e1]
  exact k a ha
theorem pp_then {ch : List PanicEntry} {K : Act → World → Prop} (h : ∀ a, Env n a e → Q (.panic ch) a w) : ∀ a, Env n a e → Exit.then K Q (.panic ch) a w := h
theorem pp_block {ch : List PanicEntry} {id : Nat} (h : ∀ a, Env n a e → Q (.panic ch) a w) : ∀ a, Env n a e → Exit.inBlock id Q (.panic ch) a w := h
theorem pp_post {ch : List PanicEntry} {m : Nat} {fn : Func} {R : Ending → World → Prop} (h : R (.panicked ch) w) : ∀ a, Env ⟨m, []⟩ a e → bodyPost P fn R (.panic ch) a w := fun a ha => ⟨ha.df, h⟩
/-- A deferred literal behind a return, or behind a panic. -/
theorem EW.leaves {m : Nat} {fn : Func} {g : FuncId} {cap : Array Value} {R : Ending → World → Prop} {S : FrameMode → World → Prop} (hen : ∀ (args : Array Value) (W : World), (callFunc g args).run P W = .ok (.enter g args) W) (hc : CallsD P g cap .returning w (fun x u w' => (∃ v, x = .returned v) ∧ S u w'))
    (k : ∀ u w', S u w' → u = .returning ∧ ∀ a, Env ⟨m, [{ target := .fn (.func g) cap, args := #[] }]⟩ a e → ∃ v, (results fn a.tmps).run P w' = .ok v w' ∧ R (.returned v) w') : ∀ a, Env ⟨m, [{ target := .fn (.func g) cap, args := #[] }]⟩ a e → bodyPostD P fn R .ret a w := fun a ha => by
  show Leaves P fn a.tmps R a.defers .returning w
  rw [ha.df]
  refine leaves_cons (args := cap) (by simp) (by simp [invoke, hen]) (hc.mono ?_)
  rintro x u w' ⟨⟨v, rfl⟩, hs⟩
  obtain ⟨rfl, h⟩ := k u w' hs
  obtain ⟨v', h1, h2⟩ := h a ha
  exact ⟨v', h1, h2⟩
theorem EW.caught {m : Nat} {fn : Func} {g : FuncId} {cap : Array Value} {R : Ending → World → Prop} {S : World → Prop} {pv : Value} (hen : ∀ (args : Array Value) (W : World), (callFunc g args).run P W = .ok (.enter g args) W) (hc : CallsD P g cap (.panicking [{ v := pv, recovered := false }]) w (fun x u w' => (∃ v, x = .returned v) ∧ u = .panicking [{ v := pv, recovered := true }] ∧ S w'))
    (k : ∀ w', S w' → ∀ a, Env ⟨m, [{ target := .fn (.func g) cap, args := #[] }]⟩ a e → ∃ v, (results fn a.tmps).run P w' = .ok v w' ∧ R (.returned v) w') : ∀ a, Env ⟨m, [{ target := .fn (.func g) cap, args := #[] }]⟩ a e → bodyPostD P fn R (.panic [{ v := pv, recovered := false }]) a w := fun a ha => by
  show Leaves P fn a.tmps R a.defers _ w
  rw [ha.df]
  refine leaves_cons (args := cap) (by simp) (by simp [invoke, hen]) (hc.mono ?_)
  rintro x u w' ⟨⟨v, rfl⟩, rfl, hs⟩
  obtain ⟨v', h1, h2⟩ := k w' hs a ha
  exact ⟨v', h1, h2⟩
end
/-- The deferred literal's own walk: what lies below its frame may turn by recover. -/
def ES (P : Program) (n : Fm) (c : Code) (Q : Exit → Act → List Frame → World → Prop) (e : List (Nat × Value)) (cs : List Frame) (w : World) : Prop := ∀ a, Env n a e → c.wpS P Q a cs w
def WS (P : Program) (n : Fm) (ops : Array Oper) (Q : Exit → Act → List Frame → World → Prop) (l : List Nat) (e : List (Nat × Value)) (cs : List Frame) (w : World) : Prop := ∀ a, Env n a e → wpOpsS P ops Q l a cs w
section
variable {P : Program} {n : Fm} {ops : Array Oper} {Q : Exit → Act → List Frame → World → Prop} {e : List (Nat × Value)} {cs : List Frame} {w : World} {ty : TypeId} {ps : String} {af : Array Edge} {gd : Option (Nat × Bool)} {l : List Nat} {j : Nat}
theorem ES.seq {x y : Code} (h : ES P n x (Exit.thenS (y.wpS P Q) Q) e cs w) : ES P n (.seq x y) Q e cs w := fun a ha => wpS_seq (h a ha)
theorem ES.region {id : Nat} (h : WS P n ops Q (List.range ops.size) e cs w) : ES P n (.region id ops false) Q e cs w := fun a ha => wpS_region (h a ha)
theorem ES.of {c : Code} (h : EW P n c (fun x a' w' => Q x a' cs w') e w) : ES P n c Q e cs w := fun a ha => wpS_of_wp (h a ha)
theorem WS.on {y : Code} (h : ES P n y Q e cs w) : WS P n ops (Exit.thenS (y.wpS P Q) Q) [] e cs w := fun a ha => h a ha
theorem WS.recover {i : Nat} {ts : Array TypeId} {v : Value} {cs' : List Frame} (ho : ops[j]? = some ⟨some i, .call { callee := .builtin .recover, args := #[], argTypes := ts }, ty, ps, af, gd⟩) (hw : wantE ops e ⟨some i, .call { callee := .builtin .recover, args := #[], argTypes := ts }, ty, ps, af, gd⟩ = some true) (hi : decide (i < n.k) = true)
    (hr : recoverD cs = some (v, cs')) (k : WS P n ops Q l ((i, v) :: e) cs' w) : WS P n ops Q (j :: l) e cs w := fun a ha => by
  unfold wpOpsS
  rw [ho]
  dsimp only
  rw [if_pos (wantE_spec ha hw)]
  have e1 : (execOp a.eval ⟨some i, .call { callee := .builtin .recover, args := #[], argTypes := ts }, ty, ps, af, gd⟩).run P w = .ok .recover w := by
    simp [execOp, resolve, invoke, builtin]
  rw [e1]
  dsimp only
  rw [hr]
  exact k _ (ha.put i v (of_decide_eq_true hi))
theorem WS.recover0 {i : Nat} {ts : Array TypeId} (ho : ops[j]? = some ⟨some i, .call { callee := .builtin .recover, args := #[], argTypes := ts }, ty, ps, af, gd⟩) (hw : wantE ops e ⟨some i, .call { callee := .builtin .recover, args := #[], argTypes := ts }, ty, ps, af, gd⟩ = some true) (hi : decide (i < n.k) = true)
    (hr : recoverD cs = none) (k : WS P n ops Q l ((i, .nilIface) :: e) cs w) : WS P n ops Q (j :: l) e cs w := fun a ha => by
  unfold wpOpsS
  rw [ho]
  dsimp only
  rw [if_pos (wantE_spec ha hw)]
  have e1 : (execOp a.eval ⟨some i, .call { callee := .builtin .recover, args := #[], argTypes := ts }, ty, ps, af, gd⟩).run P w = .ok .recover w := by
    simp [execOp, resolve, invoke, builtin]
  rw [e1]
  dsimp only
  rw [hr]
  exact k _ (ha.put i .nilIface (of_decide_eq_true hi))
theorem WS.assign {i : Nat} {x : Operand} {v : Value} (ho : ops[j]? = some ⟨some i, .assign x, ty, ps, af, gd⟩) (hw : wantE ops e ⟨some i, .assign x, ty, ps, af, gd⟩ = some true) (hi : decide (i < n.k) = true) (hx : evE e x = some v) (k : WS P n ops Q l ((i, v) :: e) cs w) : WS P n ops Q (j :: l) e cs w := fun a ha => by
  unfold wpOpsS
  rw [ho]
  dsimp only
  rw [if_pos (wantE_spec ha hw)]
  have e1 : (execOp a.eval ⟨some i, .assign x, ty, ps, af, gd⟩).run P w = .ok (.value v) w := by simp [execOp, ha.ev hx]
  rw [e1]
  exact k _ (ha.put i v (of_decide_eq_true hi))
theorem WS.call {i : Nat} {f : FuncId} {xs : List Operand} {ts : Array TypeId} {R : Ending → World → Prop} (args : List Value) (hen : ∀ (args : Array Value) (W : World), (callFunc f args).run P W = .ok (.enter f args) W)
    (ho : ops[j]? = some ⟨some i, .call { callee := .value (.func f), args := xs.toArray, argTypes := ts }, ty, ps, af, gd⟩) (hw : wantE ops e ⟨some i, .call { callee := .value (.func f), args := xs.toArray, argTypes := ts }, ty, ps, af, gd⟩ = some true) (hi : decide (i < n.k) = true) (hx : xs.map (evE e) = args.map some) (hc : Calls P f args.toArray w R)
    (k : ∀ x w', R x w' → ∃ v, x = .returned v ∧ WS P n ops Q l ((i, v) :: e) cs w') : WS P n ops Q (j :: l) e cs w := fun a ha => by
  unfold wpOpsS
  rw [ho]
  dsimp only
  rw [if_pos (wantE_spec ha hw)]
  have e1 : (execOp a.eval ⟨some i, .call { callee := .value (.func f), args := xs.toArray, argTypes := ts }, ty, ps, af, gd⟩).run P w = .ok (.enter f args.toArray) w := by
    have e2 : (execOp a.eval ⟨some i, .call { callee := .value (.func f), args := xs.toArray, argTypes := ts }, ty, ps, af, gd⟩).run P w = (callFunc f (xs.toArray.map a.eval)).run P w := by
      simp [execOp, resolve, Deferred.ofValue, invoke, Act.eval]
    rw [e2, hen, List.map_toArray, args_ev ha hx]
  rw [e1]
  simp only [Oper.upon]
  refine hc.mono fun y w' hy => ?_
  obtain ⟨v, rfl, hk⟩ := k y w' hy
  exact hk _ (ha.put i v (of_decide_eq_true hi))
theorem callsD_of_args {f : FuncId} {fn : Func} {c : Code} {u : FrameMode} {R : Ending → FrameMode → World → Prop} (l : List Value) (hf : P.funcs[f]? = some fn) (hb : fn.body = some c) (n : Nat) (hn : fn.ntmps = n) (hl : l.length ≤ n)
    (h : ∀ (c₀ : Frame) (cs : List Frame), c₀.mode = u → ES P ⟨n, []⟩ c (bodyPostS P fn c₀ cs R) (argE 0 l) (c₀ :: cs) w) : CallsD P f l.toArray u w R := by
  subst hn
  exact callsD_of_wpS hf hb fun c₀ cs hu => h c₀ cs hu _ (frame_env fn.ntmps l.toArray (argE 0 l) (by simpa using hl) (argE_spec l))
theorem recover_no {c₀ : Frame} (h : c₀.mode = .returning) : recoverD (c₀ :: cs) = none := by simp [recoverD, h]
theorem recover_yes {c₀ : Frame} {v : Value} (h : c₀.mode = .panicking [{ v := v, recovered := false }]) : recoverD (c₀ :: cs) = some (v, { c₀ with mode := .panicking [{ v := v, recovered := true }] } :: cs) := by simp [recoverD, h]
end
end Go.Proofs.Ytacimelcmkhhlaa
