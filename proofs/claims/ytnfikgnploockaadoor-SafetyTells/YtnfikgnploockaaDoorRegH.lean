import Derived.Test.YtnfikgnploockaaDoorReg
import Derived.OrdersHeld
namespace Go.Proofs.YtnfikgnploockaaDoor
open Go.RowKit

section
variable {P : Program} {ops : Array Oper} {Q : Exit → Act → World → Prop} {md : Region.Mode} {S : World → Prop}

/-- An operation that yields its value wherever S holds is taken first. -/
theorem takeH {i : Nat} {o : Oper} (hi : ops[i]? = some o) (op : Op) (ho : o.op = op) (d : Nat) (hd : o.dst = some d) {v : Value} {fuel : Nat} {listed : Array Bool} {a : Act} {w : World}
    (hs : Region.noSelect ops = true) (hf : Region.free md ops listed i = true) (hr : (Region.ready md ops listed).contains i = true)
    (hQ : ∀ c a w, Q (.panic c) (a.put (some d) v) w → Q (.panic c) a w) (hw : Region.wanted o (yielded ops a.tmps) = true) (hrun : ∀ o' : Oper, o'.op = op → ∀ w, S w → (execOp a.eval o').run P w = .ok (.value v) w) (hS : S w)
    (h : wpAnyH P md ops Q S fuel (listed.setIfInBounds i true) (a.put (some d) v) w) : wpAnyH P md ops Q S (fuel + 1) listed a w := by
  rw [← hd] at hQ h
  exact wpAnyH_take hi hs hf hr hQ (.inl ⟨hw, hrun o ho⟩) hS h

theorem takeH_load {i : Nat} {o : Oper} (hi : ops[i]? = some o) (d' : Nat) (hd' : o.dst = some d') (ty : TypeId) (x : Operand) (ho : o.op = .load ty x) {fuel : Nat} {listed : Array Bool} {a : Act} {w : World} {cs : List Value}
    (hs : Region.noSelect ops = true) (hf : Region.free md ops listed i = true) (hr : (Region.ready md ops listed).contains i = true)
    (hQ : ∀ c a w, Q (.panic c) (a.put (some d') (.agg cs.toArray)) w → Q (.panic c) a w) (hw : Region.wanted o (yielded ops a.tmps) = true)
    (b off : Nat) (hx : a.eval x = .pointer (some ⟨b, off, none⟩)) (cs' : List Value) (hcs : cs' = cs) (hS' : ∀ w, S w → w.rangeAt b off cs') {d : TypeDesc}
    (hu : P.underlying ty = some d) (hd : d.isRow = true) (hsz : (P.info? ty).map (·.size) = some cs'.length) (hS : S w)
    (h : wpAnyH P md ops Q S fuel (listed.setIfInBounds i true) (a.put (some d') (.agg cs.toArray)) w) : wpAnyH P md ops Q S (fuel + 1) listed a w := by
  subst hcs
  rw [← hd'] at hQ h
  exact wpAnyH_take hi hs hf hr hQ (yieldsIf_load_mid hw ty x ho b off hx cs' d hS' hu hd hsz) hS h

theorem onlyH {i : Nat} {fuel : Nat} {listed : Array Bool} {a : Act} {w : World} (hr : Region.ready md ops listed = [i])
    (h : wpOp P ops Q i (fun a' w' => S w' ∧ wpAnyH P md ops Q S fuel (listed.setIfInBounds i true) a' w') a w) : wpAnyH P md ops Q S (fuel + 1) listed a w :=
  wpAnyH_all hr (by simp) (fun j hj => by
    obtain rfl : j = i := by simpa using hj
    exact h)

theorem opG_wp {i : Nat} {o : Oper} (hi : ops[i]? = some o) {K : Act → World → Prop} {a : Act} {w : World} (hw : Region.wanted o (yielded ops a.tmps) = true) (h : o.wp P a w K Q) : wpOp P ops Q i K a w := by
  unfold wpOp
  simp only [hi, hw, if_true]
  exact .inl h

theorem opG_run {i : Nat} {o : Oper} (hi : ops[i]? = some o) {K : Act → World → Prop} {a : Act} {w : World} (hw : Region.wanted o (yielded ops a.tmps) = true) (op : Op) (ho : o.op = op) (d : Nat) (hd : o.dst = some d) (v : Value) (w1 : World)
    (hrun : ∀ o' : Oper, o'.op = op → (execOp a.eval o').run P w = .ok (.value v) w1) (h : K (a.put (some d) v) w1) : wpOp P ops Q i K a w := by
  refine opG_wp hi hw ?_
  unfold Oper.wp
  rw [hrun o ho]
  simp only [Oper.upon]
  rw [hd]
  exact h

theorem opG_call {i : Nat} {o : Oper} (hi : ops[i]? = some o) {K : Act → World → Prop} {a : Act} {w : World} (hw : Region.wanted o (yielded ops a.tmps) = true) (op : Op) (ho : o.op = op) (d : Nat) (hd : o.dst = some d) (f : FuncId) (args : Array Value)
    (hrun : ∀ o' : Oper, o'.op = op → (execOp a.eval o').run P w = .ok (.enter f args) w) {R : Value → World → Prop} (hc : Calls P f args w fun e w' => ∃ v, e = .returned v ∧ R v w')
    (h : ∀ v w', R v w' → K (a.put (some d) v) w') : wpOp P ops Q i K a w := by
  refine opG_wp hi hw ?_
  unfold Oper.wp
  rw [hrun o ho]
  simp only [Oper.upon]
  refine hc.mono fun e w' ⟨v, he, hR⟩ => ?_
  subst he
  rw [hd]
  exact h v w' hR
end
end Go.Proofs.YtnfikgnploockaaDoor
