import Derived.Test.YthfcabhelldokaaMt
import Derived.Test.YthfcabhelldokaaChn
set_option linter.unusedVariables false
set_option linter.unusedSimpArgs false
namespace Go.Proofs.Ythfcabhelldokaa
open Go.RowKit

section
variable {P : Program} {n : Nat} {ops : Array Oper} {K : List (Nat × Value) → (World → Prop) → Prop} {i : Nat} {ty : TypeId} {ps : String} {af : Array Edge} {gd : Option (Nat × Bool)} {r : List (Oper × Bool)} {e : List (Nat × Value)} {S C : World → Prop} {w w1 : World}
/-- An operation that turns one world into one other. -/
theorem OE.eff {op : Op} {v : Value} (S' : World → Prop) (hw : wantE ops e ⟨some i, op, ty, ps, af, gd⟩ = some true) (hi : decide (i < n) = true) (h1 : S' w1) (h2 : ∀ W, S' W → S W) (hrun : ∀ a, Env n a e → (execOp a.eval ⟨some i, op, ty, ps, af, gd⟩).run P w = .ok (.value v) w1) (k : wpOrdE P n ops K r ((i, v) :: e) S' (fun W => W = w1)) : wpOrdE P n ops K ((⟨some i, op, ty, ps, af, gd⟩, true) :: r) e S (fun W => W = w) :=
  ⟨hw, fun j hj => by cases hj; exact of_decide_eq_true hi, v, S', fun W => W = w1, fun W hW => by rw [hW]; exact h1, h2, fun W hW a ha => by rw [hW]; exact .inl ⟨w1, hrun a ha, rfl⟩, k⟩
theorem OE.build2 {t : TypeId} {x y : Operand} {u u' v : Value} (S' : World → Prop) (hw : wantE ops e ⟨some i, .build t #[(0, x), (1, y)], ty, ps, af, gd⟩ = some true) (hi : decide (i < n) = true) (h1 : S' w) (h2 : ∀ W, S' W → S W) (hx : evE e x = some u) (hy : evE e y = some u') (hr : (Instr.build t #[(0, u), (1, u')]).run P w = .ok v w) (k : wpOrdE P n ops K r ((i, v) :: e) S' (fun W => W = w)) : wpOrdE P n ops K ((⟨some i, .build t #[(0, x), (1, y)], ty, ps, af, gd⟩, true) :: r) e S (fun W => W = w) :=
  OE.eff S' hw hi h1 h2 (fun a ha => by
    simp only [execOp, List.map_toArray, List.map_cons, List.map_nil, ha.ev hx, ha.ev hy, Sem.run_bind, hr, Result.andThen_ok, Sem.run_pure]) k
theorem OE.bsl {t : TypeId} {m : Nat} {x : Operand} {u v : Value} (S' : World → Prop) (hw : wantE ops e ⟨some i, .buildSlice t m #[(0, x)], ty, ps, af, gd⟩ = some true) (hi : decide (i < n) = true) (h1 : S' w1) (h2 : ∀ W, S' W → S W) (hx : evE e x = some u) (hr : (Instr.buildSlice t m #[(0, u)]).run P w = .ok v w1) (k : wpOrdE P n ops K r ((i, v) :: e) S' (fun W => W = w1)) : wpOrdE P n ops K ((⟨some i, .buildSlice t m #[(0, x)], ty, ps, af, gd⟩, true) :: r) e S (fun W => W = w) :=
  OE.eff S' hw hi h1 h2 (fun a ha => by
    simp only [execOp, List.map_toArray, List.map_cons, List.map_nil, ha.ev hx, Sem.run_bind, hr, Result.andThen_ok, Sem.run_pure]) k
theorem OE.app {t : TypeId} {x y : Operand} {u u' v : Value} (S' : World → Prop) (hw : wantE ops e ⟨some i, .call { callee := .builtin .append, args := #[x, y], argTypes := #[t, t] }, ty, ps, af, gd⟩ = some true) (hi : decide (i < n) = true) (h1 : S' w1) (h2 : ∀ W, S' W → S W) (hx : evE e x = some u) (hy : evE e y = some u') (hr : (Builtin.append_ #[t, t] ty #[u, u']).run P w = .ok v w1) (k : wpOrdE P n ops K r ((i, v) :: e) S' (fun W => W = w1)) : wpOrdE P n ops K ((⟨some i, .call { callee := .builtin .append, args := #[x, y], argTypes := #[t, t] }, ty, ps, af, gd⟩, true) :: r) e S (fun W => W = w) :=
  OE.eff S' hw hi h1 h2 (fun a ha => by simp [execOp, resolve, invoke, builtin, ha.ev hx, ha.ev hy, hr, Result.andThen]) k
theorem OE.store {t : TypeId} {x y : Operand} {u u' : Value} (S' : World → Prop) (hw : wantE ops e ⟨none, .store t x y, ty, ps, af, gd⟩ = some true) (h1 : S' w1) (h2 : ∀ W, S' W → S W) (hx : evE e x = some u) (hy : evE e y = some u') (hr : (Instr.storeAt t u u').run P w = .ok () w1) (k : wpOrdE P n ops K r e S' (fun W => W = w1)) : wpOrdE P n ops K ((⟨none, .store t x y, ty, ps, af, gd⟩, true) :: r) e S (fun W => W = w) :=
  ⟨hw, fun j hj => (by cases hj), undef, S', fun W => W = w1, fun W hW => by rw [hW]; exact h1, h2, fun W hW a ha => hW ▸ .inr (.inl ⟨rfl, w1, (by simp [execOp, ha.ev hx, ha.ev hy, hr, Result.andThen]), rfl⟩), k⟩
theorem OE.len {t : TypeId} {x : Operand} {u v : Value} (hw : wantE ops e ⟨some i, .call { callee := .builtin .len, args := #[x], argTypes := #[t] }, ty, ps, af, gd⟩ = some true) (hi : decide (i < n) = true) (hx : evE e x = some u) (hr : ∀ w, (Builtin.len_ #[t] ty #[u]).run P w = .ok v w) (k : wpOrdE P n ops K r ((i, v) :: e) S C) : wpOrdE P n ops K ((⟨some i, .call { callee := .builtin .len, args := #[x], argTypes := #[t] }, ty, ps, af, gd⟩, false) :: r) e S C :=
  OE.val hw hi (fun a ha W hW => by simp [execOp, resolve, invoke, builtin, ha.ev hx, hr W, Result.andThen]) k
/-- A call from one world to one other. -/
theorem OE.callW {f : FuncId} {xs : List Operand} {ts : Array TypeId} (args : List Value) (v : Value) (S' : World → Prop) (hen : ∀ (args : Array Value) (W : World), (callFunc f args).run P W = .ok (.enter f args) W)
    (hw : wantE ops e ⟨some i, .call { callee := .value (.func f), args := xs.toArray, argTypes := ts }, ty, ps, af, gd⟩ = some true) (hi : decide (i < n) = true) (hx : xs.map (evE e) = args.map some) (h1 : S' w1) (h2 : ∀ W, S' W → S W) (hc : Calls P f args.toArray w (fun x w' => x = .returned v ∧ w' = w1))
    (k : wpOrdE P n ops K r ((i, v) :: e) S' (fun W => W = w1)) : wpOrdE P n ops K ((⟨some i, .call { callee := .value (.func f), args := xs.toArray, argTypes := ts }, ty, ps, af, gd⟩, true) :: r) e S (fun W => W = w) :=
  OE.call args v S' (fun W => W = w1) hen hw hi hx (fun W hW => by rw [hW]; exact h1) h2 (fun W hW => by rw [hW]; exact hc) k
end
section
variable {P : Program} {N : Nat} {ops : Array Oper} {Q : Exit → Act → World → Prop}
theorem wpSteps_of_E {K : Act → (World → Prop) → Prop} {S0 : World → Prop} : ∀ (l : List Oper) (e : List (Nat × Value)) (S C : World → Prop) (a : Act), (∀ w, S w → S0 w) → Env N a e → l.all (fun o => o.guard.isNone) = true → wpOrdE P N ops (fun e' C' => ∀ a', Env N a' e' → K a' C') (l.map fun o => (o, true)) e S C → wpSteps P S0 K l a C
  | [], e, S, C, a, _, ha, _, h => h a ha
  | o :: l, e, S, C, a, hS, ha, hg, h => by
    obtain ⟨hw, hd, v, S', C', h1, h2, h3, h⟩ := h
    simp only [List.all_cons, Bool.and_eq_true] at hg
    exact ⟨by simpa using hg.1, v, C', fun w hw => hS w (h2 w (h1 w hw)), fun w hw => h3 w hw a ha, wpSteps_of_E l _ S' C' _ (fun w hw => hS w (h2 w hw)) (ha.ins o.dst v hd) hg.2 h⟩
theorem wpLexV_of_E {K : Act → (World → Prop) → Prop} {S : World → Prop} (l2 : List Oper) (hg : l2.all (fun o => o.guard.isNone) = true) : ∀ (l : List Oper) (e : List (Nat × Value)) (C : World → Prop) (a : Act), Env N a e → wpOrdE P N ops (fun e' C' => ∀ a', Env N a' e' → K a' C') (l.map (fun o => (o, false)) ++ l2.map fun o => (o, true)) e S C → wpLexV P ops S (fun a' => wpSteps P S K l2 a' C) l a
  | [], e, C, a, ha, h => wpSteps_of_E l2 e S C a (fun _ h => h) ha hg h
  | o :: l, e, C, a, ha, h => by
    obtain ⟨v, hd, hu, h⟩ := h
    exact ⟨v, hu a ha, wpLexV_of_E l2 hg l _ C _ (ha.ins o.dst v hd) h⟩
theorem wpOrdE_mono {K K' : List (Nat × Value) → (World → Prop) → Prop} (hK : ∀ e C, K e C → K' e C) : ∀ (l : List (Oper × Bool)) (e : List (Nat × Value)) (S C : World → Prop), wpOrdE P N ops K l e S C → wpOrdE P N ops K' l e S C
  | [], e, _, C, h => hK e C h
  | (o, false) :: r, e, S, C, ⟨v, h1, h2, h⟩ => ⟨v, h1, h2, wpOrdE_mono hK r _ S C h⟩
  | (o, true) :: r, e, S, C, ⟨h1, h2, v, S', C', h3, h4, h5, h⟩ => ⟨h1, h2, v, S', C', h3, h4, h5, wpOrdE_mono hK r _ S' C' h⟩
/-- A region that draws: n operations of one value, m that turn the world, the rest in its order. -/
theorem EW.chain {id : Nat} {l : List Oper} {e : List (Nat × Value)} {w : World} (n m r : Nat) (S : World → Prop) (hm : P.follows .mixedOrders = true) (hl : l.length = n + m + r)
    (hB : (Region.noSelect l.toArray && lexOk .any l.toArray (n + m) n 0 (none_ (n + m + r)) && chainOk .any l.toArray (n + m) m n (firstN n 0 (none_ (n + m + r))) && tailOk .any l.toArray r (n + m) (firstN m n (firstN n 0 (none_ (n + m + r))))) = true)
    (hS : S { w with drawn := w.drawn + 1 }) (hg : ((l.drop n).take m).all (fun o => o.guard.isNone) = true)
    (h : wpOrdE P N l.toArray (fun e' C' => ∀ W, C' W → WL P N l.toArray Q (l.drop (n + m)) e' W) ((l.take n).map (fun o => (o, false)) ++ ((l.drop n).take m).map fun o => (o, true)) e S (fun W => W = { w with drawn := w.drawn + 1 })) : EW P N (Code.region id l.toArray true) Q e w := fun a ha =>
  reg_chain S n m r hm hl hB hS (wpLexV_of_E _ hg (l.take n) e _ a ha (by
    refine wpOrdE_mono ?_ _ _ _ _ h
    exact fun e' C' hk a' ha' W hW => hk W hW a' ha'))
end
end Go.Proofs.Ythfcabhelldokaa
