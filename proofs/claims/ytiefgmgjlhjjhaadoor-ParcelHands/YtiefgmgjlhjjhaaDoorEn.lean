import Derived.Test.YtiefgmgjlhjjhaaDoorOrdG
import Derived.Deep.LoopGhost
set_option linter.unusedVariables false
set_option linter.unusedSimpArgs false
namespace Go.Proofs.YtiefgmgjlhjjhaaDoor
open Go.RowKit

/-- What is known of a frame of n slots. -/
structure Env (n : Nat) (a : Act) (e : List (Nat × Value)) : Prop where
  df : a.defers = []
  sz : a.tmps.size = n
  kn : ∀ i v, e.lookup i = some v → a.tmps.getD i undef = v
def evE (e : List (Nat × Value)) : Operand → Option Value
  | .tmp t => e.lookup t
  | .const v => some v
  | .global g => some (.pointer (some ⟨g, 0, none⟩))
  | .func f => some (.func (.func f) #[] #[])
theorem Env.ev {n : Nat} {a : Act} {e : List (Nat × Value)} (h : Env n a e) {x : Operand} {v : Value} (hx : evE e x = some v) : a.eval x = v := by
  cases x with
  | tmp t => exact h.kn t v hx
  | const c => exact Option.some.inj hx
  | global g => exact Option.some.inj hx
  | func f => exact Option.some.inj hx
theorem Env.put {n : Nat} {a : Act} {e : List (Nat × Value)} (h : Env n a e) (i : Nat) (v : Value) (hi : i < n) : Env n (a.put (some i) v) ((i, v) :: e) := by
  refine ⟨h.df, by simp [Act.put, h.sz], fun j u hj => ?_⟩
  have hs : i < a.tmps.size := by rw [h.sz]; exact hi
  simp only [List.lookup_cons] at hj
  simp only [Act.put, Array.getD_eq_getD_getElem?, Array.getElem?_setIfInBounds]
  by_cases hji : j = i
  · subst hji
    simp at hj
    rw [if_pos rfl, if_pos hs, hj]
    rfl
  · have h1 : (j == i) = false := by simpa using hji
    rw [h1] at hj
    rw [if_neg (fun e => hji e.symm), ← Array.getD_eq_getD_getElem?]
    exact h.kn j u hj
/-- Less is known. -/
theorem Env.less {n : Nat} {a : Act} {e e' : List (Nat × Value)} (h : Env n a e) (hs : ∀ i v, e'.lookup i = some v → e.lookup i = some v) : Env n a e' := ⟨h.df, h.sz, fun i v hi => h.kn i v (hs i v hi)⟩
def keepE (e : List (Nat × Value)) : List Nat → List (Nat × Value)
  | [] => []
  | i :: r => match e.lookup i with
    | some v => (i, v) :: keepE e r
    | none => keepE e r
theorem keepE_sub (e : List (Nat × Value)) : ∀ (l : List Nat) (i : Nat) (v : Value), (keepE e l).lookup i = some v → e.lookup i = some v
  | [], i, v, h => by simp [keepE] at h
  | j :: r, i, v, h => by
    unfold keepE at h
    split at h
    · rename_i u hu
      rw [List.lookup_cons] at h
      by_cases hij : i = j
      · subst hij
        simp at h
        rw [hu, h]
      · have h1 : (i == j) = false := by simpa using hij
        rw [h1] at h
        exact keepE_sub e r i v h
    · exact keepE_sub e r i v h
theorem frame_env (n : Nat) (args : Array Value) (e : List (Nat × Value)) (hn : args.size ≤ n) (he : ∀ i v, e.lookup i = some v → args[i]? = some v) : Env n { tmps := args ++ Array.replicate (n - args.size) undef, defers := [] } e := by
  refine ⟨rfl, by simp; omega, fun i v hi => ?_⟩
  have h1 := he i v hi
  have h2 : i < args.size := by
    rcases Nat.lt_or_ge i args.size with h | h
    · exact h
    · rw [Array.getElem?_eq_none h] at h1; cases h1
  simp [Array.getD_eq_getD_getElem?, Array.getElem?_append, h2] at h1 ⊢
  exact h1
/-- Is the operation wanted? -/
def wantE (ops : Array Oper) (e : List (Nat × Value)) (o : Oper) : Option Bool :=
  match o.guard with
  | none => some true
  | some (j, want) => match ((ops[j]?).bind (·.dst)).bind (fun t => e.lookup t) with
    | some (.bool b) => some (b == want)
    | some (.tuple _) => some false
    | _ => none
theorem wantE_spec {n : Nat} {ops : Array Oper} {e : List (Nat × Value)} {o : Oper} {t : Bool} {a : Act} (h : Env n a e) (hw : wantE ops e o = some t) : Region.wanted o (yielded ops a.tmps) = t := by
  unfold wantE at hw
  unfold Region.wanted
  split at hw
  · rename_i hg
    rw [hg]
    simpa using hw
  · rename_i j want hg
    rw [hg]
    split at hw
    · rename_i b hb
      simp only
      have hy : yielded ops a.tmps j = some b := by
        unfold yielded
        cases hd : (ops[j]?).bind (·.dst) with
        | none => rw [hd] at hb; simp at hb
        | some t =>
          rw [hd] at hb
          have h1 := h.kn t _ (by simpa using hb)
          rw [Array.getD_eq_getD_getElem?] at h1
          cases h2 : a.tmps[t]? with
          | none => rw [h2] at h1; simp [undef] at h1
          | some u =>
            rw [h2] at h1
            simp at h1
            simp [h2, h1]
      rw [hy]
      have := Option.some.inj hw
      rw [← this]
      cases b <;> cases want <;> rfl
    · rename_i x hb
      simp only
      have hy : yielded ops a.tmps j = none := by
        unfold yielded
        cases hd : (ops[j]?).bind (·.dst) with
        | none => simp
        | some t =>
          rw [hd] at hb
          have h1 := h.kn t _ (by simpa using hb)
          rw [Array.getD_eq_getD_getElem?] at h1
          cases h2 : a.tmps[t]? with
          | none => simp [h2]
          | some u =>
            rw [h2] at h1
            simp at h1
            simp [h2, h1]
      rw [hy]
      have := Option.some.inj hw
      rw [← this]
      rfl
    · cases hw
section
variable {P : Program} {n : Nat} {ops : Array Oper} {Q : Exit → Act → World → Prop}
/-- The rest of a list of operations, whatever the frame beyond what is known. -/
def WL (P : Program) (n : Nat) (ops : Array Oper) (Q : Exit → Act → World → Prop) (l : List Oper) (e : List (Nat × Value)) (w : World) : Prop := ∀ a, Env n a e → wpList P ops Q l a w
def EW (P : Program) (n : Nat) (c : Code) (Q : Exit → Act → World → Prop) (e : List (Nat × Value)) (w : World) : Prop := ∀ a, Env n a e → c.wp P Q a w
theorem WL.done {e : List (Nat × Value)} {w : World} (h : ∀ a, Env n a e → Q .normal a w) : WL P n ops Q [] e w := fun a ha => wpList_nil (h a ha)
theorem WL.op {o : Oper} {r : List Oper} {e : List (Nat × Value)} {w w' : World} (i : Nat) (v : Value) (hw : wantE ops e o = some true) (hd : o.dst = some i) (hi : decide (i < n) = true) (hrun : ∀ a, Env n a e → (execOp a.eval o).run P w = .ok (.value v) w')
    (k : WL P n ops Q r ((i, v) :: e) w') : WL P n ops Q (o :: r) e w := fun a ha => by
  unfold wpList
  rw [if_pos (wantE_spec ha hw)]
  left
  unfold Oper.wp
  rw [hrun a ha, Oper.upon_value, hd]
  exact k _ (ha.put i v (of_decide_eq_true hi))
theorem WL.skip {o : Oper} {r : List Oper} {e : List (Nat × Value)} {w : World} (i : Nat) (hw : wantE ops e o = some false) (hd : o.dst = some i) (hi : decide (i < n) = true) (k : WL P n ops Q r ((i, undef) :: e) w) : WL P n ops Q (o :: r) e w := fun a ha => by
  unfold wpList
  rw [if_neg (by rw [wantE_spec ha hw]; decide), hd]
  exact k _ (ha.put i _ (of_decide_eq_true hi))
theorem WL.eff {o : Oper} {r : List Oper} {e : List (Nat × Value)} {w w' : World} (hw : wantE ops e o = some true) (hd : o.dst = none) (hrun : ∀ a, Env n a e → (execOp a.eval o).run P w = .ok .skip w')
    (k : WL P n ops Q r e w') : WL P n ops Q (o :: r) e w := fun a ha => by
  unfold wpList
  rw [if_pos (wantE_spec ha hw)]
  left
  unfold Oper.wp
  rw [hrun a ha, Oper.upon_skip, hd]
  exact k _ ha
theorem WL.call {i : Nat} {f : FuncId} {xs : List Operand} {ts : Array TypeId} {ty : TypeId} {ps : String} {af : Array Edge} {gd : Option (Nat × Bool)} {r : List Oper} {e : List (Nat × Value)} {w : World} {R : Ending → World → Prop} (args : List Value)
    (hen : ∀ (args : Array Value) (W : World), (callFunc f args).run P W = .ok (.enter f args) W)
    (hw : wantE ops e ⟨some i, .call { callee := .value (.func f), args := xs.toArray, argTypes := ts }, ty, ps, af, gd⟩ = some true) (hi : decide (i < n) = true) (hx : xs.map (evE e) = args.map some) (hc : Calls P f args.toArray w R)
    (k : ∀ x w', R x w' → ∃ v, x = .returned v ∧ WL P n ops Q r ((i, v) :: e) w') : WL P n ops Q (⟨some i, .call { callee := .value (.func f), args := xs.toArray, argTypes := ts }, ty, ps, af, gd⟩ :: r) e w := fun a ha => by
  unfold wpList
  rw [if_pos (wantE_spec ha hw)]
  left
  unfold Oper.wp
  have hargs : xs.map a.eval = args := by
    clear hc hw
    induction xs generalizing args with
    | nil => cases args with
      | nil => rfl
      | cons _ _ => simp at hx
    | cons x xs ih => cases args with
      | nil => simp at hx
      | cons y ys =>
        simp only [List.map_cons, List.cons.injEq] at hx ⊢
        exact ⟨ha.ev hx.1, ih ys hx.2⟩
  have e1 : (execOp a.eval ⟨some i, .call { callee := .value (.func f), args := xs.toArray, argTypes := ts }, ty, ps, af, gd⟩).run P w = (callFunc f (xs.toArray.map a.eval)).run P w := by
    simp [execOp, resolve, Deferred.ofValue, invoke, Act.eval]
  rw [e1, List.map_toArray, hargs, hen]
  simp only [Oper.upon]
  refine hc.mono fun x w' hR => ?_
  obtain ⟨v, rfl, hk⟩ := k x w' hR
  exact hk _ (ha.put i v (of_decide_eq_true hi))
section
variable {i : Nat} {ty : TypeId} {ps : String} {af : Array Edge} {gd : Option (Nat × Bool)} {r : List Oper} {e : List (Nat × Value)} {w w' : World}
theorem WL.move {x : Operand} {v : Value} (hw : wantE ops e ⟨some i, .move x, ty, ps, af, gd⟩ = some true) (hi : decide (i < n) = true) (hx : evE e x = some v) (k : WL P n ops Q r ((i, v) :: e) w) : WL P n ops Q (⟨some i, .move x, ty, ps, af, gd⟩ :: r) e w :=
  WL.op i v hw rfl hi (fun a ha => by simp [execOp, ha.ev hx]) k
theorem WL.assign {x : Operand} {v : Value} (hw : wantE ops e ⟨some i, .assign x, ty, ps, af, gd⟩ = some true) (hi : decide (i < n) = true) (hx : evE e x = some v) (k : WL P n ops Q r ((i, v) :: e) w) : WL P n ops Q (⟨some i, .assign x, ty, ps, af, gd⟩ :: r) e w :=
  WL.op i v hw rfl hi (fun a ha => by simp [execOp, ha.ev hx]) k
theorem WL.pick {c x y : Operand} {b : Bool} {v : Value} (hw : wantE ops e ⟨some i, .pick c x y, ty, ps, af, gd⟩ = some true) (hi : decide (i < n) = true) (hc : evE e c = some (.bool b)) (hx : evE e (if b then x else y) = some v) (k : WL P n ops Q r ((i, v) :: e) w) : WL P n ops Q (⟨some i, .pick c x y, ty, ps, af, gd⟩ :: r) e w :=
  WL.op i v hw rfl hi (fun a ha => by cases b <;> simp [execOp, ha.ev hc, ← ha.ev hx, asBool]) k
theorem WL.load {t : TypeId} {x : Operand} {u v : Value} (hw : wantE ops e ⟨some i, .load t x, ty, ps, af, gd⟩ = some true) (hi : decide (i < n) = true) (hx : evE e x = some u) (hr : (Instr.loadAt t u).run P w = .ok v w) (k : WL P n ops Q r ((i, v) :: e) w) : WL P n ops Q (⟨some i, .load t x, ty, ps, af, gd⟩ :: r) e w :=
  WL.op i v hw rfl hi (fun a ha => by simp [execOp, ha.ev hx, hr, Result.andThen]) k
theorem WL.field {t : TypeId} {j : Nat} {x : Operand} {u v : Value} (hw : wantE ops e ⟨some i, .fieldAddr t x j, ty, ps, af, gd⟩ = some true) (hi : decide (i < n) = true) (hx : evE e x = some u) (hr : (Instr.fieldAt t u j).run P w = .ok v w) (k : WL P n ops Q r ((i, v) :: e) w) : WL P n ops Q (⟨some i, .fieldAddr t x j, ty, ps, af, gd⟩ :: r) e w :=
  WL.op i v hw rfl hi (fun a ha => by simp [execOp, ha.ev hx, hr, Result.andThen]) k
theorem WL.extract {j : Nat} {x : Operand} {vs : Array Value} {v : Value} (hw : wantE ops e ⟨some i, .extract x j, ty, ps, af, gd⟩ = some true) (hi : decide (i < n) = true) (hx : evE e x = some (.tuple vs)) (hr : (Instr.extract (.tuple vs) j).run P w = .ok v w) (k : WL P n ops Q r ((i, v) :: e) w) : WL P n ops Q (⟨some i, .extract x j, ty, ps, af, gd⟩ :: r) e w :=
  WL.op i v hw rfl hi (fun a ha => by simp [execOp, ha.ev hx, hr, Result.andThen]) k
theorem WL.nilc {x : Operand} {ad : Addr} (hw : wantE ops e ⟨some i, .nilCheck x, ty, ps, af, gd⟩ = some true) (hi : decide (i < n) = true) (hx : evE e x = some (.pointer (some ad))) (k : WL P n ops Q r ((i, .pointer (some ad)) :: e) w) : WL P n ops Q (⟨some i, .nilCheck x, ty, ps, af, gd⟩ :: r) e w :=
  WL.op i _ hw rfl hi (fun a ha => by simp [execOp, ha.ev hx]) k
theorem WL.bin {op : BinOp} {t t2 : TypeId} {x y : Operand} {u u' v : Value} (hw : wantE ops e ⟨some i, .binOp op t x y t2, ty, ps, af, gd⟩ = some true) (hi : decide (i < n) = true) (hx : evE e x = some u) (hy : evE e y = some u') (hr : (do eqGuard op t x y u u'; binOp op t u u' : Sem Value).run P w = .ok v w) (k : WL P n ops Q r ((i, v) :: e) w) : WL P n ops Q (⟨some i, .binOp op t x y t2, ty, ps, af, gd⟩ :: r) e w :=
  WL.op i v hw rfl hi (fun a ha => by
    unfold execOp
    simp only [ha.ev hx, ha.ev hy]
    rw [Sem.run_bind, hr]; rfl) k
theorem WL.un {op : UnOp} {t : TypeId} {x : Operand} {u v : Value} (hw : wantE ops e ⟨some i, .unOp op t x, ty, ps, af, gd⟩ = some true) (hi : decide (i < n) = true) (hx : evE e x = some u) (hr : (Op.unary op u).run P w = .ok v w) (k : WL P n ops Q r ((i, v) :: e) w) : WL P n ops Q (⟨some i, .unOp op t x, ty, ps, af, gd⟩ :: r) e w :=
  WL.op i v hw rfl hi (fun a ha => by simp [execOp, ha.ev hx, hr, Result.andThen]) k
theorem WL.conv {s t : TypeId} {x : Operand} {u v : Value} (hw : wantE ops e ⟨some i, .convert s t x, ty, ps, af, gd⟩ = some true) (hi : decide (i < n) = true) (hx : evE e x = some u) (hr : (Go.convert s t u).run P w = .ok v w') (k : WL P n ops Q r ((i, v) :: e) w') : WL P n ops Q (⟨some i, .convert s t x, ty, ps, af, gd⟩ :: r) e w :=
  WL.op i v hw rfl hi (fun a ha => by simp [execOp, ha.ev hx, hr, Result.andThen]) k
theorem WL.index {t : TypeId} {x y : Operand} {u u' v : Value} (hw : wantE ops e ⟨some i, .indexAddr t x y, ty, ps, af, gd⟩ = some true) (hi : decide (i < n) = true) (hx : evE e x = some u) (hy : evE e y = some u') (hr : (Instr.indexAt t u u').run P w = .ok v w) (k : WL P n ops Q r ((i, v) :: e) w) : WL P n ops Q (⟨some i, .indexAddr t x y, ty, ps, af, gd⟩ :: r) e w :=
  WL.op i v hw rfl hi (fun a ha => by simp [execOp, ha.ev hx, ha.ev hy, hr, Result.andThen]) k
theorem WL.box {t : TypeId} {x : Operand} {u v : Value} (hw : wantE ops e ⟨some i, .box t x, ty, ps, af, gd⟩ = some true) (hi : decide (i < n) = true) (hx : evE e x = some u) (hr : (Instr.box t u).run P w = .ok v w') (k : WL P n ops Q r ((i, v) :: e) w') : WL P n ops Q (⟨some i, .box t x, ty, ps, af, gd⟩ :: r) e w :=
  WL.op i v hw rfl hi (fun a ha => by simp [execOp, ha.ev hx, hr, Result.andThen]) k
theorem WL.new {t : TypeId} {v : Value} (hw : wantE ops e ⟨some i, .alloc t, ty, ps, af, gd⟩ = some true) (hi : decide (i < n) = true) (hr : (Instr.alloc t true (.tuple #[])).run P w = .ok v w') (k : WL P n ops Q r ((i, v) :: e) w') : WL P n ops Q (⟨some i, .alloc t, ty, ps, af, gd⟩ :: r) e w :=
  WL.op i v hw rfl hi (fun a ha => by simp [execOp, hr, Result.andThen]) k
theorem WL.store {t : TypeId} {x y : Operand} {u u' : Value} (hw : wantE ops e ⟨none, .store t x y, ty, ps, af, gd⟩ = some true) (hx : evE e x = some u) (hy : evE e y = some u') (hr : (Instr.storeAt t u u').run P w = .ok () w') (k : WL P n ops Q r e w') : WL P n ops Q (⟨none, .store t x y, ty, ps, af, gd⟩ :: r) e w :=
  WL.eff hw rfl (fun a ha => by simp [execOp, ha.ev hx, ha.ev hy, hr, Result.andThen]) k
theorem WL.len {t : TypeId} {x : Operand} {u v : Value} (hw : wantE ops e ⟨some i, .call { callee := .builtin .len, args := #[x], argTypes := #[t] }, ty, ps, af, gd⟩ = some true) (hi : decide (i < n) = true) (hx : evE e x = some u) (hr : (Builtin.len_ #[t] ty #[u]).run P w = .ok v w) (k : WL P n ops Q r ((i, v) :: e) w) : WL P n ops Q (⟨some i, .call { callee := .builtin .len, args := #[x], argTypes := #[t] }, ty, ps, af, gd⟩ :: r) e w :=
  WL.op i v hw rfl hi (fun a ha => by simp [execOp, resolve, invoke, builtin, ha.ev hx, hr, Result.andThen]) k
end
/-! The code. -/
variable {e : List (Nat × Value)} {w : World}
theorem EW.region {id : Nat} {l : List Oper} (h : WL P n l.toArray Q l e w) : EW P n (Code.region id l.toArray false) Q e w := fun a ha => wp_region_lit (h a ha)
theorem EW.seq {x y : Code} (h : EW P n x (Exit.then (y.wp P Q) Q) e w) : EW P n (.seq x y) Q e w := fun a ha => wp_seq (h a ha)
theorem EW.cond {c : Operand} {x y : Code} (t : Bool) (hc : evE e c = some (.bool t)) (h : EW P n (if t then x else y) Q e w) : EW P n (.cond c x y) Q e w := fun a ha => wp_cond (ha.ev hc) (h a ha)
theorem EW.block {id : Nat} {c : Code} (h : EW P n c (Exit.inBlock id Q) e w) : EW P n (.block id c) Q e w := fun a ha => wp_block (h a ha)
theorem EW.skip (h : ∀ a, Env n a e → Q .normal a w) : EW P n .skip Q e w := fun a ha => wp_skip (h a ha)
theorem EW.exit {id : Nat} (h : ∀ a, Env n a e → Q (.exit id) a w) : EW P n (.exit id) Q e w := fun a ha => wp_exit (h a ha)
theorem EW.ret (h : ∀ a, Env n a e → Q .ret a w) : EW P n .ret Q e w := fun a ha => wp_ret (h a ha)
/-- On with the code that follows. -/
theorem EW.on {y : Code} (h : EW P n y Q e w) : ∀ a, Env n a e → Exit.then (y.wp P Q) Q .normal a w := h
/-- The world of the walk is one of those, the frame one of those. -/
theorem EW.loop {α : Type} {c : Code} (E : α → List (Nat × Value)) (R : α → World → Prop) (m : α → Nat) (x0 : α) (l : List Nat) (he : keepE e l = E x0) (h0 : R x0 w)
    (round : ∀ x w, R x w → EW P n c (Exit.then (fun a' w' => ∃ x', Env n a' (E x') ∧ R x' w' ∧ m x' < m x) Q) (E x) w) : EW P n (.loop c) Q e w := fun a ha => by
  refine wp_loop_ghost (fun k a w => ∃ x, Env n a (E x) ∧ R x w ∧ m x = k) (m x0) ⟨x0, he ▸ ha.less (keepE_sub e l), h0, rfl⟩ ?_
  rintro k a w ⟨x, hE, hR, rfl⟩
  refine wp_mono (round x w hR a hE) ?_
  intro ex a' w' hq
  cases ex with
  | normal =>
    obtain ⟨x', h1, h2, h3⟩ := hq
    exact ⟨m x', h3, x', h1, h2, rfl⟩
  | exit id => exact hq
  | goto l => exact hq
  | ret => exact hq
  | panic ch => exact hq
  | outgrown => exact hq
/-- The round's end. -/
theorem EW.again {α : Type} {E : α → List (Nat × Value)} {R : α → World → Prop} {m : α → Nat} {x : α} {Q : Exit → Act → World → Prop} (x' : α) (l : List Nat) (he : keepE e l = E x') (hR : R x' w) (hm : m x' < m x) : ∀ a, Env n a e → Exit.then (fun a' w' => ∃ x', Env n a' (E x') ∧ R x' w' ∧ m x' < m x) Q .normal a w := fun a ha =>
  ⟨x', he ▸ ha.less (keepE_sub e l), hR, hm⟩
theorem EW.returns {fn : Func} {R : Ending → World → Prop} {t : Nat} {v : Value} (hres : fn.results = #[.tmp t]) (hv : e.lookup t = some v) (h : R (.returned v) w) : ∀ a, Env n a e → bodyPost P fn R .ret a w := fun a ha =>
  bodyPost_ret (v := v) (by rw [results_tmp hres, ha.kn t v hv]) ha.df h
theorem calls_of_ew {f : FuncId} {fn : Func} {c : Code} {args : Array Value} {R : Ending → World → Prop} (e : List (Nat × Value)) (hf : P.funcs[f]? = some fn) (hb : fn.body = some c) (hn : args.size ≤ fn.ntmps) (he : ∀ i v, e.lookup i = some v → args[i]? = some v)
    (h : EW P fn.ntmps c (bodyPost P fn R) e w) : Calls P f args w R := calls_of_wp hf hb (h _ (frame_env fn.ntmps args e hn he))
/-- A region that draws, in the order ks. -/
def UniE (P : Program) (n : Nat) (ops : Array Oper) (S : World → Prop) (o : Oper) (v : Value) (e : List (Nat × Value)) : Prop := ∀ a, Env n a e → UniV P ops S o v a
def insE (d : Option Tmp) (v : Value) (e : List (Nat × Value)) : List (Nat × Value) := match d with
  | some i => (i, v) :: e
  | none => e
theorem Env.ins {a : Act} (h : Env n a e) (d : Option Tmp) (v : Value) (hd : ∀ i, d = some i → i < n) : Env n (a.put d v) (insE d v e) := by
  cases d with
  | none => exact h
  | some i => exact h.put i v (hd i rfl)
end
end Go.Proofs.YtiefgmgjlhjjhaaDoor
