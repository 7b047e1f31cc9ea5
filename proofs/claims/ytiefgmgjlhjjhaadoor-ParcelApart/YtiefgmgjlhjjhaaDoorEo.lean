import Derived.Test.YtiefgmgjlhjjhaaDoorEn
set_option linter.unusedVariables false
set_option linter.unusedSimpArgs false
namespace Go.Proofs.YtiefgmgjlhjjhaaDoor
open Go.RowKit

/-- Cells lie from an address on. -/
def At (w : World) (ad : Addr) (cs : List Value) : Prop := ∀ j v, cs[j]? = some v → w.cell? (ad.add j) = some v
theorem At.below {w w' : World} {ad : Addr} {cs : List Value} (h : At w ad cs) (hb : Below w.heap.size w w') : At w' ad cs := fun j v hj => (hb.cell (cell_lt (h j v hj))).trans (h j v hj)
section
variable {P : Program}
theorem run_loadVar_at (w : World) (ad : Addr) (ty : TypeId) (cs : List Value) (d : TypeDesc) (hc : At w ad cs)
    (hu : P.underlying ty = some d) (hd : d.isRow = true) (hi : (P.info? ty).map (·.size) = some cs.length) :
    (loadVar ty ad).run P w = .ok (.agg cs.toArray) w := by
  have hl : (loadCells ad cs.length).run P w = .ok cs.toArray w :=
    run_loadCells_list (P := P) w ad cs (fun j v hv => hc j v hv)
  cases hq : P.info? ty with
  | none => simp [hq] at hi
  | some i =>
    have hs : i.size = cs.length := by simpa [hq] using hi
    have hagg : (isAgg ty).run P w = .ok true w := by
      unfold isAgg
      rw [Sem.run_bind, run_underlying hu w]
      cases d <;> simp_all
    simp [loadVar, Sem.run_bind, hagg, sizeOf, typeInfo, hq, hs, hl]
end
section
variable {P : Program}
theorem run_boxR (t : TypeId) (cs : List Value) (w : World) (g : Nat) (hg : w.heap.size = g) : (Instr.box t (.agg cs.toArray)).run P w = .ok (.pointer (some ⟨g, 0, none⟩)) (w.alloc (.cells cs.toArray t)) := by
  subst hg
  simp [Instr.box, newVar, newRow, Value.cells]
theorem run_newR (t : TypeId) (cs : List Value) (hz : ∀ w, (zeroValue t).run P w = .ok (.agg cs.toArray) w) (w : World) (g : Nat) (hg : w.heap.size = g) : (Instr.alloc t true (.tuple #[])).run P w = .ok (.pointer (some ⟨g, 0, none⟩)) (w.alloc (.cells cs.toArray t)) := by
  subst hg
  simp [Instr.alloc, hz, newVar, newRow, Value.cells]
theorem run_storeR {w : World} {g : Nat} {t ty : TypeId} {old cs : List Value} (hg : Blk w g old t) (hi : (P.info? ty).map (·.size) = some cs.length) (ho : old.length = cs.length) (h1 : cs.toArray.all (·.oneCell') = true) : (Instr.storeAt ty (.pointer (some ⟨g, 0, none⟩)) (.agg cs.toArray)).run P w = .ok () (w.setRow g cs.toArray) := by
  simp only [Instr.storeAt, Instr.sureAddr, Sem.run_bind, Sem.run_pure, Result.andThen_ok, run_storeVar_row w g t ty old.toArray cs.toArray hg (by simpa using hi) (by simpa using ho) h1]
theorem run_loadR {w : World} {g : Nat} {t ty : TypeId} {cs : List Value} {d : TypeDesc} (hg : Blk w g cs t) (hu : P.underlying ty = some d) (hd : d.isRow = true) (hi : (P.info? ty).map (·.size) = some cs.length) : (Instr.loadAt ty (.pointer (some ⟨g, 0, none⟩))).run P w = .ok (.agg cs.toArray) w :=
  run_loadAt_mid w g 0 ty cs d (fun j v hj => by rw [Nat.zero_add, hg.cell]; exact hj) hu hd hi
theorem run_loadA {w : World} {ad : Addr} {ty : TypeId} {cs : List Value} {d : TypeDesc} (hg : At w ad cs) (hu : P.underlying ty = some d) (hd : d.isRow = true) (hi : (P.info? ty).map (·.size) = some cs.length) : (Instr.loadAt ty (.pointer (some ad))).run P w = .ok (.agg cs.toArray) w := by
  simp only [Instr.loadAt, Instr.sureAddr, Sem.run_bind, Sem.run_pure, Result.andThen_ok, run_loadVar_at w ad ty cs d hg hu hd hi]
variable {n : Nat} {e : List (Nat × Value)} {w : World} {Q : Exit → Act → World → Prop} {K : Act → World → Prop}
theorem px_then {id : Nat} (h : ∀ a, Env n a e → Q (.exit id) a w) : ∀ a, Env n a e → Exit.then K Q (.exit id) a w := h
theorem px_block {id : Nat} (h : ∀ a, Env n a e → Q .normal a w) : ∀ a, Env n a e → Exit.inBlock id Q (.exit id) a w := fun a ha => by
  simp only [Exit.inBlock, if_true]
  exact h a ha
theorem px_other {id id' : Nat} (hn : id' ≠ id) (h : ∀ a, Env n a e → Q (.exit id') a w) : ∀ a, Env n a e → Exit.inBlock id Q (.exit id') a w := fun a ha => by
  simp only [Exit.inBlock, if_neg hn]
  exact h a ha
theorem pn_block {id : Nat} (h : ∀ a, Env n a e → Q .normal a w) : ∀ a, Env n a e → Exit.inBlock id Q .normal a w := h
theorem pr_then (h : ∀ a, Env n a e → Q .ret a w) : ∀ a, Env n a e → Exit.then K Q .ret a w := h
theorem pr_block {id : Nat} (h : ∀ a, Env n a e → Q .ret a w) : ∀ a, Env n a e → Exit.inBlock id Q .ret a w := h
end
section
variable {P : Program} {n : Nat} {ops : Array Oper} {K : List (Nat × Value) → (World → Prop) → Prop} {i : Nat} {ty : TypeId} {ps : String} {af : Array Edge} {gd : Option (Nat × Bool)} {r : List (Oper × Bool)} {e : List (Nat × Value)} {S C : World → Prop}
theorem OE.val {op : Op} {v : Value} (hw : wantE ops e ⟨some i, op, ty, ps, af, gd⟩ = some true) (hi : decide (i < n) = true) (hrun : ∀ a, Env n a e → ∀ W, S W → (execOp a.eval ⟨some i, op, ty, ps, af, gd⟩).run P W = .ok (.value v) W) (k : wpOrdE P n ops K r ((i, v) :: e) S C) : wpOrdE P n ops K ((⟨some i, op, ty, ps, af, gd⟩, false) :: r) e S C :=
  ⟨v, fun j hj => by cases hj; exact of_decide_eq_true hi, fun a ha => .inl ⟨wantE_spec ha hw, fun W hW => hrun a ha W hW⟩, k⟩
theorem OE.move {x : Operand} {v : Value} (hw : wantE ops e ⟨some i, .move x, ty, ps, af, gd⟩ = some true) (hi : decide (i < n) = true) (hx : evE e x = some v) (k : wpOrdE P n ops K r ((i, v) :: e) S C) : wpOrdE P n ops K ((⟨some i, .move x, ty, ps, af, gd⟩, false) :: r) e S C :=
  OE.val hw hi (fun a ha W hW => by simp [execOp, ha.ev hx]) k
theorem OE.assign {x : Operand} {v : Value} (hw : wantE ops e ⟨some i, .assign x, ty, ps, af, gd⟩ = some true) (hi : decide (i < n) = true) (hx : evE e x = some v) (k : wpOrdE P n ops K r ((i, v) :: e) S C) : wpOrdE P n ops K ((⟨some i, .assign x, ty, ps, af, gd⟩, false) :: r) e S C :=
  OE.val hw hi (fun a ha W hW => by simp [execOp, ha.ev hx]) k
theorem OE.pick {c x y : Operand} {b : Bool} {v : Value} (hw : wantE ops e ⟨some i, .pick c x y, ty, ps, af, gd⟩ = some true) (hi : decide (i < n) = true) (hc : evE e c = some (.bool b)) (hx : evE e (if b then x else y) = some v) (k : wpOrdE P n ops K r ((i, v) :: e) S C) : wpOrdE P n ops K ((⟨some i, .pick c x y, ty, ps, af, gd⟩, false) :: r) e S C :=
  OE.val hw hi (fun a ha W hW => by cases b <;> simp [execOp, ha.ev hc, ← ha.ev hx, asBool]) k
theorem OE.bin {op : BinOp} {t t2 : TypeId} {x y : Operand} {u u' v : Value} (hw : wantE ops e ⟨some i, .binOp op t x y t2, ty, ps, af, gd⟩ = some true) (hi : decide (i < n) = true) (hx : evE e x = some u) (hy : evE e y = some u') (hr : ∀ w, (do eqGuard op t x y u u'; binOp op t u u' : Sem Value).run P w = .ok v w) (k : wpOrdE P n ops K r ((i, v) :: e) S C) : wpOrdE P n ops K ((⟨some i, .binOp op t x y t2, ty, ps, af, gd⟩, false) :: r) e S C :=
  OE.val hw hi (fun a ha W hW => by
    unfold execOp
    simp only [ha.ev hx, ha.ev hy]
    rw [Sem.run_bind, hr]; rfl) k
theorem OE.conv {s t : TypeId} {x : Operand} {u v : Value} (hw : wantE ops e ⟨some i, .convert s t x, ty, ps, af, gd⟩ = some true) (hi : decide (i < n) = true) (hx : evE e x = some u) (hr : ∀ w, S w → (Go.convert s t u).run P w = .ok v w) (k : wpOrdE P n ops K r ((i, v) :: e) S C) : wpOrdE P n ops K ((⟨some i, .convert s t x, ty, ps, af, gd⟩, false) :: r) e S C :=
  OE.val hw hi (fun a ha W hW => by simp [execOp, ha.ev hx, hr W hW, Result.andThen]) k
theorem OE.call {f : FuncId} {xs : List Operand} {ts : Array TypeId} (args : List Value) (v : Value) (S' C' : World → Prop) (hen : ∀ (args : Array Value) (W : World), (callFunc f args).run P W = .ok (.enter f args) W)
    (hw : wantE ops e ⟨some i, .call { callee := .value (.func f), args := xs.toArray, argTypes := ts }, ty, ps, af, gd⟩ = some true) (hi : decide (i < n) = true) (hx : xs.map (evE e) = args.map some) (h1 : ∀ w, C' w → S' w) (h2 : ∀ w, S' w → S w) (hc : ∀ w, C w → Calls P f args.toArray w (fun x w' => x = .returned v ∧ C' w'))
    (k : wpOrdE P n ops K r ((i, v) :: e) S' C') : wpOrdE P n ops K ((⟨some i, .call { callee := .value (.func f), args := xs.toArray, argTypes := ts }, ty, ps, af, gd⟩, true) :: r) e S C :=
  ⟨hw, fun j hj => by cases hj; exact of_decide_eq_true hi, v, S', C', h1, h2, fun w hw a ha => by
    have hargs : xs.map a.eval = args := by
      clear hc hw
      induction xs generalizing args with
      | nil => cases args with
        | nil => rfl
        | cons _ _ => simp at hx
      | cons x xs ih => cases args with
        | nil => simp at hx
        | cons y ys =>
          simp only [List.map_cons, List.cons.injEq] at hx ⊢
          exact ⟨ha.ev hx.1, ih ys ‹_› hx.2⟩
    exact OpTo.call f xs ts rfl args v hargs hen (hc w hw), k⟩
end
theorem EW.cond_t {P : Program} {n : Nat} {Q : Exit → Act → World → Prop} {e : List (Nat × Value)} {w : World} {c : Operand} {x y : Code} (hc : evE e c = some (.bool true)) (h : EW P n x Q e w) : EW P n (.cond c x y) Q e w := EW.cond true hc h
theorem EW.cond_f {P : Program} {n : Nat} {Q : Exit → Act → World → Prop} {e : List (Nat × Value)} {w : World} {c : Operand} {x y : Code} (hc : evE e c = some (.bool false)) (h : EW P n y Q e w) : EW P n (.cond c x y) Q e w := EW.cond false hc h
def argE : Nat → List Value → List (Nat × Value)
  | _, [] => []
  | k, v :: r => (k, v) :: argE (k + 1) r
theorem argE_at : ∀ (l : List Value) (k i : Nat) (v : Value), (argE k l).lookup i = some v → k ≤ i ∧ l[i - k]? = some v
  | [], k, i, v, h => by simp [argE] at h
  | x :: r, k, i, v, h => by
    rw [argE, List.lookup_cons] at h
    by_cases hi : i = k
    · subst hi
      simp at h
      simp [h]
    · have h1 : (i == k) = false := by simpa using hi
      rw [h1] at h
      obtain ⟨h2, h3⟩ := argE_at r (k + 1) i v h
      refine ⟨by omega, ?_⟩
      rw [show i - k = (i - (k + 1)) + 1 by omega, List.getElem?_cons_succ]
      exact h3
theorem argE_spec (l : List Value) (i : Nat) (v : Value) (h : (argE 0 l).lookup i = some v) : l.toArray[i]? = some v := by
  have := (argE_at l 0 i v h).2
  simpa using this
theorem calls_of_args {P : Program} {f : FuncId} {fn : Func} {c : Code} {w : World} {R : Ending → World → Prop} (l : List Value) (hf : P.funcs[f]? = some fn) (hb : fn.body = some c) (n : Nat) (hn : fn.ntmps = n) (hl : l.length ≤ n) (h : EW P n c (bodyPost P fn R) (argE 0 l) w) : Calls P f l.toArray w R := by
  subst hn
  exact calls_of_ew (argE 0 l) hf hb (by simpa using hl) (argE_spec l) h
theorem int_lt_t {a b : Int} (h : a < b) (W : World) (x y : Operand) : (do eqGuard .lss 3 x y (.int .i64 a) (.int .i64 b); binOp .lss 3 (.int .i64 a) (.int .i64 b) : Sem Value).run Tryd.prog W = .ok (.bool true) W := by go_simp
theorem int_lt_f {a b : Int} (h : ¬ a < b) (W : World) (x y : Operand) : (do eqGuard .lss 3 x y (.int .i64 a) (.int .i64 b); binOp .lss 3 (.int .i64 a) (.int .i64 b) : Sem Value).run Tryd.prog W = .ok (.bool false) W := by go_simp
theorem int_gt_t {a b : Int} (h : b < a) (W : World) (x y : Operand) : (do eqGuard .gtr 3 x y (.int .i64 a) (.int .i64 b); binOp .gtr 3 (.int .i64 a) (.int .i64 b) : Sem Value).run Tryd.prog W = .ok (.bool true) W := by go_simp
theorem int_gt_f {a b : Int} (h : ¬ b < a) (W : World) (x y : Operand) : (do eqGuard .gtr 3 x y (.int .i64 a) (.int .i64 b); binOp .gtr 3 (.int .i64 a) (.int .i64 b) : Sem Value).run Tryd.prog W = .ok (.bool false) W := by go_simp
theorem int_eq_t {t : TypeId} {a b : Int} (h : a = b) (W : World) (x y : Operand) : (do eqGuard .eql t x y (.int .i64 a) (.int .i64 b); binOp .eql t (.int .i64 a) (.int .i64 b) : Sem Value).run Tryd.prog W = .ok (.bool true) W := by go_simp
theorem int_eq_f {t : TypeId} {a b : Int} (h : ¬ a = b) (W : World) (x y : Operand) : (do eqGuard .eql t x y (.int .i64 a) (.int .i64 b); binOp .eql t (.int .i64 a) (.int .i64 b) : Sem Value).run Tryd.prog W = .ok (.bool false) W := by go_simp
theorem int_ne_t {t : TypeId} {a b : Int} (h : ¬ a = b) (W : World) (x y : Operand) : (do eqGuard .neq t x y (.int .i64 a) (.int .i64 b); binOp .neq t (.int .i64 a) (.int .i64 b) : Sem Value).run Tryd.prog W = .ok (.bool true) W := by go_simp
theorem int_ne_f {t : TypeId} {a b : Int} (h : a = b) (W : World) (x y : Operand) : (do eqGuard .neq t x y (.int .i64 a) (.int .i64 b); binOp .neq t (.int .i64 a) (.int .i64 b) : Sem Value).run Tryd.prog W = .ok (.bool false) W := by go_simp
theorem int_add {a b c : Int} (h : IntKind.i64.wrap (a + b) = c) (W : World) (x y : Operand) : (do eqGuard .add 3 x y (.int .i64 a) (.int .i64 b); binOp .add 3 (.int .i64 a) (.int .i64 b) : Sem Value).run Tryd.prog W = .ok (.int .i64 c) W := by go_simp
theorem int_sub {a b c : Int} (h : IntKind.i64.wrap (a - b) = c) (W : World) (x y : Operand) : (do eqGuard .sub 3 x y (.int .i64 a) (.int .i64 b); binOp .sub 3 (.int .i64 a) (.int .i64 b) : Sem Value).run Tryd.prog W = .ok (.int .i64 c) W := by go_simp
theorem not_t (b : Bool) (W : World) : (Op.unary .not (.bool b)).run Tryd.prog W = .ok (.bool (!b)) W := by go_simp
theorem ext_2 (a b : Value) (W : World) : (Instr.extract (.tuple #[a, b]) 0).run Tryd.prog W = .ok a W ∧ (Instr.extract (.tuple #[a, b]) 1).run Tryd.prog W = .ok b W := by constructor <;> go_simp
theorem int_mul {a b c : Int} (h : IntKind.i64.wrap (a * b) = c) (W : World) (x y : Operand) : (do eqGuard .mul 3 x y (.int .i64 a) (.int .i64 b); binOp .mul 3 (.int .i64 a) (.int .i64 b) : Sem Value).run Tryd.prog W = .ok (.int .i64 c) W := by go_simp
theorem OE.slice {P : Program} {n : Nat} {ops : Array Oper} {K : List (Nat × Value) → (World → Prop) → Prop} {i : Nat} {ty : TypeId} {ps : String} {af : Array Edge} {gd : Option (Nat × Bool)} {r : List (Oper × Bool)} {e : List (Nat × Value)} {S C : World → Prop} {t : TypeId} {x lo hi : Operand} {u ul uh v : Value} (hw : wantE ops e ⟨some i, .slice t x (some lo) (some hi) none, ty, ps, af, gd⟩ = some true) (hi' : decide (i < n) = true) (hx : evE e x = some u) (hl : evE e lo = some ul) (hh : evE e hi = some uh) (hr : ∀ w, (Instr.sliceAt t u (some ul) (some uh) none).run P w = .ok v w) (k : wpOrdE P n ops K r ((i, v) :: e) S C) : wpOrdE P n ops K ((⟨some i, .slice t x (some lo) (some hi) none, ty, ps, af, gd⟩, false) :: r) e S C :=
  OE.val hw hi' (fun a ha W hW => by simp [execOp, ha.ev hx, ha.ev hl, ha.ev hh, hr W, Result.andThen]) k
theorem OE.load {P : Program} {n : Nat} {ops : Array Oper} {K : List (Nat × Value) → (World → Prop) → Prop} {i : Nat} {ty : TypeId} {ps : String} {af : Array Edge} {gd : Option (Nat × Bool)} {r : List (Oper × Bool)} {e : List (Nat × Value)} {S C : World → Prop} {t : TypeId} {x : Operand} {u v : Value} (hw : wantE ops e ⟨some i, .load t x, ty, ps, af, gd⟩ = some true) (hi' : decide (i < n) = true) (hx : evE e x = some u) (hr : ∀ w, S w → (Instr.loadAt t u).run P w = .ok v w) (k : wpOrdE P n ops K r ((i, v) :: e) S C) : wpOrdE P n ops K ((⟨some i, .load t x, ty, ps, af, gd⟩, false) :: r) e S C :=
  OE.val hw hi' (fun a ha W hW => by simp [execOp, ha.ev hx, hr W hW, Result.andThen]) k
theorem OE.field {P : Program} {n : Nat} {ops : Array Oper} {K : List (Nat × Value) → (World → Prop) → Prop} {i : Nat} {ty : TypeId} {ps : String} {af : Array Edge} {gd : Option (Nat × Bool)} {r : List (Oper × Bool)} {e : List (Nat × Value)} {S C : World → Prop} {t : TypeId} {j : Nat} {x : Operand} {u v : Value} (hw : wantE ops e ⟨some i, .fieldAddr t x j, ty, ps, af, gd⟩ = some true) (hi' : decide (i < n) = true) (hx : evE e x = some u) (hr : ∀ w, (Instr.fieldAt t u j).run P w = .ok v w) (k : wpOrdE P n ops K r ((i, v) :: e) S C) : wpOrdE P n ops K ((⟨some i, .fieldAddr t x j, ty, ps, af, gd⟩, false) :: r) e S C :=
  OE.val hw hi' (fun a ha W hW => by simp [execOp, ha.ev hx, hr W, Result.andThen]) k
theorem OE.index {P : Program} {n : Nat} {ops : Array Oper} {K : List (Nat × Value) → (World → Prop) → Prop} {i : Nat} {ty : TypeId} {ps : String} {af : Array Edge} {gd : Option (Nat × Bool)} {r : List (Oper × Bool)} {e : List (Nat × Value)} {S C : World → Prop} {t : TypeId} {x y : Operand} {u u' v : Value} (hw : wantE ops e ⟨some i, .indexAddr t x y, ty, ps, af, gd⟩ = some true) (hi' : decide (i < n) = true) (hx : evE e x = some u) (hy : evE e y = some u') (hr : ∀ w, (Instr.indexAt t u u').run P w = .ok v w) (k : wpOrdE P n ops K r ((i, v) :: e) S C) : wpOrdE P n ops K ((⟨some i, .indexAddr t x y, ty, ps, af, gd⟩, false) :: r) e S C :=
  OE.val hw hi' (fun a ha W hW => by simp [execOp, ha.ev hx, ha.ev hy, hr W, Result.andThen]) k
theorem OE.nilc {P : Program} {n : Nat} {ops : Array Oper} {K : List (Nat × Value) → (World → Prop) → Prop} {i : Nat} {ty : TypeId} {ps : String} {af : Array Edge} {gd : Option (Nat × Bool)} {r : List (Oper × Bool)} {e : List (Nat × Value)} {S C : World → Prop} {x : Operand} {ad : Addr} (hw : wantE ops e ⟨some i, .nilCheck x, ty, ps, af, gd⟩ = some true) (hi' : decide (i < n) = true) (hx : evE e x = some (.pointer (some ad))) (k : wpOrdE P n ops K r ((i, .pointer (some ad)) :: e) S C) : wpOrdE P n ops K ((⟨some i, .nilCheck x, ty, ps, af, gd⟩, false) :: r) e S C :=
  OE.val hw hi' (fun a ha W hW => by simp [execOp, ha.ev hx]) k
theorem OE.skip {P : Program} {n : Nat} {ops : Array Oper} {K : List (Nat × Value) → (World → Prop) → Prop} {i : Nat} {op : Op} {ty : TypeId} {ps : String} {af : Array Edge} {gd : Option (Nat × Bool)} {r : List (Oper × Bool)} {e : List (Nat × Value)} {S C : World → Prop} (hw : wantE ops e ⟨some i, op, ty, ps, af, gd⟩ = some false) (hi : decide (i < n) = true) (k : wpOrdE P n ops K r ((i, undef) :: e) S C) : wpOrdE P n ops K ((⟨some i, op, ty, ps, af, gd⟩, false) :: r) e S C :=
  ⟨undef, fun j hj => by cases hj; exact of_decide_eq_true hi, fun a ha => .inr ⟨wantE_spec ha hw, rfl⟩, k⟩
theorem OE.idx {P : Program} {n : Nat} {ops : Array Oper} {K : List (Nat × Value) → (World → Prop) → Prop} {i : Nat} {ty : TypeId} {ps : String} {af : Array Edge} {gd : Option (Nat × Bool)} {r : List (Oper × Bool)} {e : List (Nat × Value)} {S C : World → Prop} {t : TypeId} {x y : Operand} {u u' v : Value} (hw : wantE ops e ⟨some i, .index t x y, ty, ps, af, gd⟩ = some true) (hi' : decide (i < n) = true) (hx : evE e x = some u) (hy : evE e y = some u') (hr : ∀ w, (Instr.index t u u').run P w = .ok v w) (k : wpOrdE P n ops K r ((i, v) :: e) S C) : wpOrdE P n ops K ((⟨some i, .index t x y, ty, ps, af, gd⟩, false) :: r) e S C :=
  OE.val hw hi' (fun a ha W hW => by simp [execOp, ha.ev hx, ha.ev hy, hr W, Result.andThen]) k
section
variable {P : Program} {n : Nat} {ops : Array Oper} {Q : Exit → Act → World → Prop} {i : Nat} {ty : TypeId} {ps : String} {af : Array Edge} {gd : Option (Nat × Bool)} {r : List Oper} {e : List (Nat × Value)} {w w' : World}
theorem WL.bsl {t : TypeId} {m : Nat} {x : Operand} {u v : Value} (hw : wantE ops e ⟨some i, .buildSlice t m #[(0, x)], ty, ps, af, gd⟩ = some true) (hi : decide (i < n) = true) (hx : evE e x = some u) (hr : (Instr.buildSlice t m #[(0, u)]).run P w = .ok v w') (k : WL P n ops Q r ((i, v) :: e) w') : WL P n ops Q (⟨some i, .buildSlice t m #[(0, x)], ty, ps, af, gd⟩ :: r) e w :=
  WL.op i v hw rfl hi (fun a ha => by
    unfold execOp
    simp only [List.map_toArray, List.map_cons, List.map_nil, ha.ev hx, Sem.run_bind, hr, Result.andThen_ok, Sem.run_pure]) k
theorem WL.app {t : TypeId} {x y : Operand} {u u' v : Value} (hw : wantE ops e ⟨some i, .call { callee := .builtin .append, args := #[x, y], argTypes := #[t, t] }, ty, ps, af, gd⟩ = some true) (hi : decide (i < n) = true) (hx : evE e x = some u) (hy : evE e y = some u') (hr : (Builtin.append_ #[t, t] ty #[u, u']).run P w = .ok v w') (k : WL P n ops Q r ((i, v) :: e) w') : WL P n ops Q (⟨some i, .call { callee := .builtin .append, args := #[x, y], argTypes := #[t, t] }, ty, ps, af, gd⟩ :: r) e w :=
  WL.op i v hw rfl hi (fun a ha => by simp [execOp, resolve, invoke, builtin, ha.ev hx, ha.ev hy, hr, Result.andThen]) k
end
section
variable {P : Program} {n : Nat} {ops : Array Oper} {K : List (Nat × Value) → (World → Prop) → Prop} {i : Nat} {ty : TypeId} {ps : String} {af : Array Edge} {gd : Option (Nat × Bool)} {r : List (Oper × Bool)} {e : List (Nat × Value)} {S C : World → Prop} {w w1 : World}
/-- An operation that turns one world into one other. -/
theorem OE.eff {op : Op} {v : Value} (S' : World → Prop) (hw : wantE ops e ⟨some i, op, ty, ps, af, gd⟩ = some true) (hi : decide (i < n) = true) (h1 : S' w1) (h2 : ∀ W, S' W → S W) (hrun : ∀ a, Env n a e → (execOp a.eval ⟨some i, op, ty, ps, af, gd⟩).run P w = .ok (.value v) w1) (k : wpOrdE P n ops K r ((i, v) :: e) S' (fun W => W = w1)) : wpOrdE P n ops K ((⟨some i, op, ty, ps, af, gd⟩, true) :: r) e S (fun W => W = w) :=
  ⟨hw, fun j hj => by cases hj; exact of_decide_eq_true hi, v, S', fun W => W = w1, fun W hW => by rw [hW]; exact h1, h2, fun W hW a ha => by rw [hW]; exact .inl ⟨w1, hrun a ha, rfl⟩, k⟩
theorem OE.build2 {t : TypeId} {x y : Operand} {u u' v : Value} (S' : World → Prop) (hw : wantE ops e ⟨some i, .build t #[(0, x), (1, y)], ty, ps, af, gd⟩ = some true) (hi : decide (i < n) = true) (h1 : S' w) (h2 : ∀ W, S' W → S W) (hx : evE e x = some u) (hy : evE e y = some u') (hr : (Instr.build t #[(0, u), (1, u')]).run P w = .ok v w) (k : wpOrdE P n ops K r ((i, v) :: e) S' (fun W => W = w)) : wpOrdE P n ops K ((⟨some i, .build t #[(0, x), (1, y)], ty, ps, af, gd⟩, true) :: r) e S (fun W => W = w) :=
  OE.eff S' hw hi h1 h2 (fun a ha => by
    simp only [execOp, List.map_toArray, List.map_cons, List.map_nil, ha.ev hx, ha.ev hy, Sem.run_bind, hr, Result.andThen_ok, Sem.run_pure]) k
theorem OE.bsl {t : TypeId} {m : Nat} {x : Operand} {u v : Value} (S' : World → Prop) (hw : wantE ops e ⟨some i, .buildSlice t m #[(0, x)], ty, ps, af, gd⟩ = some true) (hi : decide (i < n) = true) (h1 : S' w1) (h2 : ∀ W, S' W → S W) (hx : evE e x = some u) (hr : (Instr.buildSlice t m #[(0, u)]).run P w = .ok v w1) (k : wpOrdE P n ops K r ((i, v) :: e) S' (fun W => W = w1)) : wpOrdE P n ops K ((⟨some i, .buildSlice t m #[(0, x)], ty, ps, af, gd⟩, true) :: r) e S (fun W => W = w) :=
  OE.eff S' hw hi h1 h2 (fun a ha => by
    simp only [execOp, List.map_toArray, List.map_cons, List.map_nil, ha.ev hx, Sem.run_bind, hr, Result.andThen_ok, Sem.run_pure]) k
theorem OE.app {t : TypeId} {x y : Operand} {u u' v : Value} (S' : World → Prop) (hw : wantE ops e ⟨some i, .call { callee := .builtin .append, args := #[x, y], argTypes := #[t, t] }, ty, ps, af, gd⟩ = some true) (hi : decide (i < n) = true) (h1 : S' w1) (h2 : ∀ W, S' W → S W) (hx : evE e x = some u) (hy : evE e y = some u') (hr : (Builtin.append_ #[t, t] ty #[u, u']).run P w = .ok v w1) (k : wpOrdE P n ops K r ((i, v) :: e) S' (fun W => W = w1)) : wpOrdE P n ops K ((⟨some i, .call { callee := .builtin .append, args := #[x, y], argTypes := #[t, t] }, ty, ps, af, gd⟩, true) :: r) e S (fun W => W = w) :=
  OE.eff S' hw hi h1 h2 (fun a ha => by simp [execOp, resolve, invoke, builtin, ha.ev hx, ha.ev hy, hr, Result.andThen]) k
theorem OE.store {t : TypeId} {x y : Operand} {u u' : Value} (S' : World → Prop) (hw : wantE ops e ⟨none, .store t x y, ty, ps, af, gd⟩ = some true) (h1 : S' w1) (h2 : ∀ W, S' W → S W) (hx : evE e x = some u) (hy : evE e y = some u') (hr : (Instr.storeAt t u u').run P w = .ok () w1) (k : wpOrdE P n ops K r e S' (fun W => W = w1)) : wpOrdE P n ops K ((⟨none, .store t x y, ty, ps, af, gd⟩, true) :: r) e S (fun W => W = w) :=
  ⟨hw, fun j hj => (by cases hj), undef, S', fun W => W = w1, fun W hW => by rw [hW]; exact h1, h2, fun W hW a ha => hW ▸ .inr (.inl ⟨rfl, w1, (by simp [execOp, ha.ev hx, ha.ev hy, hr, Result.andThen]), rfl⟩), k⟩
theorem OE.len {t : TypeId} {x : Operand} {u v : Value} (hw : wantE ops e ⟨some i, .call { callee := .builtin .len, args := #[x], argTypes := #[t] }, ty, ps, af, gd⟩ = some true) (hi : decide (i < n) = true) (hx : evE e x = some u) (hr : ∀ w, (Builtin.len_ #[t] ty #[u]).run P w = .ok v w) (k : wpOrdE P n ops K r ((i, v) :: e) S C) : wpOrdE P n ops K ((⟨some i, .call { callee := .builtin .len, args := #[x], argTypes := #[t] }, ty, ps, af, gd⟩, false) :: r) e S C :=
  OE.val hw hi (fun a ha W hW => by simp [execOp, resolve, invoke, builtin, ha.ev hx, hr W, Result.andThen]) k
/-- A call from one world to one other. -/
theorem OE.callW {f : FuncId} {xs : List Operand} {ts : Array TypeId} (args : List Value) (v : Value) (S' : World → Prop) (hen : ∀ (args : Array Value) (W : World), (callFunc f args).run P W = .ok (.enter f args) W)
    (hw : wantE ops e ⟨some i, .call { callee := .value (.func f), args := xs.toArray, argTypes := ts }, ty, ps, af, gd⟩ = some true) (hi : decide (i < n) = true) (hx : xs.map (evE e) = args.map some) (h1 : S' w1) (h2 : ∀ W, S' W → S W) (hc : Calls P f args.toArray w (fun x w' => x = .returned v ∧ w' = w1))
    (k : wpOrdE P n ops K r ((i, v) :: e) S' (fun W => W = w1)) : wpOrdE P n ops K ((⟨some i, .call { callee := .value (.func f), args := xs.toArray, argTypes := ts }, ty, ps, af, gd⟩, true) :: r) e S (fun W => W = w) :=
  OE.call args v S' (fun W => W = w1) hen hw hi hx (fun W hW => by rw [hW]; exact h1) h2 (fun W hW => by rw [hW]; exact hc) k
end
section
variable {P : Program} {N : Nat} {ops : Array Oper} {Q : Exit → Act → World → Prop}
theorem wpSteps_of_E {K : Act → (World → Prop) → Prop} {S0 : World → Prop} : ∀ (l : List Oper) (e : List (Nat × Value)) (S C : World → Prop) (a : Act), (∀ w, S w → S0 w) → Env N a e → l.all (fun o => o.guard.isNone) = true → wpOrdE P N ops (fun e' C' => ∀ a', Env N a' e' → K a' C') (l.map fun o => (o, true)) e S C → wpSteps P S0 K l a C
  | [], e, S, C, a, _, ha, _, h => h a ha
  | o :: l, e, S, C, a, hS, ha, hg, h => by
    obtain ⟨hw, hd, v, S', C', h1, h2, h3, h⟩ := h
    simp only [List.all_cons, Bool.and_eq_true] at hg
    exact ⟨by simpa using hg.1, v, C', fun w hw => hS w (h2 w (h1 w hw)), fun w hw => h3 w hw a ha, wpSteps_of_E l _ S' C' _ (fun w hw => hS w (h2 w hw)) (ha.ins o.dst v hd) hg.2 h⟩
theorem wpLexV_of_E {K : Act → (World → Prop) → Prop} {S : World → Prop} (l2 : List Oper) (hg : l2.all (fun o => o.guard.isNone) = true) : ∀ (l : List Oper) (e : List (Nat × Value)) (C : World → Prop) (a : Act), Env N a e → wpOrdE P N ops (fun e' C' => ∀ a', Env N a' e' → K a' C') (l.map (fun o => (o, false)) ++ l2.map fun o => (o, true)) e S C → wpLexV P ops S (fun a' => wpSteps P S K l2 a' C) l a
  | [], e, C, a, ha, h => wpSteps_of_E l2 e S C a (fun _ h => h) ha hg h
  | o :: l, e, C, a, ha, h => by
    obtain ⟨v, hd, hu, h⟩ := h
    exact ⟨v, hu a ha, wpLexV_of_E l2 hg l _ C _ (ha.ins o.dst v hd) h⟩
theorem wpOrdE_mono {K K' : List (Nat × Value) → (World → Prop) → Prop} (hK : ∀ e C, K e C → K' e C) : ∀ (l : List (Oper × Bool)) (e : List (Nat × Value)) (S C : World → Prop), wpOrdE P N ops K l e S C → wpOrdE P N ops K' l e S C
  | [], e, _, C, h => hK e C h
  | (o, false) :: r, e, S, C, ⟨v, h1, h2, h⟩ => ⟨v, h1, h2, wpOrdE_mono hK r _ S C h⟩
  | (o, true) :: r, e, S, C, ⟨h1, h2, v, S', C', h3, h4, h5, h⟩ => ⟨h1, h2, v, S', C', h3, h4, h5, wpOrdE_mono hK r _ S' C' h⟩
/-- A region that draws: n operations of one value, m that turn the world, the rest in its order. -/
theorem EW.chain {id : Nat} {l : List Oper} {e : List (Nat × Value)} {w : World} (n m r : Nat) (S : World → Prop) (hm : P.follows .mixedOrders = true) (hl : l.length = n + m + r)
    (hB : (Region.noSelect l.toArray && lexOk .any l.toArray (n + m) n 0 (none_ (n + m + r)) && chainOk .any l.toArray (n + m) m n (firstN n 0 (none_ (n + m + r))) && tailOk .any l.toArray r (n + m) (firstN m n (firstN n 0 (none_ (n + m + r))))) = true)
    (hS : S { w with drawn := w.drawn + 1 }) (hg : ((l.drop n).take m).all (fun o => o.guard.isNone) = true)
    (h : wpOrdE P N l.toArray (fun e' C' => ∀ W, C' W → WL P N l.toArray Q (l.drop (n + m)) e' W) ((l.take n).map (fun o => (o, false)) ++ ((l.drop n).take m).map fun o => (o, true)) e S (fun W => W = { w with drawn := w.drawn + 1 })) : EW P N (Code.region id l.toArray true) Q e w := fun a ha =>
  reg_chain S n m r hm hl hB hS (wpLexV_of_E _ hg (l.take n) e _ a ha (by
    refine wpOrdE_mono ?_ _ _ _ _ h
    exact fun e' C' hk a' ha' W hW => hk W hW a' ha'))
end
section
variable {P : Program} {n : Nat} {e : List (Nat × Value)} {w : World}
theorem EW.returns2 {fn : Func} {R : Ending → World → Prop} {t u : Nat} {v v' : Value} (hres : fn.results = #[.tmp t, .tmp u]) (hv : e.lookup t = some v) (hv' : e.lookup u = some v') (h : R (.returned (.tuple #[v, v'])) w) : ∀ a, Env n a e → bodyPost P fn R .ret a w := fun a ha =>
  bodyPost_ret (v := .tuple #[v, v']) (by rw [results_tmp2 hres, ha.kn t v hv, ha.kn u v' hv']) ha.df h
theorem EW.falls {fn : Func} {R : Ending → World → Prop} (hres : fn.results = #[]) (h : R (.returned (.tuple #[])) w) : ∀ a, Env n a e → bodyPost P fn R .normal a w := fun a ha =>
  bodyPost_end (v := .tuple #[]) (by rw [results_none hres]) ha.df h
end
section
variable {P : Program} {n : Nat} {e : List (Nat × Value)} {w : World}
theorem EW.returnsC {fn : Func} {R : Ending → World → Prop} {t : Nat} {ty ty' : TypeId} {g : Nat} {cs : List Value} {d : TypeDesc} (hres : fn.results = #[.cell t ty]) (hv : e.lookup t = some (.pointer (some ⟨g, 0, none⟩))) (hg : Blk w g cs ty') (hu : P.underlying ty = some d) (hd : (match d with | .struct _ | .array _ _ => true | _ => false) = true) (hi : (P.info? ty).map (·.size) = some cs.length) (h : R (.returned (.agg cs.toArray)) w) : ∀ a, Env n a e → bodyPost P fn R .ret a w := fun a ha =>
  bodyPost_ret (v := .agg cs.toArray) (results_cell_row hres a.tmps w g ty' cs.toArray (0, 0) d (ha.kn t _ hv) hg hu hd (by simpa using hi)) ha.df h
end
theorem WL.mks {P : Program} {n : Nat} {ops : Array Oper} {Q : Exit → Act → World → Prop} {i : Nat} {ty : TypeId} {ps : String} {af : Array Edge} {gd : Option (Nat × Bool)} {r : List Oper} {e : List (Nat × Value)} {w w' : World} {t : TypeId} {x y : Operand} {u u' v : Value} (hw : wantE ops e ⟨some i, .makeSlice t x y, ty, ps, af, gd⟩ = some true) (hi : decide (i < n) = true) (hx : evE e x = some u) (hy : evE e y = some u') (hr : (Instr.makeSlice t u u').run P w = .ok v w') (k : WL P n ops Q r ((i, v) :: e) w') : WL P n ops Q (⟨some i, .makeSlice t x y, ty, ps, af, gd⟩ :: r) e w :=
  WL.op i v hw rfl hi (fun a ha => by simp [execOp, ha.ev hx, ha.ev hy, hr, Result.andThen]) k
section
variable {P : Program} {n : Nat} {ops : Array Oper} {i : Nat} {ty : TypeId} {ps : String} {af : Array Edge} {gd : Option (Nat × Bool)} {e : List (Nat × Value)} {w : World}
theorem WL.build1 {Q : Exit → Act → World → Prop} {r : List Oper} {t : TypeId} {x : Operand} {u v : Value} (hw : wantE ops e ⟨some i, .build t #[(0, x)], ty, ps, af, gd⟩ = some true) (hi : decide (i < n) = true) (hx : evE e x = some u) (hr : (Instr.build t #[(0, u)]).run P w = .ok v w) (k : WL P n ops Q r ((i, v) :: e) w) : WL P n ops Q (⟨some i, .build t #[(0, x)], ty, ps, af, gd⟩ :: r) e w :=
  WL.op i v hw rfl hi (fun a ha => by
    simp only [execOp, List.map_toArray, List.map_cons, List.map_nil, ha.ev hx, Sem.run_bind, hr, Result.andThen_ok, Sem.run_pure]) k
end
section
variable {P : Program} {n : Nat} {e : List (Nat × Value)} {w : World}
theorem EW.returns3 {fn : Func} {R : Ending → World → Prop} {t u x : Nat} {v v' v'' : Value} (hres : fn.results = #[.tmp t, .tmp u, .tmp x]) (hv : e.lookup t = some v) (hv' : e.lookup u = some v') (hv'' : e.lookup x = some v'') (h : R (.returned (.tuple #[v, v', v''])) w) : ∀ a, Env n a e → bodyPost P fn R .ret a w := fun a ha =>
  bodyPost_ret (v := .tuple #[v, v', v'']) (by rw [results_tmp3 hres, ha.kn t v hv, ha.kn u v' hv', ha.kn x v'' hv'']) ha.df h
end
theorem int_ge_t {a b : Int} (h : b ≤ a) (W : World) (x y : Operand) : (do eqGuard .geq 3 x y (.int .i64 a) (.int .i64 b); binOp .geq 3 (.int .i64 a) (.int .i64 b) : Sem Value).run Tryd.prog W = .ok (.bool true) W := by go_simp
theorem int_ge_f {a b : Int} (h : ¬ b ≤ a) (W : World) (x y : Operand) : (do eqGuard .geq 3 x y (.int .i64 a) (.int .i64 b); binOp .geq 3 (.int .i64 a) (.int .i64 b) : Sem Value).run Tryd.prog W = .ok (.bool false) W := by go_simp
end Go.Proofs.YtiefgmgjlhjjhaaDoor
