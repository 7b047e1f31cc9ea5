import Derived.Test.YtiefgmgjlhjjhaaDoorUni
set_option linter.unusedVariables false
set_option linter.unusedSimpArgs false
namespace Go.Proofs.YtiefgmgjlhjjhaaDoor
open Go.RowKit
section
variable {P : Program} {ops : Array Oper} {Q : Exit → Act → World → Prop} {md : Region.Mode} {S : World → Prop}
theorem op_row {i : Nat} {o : Oper} (hi : ops[i]? = some o) {K : Act → World → Prop} {a : Act} {w : World} (hw : Region.wanted o (yielded ops a.tmps) = true) (hdst : o.dst = none) (ty : TypeId) (x y : Operand) (ho : o.op = .store ty x y)
    (g : Nat) (cs old : List Value) (t : TypeId) (hx : a.eval x = .pointer (some ⟨g, 0, none⟩)) (hy : a.eval y = .agg cs.toArray) (hg : Blk w g old t)
    (hsz : (P.info? ty).map (·.size) = some cs.length) (hl : old.length = cs.length) (h1 : cs.toArray.all (·.oneCell') = true)
    (h : K a (w.setRow g cs.toArray)) : wpOp P ops Q i K a w := by
  refine opG_wp hi hw (wp_store_row ty x y ho g cs.toArray hx hy t old.toArray hg (by simpa using hsz) (by simpa using hl) h1 ?_)
  rw [hdst]
  exact h
end

section
variable {P : Program} {ops : Array Oper} {Q : Exit → Act → World → Prop} {md : Region.Mode} {S : World → Prop}

theorem wpLex_cons {K : Act → Prop} {o : Oper} {rest : List Oper} {a : Act} (v : Value) (h : Uni P ops S o v a) (k : wpLex P ops S K rest (a.put o.dst v)) : wpLex P ops S K (o :: rest) a := ⟨v, h, k⟩

theorem wpLex_cons2 {K : Act → Prop} {o : Oper} {rest : List Oper} {a a' : Act} (v : Value) (h : Uni P ops S o v a) (ha : a.put o.dst v = a') (k : wpLex P ops S K rest a') : wpLex P ops S K (o :: rest) a := ⟨v, h, ha ▸ k⟩
/-- In the text's order. -/
theorem wpList_of_lex (hS : Stable S) (K : Act → Prop) (tl : List Oper) (hK : ∀ a w, K a → S w → wpList P ops Q tl a w) : ∀ (l : List Oper) (a : Act) (w : World), S w → wpLex P ops S K l a → wpList P ops Q (l ++ tl) a w
  | [], a, w, hw, h => hK a w h hw
  | o :: l, a, w, hw, ⟨v, hv, h⟩ => by
    show wpList P ops Q (o :: (l ++ tl)) a w
    unfold wpList
    rcases hv with ⟨hwa, hv | ⟨f, args, hv, hc⟩⟩ | ⟨hwa, rfl⟩
    · simp only [hwa, if_true, Oper.wp, hv w hw, Oper.upon]
      exact .inl (wpList_of_lex hS K tl hK l _ w hw h)
    · simp only [hwa, if_true, Oper.wp, hv w hw, Oper.upon]
      refine .inl ((hc w hw).mono fun e w' ⟨he, hb⟩ => ?_)
      subst he
      exact wpList_of_lex hS K tl hK l _ w' (hS w w' hw hb) h
    · simp only [hwa, Bool.false_eq_true, if_false]
      exact wpList_of_lex hS K tl hK l _ w hw h

/-- A whole row is loaded. -/
theorem uni_row {o : Oper} {a : Act} (hg : o.guard = none) (ty : TypeId) (x : Operand) (ho : o.op = .load ty x) (g : Nat) (cs : List Value) (t : TypeId) (hx : a.eval x = .pointer (some ⟨g, 0, none⟩))
    (hb : ∀ W, S W → Blk W g cs t) {d : TypeDesc} (hu : P.underlying ty = some d) (hd : (match d with | .struct _ | .array _ _ => true | _ => false) = true) (hi : (P.info? ty).map (·.size) = some cs.length) : Uni P ops S o (.agg cs.toArray) a := by
  refine .inl ⟨by simp [Region.wanted, hg], .inl fun W hW => ?_⟩
  unfold execOp
  simp only [ho, hx, Instr.loadAt, Instr.sureAddr, Sem.run_bind, Sem.run_pure, Result.andThen_ok, run_loadVar_row W g t ty cs.toArray (0, 0) d (hb W hW) hu hd (by simpa using hi)]
theorem uni_rowG {o : Oper} {a : Act} (hw : Region.wanted o (yielded ops a.tmps) = true) (ty : TypeId) (x : Operand) (ho : o.op = .load ty x) (g : Nat) (cs : List Value) (t : TypeId) (hx : a.eval x = .pointer (some ⟨g, 0, none⟩))
    (hb : ∀ W, S W → Blk W g cs t) {d : TypeDesc} (hu : P.underlying ty = some d) (hd : (match d with | .struct _ | .array _ _ => true | _ => false) = true) (hi : (P.info? ty).map (·.size) = some cs.length) : Uni P ops S o (.agg cs.toArray) a := by
  refine .inl ⟨hw, .inl fun W hW => ?_⟩
  unfold execOp
  simp only [ho, hx, Instr.loadAt, Instr.sureAddr, Sem.run_bind, Sem.run_pure, Result.andThen_ok, run_loadVar_row W g t ty cs.toArray (0, 0) d (hb W hW) hu hd (by simpa using hi)]
theorem uni_val {o : Oper} {a : Act} (hw : Region.wanted o (yielded ops a.tmps) = true) (op : Op) (ho : o.op = op) (v : Value) (hrun : ∀ o' : Oper, o'.op = op → ∀ W, S W → (execOp a.eval o').run P W = .ok (.value v) W) : Uni P ops S o v a :=
  .inl ⟨hw, .inl (hrun o ho)⟩
theorem uni_call {o : Oper} {a : Act} (hw : Region.wanted o (yielded ops a.tmps) = true) (op : Op) (ho : o.op = op) (f : FuncId) (args : Array Value) (v : Value) (hrun : ∀ o' : Oper, o'.op = op → ∀ W, (execOp a.eval o').run P W = .ok (.enter f args) W)
    (hc : ∀ W, S W → Calls P f args W (fun e w' => e = .returned v ∧ Below W.heap.size W w')) : Uni P ops S o v a :=
  .inl ⟨hw, .inr ⟨f, args, fun W _ => hrun o ho W, hc⟩⟩
theorem run_enter {f : FuncId} {fn : Func} (hf : P.funcs[f]? = some fn) (hname : (fn.name == "runtime.NumGoroutine") = false) (hb : fn.body.isNone = false) (args : Array Value) (w : World) :
    (callFunc f args).run P w = .ok (.enter f args) w := by
  have h1 : fn.name ≠ "runtime.NumGoroutine" := by simpa using hname
  have h2 : ¬ fn.body = none := by intro h; simp [h] at hb
  simp [callFunc, hf, h1, h2]
theorem uni_callF {o : Oper} {a : Act} (hw : Region.wanted o (yielded ops a.tmps) = true) (f : FuncId) (xs : List Operand) (ts : Array TypeId) (ho : o.op = .call { callee := .value (.func f), args := xs.toArray, argTypes := ts }) (args : List Value) (v : Value)
    (hargs : xs.map a.eval = args) (hrun : ∀ (args : Array Value) (W : World), (callFunc f args).run P W = .ok (.enter f args) W)
    (hc : ∀ W, S W → Calls P f args.toArray W (fun e w' => e = .returned v ∧ Below W.heap.size W w')) : Uni P ops S o v a := by
  refine .inl ⟨hw, .inr ⟨f, args.toArray, fun W _ => ?_, hc⟩⟩
  have e : (execOp a.eval o).run P W = (callFunc f (xs.toArray.map a.eval)).run P W := by
    simp [execOp, ho, resolve, Deferred.ofValue, invoke, Act.eval]
  rw [e, List.map_toArray, hargs, hrun]
theorem uni_skip {o : Oper} {a : Act} (hw : Region.wanted o (yielded ops a.tmps) = false) : Uni P ops S o undef a := .inr ⟨hw, rfl⟩

theorem stable_below (w : World) : Stable (fun W => Below w.heap.size w W) := fun _ _ h hb => h.trans (hb.mono h.size)
theorem below_drawn (w : World) : Below w.heap.size w { w with drawn := w.drawn + 1 } := (Below.refl _ _).drew

def none_ (n : Nat) : Array Bool := Array.replicate n false

/-- Every operation is of one value; then nothing more. -/
theorem reg_all {id : Nat} {l : List Oper} {a : Act} {w : World} (hm : P.follows .mixedOrders = true)
    (hB : (Region.noSelect l.toArray && lexOk .any l.toArray l.length l.length 0 (none_ l.length) && (Region.ready .any l.toArray (firstN l.length 0 (none_ l.length))).isEmpty && full l.length (firstN l.length 0 (none_ l.length))) = true)
    (h : wpLex P l.toArray (fun W => Below w.heap.size w W) (fun a' => ∀ W, Below w.heap.size w W → Q .normal a' W) l a) : (Code.region id l.toArray true).wp P Q a w := by
  simp only [Bool.and_eq_true] at hB
  obtain ⟨⟨⟨h1, h2⟩, h3⟩, h4⟩ := hB
  refine wp_region_any hm ?_
  refine wpAny_of_R (S := fun W => Below w.heap.size w W) (T := l.length) _ _ _ (fun W => Below w.heap.size w W) (stable_below w) (fun _ h => h) ?_ _ (below_drawn w)
  have := wpAnyR_lex (P := P) (Q := Q) (md := .any) (S := fun W => Below w.heap.size w W) (ops := l.toArray) h1 (by simp) (fun W => Below w.heap.size w W) 0 l 0 (none_ l.length) a (by simp) h2 (closed_none _) (by simp [none_]) ?_
  · simpa [none_] using this
  · have mono : ∀ (l' : List Oper) (a : Act), wpLex P l.toArray (fun W => Below w.heap.size w W) (fun a' => ∀ W, Below w.heap.size w W → Q .normal a' W) l' a → wpLex P l.toArray (fun W => Below w.heap.size w W) (fun a' => wpAnyR P .any l.toArray Q (fun W => Below w.heap.size w W) l.length 0 (firstN l.length 0 (none_ l.length)) a' fun W => Below w.heap.size w W) l' a := by
      intro l'
      induction l' with
      | nil => exact fun a h => ⟨h4, fun W hW => ⟨by simpa using h3, h W hW⟩⟩
      | cons o l' ih => exact fun a ⟨v, hv, h⟩ => ⟨v, hv, ih _ h⟩
    exact mono l a h

theorem wpLex_mono {K K' : Act → Prop} (hK : ∀ a, K a → K' a) : ∀ (l : List Oper) (a : Act), wpLex P ops S K l a → wpLex P ops S K' l a
  | [], a, h => hK a h
  | _ :: l, _, ⟨v, hv, h⟩ => ⟨v, hv, wpLex_mono hK l _ h⟩

/-- .. then a row is stored into a block that lies there. -/
theorem reg_put {id : Nat} {l pre : List Oper} {os : Oper} {a : Act} {w : World} (hm : P.follows .mixedOrders = true) (hl : l = pre ++ [os]) (n : Nat) (hn : pre.length = n)
    (hB : (Region.noSelect l.toArray && lexOk .any l.toArray n n 0 (none_ (n + 1)) && (Region.ready .any l.toArray (firstN n 0 (none_ (n + 1))) == [n]) && full n (firstN n 0 (none_ (n + 1))) && (Region.ready .any l.toArray ((firstN n 0 (none_ (n + 1))).setIfInBounds n true)).isEmpty) = true)
    (hg : os.guard = none) (hd : os.dst = none) (t : TypeId) (x y : Operand) (ho : os.op = .store t x y)
    (h : wpLex P l.toArray (fun W => Below w.heap.size w W) (fun a' => ∃ g cs old t', a'.eval x = .pointer (some ⟨g, 0, none⟩) ∧ a'.eval y = .agg (List.toArray cs) ∧ Blk w g old t' ∧ (P.info? t).map (·.size) = some cs.length ∧ old.length = cs.length ∧ cs.toArray.all (·.oneCell') = true ∧
      ∀ W, Below w.heap.size w W → Q .normal a' (W.setRow g cs.toArray)) pre a) : (Code.region id l.toArray true).wp P Q a w := by
  simp only [Bool.and_eq_true, beq_iff_eq] at hB
  obtain ⟨⟨⟨⟨h1, h2⟩, h3⟩, h4⟩, h5⟩ := hB
  have hlen : l.length = n + 1 := by rw [hl]; simp [hn]
  have hi : l.toArray[n]? = some os := by subst hl hn; simp
  refine wp_region_any hm ?_
  refine wpAny_of_R (S := fun W => Below w.heap.size w W) (T := n) _ _ _ (fun W => Below w.heap.size w W) (stable_below w) (fun _ h => h) ?_ _ (below_drawn w)
  have := wpAnyR_lex (P := P) (Q := Q) (T := n) (md := .any) (S := fun W => Below w.heap.size w W) (ops := l.toArray) h1 (by simp; omega) (fun W => Below w.heap.size w W) 1 pre 0 (none_ (n + 1)) a (by
      intro j hj; subst hl; simp [List.getElem?_append_left hj]) (by rw [hn]; exact h2) (closed_none _) (by simp [none_, hlen]) ?_
  · rw [hn, Nat.add_comm] at this
    simpa [none_, hlen] using this
  · refine wpLex_mono ?_ pre a h
    rintro a' ⟨g, cs, old, t', e1, e2, hb, e3, e4, e5, hk⟩
    rw [hn]
    unfold wpAnyR
    rw [if_pos h4]
    intro W hW
    refine only_one h3 ?_
    refine op_row hi (by simp [Region.wanted, hg]) hd t x y ho g cs old t' e1 e2 (hb.on hW) e3 e4 e5 ?_
    exact wpAny_done (by simpa using h5) (hk W hW) 0

/-- .. then a new variable takes a row. -/
theorem reg_new {id : Nat} {l pre : List Oper} {oa os : Oper} {a : Act} {w : World} (hm : P.follows .mixedOrders = true) (hl : l = pre ++ [oa, os]) (n : Nat) (hn : pre.length = n)
    (hB : (Region.noSelect l.toArray && lexOk .any l.toArray (n + 1) n 0 (none_ (n + 2)) && (Region.ready .any l.toArray (firstN n 0 (none_ (n + 2))) == [n]) && !full (n + 1) (firstN n 0 (none_ (n + 2))) && full (n + 1) ((firstN n 0 (none_ (n + 2))).setIfInBounds n true) &&
      (Region.ready .any l.toArray ((firstN n 0 (none_ (n + 2))).setIfInBounds n true) == [n + 1]) && (Region.ready .any l.toArray (((firstN n 0 (none_ (n + 2))).setIfInBounds n true).setIfInBounds (n + 1) true)).isEmpty) = true)
    (ga : oa.guard = none) (d : Nat) (da : oa.dst = some d) (t : TypeId) (hoa : oa.op = .alloc t) (zs : List Value) (hz : ∀ w, (zeroValue t).run P w = .ok (.agg zs.toArray) w)
    (hg : os.guard = none) (hd : os.dst = none) (y : Operand) (ho : os.op = .store t (.tmp d) y)
    (h : wpLex P l.toArray (fun W => Below w.heap.size w W) (fun a' => ∃ cs, a'.eval y = .agg (List.toArray cs) ∧ y ≠ .tmp d ∧ d < a'.tmps.size ∧ (P.info? t).map (·.size) = some cs.length ∧ zs.length = cs.length ∧ cs.toArray.all (·.oneCell') = true ∧
      ∀ g W, w.heap.size ≤ g → Below w.heap.size w W → Blk W g cs t → Q .normal (a'.put (some d) (.pointer (some ⟨g, 0, none⟩))) W) pre a) : (Code.region id l.toArray true).wp P Q a w := by
  simp only [Bool.and_eq_true, beq_iff_eq, Bool.not_eq_true'] at hB
  obtain ⟨⟨⟨⟨⟨⟨h1, h2⟩, h3⟩, h4⟩, h5⟩, h6⟩, h7⟩ := hB
  have hlen : l.length = n + 2 := by rw [hl]; simp [hn]
  have hi : l.toArray[n]? = some oa := by subst hl hn; simp
  have hi' : l.toArray[n + 1]? = some os := by subst hl hn; simp
  refine wp_region_any hm ?_
  refine wpAny_of_R (S := fun W => Below w.heap.size w W) (T := n + 1) _ _ _ (fun W => Below w.heap.size w W) (stable_below w) (fun _ h => h) ?_ _ (below_drawn w)
  have := wpAnyR_lex (P := P) (Q := Q) (T := n + 1) (md := .any) (S := fun W => Below w.heap.size w W) (ops := l.toArray) h1 (by simp; omega) (fun W => Below w.heap.size w W) 2 pre 0 (none_ (n + 2)) a (by
      intro j hj; subst hl; simp [List.getElem?_append_left hj]) (by rw [hn]; exact h2) (closed_none _) (by simp [none_, hlen]) ?_
  · rw [hn, Nat.add_comm 2 n] at this
    simpa [none_, hlen] using this
  · refine wpLex_mono ?_ pre a h
    rintro a' ⟨cs, e1, hne, hsz, e3, e4, e5, hk⟩
    rw [hn]
    unfold wpAnyR
    rw [if_neg (by rw [h4]; simp), h3]
    refine ⟨by simp, fun i hii => ?_⟩
    obtain rfl : i = n := by simpa using hii
    refine ⟨oa, hi, .inr ⟨ga, t, zs, hoa, hz, fun g ⟨W0, hW0, hg0⟩ => ?_⟩⟩
    show wpAnyR P .any l.toArray Q (fun W => Below w.heap.size w W) (i + 1) 1 _ _ _
    unfold wpAnyR
    rw [if_pos h5]
    rintro W ⟨hW, hbl⟩
    refine only_one h6 ?_
    have hlow : w.heap.size ≤ g := by rw [← hg0]; exact hW0.size
    refine op_row hi' (by simp [Region.wanted, hg]) hd t (.tmp d) y ho g cs zs t ?_ ?_ hbl e3 e4 e5 ?_
    · rw [da]; simp [Act.eval, Act.put, hsz]
    · rw [da, Act.eval_put (fun d' hd' hyd => hne (by rw [hyd]; cases hd'; rfl))]; exact e1
    · rw [da]
      exact wpAny_done (by simpa using h7) (hk g _ hlow (below_setRow hW _ _ hlow) (hbl.setRow _)) 0

/-- A cell is loaded. -/
theorem uni_cell {o : Oper} {a : Act} (hw : Region.wanted o (yielded ops a.tmps) = true) (ty : TypeId) (x : Operand) (ho : o.op = .load ty x) (g j : Nat) (v : Value) (hx : a.eval x = .pointer (some ⟨g, j, none⟩))
    (hb : ∀ W, S W → W.cell? ⟨g, j, none⟩ = some v) {d : TypeDesc} (hu : P.underlying ty = some d) (hd : (match d with | .struct _ | .array _ _ => true | _ => false) = false) : Uni P ops S o v a := by
  refine .inl ⟨hw, .inl fun W hW => ?_⟩
  have hagg : (isAgg ty).run P W = .ok false W := by
    unfold isAgg
    rw [Sem.run_bind, run_underlying hu W]
    cases d <;> simp_all
  unfold execOp
  simp only [ho, hx, Instr.loadAt, Instr.sureAddr, Sem.run_bind, Sem.run_pure, Result.andThen_ok]
  have hc := hb W hW
  simp [loadVar, Sem.run_bind, hagg, hc]

theorem lst_all {id : Nat} {l : List Oper} {a : Act} {w : World}
    (h : wpLex P l.toArray (fun W => Below w.heap.size w W) (fun a' => ∀ W, Below w.heap.size w W → Q .normal a' W) l a) : (Code.region id l.toArray false).wp P Q a w := by
  refine wp_region_lit ?_
  have := wpList_of_lex (P := P) (Q := Q) (stable_below w) _ [] (fun a' W (hk : ∀ W, Below w.heap.size w W → Q .normal a' W) hW => wpList_nil (hk W hW)) l a w (Below.refl _ _) h
  simpa using this

theorem lst_put {id : Nat} {l pre : List Oper} {os : Oper} {a : Act} {w : World} (hl : l = pre ++ [os])
    (hg : os.guard = none) (hd : os.dst = none) (t : TypeId) (x y : Operand) (ho : os.op = .store t x y)
    (h : wpLex P l.toArray (fun W => Below w.heap.size w W) (fun a' => ∃ g cs old t', a'.eval x = .pointer (some ⟨g, 0, none⟩) ∧ a'.eval y = .agg (List.toArray cs) ∧ Blk w g old t' ∧ (P.info? t).map (·.size) = some cs.length ∧ old.length = cs.length ∧ cs.toArray.all (·.oneCell') = true ∧
      ∀ W, Below w.heap.size w W → Q .normal a' (W.setRow g cs.toArray)) pre a) : (Code.region id l.toArray false).wp P Q a w := by
  refine wp_region_lit ?_
  have := wpList_of_lex (P := P) (Q := Q) (stable_below w) _ [os] (fun a' W ⟨g, cs, old, t', e1, e2, hb, e3, e4, e5, hk⟩ hW =>
    wpList_store_row hg t x y ho g cs.toArray e1 e2 t' old.toArray (hb.on hW) (by simpa using e3) (by simpa using e4) e5 (wpList_nil (by rw [hd]; exact hk W hW))) pre a w (Below.refl _ _) h
  rw [← hl] at this
  exact this

theorem lst_new {id : Nat} {l pre : List Oper} {oa os : Oper} {a : Act} {w : World} (hl : l = pre ++ [oa, os])
    (ga : oa.guard = none) (d : Nat) (da : oa.dst = some d) (t : TypeId) (hoa : oa.op = .alloc t) (zs : List Value) (hz : ∀ w, (zeroValue t).run P w = .ok (.agg zs.toArray) w)
    (hg : os.guard = none) (hd : os.dst = none) (y : Operand) (ho : os.op = .store t (.tmp d) y)
    (h : wpLex P l.toArray (fun W => Below w.heap.size w W) (fun a' => ∃ cs, a'.eval y = .agg (List.toArray cs) ∧ y ≠ .tmp d ∧ d < a'.tmps.size ∧ (P.info? t).map (·.size) = some cs.length ∧ zs.length = cs.length ∧ cs.toArray.all (·.oneCell') = true ∧
      ∀ g W, w.heap.size ≤ g → Below w.heap.size w W → Blk W g cs t → Q .normal (a'.put (some d) (.pointer (some ⟨g, 0, none⟩))) W) pre a) : (Code.region id l.toArray false).wp P Q a w := by
  refine wp_region_lit ?_
  have := wpList_of_lex (P := P) (Q := Q) (stable_below w) _ [oa, os] (fun a' W ⟨cs, e1, hne, hsz, e3, e4, e5, hk⟩ hW => by
    refine wpList_new ga t hoa zs hz ?_
    refine wpList_store_row hg t (.tmp d) y ho W.heap.size cs.toArray ?_ ?_ t zs.toArray (Blk.new W zs t) (by simpa using e3) (by simpa using e4) e5 (wpList_nil ?_)
    · rw [da]; simp [Act.eval, Act.put, hsz]
    · rw [da, Act.eval_put (fun d' hd' hyd => hne (by rw [hyd]; cases hd'; rfl))]; exact e1
    · rw [da, hd]
      exact hk _ _ hW.size (below_setRow (hW.alloc hW.size _) _ _ hW.size) ((Blk.new W zs t).setRow _)) pre a w (Below.refl _ _) h
  rw [← hl] at this
  exact this

theorem cut1 {l : List Oper} {o : Oper} (n : Nat) (hl : l.length = n + 1) (ho : l[n]? = some o) : l = l.take n ++ [o] := by
  have h := List.take_append_drop n l
  have : l.drop n = [o] := by
    rw [List.drop_eq_getElem_cons (by omega), List.drop_eq_nil_of_le (by omega)]
    rw [List.getElem?_eq_getElem (by omega)] at ho
    simpa using ho
  rw [this] at h
  exact h.symm
theorem cut2 {l : List Oper} {o p : Oper} (n : Nat) (hl : l.length = n + 2) (ho : l[n]? = some o) (hp : l[n + 1]? = some p) : l = l.take n ++ [o, p] := by
  have h := List.take_append_drop n l
  have : l.drop n = [o, p] := by
    rw [List.drop_eq_getElem_cons (by omega), List.drop_eq_getElem_cons (by omega), List.drop_eq_nil_of_le (by omega)]
    rw [List.getElem?_eq_getElem (by omega)] at ho hp
    simp at ho hp
    rw [ho, hp]
  rw [this] at h
  exact h.symm

theorem reg_putT {id : Nat} {l : List Oper} {os : Oper} {a : Act} {w : World} (hm : P.follows .mixedOrders = true) (n : Nat) (hl : l.length = n + 1) (hos : l[n]? = some os)
    (hB : (Region.noSelect l.toArray && lexOk .any l.toArray n n 0 (none_ (n + 1)) && (Region.ready .any l.toArray (firstN n 0 (none_ (n + 1))) == [n]) && full n (firstN n 0 (none_ (n + 1))) && (Region.ready .any l.toArray ((firstN n 0 (none_ (n + 1))).setIfInBounds n true)).isEmpty) = true)
    (hg : os.guard = none) (hd : os.dst = none) (t : TypeId) (x y : Operand) (ho : os.op = .store t x y)
    (h : wpLex P l.toArray (fun W => Below w.heap.size w W) (fun a' => ∃ g cs old t', a'.eval x = .pointer (some ⟨g, 0, none⟩) ∧ a'.eval y = .agg (List.toArray cs) ∧ Blk w g old t' ∧ (P.info? t).map (·.size) = some cs.length ∧ old.length = cs.length ∧ cs.toArray.all (·.oneCell') = true ∧
      ∀ W, Below w.heap.size w W → Q .normal a' (W.setRow g cs.toArray)) (l.take n) a) : (Code.region id l.toArray true).wp P Q a w :=
  reg_put hm (cut1 n hl hos) n (by simp; omega) hB hg hd t x y ho h
theorem lst_putT {id : Nat} {l : List Oper} {os : Oper} {a : Act} {w : World} (n : Nat) (hl : l.length = n + 1) (hos : l[n]? = some os)
    (hg : os.guard = none) (hd : os.dst = none) (t : TypeId) (x y : Operand) (ho : os.op = .store t x y)
    (h : wpLex P l.toArray (fun W => Below w.heap.size w W) (fun a' => ∃ g cs old t', a'.eval x = .pointer (some ⟨g, 0, none⟩) ∧ a'.eval y = .agg (List.toArray cs) ∧ Blk w g old t' ∧ (P.info? t).map (·.size) = some cs.length ∧ old.length = cs.length ∧ cs.toArray.all (·.oneCell') = true ∧
      ∀ W, Below w.heap.size w W → Q .normal a' (W.setRow g cs.toArray)) (l.take n) a) : (Code.region id l.toArray false).wp P Q a w :=
  lst_put (cut1 n hl hos) hg hd t x y ho h
theorem reg_newT {id : Nat} {l : List Oper} {oa os : Oper} {a : Act} {w : World} (hm : P.follows .mixedOrders = true) (n : Nat) (hl : l.length = n + 2) (hoa' : l[n]? = some oa) (hos : l[n + 1]? = some os)
    (hB : (Region.noSelect l.toArray && lexOk .any l.toArray (n + 1) n 0 (none_ (n + 2)) && (Region.ready .any l.toArray (firstN n 0 (none_ (n + 2))) == [n]) && !full (n + 1) (firstN n 0 (none_ (n + 2))) && full (n + 1) ((firstN n 0 (none_ (n + 2))).setIfInBounds n true) &&
      (Region.ready .any l.toArray ((firstN n 0 (none_ (n + 2))).setIfInBounds n true) == [n + 1]) && (Region.ready .any l.toArray (((firstN n 0 (none_ (n + 2))).setIfInBounds n true).setIfInBounds (n + 1) true)).isEmpty) = true)
    (ga : oa.guard = none) (d : Nat) (da : oa.dst = some d) (t : TypeId) (hoa : oa.op = .alloc t) (zs : List Value) (hz : ∀ w, (zeroValue t).run P w = .ok (.agg zs.toArray) w)
    (hg : os.guard = none) (hd : os.dst = none) (y : Operand) (ho : os.op = .store t (.tmp d) y)
    (h : wpLex P l.toArray (fun W => Below w.heap.size w W) (fun a' => ∃ cs, a'.eval y = .agg (List.toArray cs) ∧ y ≠ .tmp d ∧ d < a'.tmps.size ∧ (P.info? t).map (·.size) = some cs.length ∧ zs.length = cs.length ∧ cs.toArray.all (·.oneCell') = true ∧
      ∀ g W, w.heap.size ≤ g → Below w.heap.size w W → Blk W g cs t → Q .normal (a'.put (some d) (.pointer (some ⟨g, 0, none⟩))) W) (l.take n) a) : (Code.region id l.toArray true).wp P Q a w :=
  reg_new hm (cut2 n hl hoa' hos) n (by simp; omega) hB ga d da t hoa zs hz hg hd y ho h
theorem lst_newT {id : Nat} {l : List Oper} {oa os : Oper} {a : Act} {w : World} (n : Nat) (hl : l.length = n + 2) (hoa' : l[n]? = some oa) (hos : l[n + 1]? = some os)
    (ga : oa.guard = none) (d : Nat) (da : oa.dst = some d) (t : TypeId) (hoa : oa.op = .alloc t) (zs : List Value) (hz : ∀ w, (zeroValue t).run P w = .ok (.agg zs.toArray) w)
    (hg : os.guard = none) (hd : os.dst = none) (y : Operand) (ho : os.op = .store t (.tmp d) y)
    (h : wpLex P l.toArray (fun W => Below w.heap.size w W) (fun a' => ∃ cs, a'.eval y = .agg (List.toArray cs) ∧ y ≠ .tmp d ∧ d < a'.tmps.size ∧ (P.info? t).map (·.size) = some cs.length ∧ zs.length = cs.length ∧ cs.toArray.all (·.oneCell') = true ∧
      ∀ g W, w.heap.size ≤ g → Below w.heap.size w W → Blk W g cs t → Q .normal (a'.put (some d) (.pointer (some ⟨g, 0, none⟩))) W) (l.take n) a) : (Code.region id l.toArray false).wp P Q a w :=
  lst_new (cut2 n hl hoa' hos) ga d da t hoa zs hz hg hd y ho h
end
end Go.Proofs.YtiefgmgjlhjjhaaDoor
