import Derived.Test.YtoceepmehmacbaaDoorKXnG
set_option linter.unusedVariables false
set_option linter.unusedSimpArgs false
namespace Go.Proofs.YtoceepmehmacbaaDoor
open Go.RowKit

section
variable {P : Program} {N : Nat} {ops : Array Oper} {S : World → Prop}
/-- As wpLex, by what is known of the slots. -/
def wpLexE (P : Program) (N : Nat) (ops : Array Oper) (S : World → Prop) (K : List (Nat × Value) → Prop) : List Oper → List (Nat × Value) → Prop
  | [], e => K e
  | o :: r, e => ∃ v, (∀ i, o.dst = some i → i < N) ∧ (∀ a, Env N a e → Cv.Uni P ops S o v a) ∧ wpLexE P N ops S K r (insE o.dst v e)
theorem wpLex_of_E {K : Act → Prop} : ∀ (l : List Oper) (e : List (Nat × Value)) (a : Act), Env N a e → wpLexE P N ops S (fun e' => ∀ a', Env N a' e' → K a') l e → Cv.wpLex P ops S K l a
  | [], _, a, ha, h => h a ha
  | _ :: r, _, a, ha, ⟨v, h1, h2, h⟩ => ⟨v, h2 a ha, wpLex_of_E r _ _ (ha.ins _ v h1) h⟩
theorem wpLexE_mono {K K' : List (Nat × Value) → Prop} (hK : ∀ e, K e → K' e) : ∀ (l' : List Oper) (e : List (Nat × Value)), wpLexE P N ops S K l' e → wpLexE P N ops S K' l' e
  | [], e, h => hK e h
  | o :: l', e, ⟨v, h1, h2, h⟩ => ⟨v, h1, h2, wpLexE_mono hK l' _ h⟩
section
variable {K : List (Nat × Value) → Prop} {i : Nat} {ty : TypeId} {ps : String} {af : Array Edge} {gd : Option (Nat × Bool)} {r : List Oper} {e : List (Nat × Value)}
theorem LE.val {op : Op} {v : Value} (hw : wantE ops e ⟨some i, op, ty, ps, af, gd⟩ = some true) (hi : decide (i < N) = true) (hr : ∀ a, Env N a e → ∀ W, S W → (execOp a.eval ⟨some i, op, ty, ps, af, gd⟩).run P W = .ok (.value v) W) (k : wpLexE P N ops S K r ((i, v) :: e)) : wpLexE P N ops S K (⟨some i, op, ty, ps, af, gd⟩ :: r) e :=
  ⟨v, fun j hj => by cases hj; exact of_decide_eq_true hi, fun a ha => .inl ⟨wantE_spec ha hw, .inl (hr a ha)⟩, k⟩
theorem LE.load {t : TypeId} {x : Operand} {u v : Value} (hw : wantE ops e ⟨some i, .load t x, ty, ps, af, gd⟩ = some true) (hi : decide (i < N) = true) (hx : evE e x = some u) (hr : ∀ W, S W → (Instr.loadAt t u).run P W = .ok v W) (k : wpLexE P N ops S K r ((i, v) :: e)) : wpLexE P N ops S K (⟨some i, .load t x, ty, ps, af, gd⟩ :: r) e :=
  LE.val hw hi (fun a ha W hW => by simp [execOp, ha.ev hx, hr W hW, Result.andThen]) k
theorem LE.field {t : TypeId} {j : Nat} {x : Operand} {u v : Value} (hw : wantE ops e ⟨some i, .fieldAddr t x j, ty, ps, af, gd⟩ = some true) (hi : decide (i < N) = true) (hx : evE e x = some u) (hr : ∀ W, (Instr.fieldAt t u j).run P W = .ok v W) (k : wpLexE P N ops S K r ((i, v) :: e)) : wpLexE P N ops S K (⟨some i, .fieldAddr t x j, ty, ps, af, gd⟩ :: r) e :=
  LE.val hw hi (fun a ha W hW => by simp [execOp, ha.ev hx, hr W, Result.andThen]) k
theorem LE.call {f : FuncId} {xs : List Operand} {ts : Array TypeId} {v : Value} (args : List Value) (hen : ∀ (args : Array Value) (W : World), (callFunc f args).run P W = .ok (.enter f args) W) (hw : wantE ops e ⟨some i, .call { callee := .value (.func f), args := xs.toArray, argTypes := ts }, ty, ps, af, gd⟩ = some true) (hi : decide (i < N) = true) (hx : xs.map (evE e) = args.map some) (hc : ∀ W, S W → Calls P f args.toArray W (fun x w' => x = .returned v ∧ Below W.heap.size W w')) (k : wpLexE P N ops S K r ((i, v) :: e)) : wpLexE P N ops S K (⟨some i, .call { callee := .value (.func f), args := xs.toArray, argTypes := ts }, ty, ps, af, gd⟩ :: r) e :=
  ⟨_, fun j hj => by cases hj; exact of_decide_eq_true hi, fun a ha => by
    have hargs : xs.map a.eval = args := by
      clear hc hw
      induction xs generalizing args with
      | nil => cases args with
        | nil => rfl
        | cons _ _ => simp at hx
      | cons x xs ih => cases args with
        | nil => simp at hx
        | cons y ys =>
          simp only [List.map_cons, List.cons.injEq] at hx ⊢
          exact ⟨ha.ev hx.1, ih ys hx.2⟩
    exact Cv.uni_callF (wantE_spec ha hw) f xs ts rfl args v hargs hen hc, k⟩
end
def putE (dst G : Nat → Nat) : List Nat → List (Nat × Value) → List (Nat × Value)
  | [], e => e
  | i :: R, e => putE dst G R ((dst i, .pointer (some ⟨G i, 0, none⟩)) :: e)
theorem Env.putAll {dst G : Nat → Nat} : ∀ (R : List Nat) (a : Act) (e : List (Nat × Value)), (∀ i ∈ R, dst i < N) → Env N a e → Env N (Cv.putAll dst G R a) (putE dst G R e)
  | [], _, _, _, h => h
  | i :: R, a, e, hd, h => Env.putAll R _ _ (fun j hj => hd j (List.mem_cons_of_mem _ hj)) (h.put (dst i) _ (hd i (by simp)))
variable {Q : Exit → Act → World → Prop} {e : List (Nat × Value)} {w : World}
/-- Operations of one value each and m new variables, in whatever order. -/
theorem EW.news {id : Nat} {l : List Oper} (hm : P.follows .mixedOrders = true) (n m : Nat) (hl : l.length = n + m + m) (dst : Nat → Nat) (y : Nat → Operand)
    (hns : Region.noSelect l.toArray = true) (hlex : Cv.lexOkS .any l.toArray n 0 (Cv.none_ (n + m + m)) = true)
    (fin : Array Bool) (hnew : Cv.newsOk .any l.toArray fin m (List.range' n m) (Cv.firstN n 0 (Cv.none_ (n + m + m))) = true) (hch : Cv.chainOk .any l.toArray m (n + m) fin = true)
    (t : TypeId) (zs : List Value) (hz : ∀ w, (zeroValue t).run P w = .ok (.agg zs.toArray) w) (hinf : (P.info? t).map (·.size) = some zs.length)
    (hal : ∀ i, n ≤ i → i < n + m → ∃ o, l[i]? = some o ∧ o.guard = none ∧ o.op = .alloc t ∧ o.dst = some (dst i))
    (hst : ∀ i, n ≤ i → i < n + m → ∃ o, l[i + m]? = some o ∧ o.guard = none ∧ o.dst = none ∧ o.op = .store t (.tmp (dst i)) (y i))
    (hdd : ∀ i j, i ≠ j → dst i ≠ dst j) (hyd : ∀ i j, n ≤ i → i < n + m → n ≤ j → j < n + m → y i ≠ .tmp (dst j)) (hdn : ∀ i, n ≤ i → i < n + m → dst i < N)
    (h : wpLexE P N l.toArray (fun W => Below w.heap.size w W) (fun e' => ∃ c : Nat → List Value, (∀ i, n ≤ i → i < n + m → evE e' (y i) = some (.agg (List.toArray (c i))) ∧ zs.length = (c i).length ∧ (c i).toArray.all (·.oneCell') = true) ∧
      ∀ (G : Nat → Nat) W, (∀ i, n ≤ i → i < n + m → w.heap.size ≤ G i) → (∀ i j, n ≤ i → i < n + m → n ≤ j → j < n + m → i ≠ j → G i ≠ G j) → Below w.heap.size w W → (∀ i, n ≤ i → i < n + m → Blk W (G i) (c i) t) →
        ∀ a, Env N a (putE dst G (List.range' n m) e') → Q .normal a W) (l.take n) e) : EW P N (Code.region id l.toArray true) Q e w := fun a ha => by
  refine Cv.reg_news hm n m hl dst y hns hlex fin hnew hch t zs hz hinf hal hst hdd hyd (wpLex_of_E _ e a ha (wpLexE_mono ?_ _ _ h))
  rintro e' ⟨c, h1, h2⟩ a' ha'
  refine ⟨c, fun i hi hj => ?_, fun G W lo ne hb blk => h2 G W lo ne hb blk _ (Env.putAll _ _ _ (fun i hi => ?_) ha')⟩
  · obtain ⟨k1, k2, k3⟩ := h1 i hi hj
    exact ⟨ha'.ev k1, k2, k3, by rw [ha'.sz]; exact hdn i hi hj⟩
  · have := List.mem_range'_1.1 hi
    exact hdn i this.1 this.2
end
/-- A new variable and what is put into it. -/
theorem putNew {t : TypeId} {zs vs : List Value} (hz : ∀ w, (zeroValue t).run Tryd.prog w = .ok (.agg zs.toArray) w) (hi : (Tryd.prog.info? t).map (·.size) = some vs.length) (hl : zs.length = vs.length) (h1 : vs.toArray.all (·.oneCell') = true) (w : World) : ∃ q w1 w2, (Instr.alloc t true (.tuple #[])).run Tryd.prog w = .ok (.pointer (some ⟨q, 0, none⟩)) w1 ∧ (Instr.storeAt t (.pointer (some ⟨q, 0, none⟩)) (.agg vs.toArray)).run Tryd.prog w1 = .ok () w2 ∧ Blk w2 q vs t ∧ Below w.heap.size w w2 ∧ w.heap.size ≤ q := by
  obtain ⟨w1, q, r1, b1, l1, hq⟩ := newA hz w
  exact ⟨q, w1, _, r1, run_storeR b1 hi hl h1, b1.setRow _, bf l1 (Fx.setRow w1 q _ rfl) (by omega), by omega⟩
theorem put35 {A : An} (kA : A.ok) (w : World) : ∃ q w1 w2, (Instr.alloc 35 true (.tuple #[])).run Tryd.prog w = .ok (.pointer (some ⟨q, 0, none⟩)) w1 ∧ (Instr.storeAt 35 (.pointer (some ⟨q, 0, none⟩)) A.v).run Tryd.prog w1 = .ok () w2 ∧ Blk w2 q A.cs 35 ∧ Below w.heap.size w w2 ∧ w.heap.size ≤ q := putNew zv35 (i35 kA) (by rw [An.len (An.no_ok 0), An.len kA]) A.one w
theorem put25 {A : Pr} (kA : A.ok) (w : World) : ∃ q w1 w2, (Instr.alloc 25 true (.tuple #[])).run Tryd.prog w = .ok (.pointer (some ⟨q, 0, none⟩)) w1 ∧ (Instr.storeAt 25 (.pointer (some ⟨q, 0, none⟩)) A.v).run Tryd.prog w1 = .ok () w2 ∧ Blk w2 q A.cs 25 ∧ Below w.heap.size w w2 ∧ w.heap.size ≤ q := putNew zv25 (i25 kA) (by rw [Pr.len Pr.z_ok, Pr.len kA]) A.one w
/-- The document's 'Bind'. -/
def bnK (a : List UInt8) (t : Nat) : List UInt8 := a.take t ++ List.replicate (32 - t) 0
theorem bnK_len {a : List UInt8} (ha : a.length = 32) {t : Nat} (ht : t ≤ 32) : (bnK a t).length = 32 := by
  unfold bnK
  rw [List.length_append, List.length_take, List.length_replicate]; omega
theorem bnK_succ {a : List UInt8} (ha : a.length = 32) {t : Nat} (ht : t < 32) {u : UInt8} (hu : a[t]? = some u) : (bnK a t).set t u = bnK a (t + 1) := by
  unfold bnK
  rw [List.set_append_right _ _ (by rw [List.length_take]; omega), List.length_take, Nat.min_eq_left (by omega), Nat.sub_self, show 32 - t = (32 - (t + 1)) + 1 by omega, List.replicate_succ, List.set_cons_zero, List.take_add_one, hu]
  simp
theorem bnK_all {a : List UInt8} (ha : a.length = 32) : bnK a 32 = a := by
  unfold bnK
  rw [List.take_of_length_le (by omega)]
  simp
theorem idx31 (q m : Nat) (h : m < 64) (W : World) : (Instr.indexAt 31 (.pointer (some ⟨q, 0, none⟩)) (.int .i64 (m : Int))).run Tryd.prog W = .ok (.pointer (some ⟨q, m, none⟩)) W := by
  have hm : (m : Int) < 64 := by omega
  go_simp
  try simp
  try rw [add_plain]
theorem ldByte {w : World} {q j : Nat} {K : List UInt8} {t : TypeId} {u : UInt8} (hb : Blk w q (K.map byt) t) (hu : K[j]? = some u) : (Instr.loadAt 5 (.pointer (some ⟨q, j, none⟩))).run Tryd.prog w = .ok (byt u) w := by
  have hc : w.cell? ⟨q, j, none⟩ = some (byt u) := by rw [hb.cell, List.getElem?_map, hu]; rfl
  unfold byt at *
  go_simp
theorem stByte {w : World} {q j : Nat} {K : List UInt8} {t : TypeId} (u : UInt8) (hb : Blk w q (K.map byt) t) (hj : j < K.length) : ∃ w', (Instr.storeAt 5 (.pointer (some ⟨q, j, none⟩)) (byt u)).run Tryd.prog w = .ok () w' ∧ Blk w' q ((K.set j u).map byt) t ∧ Fx (fun k => k = q) w w' := by
  refine ⟨_, st5 u (by rw [hb.cell, List.getElem?_eq_getElem (by rw [List.length_map]; exact hj)]) (hb.frozen j), ?_, Fx.setCell w q j _ rfl⟩
  rw [List.map_set]
  exact hb.set j _
def bnE (q2 q3 p4 p5 t : Nat) : List (Nat × Value) := [(2, .pointer (some ⟨q2, 0, none⟩)), (3, .pointer (some ⟨q3, 0, none⟩)), (4, .pointer (some ⟨p4, 0, none⟩)), (5, .pointer (some ⟨p5, 0, none⟩)), (6, .int .i64 (t : Int))]
def BnI (w : World) (a b : List UInt8) (q2 q3 p4 p5 t : Nat) (W : World) : Prop := t ≤ 32 ∧ Blk W q2 (a.map byt) 23 ∧ Blk W q3 (b.map byt) 23 ∧ Blk W p4 (z64k.map byt) 31 ∧ Blk W p5 ((bnK a t ++ bnK b t).map byt) 31 ∧ Below w.heap.size w W
set_option maxRecDepth 100000 in
set_option maxHeartbeats 1000000 in
theorem bind_any (a b : List UInt8) (ha : a.length = 32) (hb : b.length = 32) (w : World) : Calls Tryd.prog 12 #[kv a, kv b] w fun e w' => e = .returned (kv (a ++ b)) ∧ Below w.heap.size w w' := by
  obtain ⟨w1, q2, r1, b1, l1, hq2⟩ := box23 a w
  obtain ⟨w2, q3, r2, b2, l2, hq3⟩ := box23 b w1
  obtain ⟨w3, p4, r3, b3, l3, hp4⟩ := new31 w2
  obtain ⟨w4, p5, r4, b4, l4, hp5⟩ := new31 w3
  have h45 : p4 ≠ p5 := by have := b3.lt; omega
  have h4 : w.heap.size ≤ p4 := by have := l1.size; have := l2.size; omega
  have h5 : w.heap.size ≤ p5 := by have := l1.size; have := l2.size; have := l3.size; omega
  have hab : (a ++ b).length = 64 := by rw [List.length_append, ha, hb]
  refine calls_of_args [kv a, kv b] Tryd.func12 rfl 23 Tryd.ntmps12 (by show 2 ≤ 23; decide) ?_; refine EW.seq ?_; refine EW.region ?_; refine WL.box rfl rfl rfl r1 ?_; refine WL.box rfl rfl rfl r2 ?_; refine WL.new rfl rfl r3 ?_; refine WL.done ?_; refine EW.on ?_; refine EW.seq ?_; refine EW.region ?_; refine WL.new rfl rfl r4 ?_; refine WL.done ?_; refine EW.on ?_; refine EW.seq ?_; refine EW.seq ?_; refine EW.region ?_; refine WL.assign rfl rfl rfl ?_; refine WL.done ?_; refine EW.on ?_; refine EW.block ?_; refine EW.loop (bnE q2 q3 p4 p5) (BnI w a b q2 q3 p4 p5) (fun t => 32 - t) 0 [2, 3, 4, 5, 6] rfl ⟨by decide, ((b1.on l2).on l3).on l4, (b2.on l3).on l4, b3.on l4, b4, bt (bt (bt l1 l2) l3) l4⟩ ?_
  rintro t wi ⟨hle, c2, c3, c4, c5, hbe⟩
  show EW _ _ _ _ [(2, .pointer (some ⟨q2, 0, none⟩)), (3, .pointer (some ⟨q3, 0, none⟩)), (4, .pointer (some ⟨p4, 0, none⟩)), (5, .pointer (some ⟨p5, 0, none⟩)), (6, .int .i64 (t : Int))] _
  refine EW.seq ?_; refine EW.seq ?_; refine EW.region ?_; refine WL.move rfl rfl rfl ?_; refine WL.bin rfl rfl rfl rfl (int_lt_d _ _ _ _ _) ?_; refine WL.done ?_; refine EW.on ?_; refine EW.cond_d rfl (fun h8 => ?_) (fun h8 => ?_)
  · refine EW.skip ?_; refine EW.on ?_; refine EW.seq ?_; refine EW.block ?_; refine EW.seq ?_
    have hlt : t < 32 := by omega
    obtain ⟨u, hu⟩ : ∃ u, a[t]? = some u := ⟨_, List.getElem?_eq_getElem (by omega)⟩
    obtain ⟨v, hv⟩ : ∃ u, b[t]? = some u := ⟨_, List.getElem?_eq_getElem (by omega)⟩
    refine EW.region ?_; refine WL.move rfl rfl rfl ?_; refine WL.move rfl rfl rfl ?_; refine WL.index rfl rfl rfl rfl (idxK q2 t hlt _) ?_; refine WL.load rfl rfl rfl (ldByte c2 hu) ?_; refine WL.index rfl rfl rfl rfl (idx31 p5 t (by omega) _) ?_
    obtain ⟨v1, s1, e5, f1⟩ := stByte (j := t) u c5 (by rw [List.length_append, bnK_len ha hle]; omega)
    refine WL.store rfl rfl rfl s1 ?_
    have d2 := c2.fx f1 (c2.neT c5 (by decide))
    have d3 := c3.fx f1 (c3.neT c5 (by decide))
    have d4 := c4.fx f1 h45
    rw [List.set_append_left _ _ (by rw [bnK_len ha hle]; exact hlt), bnK_succ ha hlt hu] at e5
    refine WL.done ?_; refine EW.on ?_; refine EW.region ?_; refine WL.move rfl rfl rfl ?_; refine WL.bin rfl rfl rfl rfl (int_add (c := ((32 + t : Nat) : Int)) (by rw [IntKind.wrap_i64]; omega) _ _ _) ?_; refine WL.move rfl rfl rfl ?_; refine WL.index rfl rfl rfl rfl (idxK q3 t hlt _) ?_; refine WL.load rfl rfl rfl (ldByte d3 hv) ?_; refine WL.index rfl rfl rfl rfl (idx31 p5 (32 + t) (by omega) _) ?_
    obtain ⟨v2, s2, e6, f2⟩ := stByte (j := 32 + t) v e5 (by rw [List.length_append, bnK_len ha (show t + 1 ≤ 32 by omega), bnK_len hb hle]; omega)
    refine WL.store rfl rfl rfl s2 ?_
    rw [List.set_append_right _ _ (by rw [bnK_len ha (show t + 1 ≤ 32 by omega)]; omega), bnK_len ha (show t + 1 ≤ 32 by omega), Nat.add_sub_cancel_left, bnK_succ hb hlt hv] at e6
    refine WL.done ?_; refine pn_block ?_; refine EW.on ?_; refine EW.region ?_; refine WL.move rfl rfl rfl ?_; refine WL.bin rfl rfl rfl rfl (int_add (c := ((t + 1 : Nat) : Int)) (by rw [IntKind.wrap_i64]; omega) _ _ _) ?_; refine WL.assign rfl rfl rfl ?_; refine WL.done ?_
    exact EW.again (E := bnE q2 q3 p4 p5) (R := BnI w a b q2 q3 p4 p5) (m := fun t => 32 - t) (x := t) (t + 1) [2, 3, 4, 5, 6] rfl ⟨by omega, d2.fx f2 (d2.neT e5 (by decide)), d3.fx f2 (d3.neT e5 (by decide)), d4.fx f2 h45, e6, bf (bf hbe f1 h5) f2 h5⟩ (by show 32 - (t + 1) < 32 - t; omega)
  · refine EW.exit ?_; refine px_then ?_; refine px_then ?_; refine px_block ?_; refine EW.on ?_; refine EW.seq ?_
    have ht : t = 32 := by omega
    subst ht
    rw [bnK_all ha, bnK_all hb] at c5
    refine EW.region ?_; refine WL.load rfl rfl rfl (ld31 c5 hab) ?_
    obtain ⟨v3, s3, e7, f3⟩ := st31 c4 rfl hab
    refine WL.store rfl rfl rfl s3 ?_; refine WL.done ?_; refine EW.on ?_; refine EW.ret ?_
    exact EW.returnsC Tryd.results12 rfl e7 u31 rfl (i31 hab) ⟨rfl, bf hbe f3 h4⟩
end Go.Proofs.YtoceepmehmacbaaDoor
