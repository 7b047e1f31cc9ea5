import Derived.Test.YtnakeieeopbeiaaGg
import Derived.Test.YtnakeieeopbeiaaLex
set_option linter.unusedVariables false
set_option linter.unusedSimpArgs false
namespace Go.Proofs.Ytnakeieeopbeiaa
open Go.RowKit

section
variable {P : Program} {N : Nat} {ops : Array Oper} {S : World → Prop}
/-- As wpLex, by what is known of the registers. -/
def wpLexE (P : Program) (N : Nat) (ops : Array Oper) (S : World → Prop) (K : List (Nat × Value) → Prop) : List Oper → List (Nat × Value) → Prop
  | [], e => K e
  | o :: r, e => ∃ v, (∀ i, o.dst = some i → i < N) ∧ (∀ a, Env N a e → Uni P ops S o v a) ∧ wpLexE P N ops S K r (insE o.dst v e)
theorem wpLex_of_E {K : Act → Prop} : ∀ (l : List Oper) (e : List (Nat × Value)) (a : Act), Env N a e → wpLexE P N ops S (fun e' => ∀ a', Env N a' e' → K a') l e → wpLex P ops S K l a
  | [], _, a, ha, h => h a ha
  | _ :: r, _, a, ha, ⟨v, h1, h2, h⟩ => ⟨v, h2 a ha, wpLex_of_E r _ _ (ha.ins _ v h1) h⟩
section
variable {K : List (Nat × Value) → Prop} {i : Nat} {ty : TypeId} {ps : String} {af : Array Edge} {r : List Oper} {e : List (Nat × Value)}
theorem LE.row {t : TypeId} {x : Operand} {g : Nat} {cs : List Value} {t' : TypeId} {d : TypeDesc} (hi : decide (i < N) = true) (hx : evE e x = some (.pointer (some ⟨g, 0, none⟩))) (hb : ∀ W, S W → Blk W g cs t') (hu : P.underlying t = some d) (hd : (match d with | .struct _ | .array _ _ => true | _ => false) = true) (hz : (P.info? t).map (·.size) = some cs.length) (k : wpLexE P N ops S K r ((i, .agg cs.toArray) :: e)) : wpLexE P N ops S K (⟨some i, .load t x, ty, ps, af, none⟩ :: r) e :=
  ⟨_, fun j hj => by cases hj; exact of_decide_eq_true hi, fun a ha => uni_row rfl t x rfl g cs t' (ha.ev hx) hb hu hd hz, k⟩
theorem LE.call {f : FuncId} {xs : List Operand} {ts : Array TypeId} {v : Value} (args : List Value) (hen : ∀ (args : Array Value) (W : World), (callFunc f args).run P W = .ok (.enter f args) W) (hi : decide (i < N) = true) (hx : xs.map (evE e) = args.map some) (hc : ∀ W, S W → Calls P f args.toArray W (fun x w' => x = .returned v ∧ Below W.heap.size W w')) (k : wpLexE P N ops S K r ((i, v) :: e)) : wpLexE P N ops S K (⟨some i, .call { callee := .value (.func f), args := xs.toArray, argTypes := ts }, ty, ps, af, none⟩ :: r) e :=
  ⟨_, fun j hj => by cases hj; exact of_decide_eq_true hi, fun a ha => by
    have hargs : xs.map a.eval = args := by
      clear hc
      induction xs generalizing args with
      | nil => cases args with
        | nil => rfl
        | cons _ _ => simp at hx
      | cons x xs ih => cases args with
        | nil => simp at hx
        | cons y ys =>
          simp only [List.map_cons, List.cons.injEq] at hx ⊢
          exact ⟨ha.ev hx.1, ih ys hx.2⟩
    exact uni_callF (by simp [Region.wanted]) f xs ts rfl args v hargs hen hc, k⟩
end
variable {Q : Exit → Act → World → Prop} {e : List (Nat × Value)} {w : World}
theorem EW.newT {id : Nat} {l : List Oper} {oa os : Oper} (hm : P.follows .mixedOrders = true) (n : Nat) (hl : l.length = n + 2) (hoa' : l[n]? = some oa) (hos : l[n + 1]? = some os)
    (hB : (Region.noSelect l.toArray && lexOk .any l.toArray (n + 1) n 0 (none_ (n + 2)) && (Region.ready .any l.toArray (firstN n 0 (none_ (n + 2))) == [n]) && !full (n + 1) (firstN n 0 (none_ (n + 2))) && full (n + 1) ((firstN n 0 (none_ (n + 2))).setIfInBounds n true) &&
      (Region.ready .any l.toArray ((firstN n 0 (none_ (n + 2))).setIfInBounds n true) == [n + 1]) && (Region.ready .any l.toArray (((firstN n 0 (none_ (n + 2))).setIfInBounds n true).setIfInBounds (n + 1) true)).isEmpty) = true)
    (ga : oa.guard = none) (d : Nat) (da : oa.dst = some d) (t : TypeId) (hoa : oa.op = .alloc t) (zs : List Value) (hz : ∀ w, (zeroValue t).run P w = .ok (.agg zs.toArray) w)
    (hg : os.guard = none) (hd : os.dst = none) (y : Operand) (ho : os.op = .store t (.tmp d) y) (hyd : y ≠ .tmp d) (hdn : d < N)
    (h : wpLexE P N l.toArray (fun W => Below w.heap.size w W) (fun e' => ∃ cs, evE e' y = some (.agg (List.toArray cs)) ∧ (P.info? t).map (·.size) = some cs.length ∧ zs.length = cs.length ∧ cs.toArray.all (·.oneCell') = true ∧
      ∀ g W, w.heap.size ≤ g → Below w.heap.size w W → Blk W g cs t → ∀ a, Env N a ((d, .pointer (some ⟨g, 0, none⟩)) :: e') → Q .normal a W) (l.take n) e) : EW P N (Code.region id l.toArray true) Q e w := fun a ha => by
  refine reg_newT hm n hl hoa' hos hB ga d da t hoa zs hz hg hd y ho (wpLex_of_E _ e a ha ?_)
  have mono : ∀ {K K' : List (Nat × Value) → Prop} (hK : ∀ e, K e → K' e) (l' : List Oper) (e : List (Nat × Value)), wpLexE P N l.toArray (fun W => Below w.heap.size w W) K l' e → wpLexE P N l.toArray (fun W => Below w.heap.size w W) K' l' e := by
    intro K K' hK l'
    induction l' with
    | nil => exact fun e h => hK e h
    | cons o l' ih => exact fun e ⟨v, h1, h2, h⟩ => ⟨v, h1, h2, ih _ h⟩
  refine mono ?_ _ _ h
  rintro e' ⟨cs, h1, h2, h3, h4, h5⟩ a' ha'
  exact ⟨cs, ha'.ev h1, hyd, by rw [ha'.sz]; exact hdn, h2, h3, h4, fun g W hg hW hB => h5 g W hg hW hB _ (ha'.put d _ hdn)⟩
theorem EW.putT {id : Nat} {l : List Oper} {os : Oper} (hm : P.follows .mixedOrders = true) (n : Nat) (hl : l.length = n + 1) (hos : l[n]? = some os)
    (hB : (Region.noSelect l.toArray && lexOk .any l.toArray n n 0 (none_ (n + 1)) && (Region.ready .any l.toArray (firstN n 0 (none_ (n + 1))) == [n]) && full n (firstN n 0 (none_ (n + 1))) && (Region.ready .any l.toArray ((firstN n 0 (none_ (n + 1))).setIfInBounds n true)).isEmpty) = true)
    (hg : os.guard = none) (hd : os.dst = none) (t : TypeId) (x y : Operand) (ho : os.op = .store t x y)
    (h : wpLexE P N l.toArray (fun W => Below w.heap.size w W) (fun e' => ∃ g cs old t', evE e' x = some (.pointer (some ⟨g, 0, none⟩)) ∧ evE e' y = some (.agg (List.toArray cs)) ∧ Blk w g old t' ∧ (P.info? t).map (·.size) = some cs.length ∧ old.length = cs.length ∧ cs.toArray.all (·.oneCell') = true ∧
      ∀ W, Below w.heap.size w W → ∀ a, Env N a e' → Q .normal a (W.setRow g cs.toArray)) (l.take n) e) : EW P N (Code.region id l.toArray true) Q e w := fun a ha => by
  refine reg_putT hm n hl hos hB hg hd t x y ho (wpLex_of_E _ e a ha ?_)
  have mono : ∀ {K K' : List (Nat × Value) → Prop} (hK : ∀ e, K e → K' e) (l' : List Oper) (e : List (Nat × Value)), wpLexE P N l.toArray (fun W => Below w.heap.size w W) K l' e → wpLexE P N l.toArray (fun W => Below w.heap.size w W) K' l' e := by
    intro K K' hK l'
    induction l' with
    | nil => exact fun e h => hK e h
    | cons o l' ih => exact fun e ⟨v, h1, h2, h⟩ => ⟨v, h1, h2, ih _ h⟩
  refine mono ?_ _ _ h
  rintro e' ⟨g, cs, old, t', h1, h2, h3, h4, h5, h6, h7⟩ a' ha'
  exact ⟨g, cs, old, t', ha'.ev h1, ha'.ev h2, h3, h4, h5, h6, fun W hW => h7 W hW a' ha'⟩
end
theorem WL.sliceN {P : Program} {n : Nat} {ops : Array Oper} {Q : Exit → Act → World → Prop} {i : Nat} {ty : TypeId} {ps : String} {af : Array Edge} {gd : Option (Nat × Bool)} {r : List Oper} {e : List (Nat × Value)} {w : World} {t : TypeId} {x : Operand} {u v : Value} (hw : wantE ops e ⟨some i, .slice t x none none none, ty, ps, af, gd⟩ = some true) (hi : decide (i < n) = true) (hx : evE e x = some u) (hr : (Instr.sliceAt t u none none none).run P w = .ok v w) (k : WL P n ops Q r ((i, v) :: e) w) : WL P n ops Q (⟨some i, .slice t x none none none, ty, ps, af, gd⟩ :: r) e w :=
  WL.op i v hw rfl hi (fun a ha => by simp [execOp, ha.ev hx, hr, Result.andThen]) k
theorem sl49 (g : Nat) (W : World) {l : List Nat} (hl : l.length = 16) (hb : Blk W g (dv l) 49) : (Instr.sliceAt 49 (.pointer (some ⟨g, 0, none⟩)) none none none).run Try.prog W = .ok (.slice (some ⟨g, 0, none⟩) 16 16) W := by
  go_simp
theorem dig49 {W : World} {g : Nat} {l : List Nat} (hl : l.length = 16) (hb : Blk W g (dv l) 49) : Dig W (.slice (some ⟨g, 0, none⟩) 16 16) l := ⟨g, 16, by rw [hl], by omega, hb.lt, fun i hi => (hb.cell i).trans (dv_at l i hi)⟩
set_option maxRecDepth 100000 in
set_option maxHeartbeats 1000000 in
theorem neg_num (a : List Nat) (ha : Nm a) (w : World) : Calls Try.prog 49 #[.agg (dv a).toArray] w fun e w' => e = .returned (.agg (dv (numD (dpre (minD primeD a 16) 16 % PP))).toArray) ∧ Below w.heap.size w w' := by
  obtain ⟨w1, hw1⟩ : ∃ w1, w.alloc (.cells (dv a).toArray 49) = w1 := ⟨_, rfl⟩
  have s1 : w1.heap.size = w.heap.size + 1 := by rw [← hw1]; simp
  have b1 : Blk w1 w.heap.size (dv a) 49 := by rw [← hw1]; exact Blk.new _ _ _
  have e1 : Below w.heap.size w w1 := by rw [← hw1]; exact below_new _ _
  obtain ⟨w2, hw2⟩ : ∃ w2, w1.alloc (.cells (dv z16).toArray 49) = w2 := ⟨_, rfl⟩
  have s2 : w2.heap.size = w.heap.size + 2 := by rw [← hw2]; simp [s1]
  have b2 : Blk w2 w1.heap.size (dv z16) 49 := by rw [← hw2]; exact Blk.new _ _ _
  have e2 : Below w1.heap.size w1 w2 := by rw [← hw2]; exact below_new _ _
  have r1 := box49 a w
  have r2 := new49 w1
  rw [hw1] at r1
  rw [hw2] at r2
  have b1' := b1.on e2
  have e3 : Below w.heap.size w w2 := e1.trans (e2.mono (by omega))
  obtain ⟨n, hn⟩ : ∃ n, w.heap.size = n := ⟨_, rfl⟩
  rw [s1] at r2 b2
  rw [hn] at r1 r2 b1' b2 s2 e3
  rw [hn]
  have hM := minD_nm primeD_nm ha
  refine calls_of_args [.agg (dv a).toArray] Try.func49 rfl 9 Try.ntmps49 (by show 1 ≤ 9; decide) ?_
  refine EW.seq ?_
  refine EW.region ?_
  refine WL.box rfl rfl rfl r1 ?_
  refine WL.new rfl rfl r2 ?_
  refine WL.done ?_
  refine EW.on ?_
  refine EW.seq ?_
  refine EW.newT (by kernel_rfl) 3 rfl rfl rfl (by kernel_rfl) rfl 3 rfl 49 rfl (dv z16) zero49 rfl rfl (.tmp 6) rfl (by simp) (by decide) ?_
  simp only [List.take_succ_cons, List.take_zero]
  refine LE.call [] enter48 rfl rfl (fun W _ => primeD_any W) ?_
  refine LE.row rfl rfl (fun W hW => b1'.on hW) Try.underlying49 rfl (info49 ha.ln) ?_
  refine LE.call [.agg (dv primeD).toArray, .agg (dv a).toArray] enter56 rfl rfl (fun W _ => minus_any primeD a primeD_length ha.ln primeD_dig ha.dg W) ?_
  refine ⟨dv (minD primeD a 16), rfl, info49 hM.ln, by rw [dv_length, dv_length, z16_length, hM.ln], dv_one _, ?_⟩
  intro g W hg hW hbg
  have hbz := b2.on hW
  have hbw : Below n w W := e3.trans (hW.mono (by omega))
  have hgW := hbg.lt
  have hred := reduced_law (.slice (some ⟨g, 0, none⟩) 16 16) (minD primeD a 16) W (dig49 hM.ln hbg) (by rw [hM.ln]; exact Nat.le_refl _) (by rw [hM.ln]; decide) (fun j => Nat.lt_trans (hM.dg j) (by decide))
  rw [hM.nv] at hred
  refine EW.on ?_
  refine EW.seq ?_
  refine EW.region ?_
  refine WL.sliceN rfl rfl rfl (sl49 g _ hM.ln hbg) ?_
  refine WL.call [.slice (some ⟨g, 0, none⟩) 16 16] enter46 rfl rfl rfl hred ?_
  rintro x w5 ⟨rfl, hb5⟩
  refine ⟨_, rfl, ?_⟩
  refine WL.store rfl rfl rfl (st49 z16_length (numD_length _) (hbz.on hb5)) ?_
  refine WL.done ?_
  refine EW.on ?_
  refine EW.ret ?_
  repeat (first | refine pr_then ?_ | refine pr_block ?_)
  exact EW.returnsC Try.results49 rfl ((hbz.on hb5).setRow _) Try.underlying49 rfl (info49 (numD_length _)) ⟨rfl, below_setRow (hbw.trans (hb5.mono (by omega))) (n + 1) _ (by omega)⟩
set_option maxRecDepth 100000 in
set_option maxHeartbeats 1000000 in
theorem sub_num (a b : List Nat) (ha : Nm a) (hb : Nm b) (w : World) : Calls Try.prog 40 #[.agg (dv a).toArray, .agg (dv b).toArray] w fun e w' => e = .returned (.agg (dv (numD ((dpre a 16 + dpre (minD primeD b 16) 16 % PP) % PP))).toArray) ∧ Below w.heap.size w w' := by
  obtain ⟨w1, w2, w3, r1, r2, r3, ba, bb, bz, hs3, be3⟩ := three (w := w) a b
  obtain ⟨n, hn⟩ : ∃ n, w.heap.size = n := ⟨_, rfl⟩
  rw [hn] at r1 r2 r3 ba bb bz hs3 be3
  rw [hn]
  have hV : dpre (numD (dpre (minD primeD b 16) 16 % PP)) 16 = dpre (minD primeD b 16) 16 % PP := num_val _ (Nat.lt_trans (Nat.mod_lt _ (by decide)) (by decide))
  refine calls_of_args [.agg (dv a).toArray, .agg (dv b).toArray] Try.func40 rfl 9 Try.ntmps40 (by show 2 ≤ 9; decide) ?_
  refine EW.seq ?_
  refine EW.region ?_
  refine WL.box rfl rfl rfl r1 ?_
  refine WL.box rfl rfl rfl r2 ?_
  refine WL.new rfl rfl r3 ?_
  refine WL.done ?_
  refine EW.on ?_
  refine EW.seq ?_
  refine EW.putT (by kernel_rfl) 4 rfl rfl (by kernel_rfl) rfl rfl 49 (.tmp 4) (.tmp 8) rfl ?_
  simp only [List.take_succ_cons, List.take_zero]
  refine LE.row rfl rfl (fun W hW => ba.on hW) Try.underlying49 rfl (info49 ha.ln) ?_
  refine LE.row rfl rfl (fun W hW => bb.on hW) Try.underlying49 rfl (info49 hb.ln) ?_
  refine LE.call [.agg (dv b).toArray] enter49 rfl rfl (fun W _ => neg_num b hb W) ?_
  refine LE.call [.agg (dv a).toArray, .agg (dv (numD (dpre (minD primeD b 16) 16 % PP))).toArray] enter39 rfl rfl (fun W _ => add_num a _ ha (numD_nm _) W) ?_
  rw [hV]
  refine ⟨n + 2, _, dv z16, 49, rfl, rfl, bz, info49 (numD_length _), by rw [dv_length, dv_length, z16_length, numD_length], dv_one _, ?_⟩
  intro W hW
  have hbz := bz.on hW
  have hbw : Below n w W := be3.trans (hW.mono (by omega))
  refine EW.on ?_
  refine EW.ret ?_
  repeat (first | refine pr_then ?_ | refine pr_block ?_)
  exact EW.returnsC Try.results40 rfl (hbz.setRow _) Try.underlying49 rfl (info49 (numD_length _)) ⟨rfl, below_setRow hbw (n + 2) _ (by omega)⟩
end Go.Proofs.Ytnakeieeopbeiaa
