import Derived.Test.YtiefgmgjlhjjhaaDoorEnt
import Derived.Deep.DeepCutAuto
import Derived.Deep.QuietTactic
import Derived.BigQuiet
import Derived.Handy
import Derived.Laws.StructEq
import Derived.Lib.ConvBytes
set_option linter.unusedVariables false
set_option linter.unusedSimpArgs false
namespace Go.Proofs.YtiefgmgjlhjjhaaDoor
open Go.RowKit

section
variable {P : Program} {ops : Array Oper} {Q : Exit → Act → World → Prop} {md : Region.Mode} {S : World → Prop} {T : Nat}

/-- In state a the operation o yields v in every world of S, which stays. -/
def UniV (P : Program) (ops : Array Oper) (S : World → Prop) (o : Oper) (v : Value) (a : Act) : Prop :=
  (Region.wanted o (yielded ops a.tmps) = true ∧ ∀ w, S w → (execOp a.eval o).run P w = .ok (.value v) w) ∨
  (Region.wanted o (yielded ops a.tmps) = false ∧ v = undef)
theorem UniV.of_same {o : Oper} {v : Value} {a a' : Act} (hy : UniV P ops S o v a) (he : execOp a'.eval o = execOp a.eval o)
    (hw : Region.wanted o (yielded ops a'.tmps) = Region.wanted o (yielded ops a.tmps)) : UniV P ops S o v a' := by
  unfold UniV at *
  rw [he, hw]
  exact hy
/-- One operation yields v and takes the world w to one of C'. -/
def OpTo (P : Program) (o : Oper) (a : Act) (w : World) (v : Value) (C' : World → Prop) : Prop :=
  (∃ w', (execOp a.eval o).run P w = .ok (.value v) w' ∧ C' w') ∨ (v = undef ∧ ∃ w', (execOp a.eval o).run P w = .ok .skip w' ∧ C' w') ∨
    (∃ f args, (execOp a.eval o).run P w = .ok (.enter f args) w ∧ Calls P f args w (fun e w' => e = .returned v ∧ C' w'))
theorem OpTo.of_same {o : Oper} {v : Value} {a a' : Act} {w : World} {C' : World → Prop} (h : OpTo P o a w v C') (he : execOp a'.eval o = execOp a.eval o) : OpTo P o a' w v C' := by
  unfold OpTo at *
  rw [he]
  exact h
theorem OpTo.wp {o : Oper} {v : Value} {a : Act} {w : World} {C' : World → Prop} {K : Act → World → Prop} (h : OpTo P o a w v C') (hK : ∀ w', C' w' → K (a.put o.dst v) w') : o.wp P a w K Q := by
  unfold Oper.wp
  rcases h with ⟨w', h1, h2⟩ | ⟨rfl, w', h1, h2⟩ | ⟨f, args, h1, h2⟩
  · rw [h1]; exact hK w' h2
  · rw [h1]; exact hK w' h2
  · rw [h1]
    simp only [Oper.upon]
    refine h2.mono fun e w' ⟨he, hc⟩ => ?_
    subst he
    exact hK w' hc

def opX (P : Program) (ops : Array Oper) (S : World → Prop) (i : Nat) (K : Act → (World → Prop) → Prop) (a : Act) (C : World → Prop) : Prop :=
  ∃ o, ops[i]? = some o ∧ ((∃ v, UniV P ops S o v a ∧ K (a.put o.dst v) C) ∨
    (o.guard = none ∧ ∃ v C', (∀ w, C' w → S w) ∧ (∀ w, C w → OpTo P o a w v C') ∧ K (a.put o.dst v) C'))

def wpAnyX (P : Program) (md : Region.Mode) (ops : Array Oper) (Q : Exit → Act → World → Prop) (S : World → Prop) (T : Nat) : Nat → Array Bool → Act → (World → Prop) → Prop
  | 0, listed, a, C => full T listed = true ∧ ∀ w, C w → wpAny P md ops Q 0 listed a w
  | n + 1, listed, a, C => if full T listed = true then ∀ w, C w → wpAny P md ops Q (n + 1) listed a w
      else Region.ready md ops listed ≠ [] ∧ ∀ i ∈ Region.ready md ops listed, opX P ops S i (fun a' C' => wpAnyX P md ops Q S T n (listed.setIfInBounds i true) a' C') a C

theorem opX_mono {i : Nat} {K K' : Act → (World → Prop) → Prop} (hK : ∀ a C, K a C → K' a C) {a : Act} {C : World → Prop} (h : opX P ops S i K a C) : opX P ops S i K' a C := by
  obtain ⟨o, ho, ⟨v, hv, h⟩ | ⟨hg, v, C', h1, h2, h⟩⟩ := h
  · exact ⟨o, ho, .inl ⟨v, hv, hK _ _ h⟩⟩
  · exact ⟨o, ho, .inr ⟨hg, v, C', h1, h2, hK _ _ h⟩⟩

theorem wpAny_of_X : ∀ (n : Nat) (listed : Array Bool) (a : Act) (C : World → Prop), (∀ w, C w → S w) → wpAnyX P md ops Q S T n listed a C → ∀ w, C w → wpAny P md ops Q n listed a w
  | 0, _, _, _, _, h, w, hw => h.2 w hw
  | n + 1, listed, a, C, hS, h, w, hw => by
    unfold wpAnyX at h
    split at h
    · exact h w hw
    · refine ⟨fun h0 => absurd h0 h.1, fun i hi => ?_⟩
      obtain ⟨o, ho, ⟨v, hv, hk⟩ | ⟨hg, v, C', h1, h2, hk⟩⟩ := h.2 i hi
      · unfold wpOp
        simp only [ho]
        rcases hv with ⟨hwa, hv⟩ | ⟨hwa, rfl⟩
        · simp only [hwa, if_true, Oper.wp, hv w (hS w hw), Oper.upon]
          exact .inl (wpAny_of_X n _ _ C hS hk w hw)
        · simp only [hwa, Bool.false_eq_true, if_false]
          exact wpAny_of_X n _ _ C hS hk w hw
      · exact op_wp ho hg ((h2 w hw).wp fun w' hw' => wpAny_of_X n _ _ C' h1 hk w' hw')

/-- One operation oj, apart from oi. -/
theorem opX_put {j : Nat} {oi oj : Oper} {v : Value} (hj : ops[j]? = some oj) (hap : oi.apart ops oj = true)
    (hsi : ∀ cs b, oi.op ≠ .select cs b) (hsj : ∀ cs b, oj.op ≠ .select cs b) {K : Act → (World → Prop) → Prop} {a : Act} {C : World → Prop}
    (hy : UniV P ops S oi v a) (h : opX P ops S j K (a.put oi.dst v) C) :
    opX P ops S j (fun a' C' => UniV P ops S oi v a' ∧ K (a'.put oi.dst v) C') a C := by
  obtain ⟨h1, h2, h3⟩ := Oper.apart_spec hap
  have keep : ∀ u, UniV P ops S oi v (a.put oj.dst u) := fun u => hy.of_same (execOp_put oi hsi a oj.dst u h3) (wanted_put oi a oj.dst u h3)
  obtain ⟨o, ho, h⟩ := h
  obtain rfl : oj = o := Option.some.inj (hj.symm.trans ho)
  refine ⟨oj, hj, ?_⟩
  rcases h with ⟨u, hu, hk⟩ | ⟨hg, u, C', k1, k2, hk⟩
  · refine .inl ⟨u, hu.of_same (execOp_put oj hsj a oi.dst v h1).symm (wanted_put oj a oi.dst v h1).symm, keep u, ?_⟩
    rw [← Act.put_comm a v u h2]; exact hk
  · refine .inr ⟨hg, u, C', k1, fun w hw => (k2 w hw).of_same (execOp_put oj hsj a oi.dst v h1).symm, keep u, ?_⟩
    rw [← Act.put_comm a v u h2]; exact hk

/-- An operation of one value everywhere may be taken first. -/
theorem wpAnyX_first {i : Nat} {oi : Oper} {v : Value} (hi : ops[i]? = some oi) (hsel : ∀ (j : Nat) (o : Oper) cs b, ops[j]? = some o → o.op ≠ .select cs b)
    (hiT : i < T) (hT : T ≤ ops.size) (hok : lastOk md ops T i = true) :
    ∀ (fuel : Nat) (listed : Array Bool) (a : Act) (C : World → Prop),
      (∀ j oj, ops[j]? = some oj → j ≠ i → listed.getD j true = false → (∀ e ∈ oj.after, Region.binds md e = true → e.on ≠ i) → oi.apart ops oj = true) →
      i ∈ Region.ready md ops listed → Closed md ops listed → listed.size = ops.size →
      UniV P ops S oi v a →
      wpAnyX P md ops Q S T fuel (listed.setIfInBounds i true) (a.put oi.dst v) C → wpAnyX P md ops Q S T (fuel + 1) listed a C := by
  intro fuel
  induction fuel with
  | zero =>
    intro listed a C _ hr hcl hsz hy H
    have hone := last_one hcl hsz hT hok hr H.1
    have hf := not_full hiT hr
    unfold wpAnyX
    rw [if_neg (by rw [hf]; simp)]
    refine ⟨fun h => (by rw [h] at hr; cases hr), fun j hj => ?_⟩
    obtain rfl : j = i := hone j hj
    exact ⟨oi, hi, .inl ⟨v, hy, H⟩⟩
  | succ fuel ih =>
    intro listed a C hfree hr hcl hsz hy H
    have hf := not_full hiT hr
    unfold wpAnyX
    rw [if_neg (by rw [hf]; simp)]
    refine ⟨fun h => (by rw [h] at hr; cases hr), fun j hj => ?_⟩
    by_cases hji : j = i
    · subst hji; exact ⟨oi, hi, .inl ⟨v, hy, H⟩⟩
    · by_cases hfl : full T (listed.setIfInBounds i true) = true
      · exact absurd (last_one hcl hsz hT hok hr hfl j hj) hji
      · unfold wpAnyX at H
        rw [if_neg hfl] at H
        have h1 := H.2 j (ready_mono hj hji)
        obtain ⟨hjun, oj, hoj, hall⟩ := mem_ready.1 hj
        have hnot : ∀ e ∈ oj.after, Region.binds md e = true → e.on ≠ i := fun e he hb heq => by
          exact getD_no (mem_ready.1 hr).1 (heq ▸ hall e he hb)
        have h2 := opX_put hoj (hfree j oj hoj hji hjun hnot) (fun cs b => hsel i oi cs b hi) (fun cs b => hsel j oj cs b hoj) hy h1
        have hfree' : ∀ k ok, ops[k]? = some ok → k ≠ i → (listed.setIfInBounds j true).getD k true = false →
            (∀ e ∈ ok.after, Region.binds md e = true → e.on ≠ i) → oi.apart ops ok = true := fun k ok hk hki hun hno => by
          refine hfree k ok hk hki ?_ hno
          by_cases hjk : j = k
          · subst hjk; exact hjun
          · rw [getD_set_ne true hjk] at hun; exact hun
        have hr' := ready_mono hr (Ne.symm hji)
        refine opX_mono (fun a' C' h3 => ih (listed.setIfInBounds j true) a' C' hfree' hr' (hcl.set hj) (by simpa using hsz) h3.1 ?_) h2
        rw [Array.setIfInBounds_comm _ _ hji]
        exact h3.2

/-- The first operations, of one value each, in the text's order. -/
def wpLexV (P : Program) (ops : Array Oper) (S : World → Prop) (K : Act → Prop) : List Oper → Act → Prop
  | [], a => K a
  | o :: rest, a => ∃ v, UniV P ops S o v a ∧ wpLexV P ops S K rest (a.put o.dst v)
theorem wpLexV_mono {K K' : Act → Prop} (hK : ∀ a, K a → K' a) : ∀ (l : List Oper) (a : Act), wpLexV P ops S K l a → wpLexV P ops S K' l a
  | [], a, h => hK a h
  | o :: l, a, ⟨v, hv, h⟩ => ⟨v, hv, wpLexV_mono hK l _ h⟩
theorem wpLexV_cons {K : Act → Prop} {o : Oper} {l : List Oper} {a a' : Act} (v : Value) (hu : UniV P ops S o v a) (ha : a.put o.dst v = a') (h : wpLexV P ops S K l a') : wpLexV P ops S K (o :: l) a := ⟨v, hu, by rw [ha]; exact h⟩

theorem wpAnyX_lex (hs : Region.noSelect ops = true) (hT : T ≤ ops.size) (C : World → Prop) (F : Nat) : ∀ (l : List Oper) (k : Nat) (listed : Array Bool) (a : Act), (∀ j, j < l.length → l[j]? = ops[k + j]?) →
    lexOk md ops T l.length k listed = true → Closed md ops listed → listed.size = ops.size →
    wpLexV P ops S (fun a' => wpAnyX P md ops Q S T F (firstN l.length k listed) a' C) l a → wpAnyX P md ops Q S T (F + l.length) listed a C
  | [], _, _, _, _, _, _, _, h => h
  | o :: l, k, listed, a, hl, hB, hcl, hsz, ⟨v, hv, h⟩ => by
    have h0 : ops[k]? = some o := by simpa using (hl 0 (by simp)).symm
    simp only [List.length_cons, lexOk, Bool.and_eq_true, decide_eq_true_eq] at hB
    obtain ⟨⟨⟨⟨hr, hf⟩, hok⟩, hkT⟩, hB'⟩ := hB
    have hr' : k ∈ Region.ready md ops listed := by simpa using hr
    exact wpAnyX_first h0 (Region.noSelect_spec hs) hkT hT hok (F + l.length) listed a C (Region.free_spec h0 hf) hr' hcl hsz hv
      (wpAnyX_lex hs hT C F l (k + 1) _ _ (fun j hj => by have := hl (j + 1) (by simpa using hj); simpa [Nat.add_assoc, Nat.add_comm 1 j] using this) hB' (hcl.set hr') (by simpa using hsz) h)

/-- Operations one behind the other, each from world to world. -/
def wpSteps (P : Program) (S : World → Prop) (K : Act → (World → Prop) → Prop) : List Oper → Act → (World → Prop) → Prop
  | [], a, C => K a C
  | o :: r, a, C => o.guard = none ∧ ∃ v C', (∀ w, C' w → S w) ∧ (∀ w, C w → OpTo P o a w v C') ∧ wpSteps P S K r (a.put o.dst v) C'
theorem wpSteps_mono {K K' : Act → (World → Prop) → Prop} (hK : ∀ a C, K a C → K' a C) : ∀ (l : List Oper) (a : Act) (C : World → Prop), wpSteps P S K l a C → wpSteps P S K' l a C
  | [], a, C, h => hK a C h
  | o :: l, a, C, ⟨hg, v, C', h1, h2, h⟩ => ⟨hg, v, C', h1, h2, wpSteps_mono hK l _ _ h⟩
/-- From number k on they come one behind the other: n of them that are no more than T, then m more. -/
def chainOk (md : Region.Mode) (ops : Array Oper) (T : Nat) : Nat → Nat → Array Bool → Bool
  | 0, _, listed => full T listed
  | n + 1, k, listed => (Region.ready md ops listed == [k]) && !full T listed && chainOk md ops T n (k + 1) (listed.setIfInBounds k true)
def tailOk (md : Region.Mode) (ops : Array Oper) : Nat → Nat → Array Bool → Bool
  | 0, _, listed => (Region.ready md ops listed).isEmpty
  | n + 1, k, listed => (Region.ready md ops listed == [k]) && tailOk md ops n (k + 1) (listed.setIfInBounds k true)
theorem wpAny_tail : ∀ (l : List Oper) (k : Nat) (listed : Array Bool) (a : Act) (w : World), (∀ j, j < l.length → l[j]? = ops[k + j]?) → tailOk md ops l.length k listed = true →
    wpList P ops Q l a w → wpAny P md ops Q l.length listed a w
  | [], k, listed, a, w, _, hB, h => by
    refine wpAny_done (by simpa [tailOk] using hB) ?_ 0
    exact h
  | o :: l, k, listed, a, w, hl, hB, h => by
    simp only [List.length_cons, tailOk, Bool.and_eq_true, beq_iff_eq] at hB
    have h0 : ops[k]? = some o := by simpa using (hl 0 (by simp)).symm
    have ih := fun a w => wpAny_tail l (k + 1) (listed.setIfInBounds k true) a w (fun j hj => by have := hl (j + 1) (by simpa using hj); simpa [Nat.add_assoc, Nat.add_comm 1 j] using this) hB.2
    refine only_one hB.1 ?_
    unfold wpOp
    simp only [h0]
    unfold wpList at h
    split at h
    · rename_i hw
      rw [if_pos hw]
      rcases h with h | h
      · exact .inl (Oper.wp_mono (fun a w h => ih a w h) h)
      · exact .inr h
    · rename_i hw
      rw [if_neg hw]
      exact ih _ _ h
theorem wpAnyX_chain (F : Nat) : ∀ (l : List Oper) (k : Nat) (listed : Array Bool) (a : Act) (C : World → Prop), (∀ j, j < l.length → l[j]? = ops[k + j]?) → chainOk md ops T l.length k listed = true →
    wpSteps P S (fun a' C' => ∀ w, C' w → wpAny P md ops Q F (firstN l.length k listed) a' w) l a C → wpAnyX P md ops Q S T (F + l.length) listed a C
  | [], k, listed, a, C, _, hB, h => by
    simp only [List.length_nil, chainOk] at hB
    cases F with
    | zero => exact ⟨hB, h⟩
    | succ F =>
      unfold wpAnyX
      simp only [List.length_nil, Nat.add_zero]
      rw [if_pos hB]
      exact h
  | o :: l, k, listed, a, C, hl, hB, ⟨hg, v, C', h1, h2, h⟩ => by
    simp only [List.length_cons, chainOk, Bool.and_eq_true, beq_iff_eq, Bool.not_eq_true'] at hB
    have h0 : ops[k]? = some o := by simpa using (hl 0 (by simp)).symm
    show wpAnyX P md ops Q S T (F + l.length + 1) listed a C
    unfold wpAnyX
    rw [if_neg (by rw [hB.1.2]; simp)]
    refine ⟨by rw [hB.1.1]; simp, fun i hi => ?_⟩
    obtain rfl : i = k := by rw [hB.1.1] at hi; simpa using hi
    refine ⟨o, h0, .inr ⟨hg, v, C', h1, h2, ?_⟩⟩
    exact wpAnyX_chain F l (i + 1) _ _ C' (fun j hj => by have := hl (j + 1) (by simpa using hj); simpa [Nat.add_assoc, Nat.add_comm 1 j] using this) hB.2 h
/-- A region that draws: operations of one value each in whatever order, beside them m that come one behind the other, and then the rest. -/
theorem reg_chain {id : Nat} {l : List Oper} {a : Act} {w : World} (S : World → Prop) (n m r : Nat) (hm : P.follows .mixedOrders = true) (hl : l.length = n + m + r)
    (hB : (Region.noSelect l.toArray && lexOk .any l.toArray (n + m) n 0 (none_ (n + m + r)) && chainOk .any l.toArray (n + m) m n (firstN n 0 (none_ (n + m + r))) && tailOk .any l.toArray r (n + m) (firstN m n (firstN n 0 (none_ (n + m + r))))) = true)
    (hS : S { w with drawn := w.drawn + 1 })
    (h : wpLexV P l.toArray S (fun a' => wpSteps P S (fun a' C => ∀ W, C W → wpList P l.toArray Q (l.drop (n + m)) a' W) ((l.drop n).take m) a' (fun W => W = { w with drawn := w.drawn + 1 })) (l.take n) a) : (Code.region id l.toArray true).wp P Q a w := by
  simp only [Bool.and_eq_true] at hB
  obtain ⟨⟨⟨h1, h2⟩, h3⟩, h4⟩ := hB
  have e1 : (l.take n).length = n := by simp; omega
  have e2 : ((l.drop n).take m).length = m := by simp; omega
  have e3 : (l.drop (n + m)).length = r := by simp; omega
  refine wp_region_any hm ?_
  have hsz : l.toArray.size = n + m + r := by simpa using hl
  rw [hsz]
  refine wpAny_of_X (S := S) (T := n + m) _ _ _ (fun W => W = { w with drawn := w.drawn + 1 }) (fun W hW => by rw [hW]; exact hS) ?_ _ rfl
  have key := wpAnyX_lex (P := P) (Q := Q) (T := n + m) (md := .any) (S := S) (ops := l.toArray) h1 (by rw [hsz]; omega) (fun W => W = { w with drawn := w.drawn + 1 }) (r + m) (l.take n) 0 (none_ (n + m + r)) a
    (by intro j hj; rw [e1] at hj; simp [List.getElem?_take_of_lt hj]) (by rw [e1]; exact h2) (closed_none _) (by simp [none_, hl]) ?_
  · rw [e1, show r + m + n = n + m + r by omega] at key
    exact key
  · refine wpLexV_mono (fun a' h => ?_) _ _ h
    rw [e1]
    have := wpAnyX_chain (P := P) (Q := Q) (T := n + m) (md := .any) (S := S) (ops := l.toArray) r ((l.drop n).take m) n (firstN n 0 (none_ (n + m + r))) a' (fun W => W = { w with drawn := w.drawn + 1 })
      (by intro j hj; rw [e2] at hj; simp [List.getElem?_take_of_lt hj]) (by rw [e2]; exact h3) ?_
    · rw [e2] at this; exact this
    · rw [e2]
      refine wpSteps_mono (fun a'' C h W hW => ?_) _ _ _ h
      have := wpAny_tail (P := P) (Q := Q) (md := .any) (ops := l.toArray) (l.drop (n + m)) (n + m) (firstN m n (firstN n 0 (none_ (n + m + r)))) a'' W (by intro j hj; simp) (by rw [e3]; exact h4) (h W hW)
      rwa [e3] at this
/-- A region that draws: operations of one value each (calls may make blocks), and then the rest, one behind the other. -/
theorem reg_rest {id : Nat} {l : List Oper} {a : Act} {w : World} (n r : Nat) (hm : P.follows .mixedOrders = true) (hl : l.length = n + r)
    (hB : (Region.noSelect l.toArray && lexOk .any l.toArray n n 0 (none_ (n + r)) && full n (firstN n 0 (none_ (n + r))) && tailOk .any l.toArray r n (firstN n 0 (none_ (n + r)))) = true)
    (h : wpLex P l.toArray (fun W => Below w.heap.size w W) (fun a' => ∀ W, Below w.heap.size w W → wpList P l.toArray Q (l.drop n) a' W) (l.take n) a) : (Code.region id l.toArray true).wp P Q a w := by
  simp only [Bool.and_eq_true] at hB
  obtain ⟨⟨⟨h1, h2⟩, h3⟩, h4⟩ := hB
  have e1 : (l.take n).length = n := by simp; omega
  have e3 : (l.drop n).length = r := by simp; omega
  have hsz : l.toArray.size = n + r := by simpa using hl
  refine wp_region_any hm ?_
  rw [hsz]
  refine wpAny_of_R (S := fun W => Below w.heap.size w W) (T := n) _ _ _ (fun W => Below w.heap.size w W) (stable_below w) (fun _ h => h) ?_ _ (below_drawn w)
  have key := wpAnyR_lex (P := P) (Q := Q) (T := n) (md := .any) (S := fun W => Below w.heap.size w W) (ops := l.toArray) h1 (by rw [hsz]; omega) (fun W => Below w.heap.size w W) r (l.take n) 0 (none_ (n + r)) a
    (by intro j hj; rw [e1] at hj; simp [List.getElem?_take_of_lt hj]) (by rw [e1]; exact h2) (closed_none _) (by simp [none_, hl]) ?_
  · rw [e1, Nat.add_comm] at key
    exact key
  · refine wpLex_mono (fun a' h => ?_) _ _ h
    rw [e1]
    have fin : ∀ W, Below w.heap.size w W → wpAny P .any l.toArray Q r (firstN n 0 (none_ (n + r))) a' W := fun W hW => by
      have := wpAny_tail (P := P) (Q := Q) (md := .any) (ops := l.toArray) (l.drop n) n (firstN n 0 (none_ (n + r))) a' W (by intro j hj; simp) (by rw [e3]; exact h4) (h W hW)
      rwa [e3] at this
    cases r with
    | zero => exact ⟨h3, fin⟩
    | succ r =>
      unfold wpAnyR
      rw [if_pos h3]
      exact fin
end
end Go.Proofs.YtiefgmgjlhjjhaaDoor
