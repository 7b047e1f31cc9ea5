import Derived.Test.YtiefgmgjlhjjhaaDoorEo
set_option linter.unusedVariables false
set_option linter.unusedSimpArgs false
namespace Go.Proofs.YtiefgmgjlhjjhaaDoor
open Go.RowKit

section
variable {P : Program} {ops : Array Oper} {Q : Exit → Act → World → Prop} {md : Region.Mode} {S : Nat → World → Prop} {lev : Nat → Nat}

/-- One operation takes the world w to a value and a world of C'. -/
def OpR (P : Program) (o : Oper) (a : Act) (w : World) (C' : Value → World → Prop) : Prop :=
  (∃ v w', (execOp a.eval o).run P w = .ok (.value v) w' ∧ C' v w') ∨ (∃ w', (execOp a.eval o).run P w = .ok .skip w' ∧ C' undef w') ∨
    (∃ f args, (execOp a.eval o).run P w = .ok (.enter f args) w ∧ Calls P f args w (fun e w' => ∃ v, e = .returned v ∧ C' v w'))
theorem OpR.of_same {o : Oper} {a a' : Act} {w : World} {C' : Value → World → Prop} (h : OpR P o a w C') (he : execOp a'.eval o = execOp a.eval o) : OpR P o a' w C' := by
  unfold OpR at *
  rw [he]
  exact h
theorem OpR.wp {o : Oper} {a : Act} {w : World} {C' : Value → World → Prop} {K : Act → World → Prop} (h : OpR P o a w C') (hK : ∀ v w', C' v w' → K (a.put o.dst v) w') : o.wp P a w K Q := by
  unfold Oper.wp
  rcases h with ⟨v, w', h1, h2⟩ | ⟨w', h1, h2⟩ | ⟨f, args, h1, h2⟩
  · rw [h1]; exact hK v w' h2
  · rw [h1]; exact hK undef w' h2
  · rw [h1]
    simp only [Oper.upon]
    refine h2.mono fun e w' ⟨v, he, hc⟩ => ?_
    subst he
    exact hK v w' hc
/-- One operation: of one value, or one that takes the worlds to those of its level. -/
def opZ (P : Program) (ops : Array Oper) (S : Nat → World → Prop) (lev : Nat → Nat) (i : Nat) (K : Act → (World → Prop) → Prop) (a : Act) (C : World → Prop) : Prop :=
  ∃ o, ops[i]? = some o ∧ ((∃ v, UniV P ops C o v a ∧ K (a.put o.dst v) C) ∨
    (lev i ≠ 99 ∧ Region.wanted o (yielded ops a.tmps) = true ∧ ∃ C' : Value → World → Prop, (∀ v w, C' v w → S (lev i) w) ∧ (∀ w, C w → OpR P o a w C') ∧ ∀ v, (∃ w, C' v w) → K (a.put o.dst v) (C' v)))
def wpAnyZ (P : Program) (md : Region.Mode) (ops : Array Oper) (Q : Exit → Act → World → Prop) (S : Nat → World → Prop) (lev : Nat → Nat) : Nat → Array Bool → Act → (World → Prop) → Prop
  | 0, listed, a, C => full ops.size listed = true ∧ ∀ w, C w → wpAny P md ops Q 0 listed a w
  | n + 1, listed, a, C => if full ops.size listed = true then ∀ w, C w → wpAny P md ops Q (n + 1) listed a w
      else Region.ready md ops listed ≠ [] ∧ ∀ i ∈ Region.ready md ops listed, opZ P ops S lev i (fun a' C' => wpAnyZ P md ops Q S lev n (listed.setIfInBounds i true) a' C') a C
theorem opZ_mono {i : Nat} {K K' : Act → (World → Prop) → Prop} {a : Act} {C : World → Prop} (hK : ∀ a C, K a C → K' a C) (h : opZ P ops S lev i K a C) : opZ P ops S lev i K' a C := by
  obtain ⟨o, ho, ⟨v, hv, h⟩ | ⟨hl, hg, C', h1, h2, h⟩⟩ := h
  · exact ⟨o, ho, .inl ⟨v, hv, hK _ _ h⟩⟩
  · exact ⟨o, ho, .inr ⟨hl, hg, C', h1, h2, fun v hv => hK _ _ (h v hv)⟩⟩
theorem wpAny_of_Z : ∀ (n : Nat) (listed : Array Bool) (a : Act) (C : World → Prop), wpAnyZ P md ops Q S lev n listed a C → ∀ w, C w → wpAny P md ops Q n listed a w
  | 0, _, _, _, h, w, hw => h.2 w hw
  | n + 1, listed, a, C, h, w, hw => by
    unfold wpAnyZ at h
    split at h
    · exact h w hw
    · refine ⟨fun h0 => absurd h0 h.1, fun i hi => ?_⟩
      obtain ⟨o, ho, ⟨v, hv, hk⟩ | ⟨hl, hg, C', h1, h2, hk⟩⟩ := h.2 i hi
      · unfold wpOp
        simp only [ho]
        rcases hv with ⟨hwa, hv⟩ | ⟨hwa, rfl⟩
        · simp only [hwa, if_true, Oper.wp, hv w hw, Oper.upon]
          exact .inl (wpAny_of_Z n _ _ C hk w hw)
        · simp only [hwa, Bool.false_eq_true, if_false]
          exact wpAny_of_Z n _ _ C hk w hw
      · unfold wpOp
        simp only [ho, hg, if_true]
        exact .inl ((h2 w hw).wp fun v w' hw' => wpAny_of_Z n _ _ (C' v) (hk v ⟨w', hw'⟩) w' hw')
theorem opZ_put {S0 : World → Prop} {j : Nat} {oi oj : Oper} {v : Value} (hj : ops[j]? = some oj) (hap : oi.apart ops oj = true)
    (hsi : ∀ cs b, oi.op ≠ .select cs b) (hsj : ∀ cs b, oj.op ≠ .select cs b) {K : Act → (World → Prop) → Prop} {a : Act} {C : World → Prop}
    (hSj : lev j = 99 ∨ ∀ w, S (lev j) w → S0 w) (hS : ∀ w, C w → S0 w) (hy : UniV P ops S0 oi v a) (h : opZ P ops S lev j K (a.put oi.dst v) C) :
    opZ P ops S lev j (fun a' C' => UniV P ops S0 oi v a' ∧ (∀ w, C' w → S0 w) ∧ K (a'.put oi.dst v) C') a C := by
  obtain ⟨h1, h2, h3⟩ := Oper.apart_spec hap
  have keep : ∀ u, UniV P ops S0 oi v (a.put oj.dst u) := fun u => hy.of_same (execOp_put oi hsi a oj.dst u h3) (wanted_put oi a oj.dst u h3)
  obtain ⟨o, ho, h⟩ := h
  obtain rfl : oj = o := Option.some.inj (hj.symm.trans ho)
  refine ⟨oj, hj, ?_⟩
  rcases h with ⟨u, hu, hk⟩ | ⟨hl, hg, C', k1, k2, hk⟩
  · refine .inl ⟨u, hu.of_same (execOp_put oj hsj a oi.dst v h1).symm (wanted_put oj a oi.dst v h1).symm, keep u, hS, ?_⟩
    rw [← Act.put_comm a v u h2]; exact hk
  · refine .inr ⟨hl, by rw [← hg]; exact (wanted_put oj a oi.dst v h1).symm, C', k1, fun w hw => (k2 w hw).of_same (execOp_put oj hsj a oi.dst v h1).symm, fun u hu => ⟨keep u, fun w hw => ?_, ?_⟩⟩
    · rcases hSj with hSj | hSj
      · exact absurd hSj hl
      · exact hSj w (k1 u w hw)
    · rw [← Act.put_comm a v u h2]; exact hk u hu
/-- Does number j wait for number i, by at most n steps? -/
def reach (md : Region.Mode) (ops : Array Oper) : Nat → Nat → Nat → Bool
  | 0, _, _ => false
  | n + 1, j, i => match ops[j]? with
    | some o => o.after.any fun e => Region.binds md e && (e.on == i || reach md ops n e.on i)
    | none => false
theorem reach_listed {listed : Array Bool} (hc : Closed md ops listed) : ∀ (n j i : Nat) (oj : Oper), ops[j]? = some oj → (∀ e ∈ oj.after, Region.binds md e = true → listed.getD e.on false = true) → reach md ops n j i = true → listed.getD i false = true
  | 0, _, _, _, _, _, h => by cases h
  | n + 1, j, i, oj, hj, ha, h => by
    simp only [reach, hj] at h
    obtain ⟨e, he, hb⟩ := Array.any_eq_true'.1 h
    simp only [Bool.and_eq_true, Bool.or_eq_true, beq_iff_eq] at hb
    rcases hb with ⟨hb, rfl | hr⟩
    · exact ha e he hb
    · cases hon : ops[e.on]? with
      | none =>
        cases n with
        | zero => cases hr
        | succ n => simp [reach, hon] at hr
      | some o => exact reach_listed hc n e.on i o hon (fun e' he' hb' => hc e.on o hon (ha e he hb) e' he' hb') hr
/-- An operation of one value in the worlds of S0 may be taken first, if what does not wait for it leaves these. -/
theorem wpAnyZ_first {S0 : World → Prop} {i : Nat} {oi : Oper} {v : Value} (hi : ops[i]? = some oi) (hsel : ∀ (j : Nat) (o : Oper) cs b, ops[j]? = some o → o.op ≠ .select cs b)
    (hiT : i < ops.size) (hok : lastOk md ops ops.size i = true) :
    ∀ (fuel : Nat) (listed : Array Bool) (a : Act) (C : World → Prop), (∀ w, C w → S0 w) →
      (∀ j oj, ops[j]? = some oj → j ≠ i → listed.getD j true = false → reach md ops 8 j i = false → lev j = 99 ∨ ∀ w, S (lev j) w → S0 w) →
      (∀ j oj, ops[j]? = some oj → j ≠ i → listed.getD j true = false → (∀ e ∈ oj.after, Region.binds md e = true → e.on ≠ i) → oi.apart ops oj = true) →
      i ∈ Region.ready md ops listed → Closed md ops listed → listed.size = ops.size →
      UniV P ops S0 oi v a →
      wpAnyZ P md ops Q S lev fuel (listed.setIfInBounds i true) (a.put oi.dst v) C → wpAnyZ P md ops Q S lev (fuel + 1) listed a C := by
  intro fuel
  induction fuel with
  | zero =>
    intro listed a C hCS _ _ hr hcl hsz hy H
    have hone := last_one hcl hsz (Nat.le_refl _) hok hr H.1
    have hf := not_full hiT hr
    unfold wpAnyZ
    rw [if_neg (by rw [hf]; simp)]
    refine ⟨fun h => (by rw [h] at hr; cases hr), fun j hj => ?_⟩
    obtain rfl : j = i := hone j hj
    exact ⟨oi, hi, .inl ⟨v, hy.sub hCS, H⟩⟩
  | succ fuel ih =>
    intro listed a C hCS hSS hfree hr hcl hsz hy H
    have hf := not_full hiT hr
    unfold wpAnyZ
    rw [if_neg (by rw [hf]; simp)]
    refine ⟨fun h => (by rw [h] at hr; cases hr), fun j hj => ?_⟩
    by_cases hji : j = i
    · subst hji; exact ⟨oi, hi, .inl ⟨v, hy.sub hCS, H⟩⟩
    · by_cases hfl : full ops.size (listed.setIfInBounds i true) = true
      · exact absurd (last_one hcl hsz (Nat.le_refl _) hok hr hfl j hj) hji
      · unfold wpAnyZ at H
        rw [if_neg hfl] at H
        have h1 := H.2 j (ready_mono hj hji)
        obtain ⟨hjun, oj, hoj, hall⟩ := mem_ready.1 hj
        have hnot : ∀ e ∈ oj.after, Region.binds md e = true → e.on ≠ i := fun e he hb heq => by
          exact getD_no (mem_ready.1 hr).1 (heq ▸ hall e he hb)
        have h2 := opZ_put hoj (hfree j oj hoj hji hjun hnot) (fun cs b => hsel i oi cs b hi) (fun cs b => hsel j oj cs b hoj) (hSS j oj hoj hji hjun (by
          cases hre : reach md ops 8 j i with
          | false => rfl
          | true => exact absurd (reach_listed hcl 8 j i oj hoj hall hre) (getD_no (mem_ready.1 hr).1))) hCS hy h1
        have un : ∀ k, (listed.setIfInBounds j true).getD k true = false → listed.getD k true = false := fun k hun => by
          by_cases hjk : j = k
          · subst hjk; exact hjun
          · rw [getD_set_ne true hjk] at hun; exact hun
        have hr' := ready_mono hr (Ne.symm hji)
        refine opZ_mono (fun a' C' h3 => ih (listed.setIfInBounds j true) a' C' h3.2.1 (fun k ok hk hki hun => hSS k ok hk hki (un k hun)) (fun k ok hk hki hun => hfree k ok hk hki (un k hun)) hr' (hcl.set hj) (by simpa using hsz) h3.1 ?_) h2
        rw [Array.setIfInBounds_comm _ _ hji]
        exact h3.2.2
/-- The operations in a given order: number, class, level. -/
abbrev Zk := Nat × Nat × Nat
def levZ (ks : List Zk) (j : Nat) : Nat := match ks.find? (fun k => k.1 == j) with
  | some (_, c, l) => if c = 1 then l else 99
  | _ => 99
def opsZ (l : List Oper) : List Zk → List (Oper × Nat × Nat)
  | [] => []
  | (k, b) :: r => (l.getD k default, b) :: opsZ l r
def okZ (md : Region.Mode) (ops : Array Oper) (lev : Nat → Nat) : List Zk → Array Bool → Bool
  | [], listed => full ops.size listed && (Region.ready md ops listed).isEmpty
  | (k, c, l) :: r, listed => bif c == 1 then (Region.ready md ops listed == [k]) && decide (k < ops.size) && !full ops.size listed && (lev k == l) && (l != 99) && okZ md ops lev r (listed.setIfInBounds k true)
    else (Region.ready md ops listed).contains k && Region.free md ops listed k && lastOk md ops ops.size k && decide (k < ops.size) && (List.range ops.size).all (fun j => j == k || listed.getD j true || (lev j == 99) || (c != 2 && decide (l ≤ lev j)) || reach md ops 8 j k) && okZ md ops lev r (listed.setIfInBounds k true)
/-- The worlds in which a value holds. -/
def SZ (S : Nat → World → Prop) (c l : Nat) (C : World → Prop) (w : World) : Prop := if c = 2 then C w else S l w
def wpZ (P : Program) (ops : Array Oper) (S : Nat → World → Prop) (K : Act → (World → Prop) → Prop) : List (Oper × Nat × Nat) → Act → (World → Prop) → Prop
  | [], a, C => K a C
  | (o, c, l) :: r, a, C => if c = 1 then Region.wanted o (yielded ops a.tmps) = true ∧ ∃ C' : Value → World → Prop, (∀ v w, C' v w → S l w) ∧ (∀ w, C w → OpR P o a w C') ∧ ∀ v, (∃ w, C' v w) → wpZ P ops S K r (a.put o.dst v) (C' v)
    else ∃ v, UniV P ops (SZ S c l C) o v a ∧ (∀ w, C w → SZ S c l C w) ∧ wpZ P ops S K r (a.put o.dst v) C
theorem wpAnyZ_ord {l : List Oper} (hs : Region.noSelect l.toArray = true) (hA : ∀ (m n : Nat) w, m ≤ n → S n w → S m w) : ∀ (ks : List Zk) (listed : Array Bool) (a : Act) (C : World → Prop), okZ md l.toArray lev ks listed = true → Closed md l.toArray listed → listed.size = l.toArray.size →
    wpZ P l.toArray S (fun a' C' => ∀ w, C' w → Q .normal a' w) (opsZ l ks) a C → wpAnyZ P md l.toArray Q S lev ks.length listed a C
  | [], listed, a, C, hB, _, _, h => by
    simp only [okZ, Bool.and_eq_true] at hB
    exact ⟨hB.1, fun w hw => wpAny_done (by simpa using hB.2) (h w hw) 0⟩
  | (k, c, lv) :: r, listed, a, C, hB, hcl, hsz, h => by
    have hk0 : ∀ (hkT : k < l.toArray.size), l.toArray[k]? = some (l.getD k default) := fun hkT => by
      have hk : k < l.length := by simpa using hkT
      have e0 : l.getD k default = l[k] := by simp [List.getD_eq_getElem?_getD, hk]
      rw [e0]; simp [hk]
    by_cases hc : c = 1
    · subst hc
      simp only [okZ, beq_self_eq_true, cond_true, Bool.and_eq_true, decide_eq_true_eq, beq_iff_eq, Bool.not_eq_true', bne_iff_ne] at hB
      obtain ⟨⟨⟨⟨⟨hr, hkT⟩, hf⟩, hlv⟩, h99⟩, hB'⟩ := hB
      simp only [opsZ, wpZ, if_true] at h
      obtain ⟨hg, C', h1, h3, h⟩ := h
      have hr' : k ∈ Region.ready md l.toArray listed := by rw [hr]; simp
      show wpAnyZ P md l.toArray Q S lev (r.length + 1) listed a C
      unfold wpAnyZ
      rw [if_neg (by rw [hf]; simp)]
      refine ⟨by rw [hr]; simp, fun i hi => ?_⟩
      obtain rfl : i = k := by rw [hr] at hi; simpa using hi
      exact ⟨_, hk0 hkT, .inr ⟨by rw [hlv]; exact h99, hg, C', fun v w hw => by rw [hlv]; exact h1 v w hw, h3, fun v hv => wpAnyZ_ord hs hA r (listed.setIfInBounds i true) _ (C' v) hB' (hcl.set hr') (by simpa using hsz) (h v hv)⟩⟩
    · have hcb : (c == 1) = false := by simpa using hc
      simp only [okZ, hcb, cond_false, Bool.and_eq_true, decide_eq_true_eq] at hB
      obtain ⟨⟨⟨⟨⟨hr, hf⟩, hok⟩, hkT⟩, hlv⟩, hB'⟩ := hB
      simp only [opsZ, wpZ, if_neg hc] at h
      obtain ⟨v, hv, hCS, h⟩ := h
      have hr' : k ∈ Region.ready md l.toArray listed := by simpa using hr
      refine wpAnyZ_first (hk0 hkT) (Region.noSelect_spec hs) hkT hok r.length listed a C hCS ?_ (Region.free_spec (hk0 hkT) hf) hr' hcl hsz hv (wpAnyZ_ord hs hA r _ _ C hB' (hcl.set hr') (by simpa using hsz) h)
      intro j oj hj hjk hun hno
      rw [List.all_eq_true] at hlv
      have hjl : j < l.toArray.size := (Array.getElem?_eq_some_iff.1 hj).1
      have h3 := hlv j (List.mem_range.2 hjl)
      rw [hno, hun, Bool.or_false, Bool.or_false] at h3
      simp only [Bool.or_eq_true, beq_iff_eq, Bool.and_eq_true, bne_iff_ne, decide_eq_true_eq] at h3
      rcases h3 with (h3 | h3) | h3
      · exact absurd h3 hjk
      · exact .inl h3
      · refine .inr fun w hw => ?_
        unfold SZ
        rw [if_neg h3.1]
        exact hA _ _ w h3.2 hw
end
section
variable {P : Program} {n : Nat} {ops : Array Oper} {Q : Exit → Act → World → Prop} {S : Nat → World → Prop}
def wpZE (P : Program) (n : Nat) (ops : Array Oper) (S : Nat → World → Prop) (K : List (Nat × Value) → (World → Prop) → Prop) : List (Oper × Nat × Nat) → List (Nat × Value) → (World → Prop) → Prop
  | [], e, C => K e C
  | (o, c, l) :: r, e, C => if c = 1 then wantE ops e o = some true ∧ (∀ i, o.dst = some i → i < n) ∧ ∃ C' : Value → World → Prop, (∀ v w, C' v w → S l w) ∧ (∀ w, C w → ∀ a, Env n a e → OpR P o a w C') ∧ ∀ v, (∃ w, C' v w) → wpZE P n ops S K r (insE o.dst v e) (C' v)
    else ∃ v, (∀ i, o.dst = some i → i < n) ∧ UniE P n ops (SZ S c l C) o v e ∧ (∀ w, C w → SZ S c l C w) ∧ wpZE P n ops S K r (insE o.dst v e) C
theorem wpZ_of_E {K : Act → (World → Prop) → Prop} {K' : List (Nat × Value) → (World → Prop) → Prop} (hK : ∀ e C, K' e C → ∀ a, Env n a e → K a C) : ∀ (l : List (Oper × Nat × Nat)) (e : List (Nat × Value)) (C : World → Prop) (a : Act), Env n a e → wpZE P n ops S K' l e C → wpZ P ops S K l a C
  | [], e, C, a, ha, h => hK e C h a ha
  | (o, c, l) :: r, e, C, a, ha, h => by
    unfold wpZE at h
    unfold wpZ
    by_cases hc : c = 1
    · rw [if_pos hc] at h ⊢
      obtain ⟨hw, hd, C', h1, h3, h⟩ := h
      exact ⟨wantE_spec ha hw, C', h1, fun w hw => h3 w hw a ha, fun v hv => wpZ_of_E hK r _ (C' v) _ (ha.ins o.dst v hd) (h v hv)⟩
    · rw [if_neg hc] at h ⊢
      obtain ⟨v, hd, hu, hcs, h⟩ := h
      exact ⟨v, hu a ha, hcs, wpZ_of_E hK r _ C _ (ha.ins o.dst v hd) h⟩
theorem EW.ordZ {id : Nat} {l : List Oper} {e : List (Nat × Value)} {w : World} (ks : List Zk) (S : Nat → World → Prop) (C0 : World → Prop) (hm : P.follows .mixedOrders = true) (hl : l.length = ks.length)
    (hB : (Region.noSelect l.toArray && okZ .any l.toArray (levZ ks) ks (none_ ks.length)) = true) (hA : ∀ (m n : Nat) w, m ≤ n → S n w → S m w) (hC : C0 { w with drawn := w.drawn + 1 })
    (h : wpZE P n l.toArray S (fun e' C' => ∀ W, C' W → ∀ a', Env n a' e' → Q .normal a' W) (opsZ l ks) e C0) : EW P n (Code.region id l.toArray true) Q e w := fun a ha => by
  simp only [Bool.and_eq_true] at hB
  refine wp_region_any hm ?_
  rw [show l.toArray.size = ks.length by simpa using hl]
  exact wpAny_of_Z (S := S) (lev := levZ ks) _ _ _ C0 (wpAnyZ_ord hB.1 hA ks (none_ ks.length) a _ hB.2 (closed_none _) (by simp [none_, hl]) (wpZ_of_E (K' := fun e' C' => ∀ W, C' W → ∀ a', Env n a' e' → Q .normal a' W) (fun e' C' hk a' ha' W hW => hk W hW a' ha') _ e _ a ha h)) _ hC
/-- The worlds of a level: all, or those over w. -/
def SB (w : World) (l : Nat) (W : World) : Prop := l = 0 ∨ Below w.heap.size w W
theorem sb_anti (w : World) (m n : Nat) (W : World) (h : m ≤ n) (k : SB w n W) : SB w m W := by
  rcases k with k | k
  · exact .inl (by omega)
  · exact .inr k
theorem sb_of {w W : World} {l : Nat} {C : World → Prop} (h : SZ (SB w) 0 (l + 1) C W) : Below w.heap.size w W := by
  rcases h with h | h
  · cases h
  · exact h
theorem sz0 {w : World} {C : World → Prop} : ∀ W, C W → SZ (SB w) 0 0 C W := fun _ _ => .inl rfl
theorem sz1 {w : World} {l : Nat} {C' : World → Prop} : ∀ W, Below w.heap.size w W → SZ (SB w) 0 l C' W := fun _ h => .inr h
theorem szC {S : Nat → World → Prop} {l : Nat} {C : World → Prop} : ∀ W, C W → SZ S 2 l C W := fun _ h => h
theorem szc_of {S : Nat → World → Prop} {l : Nat} {C : World → Prop} {W : World} (h : SZ S 2 l C W) : C W := h
theorem EW.ordB {id : Nat} {l : List Oper} {e : List (Nat × Value)} {w : World} (ks : List Zk) (hm : P.follows .mixedOrders = true) (hl : l.length = ks.length)
    (hB : (Region.noSelect l.toArray && okZ .any l.toArray (levZ ks) ks (none_ ks.length)) = true)
    (h : wpZE P n l.toArray (SB w) (fun e' C' => ∀ W, C' W → ∀ a', Env n a' e' → Q .normal a' W) (opsZ l ks) e (fun W => Below w.heap.size w W)) : EW P n (Code.region id l.toArray true) Q e w :=
  EW.ordZ ks (SB w) _ hm hl hB (sb_anti w) (below_drawn w) h
end
section
variable {P : Program} {n : Nat} {ops : Array Oper} {S : Nat → World → Prop} {K : List (Nat × Value) → (World → Prop) → Prop} {i c lv : Nat} {ty : TypeId} {ps : String} {af : Array Edge} {gd : Option (Nat × Bool)} {r : List (Oper × Nat × Nat)} {e : List (Nat × Value)} {C : World → Prop}
theorem ZE.val {op : Op} {v : Value} (h1 : decide (c = 1) = false) (hw : wantE ops e ⟨some i, op, ty, ps, af, gd⟩ = some true) (hi : decide (i < n) = true) (hc : ∀ w, C w → SZ S c lv C w) (hrun : ∀ a, Env n a e → ∀ W, SZ S c lv C W → (execOp a.eval ⟨some i, op, ty, ps, af, gd⟩).run P W = .ok (.value v) W) (k : wpZE P n ops S K r ((i, v) :: e) C) : wpZE P n ops S K ((⟨some i, op, ty, ps, af, gd⟩, c, lv) :: r) e C := by
  unfold wpZE
  rw [if_neg (of_decide_eq_false h1)]
  exact ⟨v, fun j hj => by cases hj; exact of_decide_eq_true hi, fun a ha => .inl ⟨wantE_spec ha hw, fun W hW => hrun a ha W hW⟩, hc, k⟩
theorem ZE.skip {op : Op} (h1 : decide (c = 1) = false) (hw : wantE ops e ⟨some i, op, ty, ps, af, gd⟩ = some false) (hi : decide (i < n) = true) (hc : ∀ w, C w → SZ S c lv C w) (k : wpZE P n ops S K r ((i, undef) :: e) C) : wpZE P n ops S K ((⟨some i, op, ty, ps, af, gd⟩, c, lv) :: r) e C := by
  unfold wpZE
  rw [if_neg (of_decide_eq_false h1)]
  exact ⟨undef, fun j hj => by cases hj; exact of_decide_eq_true hi, fun a ha => .inr ⟨wantE_spec ha hw, rfl⟩, hc, k⟩
theorem ZE.move {x : Operand} {v : Value} (h1 : decide (c = 1) = false) (hw : wantE ops e ⟨some i, .move x, ty, ps, af, gd⟩ = some true) (hi : decide (i < n) = true) (hx : evE e x = some v) (hc : ∀ w, C w → SZ S c lv C w)  (k : wpZE P n ops S K r ((i, v) :: e) C) : wpZE P n ops S K ((⟨some i, .move x, ty, ps, af, gd⟩, c, lv) :: r) e C :=
  ZE.val h1 hw hi hc (fun a ha W hW => by simp [execOp, ha.ev hx]) k
theorem ZE.assign {x : Operand} {v : Value} (h1 : decide (c = 1) = false) (hw : wantE ops e ⟨some i, .assign x, ty, ps, af, gd⟩ = some true) (hi : decide (i < n) = true) (hx : evE e x = some v) (hc : ∀ w, C w → SZ S c lv C w)  (k : wpZE P n ops S K r ((i, v) :: e) C) : wpZE P n ops S K ((⟨some i, .assign x, ty, ps, af, gd⟩, c, lv) :: r) e C :=
  ZE.val h1 hw hi hc (fun a ha W hW => by simp [execOp, ha.ev hx]) k
theorem ZE.nilc {x : Operand} {ad : Addr} (h1 : decide (c = 1) = false) (hw : wantE ops e ⟨some i, .nilCheck x, ty, ps, af, gd⟩ = some true) (hi : decide (i < n) = true) (hx : evE e x = some (.pointer (some ad))) (hc : ∀ w, C w → SZ S c lv C w)  (k : wpZE P n ops S K r ((i, .pointer (some ad)) :: e) C) : wpZE P n ops S K ((⟨some i, .nilCheck x, ty, ps, af, gd⟩, c, lv) :: r) e C :=
  ZE.val h1 hw hi hc (fun a ha W hW => by simp [execOp, ha.ev hx]) k
theorem ZE.pick {d x y : Operand} {b : Bool} {v : Value} (h1 : decide (c = 1) = false) (hw : wantE ops e ⟨some i, .pick d x y, ty, ps, af, gd⟩ = some true) (hi : decide (i < n) = true) (hd : evE e d = some (.bool b)) (hx : evE e (if b then x else y) = some v) (hc : ∀ w, C w → SZ S c lv C w)  (k : wpZE P n ops S K r ((i, v) :: e) C) : wpZE P n ops S K ((⟨some i, .pick d x y, ty, ps, af, gd⟩, c, lv) :: r) e C :=
  ZE.val h1 hw hi hc (fun a ha W hW => by cases b <;> simp [execOp, ha.ev hd, ← ha.ev hx, asBool]) k
theorem ZE.field {t : TypeId} {j : Nat} {x : Operand} {u v : Value} (h1 : decide (c = 1) = false) (hw : wantE ops e ⟨some i, .fieldAddr t x j, ty, ps, af, gd⟩ = some true) (hi : decide (i < n) = true) (hx : evE e x = some u) (hc : ∀ w, C w → SZ S c lv C w) (hr : ∀ w, (Instr.fieldAt t u j).run P w = .ok v w) (k : wpZE P n ops S K r ((i, v) :: e) C) : wpZE P n ops S K ((⟨some i, .fieldAddr t x j, ty, ps, af, gd⟩, c, lv) :: r) e C :=
  ZE.val h1 hw hi hc (fun a ha W hW => by simp [execOp, ha.ev hx, hr W, Result.andThen]) k
theorem ZE.index {t : TypeId} {x y : Operand} {u u' v : Value} (h1 : decide (c = 1) = false) (hw : wantE ops e ⟨some i, .indexAddr t x y, ty, ps, af, gd⟩ = some true) (hi : decide (i < n) = true) (hx : evE e x = some u) (hy : evE e y = some u') (hc : ∀ w, C w → SZ S c lv C w) (hr : ∀ w, (Instr.indexAt t u u').run P w = .ok v w) (k : wpZE P n ops S K r ((i, v) :: e) C) : wpZE P n ops S K ((⟨some i, .indexAddr t x y, ty, ps, af, gd⟩, c, lv) :: r) e C :=
  ZE.val h1 hw hi hc (fun a ha W hW => by simp [execOp, ha.ev hx, ha.ev hy, hr W, Result.andThen]) k
theorem ZE.load {t : TypeId} {x : Operand} {u v : Value} (h1 : decide (c = 1) = false) (hw : wantE ops e ⟨some i, .load t x, ty, ps, af, gd⟩ = some true) (hi : decide (i < n) = true) (hx : evE e x = some u) (hc : ∀ w, C w → SZ S c lv C w) (hr : ∀ w, SZ S c lv C w → (Instr.loadAt t u).run P w = .ok v w) (k : wpZE P n ops S K r ((i, v) :: e) C) : wpZE P n ops S K ((⟨some i, .load t x, ty, ps, af, gd⟩, c, lv) :: r) e C :=
  ZE.val h1 hw hi hc (fun a ha W hW => by simp [execOp, ha.ev hx, hr W hW, Result.andThen]) k
theorem ZE.conv {s t : TypeId} {x : Operand} {u v : Value} (h1 : decide (c = 1) = false) (hw : wantE ops e ⟨some i, .convert s t x, ty, ps, af, gd⟩ = some true) (hi : decide (i < n) = true) (hx : evE e x = some u) (hc : ∀ w, C w → SZ S c lv C w) (hr : ∀ w, SZ S c lv C w → (Go.convert s t u).run P w = .ok v w) (k : wpZE P n ops S K r ((i, v) :: e) C) : wpZE P n ops S K ((⟨some i, .convert s t x, ty, ps, af, gd⟩, c, lv) :: r) e C :=
  ZE.val h1 hw hi hc (fun a ha W hW => by simp [execOp, ha.ev hx, hr W hW, Result.andThen]) k
theorem ZE.bin {op : BinOp} {t t2 : TypeId} {x y : Operand} {u u' v : Value} (h1 : decide (c = 1) = false) (hw : wantE ops e ⟨some i, .binOp op t x y t2, ty, ps, af, gd⟩ = some true) (hi : decide (i < n) = true) (hx : evE e x = some u) (hy : evE e y = some u') (hc : ∀ w, C w → SZ S c lv C w) (hr : ∀ w, (do eqGuard op t x y u u'; binOp op t u u' : Sem Value).run P w = .ok v w) (k : wpZE P n ops S K r ((i, v) :: e) C) : wpZE P n ops S K ((⟨some i, .binOp op t x y t2, ty, ps, af, gd⟩, c, lv) :: r) e C :=
  ZE.val h1 hw hi hc (fun a ha W hW => by 
    unfold execOp
    simp only [ha.ev hx, ha.ev hy]
    rw [Sem.run_bind, hr]; rfl) k
theorem ZE.un {op : UnOp} {t : TypeId} {x : Operand} {u v : Value} (h1 : decide (c = 1) = false) (hw : wantE ops e ⟨some i, .unOp op t x, ty, ps, af, gd⟩ = some true) (hi : decide (i < n) = true) (hx : evE e x = some u) (hc : ∀ w, C w → SZ S c lv C w) (hr : ∀ w, (Op.unary op u).run P w = .ok v w) (k : wpZE P n ops S K r ((i, v) :: e) C) : wpZE P n ops S K ((⟨some i, .unOp op t x, ty, ps, af, gd⟩, c, lv) :: r) e C :=
  ZE.val h1 hw hi hc (fun a ha W hW => by simp [execOp, ha.ev hx, hr W, Result.andThen]) k
theorem ZE.extract {j : Nat} {x : Operand} {vs : Array Value} {v : Value} (h1 : decide (c = 1) = false) (hw : wantE ops e ⟨some i, .extract x j, ty, ps, af, gd⟩ = some true) (hi : decide (i < n) = true) (hx : evE e x = some (.tuple vs)) (hc : ∀ w, C w → SZ S c lv C w) (hr : ∀ w, (Instr.extract (.tuple vs) j).run P w = .ok v w) (k : wpZE P n ops S K r ((i, v) :: e) C) : wpZE P n ops S K ((⟨some i, .extract x j, ty, ps, af, gd⟩, c, lv) :: r) e C :=
  ZE.val h1 hw hi hc (fun a ha W hW => by simp [execOp, ha.ev hx, hr W, Result.andThen]) k
theorem ZE.len {t : TypeId} {x : Operand} {u v : Value} (h1 : decide (c = 1) = false) (hw : wantE ops e ⟨some i, .call { callee := .builtin .len, args := #[x], argTypes := #[t] }, ty, ps, af, gd⟩ = some true) (hi : decide (i < n) = true) (hx : evE e x = some u) (hc : ∀ w, C w → SZ S c lv C w) (hr : ∀ w, (Builtin.len_ #[t] ty #[u]).run P w = .ok v w) (k : wpZE P n ops S K r ((i, v) :: e) C) : wpZE P n ops S K ((⟨some i, .call { callee := .builtin .len, args := #[x], argTypes := #[t] }, ty, ps, af, gd⟩, c, lv) :: r) e C :=
  ZE.val h1 hw hi hc (fun a ha W hW => by simp [execOp, resolve, invoke, builtin, ha.ev hx, hr W, Result.andThen]) k
theorem ZE.slice2 {t : TypeId} {x lo hi' : Operand} {u ul uh v : Value} (h1 : decide (c = 1) = false) (hw : wantE ops e ⟨some i, .slice t x (some lo) (some hi') none, ty, ps, af, gd⟩ = some true) (hi : decide (i < n) = true) (hx : evE e x = some u) (hl : evE e lo = some ul) (hh : evE e hi' = some uh) (hc : ∀ w, C w → SZ S c lv C w) (hr : ∀ w, (Instr.sliceAt t u (some ul) (some uh) none).run P w = .ok v w) (k : wpZE P n ops S K r ((i, v) :: e) C) : wpZE P n ops S K ((⟨some i, .slice t x (some lo) (some hi') none, ty, ps, af, gd⟩, c, lv) :: r) e C :=
  ZE.val h1 hw hi hc (fun a ha W hW => by simp [execOp, ha.ev hx, ha.ev hl, ha.ev hh, hr W, Result.andThen]) k
theorem ZE.buildN {t : TypeId} {ps' : List (Nat × Operand)} {v : Value} (vs : List (Nat × Value)) (h1 : decide (c = 1) = false) (hw : wantE ops e ⟨some i, .build t ps'.toArray, ty, ps, af, gd⟩ = some true) (hi : decide (i < n) = true) (hx : ps'.map (fun q => (q.1, evE e q.2)) = vs.map (fun q => (q.1, some q.2))) (hc : ∀ w, C w → SZ S c lv C w) (hr : ∀ w, (Instr.build t vs.toArray).run P w = .ok v w) (k : wpZE P n ops S K r ((i, v) :: e) C) : wpZE P n ops S K ((⟨some i, .build t ps'.toArray, ty, ps, af, gd⟩, c, lv) :: r) e C :=
  ZE.val h1 hw hi hc (fun a ha W hW => by
    have hp : ps'.map (fun q => (q.1, a.eval q.2)) = vs := by
      clear hr hw k
      induction ps' generalizing vs with
      | nil => cases vs with
        | nil => rfl
        | cons _ _ => simp at hx
      | cons x xs ih => cases vs with
        | nil => simp at hx
        | cons y ys =>
          simp only [List.map_cons, List.cons.injEq, Prod.mk.injEq] at hx ⊢
          exact ⟨Prod.ext hx.1.1 (ha.ev hx.1.2), ih ys hx.2⟩
    simp only [execOp, List.map_toArray, hp, Sem.run_bind, hr W, Result.andThen_ok, Sem.run_pure]) k
/-- An operation that turns the world. -/
theorem ZE.turn {o : Oper} (C' : Value → World → Prop) (hw : wantE ops e o = some true) (hi : ∀ i, o.dst = some i → i < n) (h1 : ∀ v w, C' v w → S lv w) (hr : ∀ w, C w → ∀ a, Env n a e → OpR P o a w C') (k : ∀ v, (∃ w, C' v w) → wpZE P n ops S K r (insE o.dst v e) (C' v)) : wpZE P n ops S K ((o, 1, lv) :: r) e C := by
  unfold wpZE
  rw [if_pos rfl]
  exact ⟨hw, hi, C', h1, hr, k⟩
theorem OpR.call {o : Oper} {a : Act} {w : World} {C' : Value → World → Prop} {f : FuncId} {xs : List Operand} {ts : Array TypeId} (ho : o.op = .call { callee := .value (.func f), args := xs.toArray, argTypes := ts }) (args : List Value) (hargs : xs.map a.eval = args) (hen : ∀ (args : Array Value) (W : World), (callFunc f args).run P W = .ok (.enter f args) W)
    (hc : Calls P f args.toArray w (fun x w' => ∃ v, x = .returned v ∧ C' v w')) : OpR P o a w C' := by
  refine .inr (.inr ⟨f, args.toArray, ?_, hc⟩)
  have e : (execOp a.eval o).run P w = (callFunc f (xs.toArray.map a.eval)).run P w := by
    simp [execOp, ho, resolve, Deferred.ofValue, invoke, Act.eval]
  rw [e, hen]
  congr 2
  rw [← hargs]
  simp
theorem args_ev {n : Nat} {e : List (Nat × Value)} {a : Act} (ha : Env n a e) : ∀ {xs : List Operand} {args : List Value}, xs.map (evE e) = args.map some → xs.map a.eval = args
  | [], [], _ => rfl
  | [], _ :: _, h => by simp at h
  | _ :: _, [], h => by simp at h
  | x :: xs, y :: ys, h => by
    simp only [List.map_cons, List.cons.injEq] at h ⊢
    exact ⟨ha.ev h.1, args_ev ha h.2⟩
/-- A call, whatever it answers. -/
theorem ZE.callR {f : FuncId} {xs : List Operand} {ts : Array TypeId} (args : List Value) (C' : Value → World → Prop) (hen : ∀ (args : Array Value) (W : World), (callFunc f args).run P W = .ok (.enter f args) W)
    (hw : wantE ops e ⟨some i, .call { callee := .value (.func f), args := xs.toArray, argTypes := ts }, ty, ps, af, gd⟩ = some true) (hi : decide (i < n) = true) (hx : xs.map (evE e) = args.map some) (h1 : ∀ v w, C' v w → S lv w) (hc : ∀ w, C w → Calls P f args.toArray w (fun x w' => ∃ v, x = .returned v ∧ C' v w'))
    (k : ∀ v, (∃ w, C' v w) → wpZE P n ops S K r ((i, v) :: e) (C' v)) : wpZE P n ops S K ((⟨some i, .call { callee := .value (.func f), args := xs.toArray, argTypes := ts }, ty, ps, af, gd⟩, 1, lv) :: r) e C :=
  ZE.turn C' hw (fun j hj => by cases hj; exact of_decide_eq_true hi) h1 (fun w hw a ha => OpR.call rfl args (args_ev ha hx) hen (hc w hw)) k
/-- A call that answers v. -/
theorem ZE.callV {f : FuncId} {xs : List Operand} {ts : Array TypeId} (args : List Value) (v : Value) (C2 : World → Prop) (hen : ∀ (args : Array Value) (W : World), (callFunc f args).run P W = .ok (.enter f args) W)
    (hw : wantE ops e ⟨some i, .call { callee := .value (.func f), args := xs.toArray, argTypes := ts }, ty, ps, af, gd⟩ = some true) (hi : decide (i < n) = true) (hx : xs.map (evE e) = args.map some) (h1 : ∀ W, C2 W → S lv W) (hc : ∀ W, C W → Calls P f args.toArray W (fun x w' => x = .returned v ∧ C2 w'))
    (k : wpZE P n ops S K r ((i, v) :: e) C2) : wpZE P n ops S K ((⟨some i, .call { callee := .value (.func f), args := xs.toArray, argTypes := ts }, ty, ps, af, gd⟩, 1, lv) :: r) e C :=
  ZE.callR args (fun u W => u = v ∧ C2 W) hen hw hi hx (fun _ W h => h1 W h.2) (fun W hW => (hc W hW).mono fun x w' h => ⟨v, h.1, rfl, h.2⟩) (fun u ⟨_, h⟩ => by
    obtain ⟨rfl, _⟩ := h
    have : (fun W => u = u ∧ C2 W) = C2 := by funext W; simp
    show wpZE P n ops S K r ((i, u) :: e) (fun W => u = u ∧ C2 W)
    rw [this]
    exact k)
/-- A store. -/
theorem ZE.store {t : TypeId} {x y : Operand} {u u' : Value} (C' : World → Prop) (hw : wantE ops e ⟨none, .store t x y, ty, ps, af, gd⟩ = some true) (hx : evE e x = some u) (hy : evE e y = some u') (h1 : ∀ w, C' w → S lv w) (hr : ∀ w, C w → ∃ w', (Instr.storeAt t u u').run P w = .ok () w' ∧ C' w') (k : wpZE P n ops S K r e C') : wpZE P n ops S K ((⟨none, .store t x y, ty, ps, af, gd⟩, 1, lv) :: r) e C :=
  ZE.turn (fun _ => C') hw (fun j hj => by cases hj) (fun _ => h1) (fun W hW a ha => by
    obtain ⟨w', h2, h3⟩ := hr W hW
    exact .inr (.inl ⟨w', (by simp [execOp, ha.ev hx, ha.ev hy, h2, Result.andThen]), h3⟩)) (fun _ _ => k)
/-- An operation that answers a value and turns the world. -/
theorem ZE.eff {op : Op} (C' : Value → World → Prop) (hw : wantE ops e ⟨some i, op, ty, ps, af, gd⟩ = some true) (hi : decide (i < n) = true) (h1 : ∀ v w, C' v w → S lv w) (hr : ∀ w, C w → ∃ v w', (∀ a, Env n a e → (execOp a.eval ⟨some i, op, ty, ps, af, gd⟩).run P w = .ok (.value v) w') ∧ C' v w') (k : ∀ v, (∃ w, C' v w) → wpZE P n ops S K r ((i, v) :: e) (C' v)) : wpZE P n ops S K ((⟨some i, op, ty, ps, af, gd⟩, 1, lv) :: r) e C :=
  ZE.turn C' hw (fun j hj => by cases hj; exact of_decide_eq_true hi) h1 (fun W hW a ha => by
    obtain ⟨v, w', h2, h3⟩ := hr W hW
    exact .inl ⟨v, w', h2 a ha, h3⟩) k
theorem ZE.bsl {t : TypeId} {m : Nat} {ps' : List (Nat × Operand)} (vs : List (Nat × Value)) (C' : Value → World → Prop) (hw : wantE ops e ⟨some i, .buildSlice t m ps'.toArray, ty, ps, af, gd⟩ = some true) (hi : decide (i < n) = true) (hx : ps'.map (fun q => (q.1, evE e q.2)) = vs.map (fun q => (q.1, some q.2))) (h1 : ∀ v w, C' v w → S lv w) (hr : ∀ w, C w → ∃ v w', (Instr.buildSlice t m vs.toArray).run P w = .ok v w' ∧ C' v w') (k : ∀ v, (∃ w, C' v w) → wpZE P n ops S K r ((i, v) :: e) (C' v)) : wpZE P n ops S K ((⟨some i, .buildSlice t m ps'.toArray, ty, ps, af, gd⟩, 1, lv) :: r) e C :=
  ZE.eff C' hw hi h1 (fun W hW => by
    obtain ⟨v, w', h2, h3⟩ := hr W hW
    refine ⟨v, w', fun a ha => ?_, h3⟩
    have hp : ps'.map (fun q => (q.1, a.eval q.2)) = vs := by
      clear h2 hr hw k
      induction ps' generalizing vs with
      | nil => cases vs with
        | nil => rfl
        | cons _ _ => simp at hx
      | cons x xs ih => cases vs with
        | nil => simp at hx
        | cons y ys =>
          simp only [List.map_cons, List.cons.injEq, Prod.mk.injEq] at hx ⊢
          exact ⟨Prod.ext hx.1.1 (ha.ev hx.1.2), ih ys hx.2⟩
    simp only [execOp, List.map_toArray, hp, Sem.run_bind, h2, Result.andThen_ok, Sem.run_pure]) k
end
theorem EW.cond_d {P : Program} {n : Nat} {Q : Exit → Act → World → Prop} {e : List (Nat × Value)} {w : World} {c : Operand} {x y : Code} {p : Prop} [Decidable p] (hc : evE e c = some (.bool (decide p))) (ht : p → EW P n x Q e w) (hf : ¬ p → EW P n y Q e w) : EW P n (.cond c x y) Q e w := by
  by_cases hp : p
  · rw [decide_eq_true hp] at hc
    exact EW.cond true hc (ht hp)
  · rw [decide_eq_false hp] at hc
    exact EW.cond false hc (hf hp)
theorem EW.cond_b {P : Program} {n : Nat} {Q : Exit → Act → World → Prop} {e : List (Nat × Value)} {w : World} {c : Operand} {x y : Code} {b : Bool} (hc : evE e c = some (.bool b)) (ht : b = true → EW P n x Q e w) (hf : b = false → EW P n y Q e w) : EW P n (.cond c x y) Q e w := by
  cases b
  · exact EW.cond false hc (hf rfl)
  · exact EW.cond true hc (ht rfl)
section
variable {P : Program} {n : Nat} {ops : Array Oper} {i : Nat} {ty : TypeId} {ps : String} {af : Array Edge} {gd : Option (Nat × Bool)} {e : List (Nat × Value)} {w w' : World}
theorem WL.bslN {Q : Exit → Act → World → Prop} {r : List Oper} {t : TypeId} {m : Nat} {ps' : List (Nat × Operand)} {v : Value} (vs : List (Nat × Value)) (hw : wantE ops e ⟨some i, .buildSlice t m ps'.toArray, ty, ps, af, gd⟩ = some true) (hi : decide (i < n) = true) (hx : ps'.map (fun q => (q.1, evE e q.2)) = vs.map (fun q => (q.1, some q.2))) (hr : (Instr.buildSlice t m vs.toArray).run P w = .ok v w') (k : WL P n ops Q r ((i, v) :: e) w') : WL P n ops Q (⟨some i, .buildSlice t m ps'.toArray, ty, ps, af, gd⟩ :: r) e w :=
  WL.op i v hw rfl hi (fun a ha => by
    have hp : ps'.map (fun q => (q.1, a.eval q.2)) = vs := by
      clear hr hw k
      induction ps' generalizing vs with
      | nil => cases vs with
        | nil => rfl
        | cons _ _ => simp at hx
      | cons x xs ih => cases vs with
        | nil => simp at hx
        | cons y ys =>
          simp only [List.map_cons, List.cons.injEq, Prod.mk.injEq] at hx ⊢
          exact ⟨Prod.ext hx.1.1 (ha.ev hx.1.2), ih ys hx.2⟩
    simp only [execOp, List.map_toArray, hp, Sem.run_bind, hr, Result.andThen_ok, Sem.run_pure]) k
theorem WL.buildN {Q : Exit → Act → World → Prop} {r : List Oper} {t : TypeId} {ps' : List (Nat × Operand)} {v : Value} (vs : List (Nat × Value)) (hw : wantE ops e ⟨some i, .build t ps'.toArray, ty, ps, af, gd⟩ = some true) (hi : decide (i < n) = true) (hx : ps'.map (fun q => (q.1, evE e q.2)) = vs.map (fun q => (q.1, some q.2))) (hr : (Instr.build t vs.toArray).run P w = .ok v w) (k : WL P n ops Q r ((i, v) :: e) w) : WL P n ops Q (⟨some i, .build t ps'.toArray, ty, ps, af, gd⟩ :: r) e w :=
  WL.op i v hw rfl hi (fun a ha => by
    have hp : ps'.map (fun q => (q.1, a.eval q.2)) = vs := by
      clear hr hw k
      induction ps' generalizing vs with
      | nil => cases vs with
        | nil => rfl
        | cons _ _ => simp at hx
      | cons x xs ih => cases vs with
        | nil => simp at hx
        | cons y ys =>
          simp only [List.map_cons, List.cons.injEq, Prod.mk.injEq] at hx ⊢
          exact ⟨Prod.ext hx.1.1 (ha.ev hx.1.2), ih ys hx.2⟩
    simp only [execOp, List.map_toArray, hp, Sem.run_bind, hr, Result.andThen_ok, Sem.run_pure]) k
end
end Go.Proofs.YtiefgmgjlhjjhaaDoor
