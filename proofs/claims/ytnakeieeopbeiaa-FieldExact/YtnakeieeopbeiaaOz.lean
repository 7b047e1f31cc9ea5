import Derived.Test.YtnakeieeopbeiaaEo
set_option linter.unusedVariables false
set_option linter.unusedSimpArgs false
namespace Go.Proofs.Ytnakeieeopbeiaa
open Go.RowKit

section
variable {P : Program} {ops : Array Oper} {Q : Exit → Act → World → Prop} {md : Region.Mode} {S : Nat → World → Prop} {lev : Nat → Nat}

/-- One operation: of one value, or one that takes the worlds to those of its level. -/
def opZ (P : Program) (ops : Array Oper) (S : Nat → World → Prop) (lev : Nat → Nat) (i : Nat) (K : Act → (World → Prop) → Prop) (a : Act) (C : World → Prop) : Prop :=
  ∃ o, ops[i]? = some o ∧ ((∃ v, UniV P ops C o v a ∧ K (a.put o.dst v) C) ∨
    (Region.wanted o (yielded ops a.tmps) = true ∧ ∃ v C', (∀ w, C' w → S (lev i) w) ∧ (∀ w, C w → OpTo P o a w v C') ∧ K (a.put o.dst v) C'))
def wpAnyZ (P : Program) (md : Region.Mode) (ops : Array Oper) (Q : Exit → Act → World → Prop) (S : Nat → World → Prop) (lev : Nat → Nat) : Nat → Array Bool → Act → (World → Prop) → Prop
  | 0, listed, a, C => full ops.size listed = true ∧ ∀ w, C w → wpAny P md ops Q 0 listed a w
  | n + 1, listed, a, C => if full ops.size listed = true then ∀ w, C w → wpAny P md ops Q (n + 1) listed a w
      else Region.ready md ops listed ≠ [] ∧ ∀ i ∈ Region.ready md ops listed, opZ P ops S lev i (fun a' C' => wpAnyZ P md ops Q S lev n (listed.setIfInBounds i true) a' C') a C
theorem opZ_mono {i : Nat} {K K' : Act → (World → Prop) → Prop} {a : Act} {C : World → Prop} (hK : ∀ a C, K a C → K' a C) (h : opZ P ops S lev i K a C) : opZ P ops S lev i K' a C := by
  obtain ⟨o, ho, ⟨v, hv, h⟩ | ⟨hg, v, C', h1, h2, h⟩⟩ := h
  · exact ⟨o, ho, .inl ⟨v, hv, hK _ _ h⟩⟩
  · exact ⟨o, ho, .inr ⟨hg, v, C', h1, h2, hK _ _ h⟩⟩
theorem wpAny_of_Z : ∀ (n : Nat) (listed : Array Bool) (a : Act) (C : World → Prop), wpAnyZ P md ops Q S lev n listed a C → ∀ w, C w → wpAny P md ops Q n listed a w
  | 0, _, _, _, h, w, hw => h.2 w hw
  | n + 1, listed, a, C, h, w, hw => by
    unfold wpAnyZ at h
    split at h
    · exact h w hw
    · refine ⟨fun h0 => absurd h0 h.1, fun i hi => ?_⟩
      obtain ⟨o, ho, ⟨v, hv, hk⟩ | ⟨hg, v, C', h1, h2, hk⟩⟩ := h.2 i hi
      · unfold wpOp
        simp only [ho]
        rcases hv with ⟨hwa, hv⟩ | ⟨hwa, rfl⟩
        · simp only [hwa, if_true, Oper.wp, hv w hw, Oper.upon]
          exact .inl (wpAny_of_Z n _ _ C hk w hw)
        · simp only [hwa, Bool.false_eq_true, if_false]
          exact wpAny_of_Z n _ _ C hk w hw
      · unfold wpOp
        simp only [ho, hg, if_true]
        exact .inl ((h2 w hw).wp fun w' hw' => wpAny_of_Z n _ _ C' hk w' hw')
theorem opZ_put {S0 : World → Prop} {j : Nat} {oi oj : Oper} {v : Value} (hj : ops[j]? = some oj) (hap : oi.apart ops oj = true)
    (hsi : ∀ cs b, oi.op ≠ .select cs b) (hsj : ∀ cs b, oj.op ≠ .select cs b) {K : Act → (World → Prop) → Prop} {a : Act} {C : World → Prop}
    (hSj : ∀ w, S (lev j) w → S0 w) (hS : ∀ w, C w → S0 w) (hy : UniV P ops S0 oi v a) (h : opZ P ops S lev j K (a.put oi.dst v) C) :
    opZ P ops S lev j (fun a' C' => UniV P ops S0 oi v a' ∧ (∀ w, C' w → S0 w) ∧ K (a'.put oi.dst v) C') a C := by
  obtain ⟨h1, h2, h3⟩ := Oper.apart_spec hap
  have keep : ∀ u, UniV P ops S0 oi v (a.put oj.dst u) := fun u => hy.of_same (execOp_put oi hsi a oj.dst u h3) (wanted_put oi a oj.dst u h3)
  obtain ⟨o, ho, h⟩ := h
  obtain rfl : oj = o := Option.some.inj (hj.symm.trans ho)
  refine ⟨oj, hj, ?_⟩
  rcases h with ⟨u, hu, hk⟩ | ⟨hg, u, C', k1, k2, hk⟩
  · refine .inl ⟨u, hu.of_same (execOp_put oj hsj a oi.dst v h1).symm (wanted_put oj a oi.dst v h1).symm, keep u, hS, ?_⟩
    rw [← Act.put_comm a v u h2]; exact hk
  · refine .inr ⟨by rw [← hg]; exact (wanted_put oj a oi.dst v h1).symm, u, C', k1, fun w hw => (k2 w hw).of_same (execOp_put oj hsj a oi.dst v h1).symm, keep u, fun w hw => hSj w (k1 w hw), ?_⟩
    rw [← Act.put_comm a v u h2]; exact hk
/-- Does number j wait for number i, by at most n steps? -/
def reach (md : Region.Mode) (ops : Array Oper) : Nat → Nat → Nat → Bool
  | 0, _, _ => false
  | n + 1, j, i => match ops[j]? with
    | some o => o.after.any fun e => Region.binds md e && (e.on == i || reach md ops n e.on i)
    | none => false
theorem reach_listed {listed : Array Bool} (hc : Closed md ops listed) : ∀ (n j i : Nat) (oj : Oper), ops[j]? = some oj → (∀ e ∈ oj.after, Region.binds md e = true → listed.getD e.on false = true) → reach md ops n j i = true → listed.getD i false = true
  | 0, _, _, _, _, _, h => by cases h
  | n + 1, j, i, oj, hj, ha, h => by
    simp only [reach, hj] at h
    obtain ⟨e, he, hb⟩ := Array.any_eq_true'.1 h
    simp only [Bool.and_eq_true, Bool.or_eq_true, beq_iff_eq] at hb
    rcases hb with ⟨hb, rfl | hr⟩
    · exact ha e he hb
    · cases hon : ops[e.on]? with
      | none =>
        cases n with
        | zero => cases hr
        | succ n => simp [reach, hon] at hr
      | some o => exact reach_listed hc n e.on i o hon (fun e' he' hb' => hc e.on o hon (ha e he hb) e' he' hb') hr
/-- An operation of one value in the worlds of S0 may be taken first, if what does not wait for it leaves these. -/
theorem wpAnyZ_first {S0 : World → Prop} {i : Nat} {oi : Oper} {v : Value} (hi : ops[i]? = some oi) (hsel : ∀ (j : Nat) (o : Oper) cs b, ops[j]? = some o → o.op ≠ .select cs b)
    (hiT : i < ops.size) (hok : lastOk md ops ops.size i = true)
    (hSS : ∀ j oj, ops[j]? = some oj → j ≠ i → reach md ops 3 j i = false → ∀ w, S (lev j) w → S0 w) :
    ∀ (fuel : Nat) (listed : Array Bool) (a : Act) (C : World → Prop), (∀ w, C w → S0 w) →
      (∀ j oj, ops[j]? = some oj → j ≠ i → listed.getD j true = false → (∀ e ∈ oj.after, Region.binds md e = true → e.on ≠ i) → oi.apart ops oj = true) →
      i ∈ Region.ready md ops listed → Closed md ops listed → listed.size = ops.size →
      UniV P ops S0 oi v a →
      wpAnyZ P md ops Q S lev fuel (listed.setIfInBounds i true) (a.put oi.dst v) C → wpAnyZ P md ops Q S lev (fuel + 1) listed a C := by
  intro fuel
  induction fuel with
  | zero =>
    intro listed a C hCS _ hr hcl hsz hy H
    have hone := last_one hcl hsz (Nat.le_refl _) hok hr H.1
    have hf := not_full hiT hr
    unfold wpAnyZ
    rw [if_neg (by rw [hf]; simp)]
    refine ⟨fun h => (by rw [h] at hr; cases hr), fun j hj => ?_⟩
    obtain rfl : j = i := hone j hj
    exact ⟨oi, hi, .inl ⟨v, hy.sub hCS, H⟩⟩
  | succ fuel ih =>
    intro listed a C hCS hfree hr hcl hsz hy H
    have hf := not_full hiT hr
    unfold wpAnyZ
    rw [if_neg (by rw [hf]; simp)]
    refine ⟨fun h => (by rw [h] at hr; cases hr), fun j hj => ?_⟩
    by_cases hji : j = i
    · subst hji; exact ⟨oi, hi, .inl ⟨v, hy.sub hCS, H⟩⟩
    · by_cases hfl : full ops.size (listed.setIfInBounds i true) = true
      · exact absurd (last_one hcl hsz (Nat.le_refl _) hok hr hfl j hj) hji
      · unfold wpAnyZ at H
        rw [if_neg hfl] at H
        have h1 := H.2 j (ready_mono hj hji)
        obtain ⟨hjun, oj, hoj, hall⟩ := mem_ready.1 hj
        have hnot : ∀ e ∈ oj.after, Region.binds md e = true → e.on ≠ i := fun e he hb heq => by
          exact getD_no (mem_ready.1 hr).1 (heq ▸ hall e he hb)
        have h2 := opZ_put hoj (hfree j oj hoj hji hjun hnot) (fun cs b => hsel i oi cs b hi) (fun cs b => hsel j oj cs b hoj) (hSS j oj hoj hji (by
          cases hre : reach md ops 3 j i with
          | false => rfl
          | true => exact absurd (reach_listed hcl 3 j i oj hoj hall hre) (getD_no (mem_ready.1 hr).1))) hCS hy h1
        have hfree' : ∀ k ok, ops[k]? = some ok → k ≠ i → (listed.setIfInBounds j true).getD k true = false →
            (∀ e ∈ ok.after, Region.binds md e = true → e.on ≠ i) → oi.apart ops ok = true := fun k ok hk hki hun hno => by
          refine hfree k ok hk hki ?_ hno
          by_cases hjk : j = k
          · subst hjk; exact hjun
          · rw [getD_set_ne true hjk] at hun; exact hun
        have hr' := ready_mono hr (Ne.symm hji)
        refine opZ_mono (fun a' C' h3 => ih (listed.setIfInBounds j true) a' C' h3.2.1 hfree' hr' (hcl.set hj) (by simpa using hsz) h3.1 ?_) h2
        rw [Array.setIfInBounds_comm _ _ hji]
        exact h3.2.2

/-- The operations in a given order: number, does it turn the world, level. -/
abbrev Zk := Nat × Bool × Nat
def levZ (ks : List Zk) (j : Nat) : Nat := match ks.find? (fun k => k.1 == j) with
  | some (_, true, l) => l
  | _ => 99
def opsZ (l : List Oper) : List Zk → List (Oper × Bool × Nat)
  | [] => []
  | (k, b) :: r => (l.getD k default, b) :: opsZ l r
def okZ (md : Region.Mode) (ops : Array Oper) (lev : Nat → Nat) : List Zk → Array Bool → Bool
  | [], listed => full ops.size listed && (Region.ready md ops listed).isEmpty
  | (k, false, l) :: r, listed => (Region.ready md ops listed).contains k && Region.free md ops listed k && lastOk md ops ops.size k && decide (k < ops.size) && (List.range ops.size).all (fun j => j == k || decide (l ≤ lev j) || reach md ops 3 j k) && okZ md ops lev r (listed.setIfInBounds k true)
  | (k, true, l) :: r, listed => (Region.ready md ops listed == [k]) && decide (k < ops.size) && !full ops.size listed && (lev k == l) && okZ md ops lev r (listed.setIfInBounds k true)
def wpZ (P : Program) (ops : Array Oper) (S : Nat → World → Prop) (K : Act → (World → Prop) → Prop) : List (Oper × Bool × Nat) → Act → (World → Prop) → Prop
  | [], a, C => K a C
  | (o, false, l) :: r, a, C => ∃ v, UniV P ops (S l) o v a ∧ (∀ w, C w → S l w) ∧ wpZ P ops S K r (a.put o.dst v) C
  | (o, true, l) :: r, a, C => Region.wanted o (yielded ops a.tmps) = true ∧ ∃ v C', (∀ w, C' w → S l w) ∧ (∀ w, C w → OpTo P o a w v C') ∧ wpZ P ops S K r (a.put o.dst v) C'
theorem wpAnyZ_ord {l : List Oper} (hs : Region.noSelect l.toArray = true) (hA : ∀ (m n : Nat) w, m ≤ n → S n w → S m w) : ∀ (ks : List Zk) (listed : Array Bool) (a : Act) (C : World → Prop), okZ md l.toArray lev ks listed = true → Closed md l.toArray listed → listed.size = l.toArray.size →
    wpZ P l.toArray S (fun a' C' => ∀ w, C' w → Q .normal a' w) (opsZ l ks) a C → wpAnyZ P md l.toArray Q S lev ks.length listed a C
  | [], listed, a, C, hB, _, _, h => by
    simp only [okZ, Bool.and_eq_true] at hB
    exact ⟨hB.1, fun w hw => wpAny_done (by simpa using hB.2) (h w hw) 0⟩
  | (k, false, lv) :: r, listed, a, C, hB, hcl, hsz, ⟨v, hv, hCS, h⟩ => by
    simp only [okZ, Bool.and_eq_true, decide_eq_true_eq] at hB
    obtain ⟨⟨⟨⟨⟨hr, hf⟩, hok⟩, hkT⟩, hlv⟩, hB'⟩ := hB
    have hr' : k ∈ Region.ready md l.toArray listed := by simpa using hr
    have hk : k < l.length := by simpa using hkT
    have e0 : l.getD k default = l[k] := by simp [List.getD_eq_getElem?_getD, hk]
    have h0 : l.toArray[k]? = some (l.getD k default) := by rw [e0]; simp [hk]
    refine wpAnyZ_first h0 (Region.noSelect_spec hs) hkT hok ?_ r.length listed a C hCS (Region.free_spec h0 hf) hr' hcl hsz hv (wpAnyZ_ord hs hA r _ _ C hB' (hcl.set hr') (by simpa using hsz) h)
    intro j oj hj hjk hno w hw
    rw [List.all_eq_true] at hlv
    have hjl : j < l.toArray.size := (Array.getElem?_eq_some_iff.1 hj).1
    have h3 := hlv j (List.mem_range.2 hjl)
    rw [hno, Bool.or_false, Bool.or_eq_true, beq_iff_eq, decide_eq_true_eq] at h3
    rcases h3 with h3 | h3
    · exact absurd h3 hjk
    · exact hA _ _ w h3 hw
  | (k, true, lv) :: r, listed, a, C, hB, hcl, hsz, ⟨hg, v, C', h1, h3, h⟩ => by
    simp only [okZ, Bool.and_eq_true, decide_eq_true_eq, beq_iff_eq, Bool.not_eq_true'] at hB
    obtain ⟨⟨⟨⟨hr, hkT⟩, hf⟩, hlv⟩, hB'⟩ := hB
    have hr' : k ∈ Region.ready md l.toArray listed := by rw [hr]; simp
    have hk : k < l.length := by simpa using hkT
    have e0 : l.getD k default = l[k] := by simp [List.getD_eq_getElem?_getD, hk]
    have h0 : l.toArray[k]? = some (l.getD k default) := by rw [e0]; simp [hk]
    have ih := wpAnyZ_ord hs hA r (listed.setIfInBounds k true) _ C' hB' (hcl.set hr') (by simpa using hsz) h
    show wpAnyZ P md l.toArray Q S lev (r.length + 1) listed a C
    unfold wpAnyZ
    rw [if_neg (by rw [hf]; simp)]
    refine ⟨by rw [hr]; simp, fun i hi => ?_⟩
    obtain rfl : i = k := by rw [hr] at hi; simpa using hi
    exact ⟨_, h0, .inr ⟨hg, v, C', fun w hw => by rw [hlv]; exact h1 w hw, h3, ih⟩⟩
end
section
variable {P : Program} {n : Nat} {ops : Array Oper} {Q : Exit → Act → World → Prop} {S : Nat → World → Prop}
def wpZE (P : Program) (n : Nat) (ops : Array Oper) (S : Nat → World → Prop) (K : List (Nat × Value) → (World → Prop) → Prop) : List (Oper × Bool × Nat) → List (Nat × Value) → (World → Prop) → Prop
  | [], e, C => K e C
  | (o, false, l) :: r, e, C => ∃ v, (∀ i, o.dst = some i → i < n) ∧ UniE P n ops (S l) o v e ∧ (∀ w, C w → S l w) ∧ wpZE P n ops S K r (insE o.dst v e) C
  | (o, true, l) :: r, e, C => wantE ops e o = some true ∧ (∀ i, o.dst = some i → i < n) ∧ ∃ v C', (∀ w, C' w → S l w) ∧ (∀ w, C w → ∀ a, Env n a e → OpTo P o a w v C') ∧ wpZE P n ops S K r (insE o.dst v e) C'
theorem wpZ_of_E {K : Act → (World → Prop) → Prop} : ∀ (l : List (Oper × Bool × Nat)) (e : List (Nat × Value)) (C : World → Prop) (a : Act), Env n a e → wpZE P n ops S (fun e' C' => ∀ a', Env n a' e' → K a' C') l e C → wpZ P ops S K l a C
  | [], e, C, a, ha, h => h a ha
  | (o, false, l) :: r, e, C, a, ha, ⟨v, hd, hu, hc, h⟩ => ⟨v, hu a ha, hc, wpZ_of_E r _ C _ (ha.ins o.dst v hd) h⟩
  | (o, true, l) :: r, e, C, a, ha, ⟨hw, hd, v, C', h1, h3, h⟩ => ⟨wantE_spec ha hw, v, C', h1, fun w hw => h3 w hw a ha, wpZ_of_E r _ C' _ (ha.ins o.dst v hd) h⟩
theorem wpZE_mono {K K' : List (Nat × Value) → (World → Prop) → Prop} (hK : ∀ e C, K e C → K' e C) : ∀ (l : List (Oper × Bool × Nat)) (e : List (Nat × Value)) (C : World → Prop), wpZE P n ops S K l e C → wpZE P n ops S K' l e C
  | [], e, C, h => hK e C h
  | (o, false, l) :: r, e, C, ⟨v, h1, h2, h3, h⟩ => ⟨v, h1, h2, h3, wpZE_mono hK r _ C h⟩
  | (o, true, l) :: r, e, C, ⟨h1, h2, v, C', h3, h4, h⟩ => ⟨h1, h2, v, C', h3, h4, wpZE_mono hK r _ C' h⟩
theorem EW.ordZ {id : Nat} {l : List Oper} {e : List (Nat × Value)} {w : World} (ks : List Zk) (S : Nat → World → Prop) (C0 : World → Prop) (hm : P.follows .mixedOrders = true) (hl : l.length = ks.length)
    (hB : (Region.noSelect l.toArray && okZ .any l.toArray (levZ ks) ks (none_ ks.length)) = true) (hA : ∀ (m n : Nat) w, m ≤ n → S n w → S m w) (hC : C0 { w with drawn := w.drawn + 1 })
    (h : wpZE P n l.toArray S (fun e' C' => ∀ W, C' W → ∀ a', Env n a' e' → Q .normal a' W) (opsZ l ks) e C0) : EW P n (Code.region id l.toArray true) Q e w := fun a ha => by
  simp only [Bool.and_eq_true] at hB
  refine wp_region_any hm ?_
  rw [show l.toArray.size = ks.length by simpa using hl]
  exact wpAny_of_Z (S := S) (lev := levZ ks) _ _ _ C0 (wpAnyZ_ord hB.1 hA ks (none_ ks.length) a _ hB.2 (closed_none _) (by simp [none_, hl]) (wpZ_of_E _ e _ a ha (wpZE_mono (fun e' C' hk a' ha' W hW => hk W hW a' ha') _ _ _ h))) _ hC
/-- The worlds of a level: all, or those over w. -/
def SB (w : World) (l : Nat) (W : World) : Prop := l = 0 ∨ Below w.heap.size w W
theorem sb_anti (w : World) (m n : Nat) (W : World) (h : m ≤ n) (k : SB w n W) : SB w m W := by
  rcases k with k | k
  · exact .inl (by omega)
  · exact .inr k
theorem sb_of {w W : World} {l : Nat} (h : SB w (l + 1) W) : Below w.heap.size w W := by
  rcases h with h | h
  · cases h
  · exact h
theorem sb0 {w : World} {C : World → Prop} : ∀ W, C W → SB w 0 W := fun _ _ => .inl rfl
theorem sb1 {w : World} {l : Nat} : ∀ W, Below w.heap.size w W → SB w l W := fun _ h => .inr h
theorem EW.ordB {id : Nat} {l : List Oper} {e : List (Nat × Value)} {w : World} (ks : List Zk) (hm : P.follows .mixedOrders = true) (hl : l.length = ks.length)
    (hB : (Region.noSelect l.toArray && okZ .any l.toArray (levZ ks) ks (none_ ks.length)) = true)
    (h : wpZE P n l.toArray (SB w) (fun e' C' => ∀ W, C' W → ∀ a', Env n a' e' → Q .normal a' W) (opsZ l ks) e (fun W => Below w.heap.size w W)) : EW P n (Code.region id l.toArray true) Q e w :=
  EW.ordZ ks (SB w) _ hm hl hB (sb_anti w) (below_drawn w) h
end
section
variable {P : Program} {n : Nat} {ops : Array Oper} {S : Nat → World → Prop} {K : List (Nat × Value) → (World → Prop) → Prop} {i lv : Nat} {ty : TypeId} {ps : String} {af : Array Edge} {gd : Option (Nat × Bool)} {r : List (Oper × Bool × Nat)} {e : List (Nat × Value)} {C : World → Prop}
theorem ZE.val {op : Op} {v : Value} (hw : wantE ops e ⟨some i, op, ty, ps, af, gd⟩ = some true) (hi : decide (i < n) = true) (hc : ∀ w, C w → S lv w) (hrun : ∀ a, Env n a e → ∀ W, S lv W → (execOp a.eval ⟨some i, op, ty, ps, af, gd⟩).run P W = .ok (.value v) W) (k : wpZE P n ops S K r ((i, v) :: e) C) : wpZE P n ops S K ((⟨some i, op, ty, ps, af, gd⟩, false, lv) :: r) e C :=
  ⟨v, fun j hj => by cases hj; exact of_decide_eq_true hi, fun a ha => .inl ⟨wantE_spec ha hw, fun W hW => hrun a ha W hW⟩, hc, k⟩
theorem ZE.skip {op : Op} (hw : wantE ops e ⟨some i, op, ty, ps, af, gd⟩ = some false) (hi : decide (i < n) = true) (hc : ∀ w, C w → S lv w) (k : wpZE P n ops S K r ((i, undef) :: e) C) : wpZE P n ops S K ((⟨some i, op, ty, ps, af, gd⟩, false, lv) :: r) e C :=
  ⟨undef, fun j hj => by cases hj; exact of_decide_eq_true hi, fun a ha => .inr ⟨wantE_spec ha hw, rfl⟩, hc, k⟩
theorem ZE.move {x : Operand} {v : Value} (hw : wantE ops e ⟨some i, .move x, ty, ps, af, gd⟩ = some true) (hi : decide (i < n) = true) (hx : evE e x = some v) (hc : ∀ w, C w → S lv w) (k : wpZE P n ops S K r ((i, v) :: e) C) : wpZE P n ops S K ((⟨some i, .move x, ty, ps, af, gd⟩, false, lv) :: r) e C :=
  ZE.val hw hi hc (fun a ha W hW => by simp [execOp, ha.ev hx]) k
theorem ZE.assign {x : Operand} {v : Value} (hw : wantE ops e ⟨some i, .assign x, ty, ps, af, gd⟩ = some true) (hi : decide (i < n) = true) (hx : evE e x = some v) (hc : ∀ w, C w → S lv w) (k : wpZE P n ops S K r ((i, v) :: e) C) : wpZE P n ops S K ((⟨some i, .assign x, ty, ps, af, gd⟩, false, lv) :: r) e C :=
  ZE.val hw hi hc (fun a ha W hW => by simp [execOp, ha.ev hx]) k
theorem ZE.nilc {x : Operand} {ad : Addr} (hw : wantE ops e ⟨some i, .nilCheck x, ty, ps, af, gd⟩ = some true) (hi : decide (i < n) = true) (hx : evE e x = some (.pointer (some ad))) (hc : ∀ w, C w → S lv w) (k : wpZE P n ops S K r ((i, .pointer (some ad)) :: e) C) : wpZE P n ops S K ((⟨some i, .nilCheck x, ty, ps, af, gd⟩, false, lv) :: r) e C :=
  ZE.val hw hi hc (fun a ha W hW => by simp [execOp, ha.ev hx]) k
theorem ZE.field {t : TypeId} {j : Nat} {x : Operand} {u v : Value} (hw : wantE ops e ⟨some i, .fieldAddr t x j, ty, ps, af, gd⟩ = some true) (hi : decide (i < n) = true) (hx : evE e x = some u) (hc : ∀ w, C w → S lv w) (hr : ∀ w, (Instr.fieldAt t u j).run P w = .ok v w) (k : wpZE P n ops S K r ((i, v) :: e) C) : wpZE P n ops S K ((⟨some i, .fieldAddr t x j, ty, ps, af, gd⟩, false, lv) :: r) e C :=
  ZE.val hw hi hc (fun a ha W hW => by simp [execOp, ha.ev hx, hr W, Result.andThen]) k
theorem ZE.index {t : TypeId} {x y : Operand} {u u' v : Value} (hw : wantE ops e ⟨some i, .indexAddr t x y, ty, ps, af, gd⟩ = some true) (hi : decide (i < n) = true) (hx : evE e x = some u) (hy : evE e y = some u') (hc : ∀ w, C w → S lv w) (hr : ∀ w, (Instr.indexAt t u u').run P w = .ok v w) (k : wpZE P n ops S K r ((i, v) :: e) C) : wpZE P n ops S K ((⟨some i, .indexAddr t x y, ty, ps, af, gd⟩, false, lv) :: r) e C :=
  ZE.val hw hi hc (fun a ha W hW => by simp [execOp, ha.ev hx, ha.ev hy, hr W, Result.andThen]) k
theorem ZE.load {t : TypeId} {x : Operand} {u v : Value} (hw : wantE ops e ⟨some i, .load t x, ty, ps, af, gd⟩ = some true) (hi : decide (i < n) = true) (hx : evE e x = some u) (hc : ∀ w, C w → S lv w) (hr : ∀ w, S lv w → (Instr.loadAt t u).run P w = .ok v w) (k : wpZE P n ops S K r ((i, v) :: e) C) : wpZE P n ops S K ((⟨some i, .load t x, ty, ps, af, gd⟩, false, lv) :: r) e C :=
  ZE.val hw hi hc (fun a ha W hW => by simp [execOp, ha.ev hx, hr W hW, Result.andThen]) k
theorem ZE.conv {s t : TypeId} {x : Operand} {u v : Value} (hw : wantE ops e ⟨some i, .convert s t x, ty, ps, af, gd⟩ = some true) (hi : decide (i < n) = true) (hx : evE e x = some u) (hc : ∀ w, C w → S lv w) (hr : ∀ w, S lv w → (Go.convert s t u).run P w = .ok v w) (k : wpZE P n ops S K r ((i, v) :: e) C) : wpZE P n ops S K ((⟨some i, .convert s t x, ty, ps, af, gd⟩, false, lv) :: r) e C :=
  ZE.val hw hi hc (fun a ha W hW => by simp [execOp, ha.ev hx, hr W hW, Result.andThen]) k
theorem ZE.bin {op : BinOp} {t t2 : TypeId} {x y : Operand} {u u' v : Value} (hw : wantE ops e ⟨some i, .binOp op t x y t2, ty, ps, af, gd⟩ = some true) (hi : decide (i < n) = true) (hx : evE e x = some u) (hy : evE e y = some u') (hc : ∀ w, C w → S lv w) (hr : ∀ w, (do eqGuard op t x y u u'; binOp op t u u' : Sem Value).run P w = .ok v w) (k : wpZE P n ops S K r ((i, v) :: e) C) : wpZE P n ops S K ((⟨some i, .binOp op t x y t2, ty, ps, af, gd⟩, false, lv) :: r) e C :=
  ZE.val hw hi hc (fun a ha W hW => by
    unfold execOp
    simp only [ha.ev hx, ha.ev hy]
    rw [Sem.run_bind, hr]; rfl) k
theorem ZE.extract {j : Nat} {x : Operand} {vs : Array Value} {v : Value} (hw : wantE ops e ⟨some i, .extract x j, ty, ps, af, gd⟩ = some true) (hi : decide (i < n) = true) (hx : evE e x = some (.tuple vs)) (hc : ∀ w, C w → S lv w) (hr : ∀ w, (Instr.extract (.tuple vs) j).run P w = .ok v w) (k : wpZE P n ops S K r ((i, v) :: e) C) : wpZE P n ops S K ((⟨some i, .extract x j, ty, ps, af, gd⟩, false, lv) :: r) e C :=
  ZE.val hw hi hc (fun a ha W hW => by simp [execOp, ha.ev hx, hr W, Result.andThen]) k
theorem ZE.call {f : FuncId} {xs : List Operand} {ts : Array TypeId} (args : List Value) (v : Value) (C' : World → Prop) (hen : ∀ (args : Array Value) (W : World), (callFunc f args).run P W = .ok (.enter f args) W)
    (hw : wantE ops e ⟨some i, .call { callee := .value (.func f), args := xs.toArray, argTypes := ts }, ty, ps, af, gd⟩ = some true) (hi : decide (i < n) = true) (hx : xs.map (evE e) = args.map some) (h1 : ∀ w, C' w → S lv w) (hc : ∀ w, C w → Calls P f args.toArray w (fun x w' => x = .returned v ∧ C' w'))
    (k : wpZE P n ops S K r ((i, v) :: e) C') : wpZE P n ops S K ((⟨some i, .call { callee := .value (.func f), args := xs.toArray, argTypes := ts }, ty, ps, af, gd⟩, true, lv) :: r) e C :=
  ⟨hw, fun j hj => by cases hj; exact of_decide_eq_true hi, v, C', h1, fun w hw a ha => by
    have hargs : xs.map a.eval = args := by
      clear hc hw
      induction xs generalizing args with
      | nil => cases args with
        | nil => rfl
        | cons _ _ => simp at hx
      | cons x xs ih => cases args with
        | nil => simp at hx
        | cons y ys =>
          simp only [List.map_cons, List.cons.injEq] at hx ⊢
          exact ⟨ha.ev hx.1, ih ys ‹_› hx.2⟩
    exact OpTo.call f xs ts rfl args v hargs hen (hc w hw), k⟩
/-- A call that makes blocks alone. -/
theorem ZE.callB {f : FuncId} {xs : List Operand} {ts : Array TypeId} {v : Value} {w : World} (args : List Value) (hen : ∀ (args : Array Value) (W : World), (callFunc f args).run P W = .ok (.enter f args) W)
    (hw : wantE ops e ⟨some i, .call { callee := .value (.func f), args := xs.toArray, argTypes := ts }, ty, ps, af, gd⟩ = some true) (hi : decide (i < n) = true) (hx : xs.map (evE e) = args.map some) (h1 : ∀ W, Below w.heap.size w W → S lv W) (hc : ∀ W, Below w.heap.size w W → Calls P f args.toArray W (fun x w' => x = .returned v ∧ Below W.heap.size W w'))
    (k : wpZE P n ops S K r ((i, v) :: e) (fun W => Below w.heap.size w W)) : wpZE P n ops S K ((⟨some i, .call { callee := .value (.func f), args := xs.toArray, argTypes := ts }, ty, ps, af, gd⟩, true, lv) :: r) e (fun W => Below w.heap.size w W) :=
  ZE.call args v (fun W => Below w.heap.size w W) hen hw hi hx h1 (fun W hW => (hc W hW).mono fun x w' h => ⟨h.1, hW.trans (h.2.mono hW.size)⟩) k
/-- A call that leaves the world. -/
theorem ZE.callQ {f : FuncId} {xs : List Operand} {ts : Array TypeId} {v : Value} (args : List Value) (hen : ∀ (args : Array Value) (W : World), (callFunc f args).run P W = .ok (.enter f args) W)
    (hw : wantE ops e ⟨some i, .call { callee := .value (.func f), args := xs.toArray, argTypes := ts }, ty, ps, af, gd⟩ = some true) (hi : decide (i < n) = true) (hx : xs.map (evE e) = args.map some) (h1 : ∀ W, C W → S lv W) (hc : ∀ W, Calls P f args.toArray W (fun x w' => x = .returned v ∧ w' = W))
    (k : wpZE P n ops S K r ((i, v) :: e) C) : wpZE P n ops S K ((⟨some i, .call { callee := .value (.func f), args := xs.toArray, argTypes := ts }, ty, ps, af, gd⟩, true, lv) :: r) e C :=
  ZE.call args v C hen hw hi hx h1 (fun W hW => (hc W).mono fun x w' h => ⟨h.1, by rw [h.2]; exact hW⟩) k
theorem ZE.store {t : TypeId} {x y : Operand} {u u' : Value} (C' : World → Prop) (hw : wantE ops e ⟨none, .store t x y, ty, ps, af, gd⟩ = some true) (hx : evE e x = some u) (hy : evE e y = some u') (h1 : ∀ w, C' w → S lv w) (hr : ∀ w, C w → ∃ w', (Instr.storeAt t u u').run P w = .ok () w' ∧ C' w') (k : wpZE P n ops S K r e C') : wpZE P n ops S K ((⟨none, .store t x y, ty, ps, af, gd⟩, true, lv) :: r) e C :=
  ⟨hw, fun j hj => (by cases hj), undef, C', h1, fun W hW a ha => by
    obtain ⟨w', h2, h3⟩ := hr W hW
    exact .inr (.inl ⟨rfl, w', (by simp [execOp, ha.ev hx, ha.ev hy, h2, Result.andThen]), h3⟩), k⟩
end
end Go.Proofs.Ytnakeieeopbeiaa
