import Derived.Test.YtiefgmgjlhjjhaaDoorOz
set_option linter.unusedVariables false
set_option linter.unusedSimpArgs false
namespace Go.Proofs.YtiefgmgjlhjjhaaDoor
open Go.RowKit

section
variable {P : Program} {ops : Array Oper} {Q : Exit → Act → World → Prop} {md : Region.Mode} {lev : Nat → Nat}
def okS (md : Region.Mode) (ops : Array Oper) (lev : Nat → Nat) : List Zk → Array Bool → Bool
  | [], _ => true
  | (k, c, l) :: r, listed => bif c == 1 then (Region.ready md ops listed == [k]) && decide (k < ops.size) && !full ops.size listed && (lev k == l) && (l != 99) && okS md ops lev r (listed.setIfInBounds k true)
    else (Region.ready md ops listed).contains k && Region.free md ops listed k && lastOk md ops ops.size k && decide (k < ops.size) && (List.range ops.size).all (fun j => j == k || listed.getD j true || (lev j == 99) || (c != 2 && decide (l ≤ lev j)) || reach md ops 8 j k) && okS md ops lev r (listed.setIfInBounds k true)
def lstd : List Zk → Array Bool → Array Bool
  | [], listed => listed
  | (k, _) :: r, listed => lstd r (listed.setIfInBounds k true)
theorem wpAnyZ_seg {l : List Oper} {S : Nat → World → Prop} (hs : Region.noSelect l.toArray = true) (hA : ∀ (m n : Nat) w, m ≤ n → S n w → S m w) (m : Nat) : ∀ (ks : List Zk) (listed : Array Bool) (a : Act) (C : World → Prop), okS md l.toArray lev ks listed = true → Closed md l.toArray listed → listed.size = l.toArray.size →
    wpZ P l.toArray S (fun a' C' => Closed md l.toArray (lstd ks listed) → (lstd ks listed).size = l.toArray.size → wpAnyZ P md l.toArray Q S lev m (lstd ks listed) a' C') (opsZ l ks) a C → wpAnyZ P md l.toArray Q S lev (m + ks.length) listed a C
  | [], listed, a, C, hB, hcl, hsz, h => h hcl hsz
  | (k, c, lv) :: r, listed, a, C, hB, hcl, hsz, h => by
    have hk0 : ∀ (hkT : k < l.toArray.size), l.toArray[k]? = some (l.getD k default) := fun hkT => by
      have hk : k < l.length := by simpa using hkT
      have e0 : l.getD k default = l[k] := by simp [List.getD_eq_getElem?_getD, hk]
      rw [e0]; simp [hk]
    by_cases hc : c = 1
    · subst hc
      simp only [okS, beq_self_eq_true, cond_true, Bool.and_eq_true, decide_eq_true_eq, beq_iff_eq, Bool.not_eq_true', bne_iff_ne] at hB
      obtain ⟨⟨⟨⟨⟨hr, hkT⟩, hf⟩, hlv⟩, h99⟩, hB'⟩ := hB
      simp only [opsZ, wpZ, if_true] at h
      obtain ⟨hg, C', h1, h3, h⟩ := h
      have hr' : k ∈ Region.ready md l.toArray listed := by rw [hr]; simp
      show wpAnyZ P md l.toArray Q S lev ((m + r.length) + 1) listed a C
      unfold wpAnyZ
      rw [if_neg (by rw [hf]; simp)]
      refine ⟨by rw [hr]; simp, fun i hi => ?_⟩
      obtain rfl : i = k := by rw [hr] at hi; simpa using hi
      exact ⟨_, hk0 hkT, .inr ⟨by rw [hlv]; exact h99, hg, C', fun v w hw => by rw [hlv]; exact h1 v w hw, h3, fun v hv => wpAnyZ_seg hs hA m r (listed.setIfInBounds i true) _ (C' v) hB' (hcl.set hr') (by simpa using hsz) (h v hv)⟩⟩
    · have hcb : (c == 1) = false := by simpa using hc
      simp only [okS, hcb, cond_false, Bool.and_eq_true, decide_eq_true_eq] at hB
      obtain ⟨⟨⟨⟨⟨hr, hf⟩, hok⟩, hkT⟩, hlv⟩, hB'⟩ := hB
      simp only [opsZ, wpZ, if_neg hc] at h
      obtain ⟨v, hv, hCS, h⟩ := h
      have hr' : k ∈ Region.ready md l.toArray listed := by simpa using hr
      refine wpAnyZ_first (hk0 hkT) (Region.noSelect_spec hs) hkT hok (m + r.length) listed a C hCS ?_ (Region.free_spec (hk0 hkT) hf) hr' hcl hsz hv (wpAnyZ_seg hs hA m r _ _ C hB' (hcl.set hr') (by simpa using hsz) h)
      intro j oj hj hjk hun hno
      rw [List.all_eq_true] at hlv
      have hjl : j < l.toArray.size := (Array.getElem?_eq_some_iff.1 hj).1
      have h3 := hlv j (List.mem_range.2 hjl)
      rw [hno, hun, Bool.or_false, Bool.or_false] at h3
      simp only [Bool.or_eq_true, beq_iff_eq, Bool.and_eq_true, bne_iff_ne, decide_eq_true_eq] at h3
      rcases h3 with (h3 | h3) | h3
      · exact absurd h3 hjk
      · exact .inl h3
      · refine .inr fun w hw => ?_
        unfold SZ
        rw [if_neg h3.1]
        exact hA _ _ w h3.2 hw
end
section
variable {P : Program} {n : Nat} {Q : Exit → Act → World → Prop} {lev : Nat → Nat} {e : List (Nat × Value)} {C : World → Prop} {l : List Oper} {S : Nat → World → Prop} {listed : Array Bool}
/-- A region that draws, from a point on: in whatever order the rest is done. -/
def AZ (P : Program) (n : Nat) (l : List Oper) (Q : Exit → Act → World → Prop) (S : Nat → World → Prop) (lev : Nat → Nat) (m : Nat) (listed : Array Bool) (e : List (Nat × Value)) (C : World → Prop) : Prop :=
  Closed .any l.toArray listed → listed.size = l.toArray.size → ∀ a, Env n a e → wpAnyZ P .any l.toArray Q S lev m listed a C
/-- Operations in a given order, and then the rest. -/
theorem AZ.seg {M : Nat} (ks : List Zk) (m : Nat) (hM : M = m + ks.length) (hs : Region.noSelect l.toArray = true) (hA : ∀ (m n : Nat) w, m ≤ n → S n w → S m w) (hB : okS .any l.toArray lev ks listed = true) (h : wpZE P n l.toArray S (fun e' C' => AZ P n l Q S lev m (lstd ks listed) e' C') (opsZ l ks) e C) : AZ P n l Q S lev M listed e C := fun hcl hsz a ha => by
  rw [hM]
  exact wpAnyZ_seg hs hA m ks listed a C hB hcl hsz (wpZ_of_E (K' := fun e' C' => AZ P n l Q S lev m (lstd ks listed) e' C') (fun e' C' hk a' ha' hc hz => hk hc hz a' ha') _ e _ a ha h)
theorem AZ.done (hf : (full l.toArray.size listed && (Region.ready .any l.toArray listed).isEmpty) = true) (h : ∀ W, C W → ∀ a, Env n a e → Q .normal a W) : AZ P n l Q S lev 0 listed e C := fun hcl hsz a ha => by
  simp only [Bool.and_eq_true] at hf
  exact ⟨hf.1, fun w hw => wpAny_done (by simpa using hf.2) (h w hw a ha) 0⟩
theorem turn_of_E {k lk : Nat} {m : Nat} {o : Oper} (ho : l.toArray[k]? = some o) (hr : k ∈ Region.ready .any l.toArray listed) (hlv : lev k = lk) (h99 : lk ≠ 99) (hcl : Closed .any l.toArray listed) (hsz : listed.size = l.toArray.size) {a : Act} (ha : Env n a e) (h : wpZE P n l.toArray S (fun e' C' => AZ P n l Q S lev m (listed.setIfInBounds k true) e' C') [(o, 1, lk)] e C) : opZ P l.toArray S lev k (fun a' C' => wpAnyZ P .any l.toArray Q S lev m (listed.setIfInBounds k true) a' C') a C := by
  simp only [wpZE, if_true] at h
  obtain ⟨hw, hd, C', h1, h3, h⟩ := h
  exact ⟨o, ho, .inr ⟨by rw [hlv]; exact h99, wantE_spec ha hw, C', fun v w hw => by rw [hlv]; exact h1 v w hw, fun w hw => h3 w hw a ha, fun v hv => h v hv (hcl.set hr) (by simpa using hsz) _ (ha.ins o.dst v hd)⟩⟩
/-- Two that turn the world are ready: whichever is first. -/
theorem AZ.two {M : Nat} (m k1 l1 k2 l2 : Nat) (hM : M = m + 1) (hB : (Region.ready .any l.toArray listed == [k1, k2] && !full l.toArray.size listed && decide (k1 < l.length) && decide (k2 < l.length) && lev k1 == l1 && lev k2 == l2 && l1 != 99 && l2 != 99) = true)
    (h1 : wpZE P n l.toArray S (fun e' C' => AZ P n l Q S lev m (listed.setIfInBounds k1 true) e' C') [(l.getD k1 default, 1, l1)] e C)
    (h2 : wpZE P n l.toArray S (fun e' C' => AZ P n l Q S lev m (listed.setIfInBounds k2 true) e' C') [(l.getD k2 default, 1, l2)] e C) : AZ P n l Q S lev M listed e C := fun hcl hsz a ha => by
  simp only [Bool.and_eq_true, beq_iff_eq, Bool.not_eq_true', decide_eq_true_eq, bne_iff_ne] at hB
  obtain ⟨⟨⟨⟨⟨⟨⟨hr, hf⟩, g1⟩, g2⟩, v1⟩, v2⟩, n1⟩, n2⟩ := hB
  have hk0 : ∀ k, k < l.length → l.toArray[k]? = some (l.getD k default) := fun k hk => by
    have e0 : l.getD k default = l[k] := by simp [List.getD_eq_getElem?_getD, hk]
    rw [e0]; simp [hk]
  rw [hM]
  unfold wpAnyZ
  rw [if_neg (by rw [hf]; simp)]
  refine ⟨by rw [hr]; simp, fun i hi => ?_⟩
  have hi' : i = k1 ∨ i = k2 := by rw [hr] at hi; simpa using hi
  rcases hi' with rfl | rfl
  · exact turn_of_E (hk0 _ g1) hi v1 n1 hcl hsz ha h1
  · exact turn_of_E (hk0 _ g2) hi v2 n2 hcl hsz ha h2
theorem EW.az {id : Nat} {w : World} (S : Nat → World → Prop) (lev : Nat → Nat) (C0 : World → Prop) (M : Nat) (hm : P.follows .mixedOrders = true) (hM : l.length = M) (hC : C0 { w with drawn := w.drawn + 1 }) (h : AZ P n l Q S lev M (none_ M) e C0) : EW P n (Code.region id l.toArray true) Q e w := fun a ha => by
  refine wp_region_any hm ?_
  rw [show l.toArray.size = M by simpa using hM]
  exact wpAny_of_Z (S := S) (lev := lev) _ _ _ C0 (h (closed_none _) (by simp [none_, hM]) a ha) _ hC
end
end Go.Proofs.YtiefgmgjlhjjhaaDoor
