import Derived.Test.YtiefgmgjlhjjhaaDoorWq
set_option linter.unusedVariables false
set_option linter.unusedSimpArgs false
namespace Go.Proofs.YtiefgmgjlhjjhaaDoor
open Go.RowKit

section
variable {P : Program} {ops : Array Oper} {Q : Exit → Act → World → Prop} {md : Region.Mode}

def opY (P : Program) (ops : Array Oper) (S : World → Prop) (i : Nat) (K : Act → (World → Prop) → Prop) (a : Act) (C : World → Prop) : Prop :=
  ∃ o, ops[i]? = some o ∧ ((∃ v, UniV P ops C o v a ∧ K (a.put o.dst v) C) ∨
    (Region.wanted o (yielded ops a.tmps) = true ∧ ∃ v C', (∀ w, C' w → S w) ∧ (∀ w, C w → OpTo P o a w v C') ∧ K (a.put o.dst v) C'))

def wpAnyY (P : Program) (md : Region.Mode) (ops : Array Oper) (Q : Exit → Act → World → Prop) (S : World → Prop) : Nat → Array Bool → Act → (World → Prop) → Prop
  | 0, listed, a, C => full ops.size listed = true ∧ ∀ w, C w → wpAny P md ops Q 0 listed a w
  | n + 1, listed, a, C => if full ops.size listed = true then ∀ w, C w → wpAny P md ops Q (n + 1) listed a w
      else Region.ready md ops listed ≠ [] ∧ ∀ i ∈ Region.ready md ops listed, opY P ops S i (fun a' C' => wpAnyY P md ops Q S n (listed.setIfInBounds i true) a' C') a C

theorem opY_mono {S : World → Prop} {i : Nat} {K K' : Act → (World → Prop) → Prop} {a : Act} {C : World → Prop} (hC : ∀ w, C w → S w) (hK : ∀ a C, (∀ w, C w → S w) → K a C → K' a C) (h : opY P ops S i K a C) : opY P ops S i K' a C := by
  obtain ⟨o, ho, ⟨v, hv, h⟩ | ⟨hg, v, C', h1, h2, h⟩⟩ := h
  · exact ⟨o, ho, .inl ⟨v, hv, hK _ _ hC h⟩⟩
  · exact ⟨o, ho, .inr ⟨hg, v, C', h1, h2, hK _ _ h1 h⟩⟩
theorem opY_wide {S S' : World → Prop} (hS : ∀ w, S' w → S w) {i : Nat} {K K' : Act → (World → Prop) → Prop} (hK : ∀ a C, K a C → K' a C) {a : Act} {C : World → Prop} (h : opY P ops S' i K a C) : opY P ops S i K' a C := by
  obtain ⟨o, ho, ⟨v, hv, h⟩ | ⟨hg, v, C', h1, h2, h⟩⟩ := h
  · exact ⟨o, ho, .inl ⟨v, hv, hK _ _ h⟩⟩
  · exact ⟨o, ho, .inr ⟨hg, v, C', fun w hw => hS w (h1 w hw), h2, hK _ _ h⟩⟩
/-- The worlds may be more. -/
theorem wpAnyY_wide {S S' : World → Prop} (hS : ∀ w, S' w → S w) : ∀ (n : Nat) (listed : Array Bool) (a : Act) (C : World → Prop), wpAnyY P md ops Q S' n listed a C → wpAnyY P md ops Q S n listed a C
  | 0, _, _, _, h => h
  | n + 1, listed, a, C, h => by
    unfold wpAnyY at h ⊢
    split at h
    · rename_i hf
      rw [if_pos hf]
      exact h
    · rename_i hf
      rw [if_neg hf]
      exact ⟨h.1, fun i hi => opY_wide hS (fun a C hk => wpAnyY_wide hS n _ a C hk) (h.2 i hi)⟩

theorem wpAny_of_Y {S : World → Prop} : ∀ (n : Nat) (listed : Array Bool) (a : Act) (C : World → Prop), wpAnyY P md ops Q S n listed a C → ∀ w, C w → wpAny P md ops Q n listed a w
  | 0, _, _, _, h, w, hw => h.2 w hw
  | n + 1, listed, a, C, h, w, hw => by
    unfold wpAnyY at h
    split at h
    · exact h w hw
    · refine ⟨fun h0 => absurd h0 h.1, fun i hi => ?_⟩
      obtain ⟨o, ho, ⟨v, hv, hk⟩ | ⟨hg, v, C', h1, h2, hk⟩⟩ := h.2 i hi
      · unfold wpOp
        simp only [ho]
        rcases hv with ⟨hwa, hv⟩ | ⟨hwa, rfl⟩
        · simp only [hwa, if_true, Oper.wp, hv w hw, Oper.upon]
          exact .inl (wpAny_of_Y n _ _ C hk w hw)
        · simp only [hwa, Bool.false_eq_true, if_false]
          exact wpAny_of_Y n _ _ C hk w hw
      · unfold wpOp
        simp only [ho, hg, if_true]
        exact .inl ((h2 w hw).wp fun w' hw' => wpAny_of_Y n _ _ C' hk w' hw')

theorem UniV.sub {S C : World → Prop} {o : Oper} {v : Value} {a : Act} (h : UniV P ops S o v a) (hC : ∀ w, C w → S w) : UniV P ops C o v a := by
  rcases h with ⟨h1, h2⟩ | h
  · exact .inl ⟨h1, fun w hw => h2 w (hC w hw)⟩
  · exact .inr h
theorem opY_put {S : World → Prop} {j : Nat} {oi oj : Oper} {v : Value} (hj : ops[j]? = some oj) (hap : oi.apart ops oj = true)
    (hsi : ∀ cs b, oi.op ≠ .select cs b) (hsj : ∀ cs b, oj.op ≠ .select cs b) {K : Act → (World → Prop) → Prop} {a : Act} {C : World → Prop}
    (hy : UniV P ops S oi v a) (h : opY P ops S j K (a.put oi.dst v) C) :
    opY P ops S j (fun a' C' => UniV P ops S oi v a' ∧ K (a'.put oi.dst v) C') a C := by
  obtain ⟨h1, h2, h3⟩ := Oper.apart_spec hap
  have keep : ∀ u, UniV P ops S oi v (a.put oj.dst u) := fun u => hy.of_same (execOp_put oi hsi a oj.dst u h3) (wanted_put oi a oj.dst u h3)
  obtain ⟨o, ho, h⟩ := h
  obtain rfl : oj = o := Option.some.inj (hj.symm.trans ho)
  refine ⟨oj, hj, ?_⟩
  rcases h with ⟨u, hu, hk⟩ | ⟨hg, u, C', k1, k2, hk⟩
  · refine .inl ⟨u, hu.of_same (execOp_put oj hsj a oi.dst v h1).symm (wanted_put oj a oi.dst v h1).symm, keep u, ?_⟩
    rw [← Act.put_comm a v u h2]; exact hk
  · refine .inr ⟨by rw [← hg]; exact (wanted_put oj a oi.dst v h1).symm, u, C', k1, fun w hw => (k2 w hw).of_same (execOp_put oj hsj a oi.dst v h1).symm, keep u, ?_⟩
    rw [← Act.put_comm a v u h2]; exact hk

theorem wpAnyY_first {S : World → Prop} {i : Nat} {oi : Oper} {v : Value} (hi : ops[i]? = some oi) (hsel : ∀ (j : Nat) (o : Oper) cs b, ops[j]? = some o → o.op ≠ .select cs b)
    (hiT : i < ops.size) (hok : lastOk md ops ops.size i = true) :
    ∀ (fuel : Nat) (listed : Array Bool) (a : Act) (C : World → Prop), (∀ w, C w → S w) →
      (∀ j oj, ops[j]? = some oj → j ≠ i → listed.getD j true = false → (∀ e ∈ oj.after, Region.binds md e = true → e.on ≠ i) → oi.apart ops oj = true) →
      i ∈ Region.ready md ops listed → Closed md ops listed → listed.size = ops.size →
      UniV P ops S oi v a →
      wpAnyY P md ops Q S fuel (listed.setIfInBounds i true) (a.put oi.dst v) C → wpAnyY P md ops Q S (fuel + 1) listed a C := by
  intro fuel
  induction fuel with
  | zero =>
    intro listed a C hCS _ hr hcl hsz hy H
    have hone := last_one hcl hsz (Nat.le_refl _) hok hr H.1
    have hf := not_full hiT hr
    unfold wpAnyY
    rw [if_neg (by rw [hf]; simp)]
    refine ⟨fun h => (by rw [h] at hr; cases hr), fun j hj => ?_⟩
    obtain rfl : j = i := hone j hj
    exact ⟨oi, hi, .inl ⟨v, hy.sub hCS, H⟩⟩
  | succ fuel ih =>
    intro listed a C hCS hfree hr hcl hsz hy H
    have hf := not_full hiT hr
    unfold wpAnyY
    rw [if_neg (by rw [hf]; simp)]
    refine ⟨fun h => (by rw [h] at hr; cases hr), fun j hj => ?_⟩
    by_cases hji : j = i
    · subst hji; exact ⟨oi, hi, .inl ⟨v, hy.sub hCS, H⟩⟩
    · by_cases hfl : full ops.size (listed.setIfInBounds i true) = true
      · exact absurd (last_one hcl hsz (Nat.le_refl _) hok hr hfl j hj) hji
      · unfold wpAnyY at H
        rw [if_neg hfl] at H
        have h1 := H.2 j (ready_mono hj hji)
        obtain ⟨hjun, oj, hoj, hall⟩ := mem_ready.1 hj
        have hnot : ∀ e ∈ oj.after, Region.binds md e = true → e.on ≠ i := fun e he hb heq => by
          exact getD_no (mem_ready.1 hr).1 (heq ▸ hall e he hb)
        have h2 := opY_put hoj (hfree j oj hoj hji hjun hnot) (fun cs b => hsel i oi cs b hi) (fun cs b => hsel j oj cs b hoj) hy h1
        have hfree' : ∀ k ok, ops[k]? = some ok → k ≠ i → (listed.setIfInBounds j true).getD k true = false →
            (∀ e ∈ ok.after, Region.binds md e = true → e.on ≠ i) → oi.apart ops ok = true := fun k ok hk hki hun hno => by
          refine hfree k ok hk hki ?_ hno
          by_cases hjk : j = k
          · subst hjk; exact hjun
          · rw [getD_set_ne true hjk] at hun; exact hun
        have hr' := ready_mono hr (Ne.symm hji)
        refine opY_mono hCS (fun a' C' hC' h3 => ih (listed.setIfInBounds j true) a' C' hC' hfree' hr' (hcl.set hj) (by simpa using hsz) h3.1 ?_) h2
        rw [Array.setIfInBounds_comm _ _ hji]
        exact h3.2

/-- The operations in a given order: those of one value (false), and those that turn the world (true), each of which is then the only one that can come. -/
def wpOrd (P : Program) (ops : Array Oper) (K : Act → (World → Prop) → Prop) : List (Oper × Bool) → Act → (World → Prop) → (World → Prop) → Prop
  | [], a, _, C => K a C
  | (o, false) :: r, a, S, C => ∃ v, UniV P ops S o v a ∧ wpOrd P ops K r (a.put o.dst v) S C
  | (o, true) :: r, a, S, C => Region.wanted o (yielded ops a.tmps) = true ∧ ∃ v S' C', (∀ w, C' w → S' w) ∧ (∀ w, S' w → S w) ∧ (∀ w, C w → OpTo P o a w v C') ∧ wpOrd P ops K r (a.put o.dst v) S' C'
theorem wpOrd_val {K : Act → (World → Prop) → Prop} {o : Oper} {r : List (Oper × Bool)} {a a' : Act} {S C : World → Prop} (v : Value) (hu : UniV P ops S o v a) (ha : a.put o.dst v = a') (h : wpOrd P ops K r a' S C) : wpOrd P ops K ((o, false) :: r) a S C := ⟨v, hu, by rw [ha]; exact h⟩
/-- From one world to one other. -/
theorem wpOrd_to {K : Act → (World → Prop) → Prop} {o : Oper} {r : List (Oper × Bool)} {a a' : Act} {S : World → Prop} {w : World} (hg : Region.wanted o (yielded ops a.tmps) = true) (v : Value) (w' : World) (S' : World → Prop) (h1 : S' w') (h2 : ∀ W, S' W → S W) (ho : OpTo P o a w v (fun W => W = w')) (ha : a.put o.dst v = a') (h : wpOrd P ops K r a' S' (fun W => W = w')) : wpOrd P ops K ((o, true) :: r) a S (fun W => W = w) :=
  ⟨hg, v, S', fun W => W = w', fun W hW => by rw [hW]; exact h1, h2, fun W hW => by rw [hW]; exact ho, by rw [ha]; exact h⟩
/-- From one world to some. -/
theorem wpOrd_any {K : Act → (World → Prop) → Prop} {o : Oper} {r : List (Oper × Bool)} {a a' : Act} {S C : World → Prop} (hg : Region.wanted o (yielded ops a.tmps) = true) (v : Value) (S' C' : World → Prop) (h1 : ∀ W, C' W → S' W) (h2 : ∀ W, S' W → S W) (ho : ∀ W, C W → OpTo P o a W v C') (ha : a.put o.dst v = a') (h : wpOrd P ops K r a' S' C') : wpOrd P ops K ((o, true) :: r) a S C :=
  ⟨hg, v, S', C', h1, h2, ho, by rw [ha]; exact h⟩
def ordOps (l : List Oper) : List (Nat × Bool) → List (Oper × Bool)
  | [] => []
  | (k, b) :: r => (l.getD k default, b) :: ordOps l r
def ordOk (md : Region.Mode) (ops : Array Oper) : List (Nat × Bool) → Array Bool → Bool
  | [], listed => full ops.size listed && (Region.ready md ops listed).isEmpty
  | (k, false) :: r, listed => (Region.ready md ops listed).contains k && Region.free md ops listed k && lastOk md ops ops.size k && decide (k < ops.size) && ordOk md ops r (listed.setIfInBounds k true)
  | (k, true) :: r, listed => (Region.ready md ops listed == [k]) && decide (k < ops.size) && !full ops.size listed && ordOk md ops r (listed.setIfInBounds k true)
theorem wpAnyY_ord {l : List Oper} (hs : Region.noSelect l.toArray = true) : ∀ (ks : List (Nat × Bool)) (listed : Array Bool) (a : Act) (S C : World → Prop), ordOk md l.toArray ks listed = true → (∀ w, C w → S w) → Closed md l.toArray listed → listed.size = l.toArray.size →
    wpOrd P l.toArray (fun a' C' => ∀ w, C' w → Q .normal a' w) (ordOps l ks) a S C → wpAnyY P md l.toArray Q S ks.length listed a C
  | [], listed, a, S, C, hB, _, _, _, h => by
    simp only [ordOk, Bool.and_eq_true] at hB
    exact ⟨hB.1, fun w hw => wpAny_done (by simpa using hB.2) (h w hw) 0⟩
  | (k, false) :: r, listed, a, S, C, hB, hCS, hcl, hsz, ⟨v, hv, h⟩ => by
    simp only [ordOk, Bool.and_eq_true, decide_eq_true_eq] at hB
    obtain ⟨⟨⟨⟨hr, hf⟩, hok⟩, hkT⟩, hB'⟩ := hB
    have hr' : k ∈ Region.ready md l.toArray listed := by simpa using hr
    have hk : k < l.length := by simpa using hkT
    have e0 : l.getD k default = l[k] := by simp [List.getD_eq_getElem?_getD, hk]
    have h0 : l.toArray[k]? = some (l.getD k default) := by rw [e0]; simp [hk]
    exact wpAnyY_first h0 (Region.noSelect_spec hs) hkT hok r.length listed a C hCS (Region.free_spec h0 hf) hr' hcl hsz hv (wpAnyY_ord hs r _ _ S C hB' hCS (hcl.set hr') (by simpa using hsz) h)
  | (k, true) :: r, listed, a, S, C, hB, hCS, hcl, hsz, ⟨hg, v, S', C', h1, h2, h3, h⟩ => by
    simp only [ordOk, Bool.and_eq_true, decide_eq_true_eq, beq_iff_eq, Bool.not_eq_true'] at hB
    obtain ⟨⟨⟨hr, hkT⟩, hf⟩, hB'⟩ := hB
    have hr' : k ∈ Region.ready md l.toArray listed := by rw [hr]; simp
    have hk : k < l.length := by simpa using hkT
    have e0 : l.getD k default = l[k] := by simp [List.getD_eq_getElem?_getD, hk]
    have h0 : l.toArray[k]? = some (l.getD k default) := by rw [e0]; simp [hk]
    have ih := wpAnyY_ord hs r (listed.setIfInBounds k true) _ S' C' hB' h1 (hcl.set hr') (by simpa using hsz) h
    have ih2 := wpAnyY_wide h2 _ _ _ _ ih
    show wpAnyY P md l.toArray Q S (r.length + 1) listed a C
    unfold wpAnyY
    rw [if_neg (by rw [hf]; simp)]
    refine ⟨by rw [hr]; simp, fun i hi => ?_⟩
    obtain rfl : i = k := by rw [hr] at hi; simpa using hi
    exact ⟨_, h0, .inr ⟨hg, v, C', fun w hw => h2 w (h1 w hw), h3, ih2⟩⟩
/-- A region that draws, in the order ks. -/
theorem reg_ord {id : Nat} {l : List Oper} {a : Act} {w : World} (ks : List (Nat × Bool)) (S : World → Prop) (hm : P.follows .mixedOrders = true) (hl : l.length = ks.length)
    (hB : (Region.noSelect l.toArray && ordOk .any l.toArray ks (none_ ks.length)) = true) (hS : S { w with drawn := w.drawn + 1 })
    (h : wpOrd P l.toArray (fun a' C' => ∀ W, C' W → Q .normal a' W) (ordOps l ks) a S (fun W => W = { w with drawn := w.drawn + 1 })) : (Code.region id l.toArray true).wp P Q a w := by
  simp only [Bool.and_eq_true] at hB
  refine wp_region_any hm ?_
  rw [show l.toArray.size = ks.length by simpa using hl]
  exact wpAny_of_Y (S := S) _ _ _ (fun W => W = { w with drawn := w.drawn + 1 }) (wpAnyY_ord hB.1 ks (none_ ks.length) a S _ hB.2 (fun W hW => by rw [hW]; exact hS) (closed_none _) (by simp [none_, hl]) h) _ rfl
end
end Go.Proofs.YtiefgmgjlhjjhaaDoor
