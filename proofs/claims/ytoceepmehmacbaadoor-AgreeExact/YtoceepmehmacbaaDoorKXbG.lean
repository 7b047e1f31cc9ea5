import Derived.Test.YtoceepmehmacbaaDoorOz
import Derived.Test.YtoceepmehmacbaaDoorKXnG
set_option linter.unusedVariables false
set_option linter.unusedSimpArgs false
namespace Go.Proofs.YtoceepmehmacbaaDoor
open Go.RowKit

section
variable {P : Program} {ops : Array Oper} {Q : Exit → Act → World → Prop} {md : Region.Mode} {lev : Nat → Nat}
def okS (md : Region.Mode) (ops : Array Oper) (lev : Nat → Nat) : List Zk → Array Bool → Bool
  | [], _ => true
  | (k, c, l) :: r, listed => bif c == 1 then (Region.ready md ops listed == [k]) && decide (k < ops.size) && !full ops.size listed && (lev k == l) && (l != 99) && okS md ops lev r (listed.setIfInBounds k true)
    else (Region.ready md ops listed).contains k && Region.free md ops listed k && lastOk md ops ops.size k && decide (k < ops.size) && (List.range ops.size).all (fun j => j == k || listed.getD j true || (lev j == 99) || (c != 2 && decide (l ≤ lev j)) || reach md ops 8 j k) && okS md ops lev r (listed.setIfInBounds k true)
def lstd : List Zk → Array Bool → Array Bool
  | [], listed => listed
  | (k, _) :: r, listed => lstd r (listed.setIfInBounds k true)
theorem wpAnyZ_seg {l : List Oper} {S : Nat → World → Prop} (hs : Region.noSelect l.toArray = true) (hA : ∀ (m n : Nat) w, m ≤ n → S n w → S m w) (m : Nat) : ∀ (ks : List Zk) (listed : Array Bool) (a : Act) (C : World → Prop), okS md l.toArray lev ks listed = true → Closed md l.toArray listed → listed.size = l.toArray.size →
    wpZ P l.toArray S (fun a' C' => Closed md l.toArray (lstd ks listed) → (lstd ks listed).size = l.toArray.size → wpAnyZ P md l.toArray Q S lev m (lstd ks listed) a' C') (opsZ l ks) a C → wpAnyZ P md l.toArray Q S lev (m + ks.length) listed a C
  | [], listed, a, C, hB, hcl, hsz, h => h hcl hsz
  | (k, c, lv) :: r, listed, a, C, hB, hcl, hsz, h => by
    have hk0 : ∀ (hkT : k < l.toArray.size), l.toArray[k]? = some (l.getD k default) := fun hkT => by
      have hk : k < l.length := by simpa using hkT
      have e0 : l.getD k default = l[k] := by simp [List.getD_eq_getElem?_getD, hk]
      rw [e0]; simp [hk]
    by_cases hc : c = 1
    · subst hc
      simp only [okS, beq_self_eq_true, cond_true, Bool.and_eq_true, decide_eq_true_eq, beq_iff_eq, Bool.not_eq_true', bne_iff_ne] at hB
      obtain ⟨⟨⟨⟨⟨hr, hkT⟩, hf⟩, hlv⟩, h99⟩, hB'⟩ := hB
      simp only [opsZ, wpZ, if_true] at h
      obtain ⟨hg, C', h1, h3, h⟩ := h
      have hr' : k ∈ Region.ready md l.toArray listed := by rw [hr]; simp
      show wpAnyZ P md l.toArray Q S lev ((m + r.length) + 1) listed a C
      unfold wpAnyZ
      rw [if_neg (by rw [hf]; simp)]
      refine ⟨by rw [hr]; simp, fun i hi => ?_⟩
      obtain rfl : i = k := by rw [hr] at hi; simpa using hi
      exact ⟨_, hk0 hkT, .inr ⟨by rw [hlv]; exact h99, hg, C', fun v w hw => by rw [hlv]; exact h1 v w hw, h3, fun v hv => wpAnyZ_seg hs hA m r (listed.setIfInBounds i true) _ (C' v) hB' (hcl.set hr') (by simpa using hsz) (h v hv)⟩⟩
    · have hcb : (c == 1) = false := by simpa using hc
      simp only [okS, hcb, cond_false, Bool.and_eq_true, decide_eq_true_eq] at hB
      obtain ⟨⟨⟨⟨⟨hr, hf⟩, hok⟩, hkT⟩, hlv⟩, hB'⟩ := hB
      simp only [opsZ, wpZ, if_neg hc] at h
      obtain ⟨v, hv, hCS, h⟩ := h
      have hr' : k ∈ Region.ready md l.toArray listed := by simpa using hr
      refine wpAnyZ_first (hk0 hkT) (Region.noSelect_spec hs) hkT hok (m + r.length) listed a C hCS ?_ (Region.free_spec (hk0 hkT) hf) hr' hcl hsz hv (wpAnyZ_seg hs hA m r _ _ C hB' (hcl.set hr') (by simpa using hsz) h)
      intro j oj hj hjk hun hno
      rw [List.all_eq_true] at hlv
      have hjl : j < l.toArray.size := (Array.getElem?_eq_some_iff.1 hj).1
      have h3 := hlv j (List.mem_range.2 hjl)
      rw [hno, hun, Bool.or_false, Bool.or_false] at h3
      simp only [Bool.or_eq_true, beq_iff_eq, Bool.and_eq_true, bne_iff_ne, decide_eq_true_eq] at h3
      rcases h3 with (h3 | h3) | h3
      · exact absurd h3 hjk
      · exact .inl h3
      · refine .inr fun w hw => ?_
        unfold SZ
        rw [if_neg h3.1]
        exact hA _ _ w h3.2 hw
end
section
variable {P : Program} {n : Nat} {Q : Exit → Act → World → Prop} {lev : Nat → Nat} {e : List (Nat × Value)} {C : World → Prop} {l : List Oper} {S : Nat → World → Prop} {listed : Array Bool}
/-- A region that draws, from a point on: in whatever order the rest is done. -/
def AZ (P : Program) (n : Nat) (l : List Oper) (Q : Exit → Act → World → Prop) (S : Nat → World → Prop) (lev : Nat → Nat) (m : Nat) (listed : Array Bool) (e : List (Nat × Value)) (C : World → Prop) : Prop :=
  Closed .any l.toArray listed → listed.size = l.toArray.size → ∀ a, Env n a e → wpAnyZ P .any l.toArray Q S lev m listed a C
/-- Operations in a given order, and then the rest. -/
theorem AZ.seg {M : Nat} (ks : List Zk) (m : Nat) (hM : M = m + ks.length) (hs : Region.noSelect l.toArray = true) (hA : ∀ (m n : Nat) w, m ≤ n → S n w → S m w) (hB : okS .any l.toArray lev ks listed = true) (h : wpZE P n l.toArray S (fun e' C' => AZ P n l Q S lev m (lstd ks listed) e' C') (opsZ l ks) e C) : AZ P n l Q S lev M listed e C := fun hcl hsz a ha => by
  rw [hM]
  exact wpAnyZ_seg hs hA m ks listed a C hB hcl hsz (wpZ_of_E (K' := fun e' C' => AZ P n l Q S lev m (lstd ks listed) e' C') (fun e' C' hk a' ha' hc hz => hk hc hz a' ha') _ e _ a ha h)
theorem AZ.done (hf : (full l.toArray.size listed && (Region.ready .any l.toArray listed).isEmpty) = true) (h : ∀ W, C W → ∀ a, Env n a e → Q .normal a W) : AZ P n l Q S lev 0 listed e C := fun hcl hsz a ha => by
  simp only [Bool.and_eq_true] at hf
  exact ⟨hf.1, fun w hw => wpAny_done (by simpa using hf.2) (h w hw a ha) 0⟩
theorem turn_of_E {k lk : Nat} {m : Nat} {o : Oper} (ho : l.toArray[k]? = some o) (hr : k ∈ Region.ready .any l.toArray listed) (hlv : lev k = lk) (h99 : lk ≠ 99) (hcl : Closed .any l.toArray listed) (hsz : listed.size = l.toArray.size) {a : Act} (ha : Env n a e) (h : wpZE P n l.toArray S (fun e' C' => AZ P n l Q S lev m (listed.setIfInBounds k true) e' C') [(o, 1, lk)] e C) : opZ P l.toArray S lev k (fun a' C' => wpAnyZ P .any l.toArray Q S lev m (listed.setIfInBounds k true) a' C') a C := by
  simp only [wpZE, if_true] at h
  obtain ⟨hw, hd, C', h1, h3, h⟩ := h
  exact ⟨o, ho, .inr ⟨by rw [hlv]; exact h99, wantE_spec ha hw, C', fun v w hw => by rw [hlv]; exact h1 v w hw, fun w hw => h3 w hw a ha, fun v hv => h v hv (hcl.set hr) (by simpa using hsz) _ (ha.ins o.dst v hd)⟩⟩
/-- Two that turn the world are ready: whichever is first. -/
theorem AZ.two {M : Nat} (m k1 l1 k2 l2 : Nat) (hM : M = m + 1) (hB : (Region.ready .any l.toArray listed == [k1, k2] && !full l.toArray.size listed && decide (k1 < l.length) && decide (k2 < l.length) && lev k1 == l1 && lev k2 == l2 && l1 != 99 && l2 != 99) = true)
    (h1 : wpZE P n l.toArray S (fun e' C' => AZ P n l Q S lev m (listed.setIfInBounds k1 true) e' C') [(l.getD k1 default, 1, l1)] e C)
    (h2 : wpZE P n l.toArray S (fun e' C' => AZ P n l Q S lev m (listed.setIfInBounds k2 true) e' C') [(l.getD k2 default, 1, l2)] e C) : AZ P n l Q S lev M listed e C := fun hcl hsz a ha => by
  simp only [Bool.and_eq_true, beq_iff_eq, Bool.not_eq_true', decide_eq_true_eq, bne_iff_ne] at hB
  obtain ⟨⟨⟨⟨⟨⟨⟨hr, hf⟩, g1⟩, g2⟩, v1⟩, v2⟩, n1⟩, n2⟩ := hB
  have hk0 : ∀ k, k < l.length → l.toArray[k]? = some (l.getD k default) := fun k hk => by
    have e0 : l.getD k default = l[k] := by simp [List.getD_eq_getElem?_getD, hk]
    rw [e0]; simp [hk]
  rw [hM]
  unfold wpAnyZ
  rw [if_neg (by rw [hf]; simp)]
  refine ⟨by rw [hr]; simp, fun i hi => ?_⟩
  have hi' : i = k1 ∨ i = k2 := by rw [hr] at hi; simpa using hi
  rcases hi' with rfl | rfl
  · exact turn_of_E (hk0 _ g1) hi v1 n1 hcl hsz ha h1
  · exact turn_of_E (hk0 _ g2) hi v2 n2 hcl hsz ha h2
theorem EW.az {id : Nat} {w : World} (S : Nat → World → Prop) (lev : Nat → Nat) (C0 : World → Prop) (M : Nat) (hm : P.follows .mixedOrders = true) (hM : l.length = M) (hC : C0 { w with drawn := w.drawn + 1 }) (h : AZ P n l Q S lev M (none_ M) e C0) : EW P n (Code.region id l.toArray true) Q e w := fun a ha => by
  refine wp_region_any hm ?_
  rw [show l.toArray.size = M by simpa using hM]
  exact wpAny_of_Z (S := S) (lev := lev) _ _ _ C0 (h (closed_none _) (by simp [none_, hM]) a ha) _ hC
end
end Go.Proofs.YtoceepmehmacbaaDoor
set_option linter.unusedVariables false
set_option linter.unusedSimpArgs false
namespace Go.Proofs.YtoceepmehmacbaaDoor.Cv
open Go.RowKit

/-- Digits as values. -/
def dg (n : Nat) : Value := .int .i64 (n : Int)
def num (t : List Nat) : Value := .agg (t.map dg).toArray
def z10n : List Nat := List.replicate 10 0
/-- The number of digits. -/
def vs (t : List Nat) : Nat → Nat
  | 0 => 0
  | i + 1 => vs t i + t.getD i 0 * 67108864 ^ i
def V (t : List Nat) : Nat := vs t 10
structure Dg (t : List Nat) : Prop where
  len : t.length = 10
  lt : ∀ i, t.getD i 0 < 67108864
theorem vs_eq {t u : List Nat} : ∀ r, (∀ i, i < r → t.getD i 0 = u.getD i 0) → vs t r = vs u r
  | 0, _ => rfl
  | r + 1, h => by rw [vs, vs, vs_eq r (fun i hi => h i (by omega)), h r (by omega)]
theorem vs_lt {t : List Nat} (h : ∀ i, t.getD i 0 < 67108864) : ∀ r, vs t r < 67108864 ^ r
  | 0 => by simp [vs]
  | r + 1 => by
    have h1 := vs_lt h r
    have h2 := h r
    rw [vs, Nat.pow_succ]
    have h3 : t.getD r 0 * 67108864 ^ r ≤ 67108863 * 67108864 ^ r := Nat.mul_le_mul_right _ (by omega)
    omega
theorem vs_le {t : List Nat} {B : Nat} (h : ∀ i, t.getD i 0 ≤ B) : ∀ r, vs t r * 67108863 ≤ B * 67108864 ^ r
  | 0 => by simp [vs]
  | r + 1 => by
    have h1 := vs_le h r
    have h3 : t.getD r 0 * 67108864 ^ r ≤ B * 67108864 ^ r := Nat.mul_le_mul_right _ (h r)
    rw [vs, Nat.pow_succ, Nat.add_mul, ← Nat.mul_assoc B]
    generalize B * 67108864 ^ r = x at *
    generalize t.getD r 0 * 67108864 ^ r = y at *
    have e : x * 67108864 = x + x * 67108863 := by rw [show (67108864 : Nat) = 67108863 + 1 from rfl, Nat.mul_succ, Nat.add_comm]
    rw [e]
    exact Nat.add_le_add h1 (Nat.mul_le_mul_right _ h3)
theorem setD_at (t : List Nat) (i j : Nat) (x : Nat) (h : i ≠ j) : (t.set i x).getD j 0 = t.getD j 0 := by
  rw [List.getD_eq_getElem?_getD, List.getElem?_set_ne h, ← List.getD_eq_getElem?_getD]
theorem setD_in (t : List Nat) (i : Nat) (x : Nat) (h : i < t.length) : (t.set i x).getD i 0 = x := by
  rw [List.getD_eq_getElem?_getD, List.getElem?_set_self h]; rfl

/-- One pass of carries. -/
def psC (t : List Nat) : Nat → Nat
  | 0 => 0
  | i + 1 => (t.getD i 0 + psC t i) / 67108864
def psL (t : List Nat) : Nat → List Nat
  | 0 => t
  | i + 1 => (psL t i).set i ((t.getD i 0 + psC t i) % 67108864)
def psE (t : List Nat) : List Nat := (psL t 10).set 0 ((psL t 10).getD 0 0 + 608 * psC t 10)
theorem psL_len (t : List Nat) : ∀ i, (psL t i).length = t.length
  | 0 => rfl
  | i + 1 => by rw [psL, List.length_set, psL_len t i]
theorem psL_at (t : List Nat) : ∀ i j, i ≤ j → (psL t i).getD j 0 = t.getD j 0
  | 0, _, _ => rfl
  | i + 1, j, h => by rw [psL, setD_at _ _ _ _ (by omega), psL_at t i j (by omega)]
theorem psL_in (t : List Nat) (ht : t.length = 10) : ∀ i, i ≤ 10 → ∀ j, j < i → (psL t i).getD j 0 = (t.getD j 0 + psC t j) % 67108864
  | 0, _, j, h => by omega
  | i + 1, hi, j, h => by
    rw [psL]
    by_cases hq : i = j
    · subst hq
      rw [setD_in _ _ _ (by rw [psL_len]; omega)]
    · rw [setD_at _ _ _ _ hq, psL_in t ht i (by omega) j (by omega)]
theorem ps_val (t : List Nat) (ht : t.length = 10) : ∀ i, i ≤ 10 → vs (psL t 10) i + psC t i * 67108864 ^ i = vs t i
  | 0, _ => by simp [vs, psC]
  | i + 1, hi => by
    have ih := ps_val t ht i (by omega)
    rw [vs, vs, psL_in t ht 10 (by omega) i (by omega), psC, ← ih]
    obtain ⟨x, hx⟩ : ∃ x, t.getD i 0 + psC t i = x := ⟨_, rfl⟩
    have e : t.getD i 0 * 67108864 ^ i + psC t i * 67108864 ^ i = x * 67108864 ^ i := by rw [← Nat.add_mul, hx]
    rw [hx, Nat.pow_succ, Nat.mul_comm (67108864 ^ i), ← Nat.mul_assoc, Nat.add_assoc, ← Nat.add_mul, Nat.mod_add_div', Nat.add_assoc, Nat.add_comm (psC t i * _), e]
theorem psL_lt (t : List Nat) (ht : t.length = 10) (i : Nat) : (psL t 10).getD i 0 < 67108864 := by
  rcases Nat.lt_or_ge i 10 with h | h
  · rw [psL_in t ht 10 (by omega) i h]; exact Nat.mod_lt _ (by decide)
  · rw [List.getD_eq_getElem?_getD, List.getElem?_eq_none (by rw [psL_len]; omega)]; decide
theorem psL_dg (t : List Nat) (ht : t.length = 10) : Dg (psL t 10) := ⟨by rw [psL_len, ht], psL_lt t ht⟩
theorem psC_eq (t : List Nat) (ht : t.length = 10) : psC t 10 = V t / 67108864 ^ 10 ∧ V (psL t 10) = V t % 67108864 ^ 10 := by
  have h := ps_val t ht 10 (by omega)
  have hl := vs_lt (psL_lt t ht) 10
  have e : V t = V (psL t 10) + psC t 10 * 67108864 ^ 10 := h.symm
  have hl' : V (psL t 10) < 67108864 ^ 10 := hl
  constructor
  · rw [e, Nat.add_mul_div_right _ _ (Nat.pow_pos (by decide)), Nat.div_eq_of_lt hl', Nat.zero_add]
  · rw [e, Nat.add_mul_mod_self_right, Nat.mod_eq_of_lt hl']
theorem vs_set0 (t : List Nat) (ht : t.length = 10) (x : Nat) : ∀ r, vs (t.set 0 (t.getD 0 0 + x)) (r + 1) = vs t (r + 1) + x
  | 0 => by simp only [vs, Nat.pow_zero, Nat.mul_one, Nat.zero_add]; rw [setD_in _ _ _ (by omega)]
  | r + 1 => by
    have ih := vs_set0 t ht x r
    show vs _ (r + 1) + _ = vs t (r + 1) + _ + x
    rw [ih, setD_at _ _ _ _ (by omega)]
    generalize t.getD (r + 1) 0 * 67108864 ^ (r + 1) = y
    omega
theorem psE_val (t : List Nat) (ht : t.length = 10) : V (psE t) = V t % 67108864 ^ 10 + 608 * (V t / 67108864 ^ 10) := by
  have h := vs_set0 (psL t 10) (by rw [psL_len, ht]) (608 * psC t 10) 9
  have e := psC_eq t ht
  show vs (psE t) 10 = _
  unfold psE
  rw [h]
  show V (psL t 10) + _ = _
  rw [e.2, e.1]
theorem psE_len (t : List Nat) : (psE t).length = t.length := by rw [psE, List.length_set, psL_len]
theorem psE_mod (t : List Nat) (ht : t.length = 10) : V (psE t) % Prm.P = V t % Prm.P := by
  rw [psE_val t ht]
  have h := Nat.div_add_mod (V t) (67108864 ^ 10)
  have hp : 67108864 ^ 10 = 608 + Prm.P * 32 := by decide +kernel
  generalize V t / 67108864 ^ 10 = q at *
  generalize V t % 67108864 ^ 10 = r at *
  rw [← h, hp, Nat.add_mul, Nat.mul_assoc Prm.P, Nat.add_comm (608 * q), Nat.add_assoc, Nat.mul_add_mod, Nat.add_comm (608 * q)]
/-- The passes, until nothing is carried. -/
def itL (t : List Nat) : Nat → List Nat × Nat
  | 0 => (t, 1)
  | j + 1 => if (itL t j).2 = 0 then itL t j else (psE (itL t j).1, psC (itL t j).1 10)
theorem it_len (t : List Nat) : ∀ j, (itL t j).1.length = t.length
  | 0 => rfl
  | j + 1 => by
    rw [itL]
    split
    · exact it_len t j
    · rw [psE_len, it_len t j]
theorem it_mod (t : List Nat) (ht : t.length = 10) : ∀ j, V (itL t j).1 % Prm.P = V t % Prm.P
  | 0 => rfl
  | j + 1 => by
    rw [itL]
    split
    · exact it_mod t ht j
    · rw [psE_mod _ (by rw [it_len, ht]), it_mod t ht j]
theorem it_stop (t : List Nat) (j : Nat) (h : (itL t j).2 = 0) : ∀ k, itL t (j + k) = itL t j
  | 0 => rfl
  | k + 1 => by
    rw [← Nat.add_assoc, itL, it_stop t j h k, if_pos h]
theorem it_dg (t : List Nat) (ht : t.length = 10) : ∀ j, (itL t (j + 1)).2 = 0 → Dg (itL t (j + 1)).1
  | j, h => by
    rw [itL] at h ⊢
    split at h
    · rename_i h0
      rw [if_pos h0]
      cases j with
      | zero => simp [itL] at h0
      | succ j => exact it_dg t ht j h0
    · rename_i h0
      rw [if_neg h0]
      have hl : (itL t j).1.length = 10 := by rw [it_len, ht]
      have h' : psC (itL t j).1 10 = 0 := h
      have hd := psL_dg _ hl
      show Dg (psE (itL t j).1)
      have e : psE (itL t j).1 = psL (itL t j).1 10 := by
        unfold psE
        rw [h', Nat.mul_zero, Nat.add_zero]
        apply List.ext_getElem (by simp)
        intro i h1 h2
        by_cases hi : i = 0
        · subst hi
          rw [List.getElem_set_self, List.getD_eq_getElem?_getD, List.getElem?_eq_getElem h2]
          rfl
        · rw [List.getElem_set_ne (by omega)]
      rw [e]
      exact hd
theorem end_num {a b c B K : Nat} (ha : a ≤ K * B) (hB : 608 * K + 608 < B) (hb : b = a % B + 608 * (a / B)) (hc : c = b % B + 608 * (b / B)) (h : b / B ≠ 0) : c / B = 0 := by
  have hpos : 0 < B := by omega
  have h1 : a / B ≤ K := Nat.div_le_of_le_mul (by rw [Nat.mul_comm]; exact ha)
  have h2 := Nat.mod_lt a hpos
  have h3 : 608 * (a / B) ≤ 608 * K := Nat.mul_le_mul_left _ h1
  have hb2 : b < B + 608 * K := by omega
  have hy : b / B < 2 := Nat.div_lt_of_lt_mul (by omega)
  have hy1 : b / B = 1 := by omega
  have e := Nat.div_add_mod b B
  rw [hy1, Nat.mul_one] at e
  rw [hy1] at hc
  exact Nat.div_eq_of_lt (by omega)
theorem it_end (t : List Nat) (ht : t.length = 10) (hb : ∀ i, t.getD i 0 ≤ 4611686018427387903) : (itL t 3).2 = 0 := by
  have hV : V t * 67108863 ≤ 4611686018427387903 * 67108864 ^ 10 := vs_le hb 10
  have hK : V t ≤ 68719477761 * 67108864 ^ 10 := by
    refine Nat.le_of_mul_le_mul_right (Nat.le_trans hV ?_) (show 0 < 67108863 by decide)
    decide +kernel
  have i1 : itL t 1 = (psE t, psC t 10) := by rw [itL, if_neg (by simp [itL])]; rfl
  have l1 : (psE t).length = 10 := by rw [psE_len, ht]
  have l2 : (psE (psE t)).length = 10 := by rw [psE_len, l1]
  rw [itL]
  split
  · rename_i h; exact h
  · rename_i h2
    rw [itL, i1] at h2 ⊢
    by_cases hz : psC t 10 = 0
    · rw [if_pos hz] at h2
      exact absurd hz h2
    · rw [if_neg hz] at h2 ⊢
      dsimp only at h2 ⊢
      rw [(psC_eq _ l1).1] at h2
      rw [(psC_eq _ l2).1]
      exact end_num hK (by decide +kernel) (psE_val t ht) (psE_val _ l1) h2
end Go.Proofs.YtoceepmehmacbaaDoor.Cv
set_option linter.unusedVariables false
set_option linter.unusedSimpArgs false
namespace Go.Proofs.YtoceepmehmacbaaDoor.Cv
open Go.RowKit

theorem zero75 (w : World) : (zeroValue 134).run Tryd.prog w = .ok (.agg (z10n.map dg).toArray) w := by rw [Tryd.zeroValue134]; rfl
theorem nm_info {t : List Nat} (h : t.length = 10) : (Tryd.prog.info? 134).map (·.size) = some (t.map dg).length := by rw [List.length_map, h]; kernel_rfl
theorem nm_infoA {t : List Nat} (h : t.length = 10) : (Tryd.prog.info? 134).map (·.size) = some (t.map dg).toArray.size := by have := nm_info h; simpa using this
theorem nm_len {t : List Nat} (h : t.length = 10) : (z10n.map dg).length = (t.map dg).length := by simp [z10n, h]
theorem nm_size {t : List Nat} (h : t.length = 10) : (z10n.map dg).toArray.size = (t.map dg).toArray.size := by simp [z10n, h]
theorem dgs_one (t : List Nat) : (t.map dg).toArray.all (·.oneCell') = true := by
  rw [Array.all_eq_true_iff_forall_mem]
  intro v hv
  simp only [List.mem_toArray, List.mem_map] at hv
  obtain ⟨n, _, rfl⟩ := hv
  rfl
theorem dgs_at (t : List Nat) (i : Nat) (h : i < t.length) : (t.map dg)[i]? = some (.int .i64 ((t.getD i 0 : Nat) : Int)) := by
  rw [List.getElem?_map, List.getElem?_eq_getElem h, List.getD_eq_getElem?_getD, List.getElem?_eq_getElem h]
  rfl
theorem dgs_set (t : List Nat) (i x : Nat) : (t.map dg).set i (.int .i64 (x : Int)) = (t.set i x).map dg := by rw [List.map_set]; rfl
structure Car (n : Nat) (w wx : World) (t : List Nat) : Prop where
  va : Blk wx n (t.map dg) 134
  re : Blk wx (n + 1) (z10n.map dg) 134
  be : Below n w wx
theorem Car.set {n : Nat} {w wx : World} {t : List Nat} (h : Car n w wx t) (j x : Nat) : Car n w (wx.setCell ⟨n, j, none⟩ (.int .i64 (x : Int))) (t.set j x) :=
  ⟨by rw [← dgs_set]; exact h.va.set j _, h.re.setOther _ _ _ (by omega), h.be.setCell (by simp) _⟩
/-- The number in a block. -/
def cellN (w : World) (g i : Nat) : Nat := match w.cell? ⟨g, i, none⟩ with | some v => (intOf v).toNat | none => 0
def mVs (w : World) (g : Nat) : Nat → Nat
  | 0 => 0
  | i + 1 => mVs w g i + cellN w g i * 67108864 ^ i
def mV (w : World) (g : Nat) : Nat := mVs w g 10
theorem mVs_eq {w : World} {g : Nat} {t : List Nat} (h : Blk w g (t.map dg) 134) (ht : t.length = 10) : ∀ r, r ≤ 10 → mVs w g r = vs t r
  | 0, _ => rfl
  | r + 1, hr => by
    have e : cellN w g r = t.getD r 0 := by
      unfold cellN
      rw [h.cell, dgs_at t r (by omega)]
      simp [intOf]
    rw [mVs, vs, mVs_eq h ht r (by omega), e]
theorem mV_eq {w : World} {g : Nat} {t : List Nat} (h : Blk w g (t.map dg) 134) (ht : t.length = 10) : mV w g = V t := mVs_eq h ht 10 (Nat.le_refl _)
theorem psC_le (t : List Nat) (hb : ∀ i, t.getD i 0 ≤ 4611686018427387903) : ∀ i, psC t i ≤ 137438953472
  | 0 => by simp [psC]
  | i + 1 => by
    have h1 := psC_le t hb i
    have h2 := hb i
    rw [psC]
    omega
theorem psE_small (t : List Nat) (ht : t.length = 10) (hb : ∀ i, t.getD i 0 ≤ 4611686018427387903) (i : Nat) : (psE t).getD i 0 ≤ 4611686018427387903 := by
  have h1 := psC_le t hb 10
  have h2 := psL_lt t ht i
  have h0 := psL_lt t ht 0
  unfold psE
  by_cases hi : i = 0
  · subst hi
    rw [setD_in _ _ _ (by rw [psL_len]; omega)]
    omega
  · rw [setD_at _ _ _ _ (by omega)]
    omega
theorem it_small (t : List Nat) (ht : t.length = 10) (hb : ∀ i, t.getD i 0 ≤ 4611686018427387903) : ∀ j i, (itL t j).1.getD i 0 ≤ 4611686018427387903
  | 0, i => hb i
  | j + 1, i => by
    rw [itL]
    split
    · exact it_small t ht hb j i
    · exact psE_small _ (by rw [it_len, ht]) (it_small t ht hb j) i
def nz (n : Nat) : Nat := if n = 0 then 0 else 1
theorem meas {t : List Nat} (ht : t.length = 10) : V (psE t) + nz (psC t 10) < V t + 1 := by
  unfold nz
  have h1 := psE_val t ht
  have h2 := (psC_eq t ht).1
  have h3 := Nat.div_add_mod (V t) (67108864 ^ 10)
  have hp : 67108864 ^ 10 = 608 + (67108864 ^ 10 - 608) := by decide +kernel
  have hq : 0 < 67108864 ^ 10 - 608 := by decide +kernel
  rw [h1, h2]
  generalize V t / 67108864 ^ 10 = q at *
  generalize V t % 67108864 ^ 10 = r at *
  rw [hp, Nat.add_mul] at h3
  generalize 67108864 ^ 10 - 608 = B at *
  split
  · rename_i hz
    subst hz
    omega
  · rename_i hz
    have : q ≤ B * q := Nat.le_mul_of_pos_left q hq
    omega

set_option maxRecDepth 100000 in
set_option maxHeartbeats 4000000 in
theorem carried_walk (t : List Nat) (ht : t.length = 10) (hb : ∀ i, t.getD i 0 ≤ 4611686018427387903) (w : World) :
    Calls Tryd.prog 88 #[num t] w fun e w' => e = .returned (num (itL t 3).1) ∧ Below w.heap.size w w' := by
  have hend := it_end t ht hb
  have HS := hide (it_small t ht hb)
  have HLn : Hid (∀ j, (itL t j).1.length = 10) := fun j => by rw [it_len, ht]
  have HEnd := hide hend
  clear hend
  go_enter Tryd.func88, Tryd.ntmps88
  go_upto_region 1 with (first | (refine wpList_boxAt rfl 134 (.tmp 0) rfl (t.map dg) rfl (w.heap.size) rfl ?_) | (refine wpList_newAt rfl 134 rfl (z10n.map dg) zero75 (w.heap.size + 1) (size1 _ _) ?_))
  have h0 : Hid (Car w.heap.size w ((w.alloc (.cells (t.map dg).toArray 134)).alloc (.cells (z10n.map dg).toArray 134)) (itL t 0).1) := by
    refine ⟨(Blk.new _ _ _).alloc _, ?_, by go_grown⟩
    have := Blk.new (w.alloc (.cells (t.map dg).toArray 134)) (z10n.map dg) 134
    simpa using this
  generalize (w.alloc (.cells (t.map dg).toArray 134)).alloc (.cells (z10n.map dg).toArray 134) = w1 at h0 ⊢
  obtain ⟨n, hn⟩ : ∃ n, w.heap.size = n := ⟨_, rfl⟩
  rw [hn] at h0 ⊢
  clear ht hb
  go_wp2
  go_loopw [3] (fun c wr => ∃ j : Nat, j ≤ 3 ∧ c = .int .i64 ((itL t j).2 : Int) ∧ Hid (Car n w wr (itL t j).1)) (fun c wr => mV wr n + nz (intOf c).toNat)
  case atStart => exact ⟨0, by omega, rfl, h0⟩
  case round =>
    obtain ⟨j, hj, rfl, hs⟩ := hrel
    have hsm := HS.out j
    have hln := HLn.out j
    have hnx : Hid (itL t (j + 1) = if (itL t j).2 = 0 then itL t j else (psE (itL t j).1, psC (itL t j).1 10)) := by rw [itL]; exact hide rfl
    have hst : Hid ((itL t j).2 = 0 → (itL t 3).1 = (itL t j).1) := fun h => by
      have := it_stop t j h (3 - j)
      rw [Nat.add_sub_cancel' hj] at this
      rw [this]
    have hj3 : (itL t j).2 ≠ 0 → j < 3 := fun h => by
      rcases Nat.lt_or_ge j 3 with h1 | h1
      · exact h1
      · obtain rfl : j = 3 := by omega
        exact absurd HEnd.out h
    obtain ⟨L, hL⟩ : ∃ L, (itL t j).1 = L := ⟨_, rfl⟩
    obtain ⟨c, hc⟩ : ∃ c, (itL t j).2 = c := ⟨_, rfl⟩
    have HNX : Hid (itL t (j + 1) = if c = 0 then itL t j else (psE L, psC L 10)) := by rw [hnx.out, hL, hc]; exact hide rfl
    have HST : Hid (c = 0 → (itL t 3).1 = L) := fun h => by rw [hst.out (by rw [hc]; exact h), hL]
    rw [hL] at hs hsm hln
    rw [hc] at hj3
    rw [hc]
    clear hnx hst hL hc
    by_cases hc0 : c = 0
    · subst hc0
      have hr := HST.out rfl
      go_wp2_with (first | (refine wpList_load_row rfl 134 (.tmp 1) rfl n rfl 134 (L.map dg).toArray (0, 0) _ hs.out.va Tryd.underlying134 rfl (nm_infoA hln) ?_) | (refine wpList_store_row rfl 134 (.tmp 2) (.tmp 29) rfl (n + 1) (L.map dg).toArray rfl rfl 134 (z10n.map dg).toArray hs.out.re (nm_infoA hln) (nm_size hln) (dgs_one L) ?_))
      refine bodyPost_ret (results_cell_row Tryd.results88 _ _ (n + 1) 134 (L.map dg).toArray (0, 0) _ rfl (hs.out.re.setRow _) Tryd.underlying134 rfl (nm_infoA hln)) rfl ?_
      exact ⟨by first | rfl | (rw [hr]; rfl), by first | (rw [hn]; exact below_setRow hs.out.be _ _ (by omega)) | exact below_setRow hs.out.be _ _ (by omega)⟩
    · have hcz : (0 : Int) < (c : Int) := by omega
      have hj3' := hj3 hc0
      have hmeas := mV_eq hs.out.va hln
      have HPC := hide (psC_le L hsm)
      have HPL := hide (psL_lt L hln)
      have HSM := hide hsm
      have HM := hide hmeas
      clear hj3 hmeas hsm HST
      go_wp2
      go_loopw [4, 3] (fun i c wr => ∃ q : Nat, q ≤ 10 ∧ i = .int .i64 q ∧ c = .int .i64 (psC L q : Int) ∧ Hid (Car n w wr (psL L q))) (fun i _ _ => 10 - (intOf i).toNat)
      case atStart => exact ⟨0, by omega, rfl, rfl, hs⟩
      case round =>
        obtain ⟨q, hq, rfl, rfl, hs2⟩ := hrel
        have hpn : Hid (psL L (q + 1) = (psL L q).set q ((L.getD q 0 + psC L q) % 67108864)) := by rw [psL]; exact hide rfl
        have hcn : Hid (psC L (q + 1) = (L.getD q 0 + psC L q) / 67108864) := by rw [psC]; exact hide rfl
        have hat := psL_at L q q (Nat.le_refl _)
        have hlq : (psL L q).length = 10 := by rw [psL_len, hln]
        obtain ⟨M, hM⟩ : ∃ M, psL L q = M := ⟨_, rfl⟩
        have HMq := hide hM
        rw [hM] at hs2 hpn hat hlq
        clear hM
        by_cases hlt : q < 10
        · have hlz : (q : Int) < 10 := by omega
          have b1 := HSM.out q
          have b2 := HPC.out q
          obtain ⟨a, ha⟩ : ∃ a, L.getD q 0 = a := ⟨_, rfl⟩
          obtain ⟨d, hd⟩ : ∃ d, psC L q = d := ⟨_, rfl⟩
          rw [ha] at hat b1 hpn hcn
          rw [hd] at b2 hpn hcn
          rw [hd]
          obtain ⟨x, hx⟩ : ∃ x, a + d = x := ⟨_, rfl⟩
          rw [hx] at hpn hcn
          have hcell : wr.cell? ⟨n, q, none⟩ = some (.int .i64 (a : Int)) := by rw [hs2.out.va.cell, dgs_at M q (by omega), hat]
          have hfz := hs2.out.va.frozen q
          have e1 : IntKind.i64.wrap ((a : Int) + (d : Int)) = (x : Int) := by rw [wrap64_small (by omega) (by omega)]; omega
          obtain ⟨y, hy⟩ : ∃ y, x % 67108864 = y := ⟨_, rfl⟩
          obtain ⟨z, hz⟩ : ∃ z, x / 67108864 = z := ⟨_, rfl⟩
          rw [hy] at hpn
          rw [hz] at hcn
          have e2 : (x : Int).tmod 67108864 = (y : Int) := by rw [Int.tmod_eq_emod_of_nonneg (by omega)]; omega
          have e3 : (x : Int) % 67108864 = (y : Int) := by omega
          have e4 : (x : Int).tdiv 67108864 = (z : Int) := by rw [Int.tdiv_eq_ediv_of_nonneg (by omega)]; omega
          have e5 : (x : Int) / 67108864 = (z : Int) := by omega
          have e6 : IntKind.i64.wrap (z : Int) = (z : Int) := wrap64_small (by omega) (by omega)
          have e7 : IntKind.i64.wrap (y : Int) = (y : Int) := wrap64_small (by omega) (by omega)
          clear ha hd hx hy hz b1 b2 hat
          go_wp2
          go_roundw
          case rel =>
            refine ⟨q + 1, by omega, by go_num, by rw [hcn.out], ?_⟩
            rw [hpn.out]
            exact hs2.out.set q y
          case measure => simp [intOf]; omega
        · obtain rfl : q = 10 := by omega
          have b2 := HPC.out 10
          have b0 := HPL.out 0
          rw [HMq.out] at b0
          obtain ⟨d, hd⟩ : ∃ d, psC L 10 = d := ⟨_, rfl⟩
          obtain ⟨a, ha⟩ : ∃ a, M.getD 0 0 = a := ⟨_, rfl⟩
          have hE : Hid (psE L = M.set 0 (a + 608 * d)) := by unfold psE; rw [HMq.out, hd, ha]; exact hide rfl
          have hMe := meas hln
          rw [hd] at b2 HNX hMe
          rw [ha] at b0
          rw [hd]
          have hcell : wr.cell? ⟨n, 0, none⟩ = some (.int .i64 (a : Int)) := by rw [hs2.out.va.cell, dgs_at M 0 (by omega), ha]
          have hfz := hs2.out.va.frozen 0
          obtain ⟨m, hm⟩ : ∃ m, 608 * d = m := ⟨_, rfl⟩
          obtain ⟨x, hx⟩ : ∃ x, a + m = x := ⟨_, rfl⟩
          have e1 : IntKind.i64.wrap (608 * (d : Int)) = (m : Int) := by rw [wrap64_small (by omega) (by omega)]; omega
          have e2 : IntKind.i64.wrap ((a : Int) + (m : Int)) = (x : Int) := by rw [wrap64_small (by omega) (by omega)]; omega
          rw [hm, hx] at hE
          have hME := hide hMe
          clear hm hx ha hd b2 b0 hcn hpn hMe
          go_wp2
          go_roundw
          case rel =>
            refine ⟨j + 1, by omega, by rw [HNX.out, if_neg hc0], ?_⟩
            rw [HNX.out, if_neg hc0]
            show Hid (Car n w _ (psE L))
            rw [hE.out]
            exact hs2.out.set 0 x
          case measure =>
            have hcar := hs2.out.set 0 x
            rw [← hE.out] at hcar
            rw [mV_eq hcar.va (by rw [psE_len, hln]), HM.out]
            have := hME.out
            have e1 : (intOf (Value.int .i64 (d : Int))).toNat = d := by simp [intOf]
            have e2 : (intOf (Value.int .i64 (c : Int))).toNat = c := by simp [intOf]
            have e3 : nz c = 1 := if_neg hc0
            rw [e1, e2, e3]
            exact this
theorem carried_ok (t : List Nat) (ht : t.length = 10) (hb : ∀ i, t.getD i 0 ≤ 4611686018427387903) : ∃ r, Dg r ∧ V r % Prm.P = V t % Prm.P ∧ ∀ w, Calls Tryd.prog 88 #[num t] w fun e w' => e = .returned (num r) ∧ Below w.heap.size w w' :=
  ⟨_, it_dg t ht 2 (it_end t ht hb), it_mod t ht 3, fun w => carried_walk t ht hb w⟩
end Go.Proofs.YtoceepmehmacbaaDoor.Cv
