import Derived.Test.YtacancfmgnmpiaaPrG
set_option linter.unusedVariables false
set_option linter.unusedSimpArgs false
namespace Go.Proofs.Ytacancfmgnmpiaa
open Go.RowKit

/-- Digits as values. -/
def dg (n : Nat) : Value := .int .i64 (n : Int)
def num (t : List Nat) : Value := .agg (t.map dg).toArray
def z10n : List Nat := List.replicate 10 0
/-- The number of digits. -/
def vs (t : List Nat) : Nat → Nat
  | 0 => 0
  | i + 1 => vs t i + t.getD i 0 * 67108864 ^ i
def V (t : List Nat) : Nat := vs t 10
structure Dg (t : List Nat) : Prop where
  len : t.length = 10
  lt : ∀ i, t.getD i 0 < 67108864
theorem vs_eq {t u : List Nat} : ∀ r, (∀ i, i < r → t.getD i 0 = u.getD i 0) → vs t r = vs u r
  | 0, _ => rfl
  | r + 1, h => by rw [vs, vs, vs_eq r (fun i hi => h i (by omega)), h r (by omega)]
theorem vs_lt {t : List Nat} (h : ∀ i, t.getD i 0 < 67108864) : ∀ r, vs t r < 67108864 ^ r
  | 0 => by simp [vs]
  | r + 1 => by
    have h1 := vs_lt h r
    have h2 := h r
    rw [vs, Nat.pow_succ]
    have h3 : t.getD r 0 * 67108864 ^ r ≤ 67108863 * 67108864 ^ r := Nat.mul_le_mul_right _ (by omega)
    omega
theorem vs_le {t : List Nat} {B : Nat} (h : ∀ i, t.getD i 0 ≤ B) : ∀ r, vs t r * 67108863 ≤ B * 67108864 ^ r
  | 0 => by simp [vs]
  | r + 1 => by
    have h1 := vs_le h r
    have h3 : t.getD r 0 * 67108864 ^ r ≤ B * 67108864 ^ r := Nat.mul_le_mul_right _ (h r)
    rw [vs, Nat.pow_succ, Nat.add_mul, ← Nat.mul_assoc B]
    generalize B * 67108864 ^ r = x at *
    generalize t.getD r 0 * 67108864 ^ r = y at *
    have e : x * 67108864 = x + x * 67108863 := by rw [show (67108864 : Nat) = 67108863 + 1 from rfl, Nat.mul_succ, Nat.add_comm]
    rw [e]
    exact Nat.add_le_add h1 (Nat.mul_le_mul_right _ h3)
theorem setD_at (t : List Nat) (i j : Nat) (x : Nat) (h : i ≠ j) : (t.set i x).getD j 0 = t.getD j 0 := by
  rw [List.getD_eq_getElem?_getD, List.getElem?_set_ne h, ← List.getD_eq_getElem?_getD]
theorem setD_in (t : List Nat) (i : Nat) (x : Nat) (h : i < t.length) : (t.set i x).getD i 0 = x := by
  rw [List.getD_eq_getElem?_getD, List.getElem?_set_self h]; rfl

/-- One pass of carries. -/
def psC (t : List Nat) : Nat → Nat
  | 0 => 0
  | i + 1 => (t.getD i 0 + psC t i) / 67108864
def psL (t : List Nat) : Nat → List Nat
  | 0 => t
  | i + 1 => (psL t i).set i ((t.getD i 0 + psC t i) % 67108864)
def psE (t : List Nat) : List Nat := (psL t 10).set 0 ((psL t 10).getD 0 0 + 608 * psC t 10)
theorem psL_len (t : List Nat) : ∀ i, (psL t i).length = t.length
  | 0 => rfl
  | i + 1 => by rw [psL, List.length_set, psL_len t i]
theorem psL_at (t : List Nat) : ∀ i j, i ≤ j → (psL t i).getD j 0 = t.getD j 0
  | 0, _, _ => rfl
  | i + 1, j, h => by rw [psL, setD_at _ _ _ _ (by omega), psL_at t i j (by omega)]
theorem psL_in (t : List Nat) (ht : t.length = 10) : ∀ i, i ≤ 10 → ∀ j, j < i → (psL t i).getD j 0 = (t.getD j 0 + psC t j) % 67108864
  | 0, _, j, h => by omega
  | i + 1, hi, j, h => by
    rw [psL]
    by_cases hq : i = j
    · subst hq
      rw [setD_in _ _ _ (by rw [psL_len]; omega)]
    · rw [setD_at _ _ _ _ hq, psL_in t ht i (by omega) j (by omega)]
theorem ps_val (t : List Nat) (ht : t.length = 10) : ∀ i, i ≤ 10 → vs (psL t 10) i + psC t i * 67108864 ^ i = vs t i
  | 0, _ => by simp [vs, psC]
  | i + 1, hi => by
    have ih := ps_val t ht i (by omega)
    rw [vs, vs, psL_in t ht 10 (by omega) i (by omega), psC, ← ih]
    obtain ⟨x, hx⟩ : ∃ x, t.getD i 0 + psC t i = x := ⟨_, rfl⟩
    have e : t.getD i 0 * 67108864 ^ i + psC t i * 67108864 ^ i = x * 67108864 ^ i := by rw [← Nat.add_mul, hx]
    rw [hx, Nat.pow_succ, Nat.mul_comm (67108864 ^ i), ← Nat.mul_assoc, Nat.add_assoc, ← Nat.add_mul, Nat.mod_add_div', Nat.add_assoc, Nat.add_comm (psC t i * _), e]
theorem psL_lt (t : List Nat) (ht : t.length = 10) (i : Nat) : (psL t 10).getD i 0 < 67108864 := by
  rcases Nat.lt_or_ge i 10 with h | h
  · rw [psL_in t ht 10 (by omega) i h]; exact Nat.mod_lt _ (by decide)
  · rw [List.getD_eq_getElem?_getD, List.getElem?_eq_none (by rw [psL_len]; omega)]; decide
theorem psL_dg (t : List Nat) (ht : t.length = 10) : Dg (psL t 10) := ⟨by rw [psL_len, ht], psL_lt t ht⟩
theorem psC_eq (t : List Nat) (ht : t.length = 10) : psC t 10 = V t / 67108864 ^ 10 ∧ V (psL t 10) = V t % 67108864 ^ 10 := by
  have h := ps_val t ht 10 (by omega)
  have hl := vs_lt (psL_lt t ht) 10
  have e : V t = V (psL t 10) + psC t 10 * 67108864 ^ 10 := h.symm
  have hl' : V (psL t 10) < 67108864 ^ 10 := hl
  constructor
  · rw [e, Nat.add_mul_div_right _ _ (Nat.pow_pos (by decide)), Nat.div_eq_of_lt hl', Nat.zero_add]
  · rw [e, Nat.add_mul_mod_self_right, Nat.mod_eq_of_lt hl']
theorem vs_set0 (t : List Nat) (ht : t.length = 10) (x : Nat) : ∀ r, vs (t.set 0 (t.getD 0 0 + x)) (r + 1) = vs t (r + 1) + x
  | 0 => by simp only [vs, Nat.pow_zero, Nat.mul_one, Nat.zero_add]; rw [setD_in _ _ _ (by omega)]
  | r + 1 => by
    have ih := vs_set0 t ht x r
    show vs _ (r + 1) + _ = vs t (r + 1) + _ + x
    rw [ih, setD_at _ _ _ _ (by omega)]
    generalize t.getD (r + 1) 0 * 67108864 ^ (r + 1) = y
    omega
theorem psE_val (t : List Nat) (ht : t.length = 10) : V (psE t) = V t % 67108864 ^ 10 + 608 * (V t / 67108864 ^ 10) := by
  have h := vs_set0 (psL t 10) (by rw [psL_len, ht]) (608 * psC t 10) 9
  have e := psC_eq t ht
  show vs (psE t) 10 = _
  unfold psE
  rw [h]
  show V (psL t 10) + _ = _
  rw [e.2, e.1]
theorem psE_len (t : List Nat) : (psE t).length = t.length := by rw [psE, List.length_set, psL_len]
theorem psE_mod (t : List Nat) (ht : t.length = 10) : V (psE t) % Prm.P = V t % Prm.P := by
  rw [psE_val t ht]
  have h := Nat.div_add_mod (V t) (67108864 ^ 10)
  have hp : 67108864 ^ 10 = 608 + Prm.P * 32 := by decide +kernel
  generalize V t / 67108864 ^ 10 = q at *
  generalize V t % 67108864 ^ 10 = r at *
  rw [← h, hp, Nat.add_mul, Nat.mul_assoc Prm.P, Nat.add_comm (608 * q), Nat.add_assoc, Nat.mul_add_mod, Nat.add_comm (608 * q)]
/-- The passes, until nothing is carried. -/
def itL (t : List Nat) : Nat → List Nat × Nat
  | 0 => (t, 1)
  | j + 1 => if (itL t j).2 = 0 then itL t j else (psE (itL t j).1, psC (itL t j).1 10)
theorem it_len (t : List Nat) : ∀ j, (itL t j).1.length = t.length
  | 0 => rfl
  | j + 1 => by
    rw [itL]
    split
    · exact it_len t j
    · rw [psE_len, it_len t j]
theorem it_mod (t : List Nat) (ht : t.length = 10) : ∀ j, V (itL t j).1 % Prm.P = V t % Prm.P
  | 0 => rfl
  | j + 1 => by
    rw [itL]
    split
    · exact it_mod t ht j
    · rw [psE_mod _ (by rw [it_len, ht]), it_mod t ht j]
theorem it_stop (t : List Nat) (j : Nat) (h : (itL t j).2 = 0) : ∀ k, itL t (j + k) = itL t j
  | 0 => rfl
  | k + 1 => by
    rw [← Nat.add_assoc, itL, it_stop t j h k, if_pos h]
theorem it_dg (t : List Nat) (ht : t.length = 10) : ∀ j, (itL t (j + 1)).2 = 0 → Dg (itL t (j + 1)).1
  | j, h => by
    rw [itL] at h ⊢
    split at h
    · rename_i h0
      rw [if_pos h0]
      cases j with
      | zero => simp [itL] at h0
      | succ j => exact it_dg t ht j h0
    · rename_i h0
      rw [if_neg h0]
      have hl : (itL t j).1.length = 10 := by rw [it_len, ht]
      have h' : psC (itL t j).1 10 = 0 := h
      have hd := psL_dg _ hl
      show Dg (psE (itL t j).1)
      have e : psE (itL t j).1 = psL (itL t j).1 10 := by
        unfold psE
        rw [h', Nat.mul_zero, Nat.add_zero]
        apply List.ext_getElem (by simp)
        intro i h1 h2
        by_cases hi : i = 0
        · subst hi
          rw [List.getElem_set_self, List.getD_eq_getElem?_getD, List.getElem?_eq_getElem h2]
          rfl
        · rw [List.getElem_set_ne (by omega)]
      rw [e]
      exact hd
theorem end_num {a b c B K : Nat} (ha : a ≤ K * B) (hB : 608 * K + 608 < B) (hb : b = a % B + 608 * (a / B)) (hc : c = b % B + 608 * (b / B)) (h : b / B ≠ 0) : c / B = 0 := by
  have hpos : 0 < B := by omega
  have h1 : a / B ≤ K := Nat.div_le_of_le_mul (by rw [Nat.mul_comm]; exact ha)
  have h2 := Nat.mod_lt a hpos
  have h3 : 608 * (a / B) ≤ 608 * K := Nat.mul_le_mul_left _ h1
  have hb2 : b < B + 608 * K := by omega
  have hy : b / B < 2 := Nat.div_lt_of_lt_mul (by omega)
  have hy1 : b / B = 1 := by omega
  have e := Nat.div_add_mod b B
  rw [hy1, Nat.mul_one] at e
  rw [hy1] at hc
  exact Nat.div_eq_of_lt (by omega)
theorem it_end (t : List Nat) (ht : t.length = 10) (hb : ∀ i, t.getD i 0 ≤ 4611686018427387903) : (itL t 3).2 = 0 := by
  have hV : V t * 67108863 ≤ 4611686018427387903 * 67108864 ^ 10 := vs_le hb 10
  have hK : V t ≤ 68719477761 * 67108864 ^ 10 := by
    refine Nat.le_of_mul_le_mul_right (Nat.le_trans hV ?_) (show 0 < 67108863 by decide)
    decide +kernel
  have i1 : itL t 1 = (psE t, psC t 10) := by rw [itL, if_neg (by simp [itL])]; rfl
  have l1 : (psE t).length = 10 := by rw [psE_len, ht]
  have l2 : (psE (psE t)).length = 10 := by rw [psE_len, l1]
  rw [itL]
  split
  · rename_i h; exact h
  · rename_i h2
    rw [itL, i1] at h2 ⊢
    by_cases hz : psC t 10 = 0
    · rw [if_pos hz] at h2
      exact absurd hz h2
    · rw [if_neg hz] at h2 ⊢
      dsimp only at h2 ⊢
      rw [(psC_eq _ l1).1] at h2
      rw [(psC_eq _ l2).1]
      exact end_num hK (by decide +kernel) (psE_val t ht) (psE_val _ l1) h2
end Go.Proofs.Ytacancfmgnmpiaa
