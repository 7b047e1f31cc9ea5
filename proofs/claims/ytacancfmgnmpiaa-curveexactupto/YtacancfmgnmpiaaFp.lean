import Derived.Test.YtacancfmgnmpiaaEdw
import Derived.Test.YtacancfmgnmpiaaPl
set_option linter.unusedVariables false
set_option linter.unusedSimpArgs false
/-! The numbers modulo the prime are such a field. -/
namespace Edw
open Prm

instance : NeZero P := ⟨by decide +kernel⟩
/-- The numbers modulo the prime. -/
abbrev Fp : Type := Fin P
def ivP (a : Fp) : Fp := ⟨a.val ^ (P - 2) % P, Nat.mod_lt _ (by decide +kernel)⟩
theorem two_le_P : 2 < P := by decide +kernel
theorem fp_one : ((1 : Fp)).val = 1 := by
  show 1 % P = 1
  exact Nat.mod_eq_of_lt (by have := two_le_P; omega)
theorem fp_zero : ((0 : Fp)).val = 0 := by
  show 0 % P = 0
  exact Nat.zero_mod _
theorem fp_mul_iv (a : Fp) (h : a ≠ 0) : a * ivP a = 1 := by
  have hv : a.val % P ≠ 0 := fun e => h (Fin.ext (by rw [fp_zero, ← e, Nat.mod_eq_of_lt a.isLt]))
  apply Fin.ext
  rw [fp_one, Fin.val_mul]
  show a.val * (a.val ^ (P - 2) % P) % P = 1
  rw [Nat.mul_mod_mod, ← Nat.pow_succ', show (P - 2).succ = P - 1 by decide +kernel]
  exact fermat a.val hv
theorem ivP_val (a : Fp) : (ivP a).val = a.val ^ (P - 2) % P := rfl
theorem zero_pw {z e : Nat} (hz : z = 0) (he : 0 < e) : z ^ e % P = 0 := by subst hz; rw [Nat.zero_pow he, Nat.zero_mod]
theorem fp_iv0 : ivP 0 = 0 := by
  apply Fin.ext
  rw [fp_zero, ivP_val]
  exact zero_pw fp_zero (by have := two_le_P; omega)
instance fdP : Fd Fp := { (inferInstance : Lean.Grind.CommRing Fp) with
  iv := ivP
  iv_zero := fp_iv0
  mul_iv := fun {a} h => fp_mul_iv a h
  one_ne := fun h => by have := congrArg Fin.val h; rw [fp_one, fp_zero] at this; omega
  two_ne := fun h => by
    have h1 : ((1 : Fp) + 1).val = (0 : Fp).val := congrArg Fin.val h
    rw [Fin.val_add, fp_one, fp_zero, Nat.mod_eq_of_lt two_le_P] at h1
    omega }
/-- The residue of a number. -/
def re (n : Nat) : Fp := ⟨n % P, Nat.mod_lt _ (by decide +kernel)⟩
theorem re_eq {a b : Nat} : re a = re b ↔ a % P = b % P := ⟨fun h => congrArg Fin.val h, fun h => Fin.ext h⟩
theorem re_val (a : Fp) : re a.val = a := Fin.ext (Nat.mod_eq_of_lt a.isLt)
theorem re_mul (a b : Nat) : re (a * b) = re a * re b := by
  apply Fin.ext
  rw [Fin.val_mul]
  show a * b % P = (a % P) * (b % P) % P
  rw [← Nat.mul_mod]
theorem re_add (a b : Nat) : re (a + b) = re a + re b := by
  apply Fin.ext
  rw [Fin.val_add]
  show (a + b) % P = (a % P + b % P) % P
  rw [← Nat.add_mod]
theorem re_0 : re 0 = 0 := Fin.ext (by rw [fp_zero]; exact Nat.zero_mod _)
theorem re_1 : re 1 = 1 := Fin.ext (by rw [fp_one]; exact Nat.mod_eq_of_lt (by have := two_le_P; omega))
theorem re_iv (a : Nat) : re (a ^ (P - 2)) = Fd.iv (re a) := by
  apply Fin.ext
  show a ^ (P - 2) % P = (a % P) ^ (P - 2) % P
  rw [← Nat.pow_mod]
/-- Every residue is a square, or minus .. : Euler. -/
theorem fp_sq_of (a : Fp) (h : a.val ^ ((P - 1) / 2) % P = 1) : ∃ s : Fp, s * s = a := by
  have hP := two_le_P
  have h2 : a.val ^ ((P - 1) / 4) * a.val ^ ((P - 1) / 4) % P = 1 := by
    rw [← Nat.pow_add, show (P - 1) / 4 + (P - 1) / 4 = (P - 1) / 2 by decide +kernel]
    exact h
  have e : ∀ s : Nat, re (s ^ ((P + 3) / 8)) * re (s ^ ((P + 3) / 8)) = re s * re (s ^ ((P - 1) / 4)) := fun s => by
    rw [← re_mul, ← re_mul, ← Nat.pow_add, show (P + 3) / 8 + (P + 3) / 8 = 1 + (P - 1) / 4 by decide +kernel, Nat.pow_add, Nat.pow_one]
  rcases sq_one _ h2 with h1 | h1
  · refine ⟨re (a.val ^ ((P + 3) / 8)), ?_⟩
    rw [e, re_val]
    have : re (a.val ^ ((P - 1) / 4)) = 1 := by rw [← re_1]; exact re_eq.2 (by rw [h1]; exact (Nat.mod_eq_of_lt (by omega)).symm)
    rw [this]; grind
  · have hm : re (2 ^ ((P - 1) / 4)) * re (2 ^ ((P - 1) / 4)) = re (P - 1) := by
      rw [← re_mul, ← Nat.pow_add, show (P - 1) / 4 + (P - 1) / 4 = (P - 1) / 2 by decide +kernel]
      refine re_eq.2 ?_
      rw [← pmod_eq P 2 255 ((P - 1) / 2) (by decide +kernel)]
      decide +kernel
    refine ⟨re (a.val ^ ((P + 3) / 8)) * re (2 ^ ((P - 1) / 4)), ?_⟩
    have h3 := e a.val
    have h4 : re (a.val ^ ((P - 1) / 4)) = re (P - 1) := re_eq.2 (by rw [h1]; exact (Nat.mod_eq_of_lt (by omega)).symm)
    have h5 : re (P - 1) * re (P - 1) = 1 := by
      rw [← re_mul, ← re_1]
      refine re_eq.2 ?_
      decide +kernel
    rw [h4, re_val] at h3
    generalize re (a.val ^ ((P + 3) / 8)) = x at *
    generalize re (2 ^ ((P - 1) / 4)) = y at *
    generalize re (P - 1) = z at *
    grind
theorem fp_half (a : Fp) (h : a ≠ 0) : a.val ^ ((P - 1) / 2) % P = 1 ∨ a.val ^ ((P - 1) / 2) % P = P - 1 := by
  have hv : a.val % P ≠ 0 := fun e => h (Fin.ext (by rw [fp_zero, ← e, Nat.mod_eq_of_lt a.isLt]))
  have h2 : a.val ^ ((P - 1) / 2) * a.val ^ ((P - 1) / 2) % P = 1 := by
    rw [← Nat.pow_add, show (P - 1) / 2 + (P - 1) / 2 = P - 1 by decide +kernel]
    exact fermat _ hv
  exact sq_one _ h2
theorem fp_sq3 (a b : Fp) : (∃ s, s * s = a) ∨ (∃ s, s * s = b) ∨ ∃ s : Fp, s * s = a * b := by
  by_cases ha : a = 0
  · exact .inl ⟨0, by rw [ha]; grind⟩
  by_cases hb : b = 0
  · exact .inr (.inl ⟨0, by rw [hb]; grind⟩)
  rcases fp_half a ha with h1 | h1
  · exact .inl (fp_sq_of a h1)
  rcases fp_half b hb with h2 | h2
  · exact .inr (.inl (fp_sq_of b h2))
  refine .inr (.inr (fp_sq_of _ ?_))
  rw [Fin.val_mul, ← Nat.pow_mod, Nat.mul_pow, Nat.mul_mod, h1, h2]
  decide +kernel
/-- What is no square. -/
theorem fp_ns (n : Nat) (h : (pmod P (n % P) 255 ((P - 1) / 2) == P - 1) = true) : Ns (re n) := fun s hs => by
  have h' : (n % P) ^ ((P - 1) / 2) % P = P - 1 := by
    rw [← pmod_eq P (n % P) 255 ((P - 1) / 2) (by decide +kernel)]
    simpa using h
  have hP := two_le_P
  by_cases h0 : s = 0
  · have e : re n = 0 := by rw [← hs, h0]; grind
    have e2 : n % P = 0 := by have := congrArg Fin.val e; rw [fp_zero] at this; exact this
    rw [e2, Nat.zero_pow (by decide +kernel), Nat.zero_mod] at h'
    omega
  · have hv : s.val % P ≠ 0 := fun e => h0 (Fin.ext (by rw [fp_zero, ← e, Nat.mod_eq_of_lt s.isLt]))
    have e : n % P = s.val * s.val % P := by have := congrArg Fin.val hs; rw [Fin.val_mul] at this; exact this.symm
    rw [e, ← Nat.pow_mod, Nat.mul_pow, ← Nat.pow_add, show (P - 1) / 2 + (P - 1) / 2 = P - 1 by decide +kernel, fermat _ hv] at h'
    omega
/-- A quarter of the curve's coefficient but 2. -/
def cP : Fp := re 121665
theorem ns_cP : Ns (cP * (cP + 1)) := by
  have e : cP * (cP + 1) = re (121665 * 121666) := by
    rw [re_mul, show (121666 : Nat) = 121665 + 1 from rfl, re_add, re_1]
    rfl
  rw [e]
  exact fp_ns _ (by decide +kernel)
theorem meetsP (a b : Nat) (ha : a < 2 ^ 255) (hb : b < 2 ^ 255) (u : Fp) : tmK cP a (tmK cP b u) = tmK cP b (tmK cP a u) := meets cP ns_cP fp_sq3 a b ha hb u
end Edw
