import Derived.Test.YtacancfmgnmpiaaCal
set_option linter.unusedVariables false
set_option linter.unusedSimpArgs false
/-! Orders of points. -/
namespace Edw
open Fd Prm
section
variable {K : Type} [Fd K] {d : K}
theorem u_x (hd : Ns d) {s u : K} (hs : s * s = 1) {P : Pt K d} (hu : u ≠ 0) (hP : u * (1 - P.y) = s * (1 + P.y)) : P.x ≠ 0 := fun e => by
  have hy := y_sq P e
  have h2 := two_ne (K := K)
  have hs0 : s ≠ 0 := fun e => by have := one_ne (K := K); grind
  have e2 : (1 - P.y) * (1 + P.y) = 0 := by grind
  rcases mul_or e2 with h | h
  · have e1 : P.y = 1 := by grind
    rw [e1] at hP
    have e3 : s * (1 + 1) = 0 := by grind
    exact (mul_ne hs0 h2) e3
  · have e1 : P.y = -1 := by grind
    rw [e1] at hP
    have e3 : u * (1 + 1) = 0 := by grind
    exact (mul_ne hu h2) e3
theorem low_two (hd : Ns d) {P : Pt K d} (h : P.x = 0) : sm hd 2 P = nul d := by
  have hy := y_sq P h
  show add hd P (add hd P (nul d)) = nul d
  rw [add_nul]
  apply Pt.ext'
  · exact low_add hd h h
  · show (P.y*P.y-P.x*P.x) * iv (1 - d*(P.x*P.x*(P.y*P.y))) = 1
    rw [h, hy, show 1 - d*((0 : K)*0*1) = 1 by grind, iv_one]
    grind
theorem two_low (hd : Ns d) {P : Pt K d} (h : sm hd 2 P = nul d) : P.x = 0 := by
  have h' : add hd P P = nul d := by
    have e : sm hd 2 P = add hd P (add hd P (nul d)) := rfl
    rw [e, add_nul] at h
    exact h
  have hx : (P.x*P.y+P.y*P.x) * iv (1 + d*(P.x*P.x*(P.y*P.y))) = 0 := congrArg Pt.x h'
  have hy : (P.y*P.y-P.x*P.x) * iv (1 - d*(P.x*P.x*(P.y*P.y))) = 1 := congrArg Pt.y h'
  have i1 := mul_iv (den_p hd P P)
  have i2 := mul_iv (den_m hd P P)
  have h2 := two_ne (K := K)
  have hon := P.on
  have e1 : P.x*P.y+P.y*P.x = 0 := by
    rcases mul_or hx with h | h
    · exact h
    · rw [h] at i1
      have := one_ne (K := K)
      grind
  have e2 : P.x * P.y * (1 + 1) = 0 := by grind
  have e3 : P.x * P.y = 0 := (mul_or e2).resolve_right h2
  rcases mul_or e3 with h | h
  · exact h
  · exfalso
    rw [h] at hy hon i2
    have e4 : P.x * P.x = 1 := by grind
    rw [show 1 - d*(P.x*P.x*((0 : K)*0)) = 1 by grind, iv_one] at hy
    exact h2 (by grind)
theorem sm_mod (hd : Ns d) {P : Pt K d} {a b : Nat} (ha : sm hd a P = nul d) (hb : sm hd b P = nul d) : sm hd (a % b) P = nul d := by
  have e := Nat.div_add_mod a b
  have h : sm hd (a / b * b + a % b) P = nul d := by rw [Nat.mul_comm, e]; exact ha
  rw [sm_add, sm_mul, hb, sm_nul, nul_add] at h
  exact h
theorem sm_gcd (hd : Ns d) {P : Pt K d} (a b : Nat) : sm hd a P = nul d → sm hd b P = nul d → sm hd (Nat.gcd a b) P = nul d := by
  induction a, b using Nat.gcd.induction with
  | H0 n => intro _ h; rw [Nat.gcd_zero_left]; exact h
  | H1 m n hm ih =>
    intro h1 h2
    rw [Nat.gcd_rec]
    exact ih (sm_mod hd h2 h1) h1
theorem sm_dvd (hd : Ns d) {P : Pt K d} {a b : Nat} (ha : sm hd a P = nul d) (h : a ∣ b) : sm hd b P = nul d := by
  obtain ⟨c, rfl⟩ := h
  rw [Nat.mul_comm, sm_mul, ha, sm_nul]
end
theorem cal_Lo : (Go.Proofs.Ytacancfmgnmpiaa.ladN 9 Lo 255 1 0 9 1 == 0) = true := by decide +kernel
theorem re9 : re 9 ≠ 0 := fun h => by
  have : (re 9).val = (0 : Fp).val := congrArg Fin.val h
  rw [fp_zero] at this
  exact absurd this (by show 9 % P ≠ 0; decide +kernel)
theorem Lo_lt : Lo < 2 ^ 255 := by decide +kernel
theorem Lo_ndvd {m : Nat} (h0 : 0 < m) (h1 : m < 7237005577332262213973186563042994240829374041602535252466099000494570602496) : ¬ Lo ∣ m := fun h => by
  have := Nat.le_of_dvd h0 h
  unfold Lo at this
  omega
theorem Lo_8 : ¬ Lo ∣ 8 := fun h => by
  have := Nat.le_of_dvd (by decide) h
  unfold Lo at this
  omega
theorem gcd_Lo {n : Nat} (h : ¬ Lo ∣ n) : Nat.gcd n Lo = 1 := by
  rcases prLo.2 _ (Nat.gcd_dvd_right n Lo) with h1 | h1
  · exact h1
  · exact absurd (h1 ▸ Nat.gcd_dvd_left n Lo) h
/-- No secret of two clamped numbers over the base point is nothing. -/
theorem base_ne (m m' : Nat) (h0 : 0 < m) (h1 : m < 7237005577332262213973186563042994240829374041602535252466099000494570602496) (h0' : 0 < m') (h1' : m' < 7237005577332262213973186563042994240829374041602535252466099000494570602496)
    (hk : 8 * m < 2 ^ 255) (hk' : 8 * m' < 2 ^ 255) : tmK cP (8 * m) (tmK cP (8 * m') (re 9)) ≠ 0 := by
  obtain ⟨s, d, hf, hd, P, hP⟩ := point cP ns_cP fp_sq3 (re 9) re9
  have hs := hf.sq
  have hL : tmK cP Lo (re 9) = 0 := by
    apply Fin.ext
    rw [Go.Proofs.Ytacancfmgnmpiaa.tm_nat _ _ (by decide +kernel), fp_zero]
    simpa using cal_Lo
  rw [times_is hf hd re9 hP Lo Lo_lt] at hL
  have hL2 : sm hd (2 * Lo) P = nul d := by rw [sm_mul]; exact low_two hd ((ucd_zero hd hs _).1 hL)
  intro hz
  have hx : (sm hd (8 * m * (8 * m')) P).x = 0 := by
    rw [sm_mul]
    rw [times_is hf hd re9 hP (8 * m') hk'] at hz
    by_cases hv : ucd s (sm hd (8 * m') P) = 0
    · exact low_sm hd ((ucd_zero hd hs _).1 hv) _
    · rw [times_is hf hd hv (ucd_rel _ hv) (8 * m) hk] at hz
      exact (ucd_zero hd hs _).1 hz
  have h2 : sm hd (2 * (8 * m * (8 * m'))) P = nul d := by rw [sm_mul]; exact low_two hd hx
  have hg := sm_gcd hd _ _ h2 hL2
  have hnd : ¬ Lo ∣ 8 * m * (8 * m') := fun h => by
    rcases prLo.euclid h with h | h
    · rcases prLo.euclid h with h | h
      · exact Lo_8 h
      · exact Lo_ndvd h0 h1 h
    · rcases prLo.euclid h with h | h
      · exact Lo_8 h
      · exact Lo_ndvd h0' h1' h
  rw [Nat.gcd_mul_left, gcd_Lo hnd, Nat.mul_one] at hg
  exact u_x hd hs re9 hP (two_low hd hg)
end Edw
