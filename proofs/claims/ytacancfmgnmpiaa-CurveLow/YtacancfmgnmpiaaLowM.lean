import Derived.Test.YtacancfmgnmpiaaOrd
set_option linter.unusedVariables false
set_option linter.unusedSimpArgs false
/-! Which points are of a small order. -/
namespace Edw
open Fd Prm
section
variable {K : Type} [Fd K] {d : K}
theorem sm_sum (hd : Ns d) (A B : Pt K d) : ∀ k, sm hd k (add hd A B) = add hd (sm hd k A) (sm hd k B)
  | 0 => by rw [sm, sm, sm, nul_add]
  | k + 1 => by
    rw [sm, sm, sm, sm_sum hd A B k, add_assoc, add_assoc, ← add_assoc hd B, ← add_assoc hd (sm hd k A), add_comm hd B]
def OrdN (hd : Ns d) (n : Nat) (Q : Pt K d) : Prop := sm hd n Q = nul d ∧ ∀ k, sm hd k Q = nul d → n ∣ k
theorem ord_add (hd : Ns d) {A B : Pt K d} {a b : Nat} (hA : OrdN hd a A) (hB : OrdN hd b B) (hc : Nat.Coprime a b) : OrdN hd (a * b) (add hd A B) := by
  refine ⟨?_, fun k hk => ?_⟩
  · rw [sm_sum, sm_dvd hd hA.1 (Nat.dvd_mul_right a b), sm_dvd hd hB.1 (Nat.dvd_mul_left b a), nul_add]
  · have h1 : sm hd (k * b) (add hd A B) = nul d := sm_dvd hd hk (Nat.dvd_mul_right k b)
    rw [sm_sum, sm_dvd hd hB.1 (Nat.dvd_mul_left b k), add_nul] at h1
    have h2 : sm hd (k * a) (add hd A B) = nul d := sm_dvd hd hk (Nat.dvd_mul_right k a)
    rw [sm_sum, sm_dvd hd hA.1 (Nat.dvd_mul_left a k), nul_add] at h2
    have d1 : a ∣ k := Nat.Coprime.dvd_of_dvd_mul_right hc (hA.2 _ h1)
    have d2 : b ∣ k := Nat.Coprime.dvd_of_dvd_mul_right hc.symm (hB.2 _ h2)
    exact Nat.Coprime.mul_dvd_of_dvd_of_dvd hc d1 d2
theorem ord_prime (hd : Ns d) {q : Nat} (hq : Pr q) {G : Pt K d} (h : sm hd q G = nul d) (hn : G ≠ nul d) : OrdN hd q G := by
  refine ⟨h, fun k hk => ?_⟩
  have hg := sm_gcd hd _ _ hk h
  rcases hq.2 _ (Nat.gcd_dvd_right k q) with h1 | h1
  · rw [h1, sm_one] at hg
    exact absurd hg hn
  · exact h1 ▸ Nat.gcd_dvd_left k q
end

section
variable {K : Type} [Fd K]
theorem den_y {d : K} (hd : Ns d) (y : K) : 1 - d * (y * y) ≠ 0 := fun e => by
  have hy0 : y ≠ 0 := fun e0 => by
    have := one_ne (K := K)
    rw [e0] at e
    grind
  have hi := mul_iv hy0
  refine hd (iv y) ?_
  generalize iv y = i at hi
  grind
theorem x_pm {d x1 x2 y : K} (hd : Ns d) (o1 : x1 * x1 + y * y = 1 + d * (x1 * x1 * (y * y))) (o2 : x2 * x2 + y * y = 1 + d * (x2 * x2 * (y * y))) : x1 = x2 ∨ x1 + x2 = 0 := by
  have e1 : (x1 - x2) * (x1 + x2) * (1 - d * (y * y)) = 0 := by grind
  have e2 := (mul_or e1).resolve_right (den_y hd y)
  rcases mul_or e2 with h1 | h1
  · left; grind
  · right; exact h1
theorem rel1 {u y : K} (h : u * 1 = 1 + y + u * y) : u * (1 - y) = 1 * (1 + y) := by grind
theorem rel2 {u y : K} (h : u * 1 + 1 + y = u * y) : u * (1 - y) = -1 * (1 + y) := by grind
theorem sub_of {a b c : K} (h : a + b = c) : a = c - b := by grind
theorem quad_of {a b c e : K} (h : a = b + c + e) : a - b - c - e = 0 := by grind
theorem dif_of {a b c : K} (h : a = b + c) : a - c = b := by grind
theorem mulz (a : K) : a * 0 = 0 := by grind
theorem neg_of {a c : K} (h : a + c = 0) : -c = a := by grind
theorem nsc1 {c : K} (h : Ns (c * (c + 1))) : c + 1 ≠ 0 := fun e => h 0 (by rw [e]; grind)
theorem nsc0 {c : K} (h : Ns (c * (c + 1))) : c ≠ 0 := fun e => h 0 (by rw [e]; grind)
theorem fits_un {c s d d1 d2 : K} (h : Ns (c * (c + 1))) (hf : Fits c s d) (h1 : d1 * (c + 1) = c) (h2 : d2 * c = c + 1) : (s = 1 ∧ d = d1) ∨ (s = -1 ∧ d = d2) := by
  rcases hf with ⟨a, b⟩ | ⟨a, b⟩
  · left
    refine ⟨a, ?_⟩
    have e : (d - d1) * (c + 1) = 0 := by grind
    have := (mul_or e).resolve_right (nsc1 h)
    grind
  · right
    refine ⟨a, ?_⟩
    have e : (d - d2) * c = 0 := by grind
    have := (mul_or e).resolve_right (nsc0 h)
    grind
end
/-- A point as a number. -/
def code {d : Fp} (P : Pt Fp d) : Nat := 2 * P.y.val + P.x.val % 2
theorem code_lt {d : Fp} (Q : Pt Fp d) : code Q < 2 * P := by
  have := Q.y.isLt
  unfold code
  omega
theorem code_inj {d : Fp} (hd : Ns d) {P1 Q1 : Pt Fp d} (h : code P1 = code Q1) : P1 = Q1 := by
  unfold code at h
  have hyv : P1.y.val = Q1.y.val := by omega
  have hxv : P1.x.val % 2 = Q1.x.val % 2 := by omega
  have hy : P1.y = Q1.y := Fin.ext hyv
  have o1 := P1.on
  have o2 := Q1.on
  rw [hy] at o1
  have hx : P1.x = Q1.x := by
    rcases x_pm hd o1 o2 with h1 | h1
    · exact h1
    · have hv : (P1.x + Q1.x).val = (0 : Fp).val := congrArg Fin.val h1
      rw [Fin.val_add, fp_zero] at hv
      have l1 := P1.x.isLt
      have l2 := Q1.x.isLt
      have hP : P % 2 = 1 := by decide +kernel
      apply Fin.ext
      have hdv := Nat.dvd_of_mod_eq_zero hv
      obtain ⟨k, hk⟩ := hdv
      have hk2 : k < 2 := by
        rcases Nat.lt_or_ge k 2 with h | h
        · exact h
        · have := Nat.mul_le_mul_left P h
          omega
      have hk3 : k = 0 ∨ k = 1 := by omega
      rcases hk3 with rfl | rfl
      · rw [Nat.mul_zero] at hk; omega
      · rw [Nat.mul_one] at hk; omega
  exact Pt.ext' hx hy
theorem order_small {d : Fp} (hd : Ns d) (H : Pt Fp d) : ∃ k, 0 < k ∧ k ≤ 2 * P ∧ sm hd k H = nul d := by
  refine Classical.byContradiction fun hno => ?_
  have inj : ∀ i j, i < 2 * P + 1 → j < 2 * P + 1 → code (sm hd i H) = code (sm hd j H) → i = j := by
    have key : ∀ i j, i < j → j < 2 * P + 1 → sm hd i H = sm hd j H → False := fun i j hij hj he => by
      refine hno ⟨j - i, by omega, by omega, ?_⟩
      have e : sm hd j H = add hd (sm hd (j - i) H) (sm hd i H) := by rw [← sm_add, Nat.sub_add_cancel (Nat.le_of_lt hij)]
      have e2 : add hd (sm hd (j - i) H) (sm hd i H) = add hd (nul d) (sm hd i H) := by rw [nul_add, ← e, he]
      exact cancel hd e2
    intro i j hi hj he
    have he' := code_inj hd he
    rcases Nat.lt_trichotomy i j with h | h | h
    · exact (key i j h hj he').elim
    · exact h
    · exact (key j i h hi he'.symm).elim
  obtain ⟨i, hi, he⟩ := onto (2 * P + 1) (fun i => code (sm hd i H)) (fun i _ => by have := code_lt (sm hd i H); show code _ < _; omega) inj (2 * P) (by omega)
  have := code_lt (sm hd i H)
  have he' : code (sm hd i H) = 2 * P := he
  omega
theorem too_big {d : Fp} (hd : Ns d) {H : Pt Fp d} {n : Nat} (o : OrdN hd n H) (h : 2 * P < n) : False := by
  obtain ⟨k, h0, hk, he⟩ := order_small hd H
  have := Nat.le_of_dvd h0 (o.2 k he)
  omega
theorem two_part : ∀ n : Nat, 0 < n → ∃ a b, n = 2 ^ a * b ∧ b % 2 = 1 := by
  intro n
  induction n using Nat.strongRecOn with
  | ind n ih =>
    intro h
    by_cases h1 : n % 2 = 1
    · exact ⟨0, n, by simp, h1⟩
    · obtain ⟨a, b, e, hb⟩ := ih (n / 2) (by omega) (by omega)
      refine ⟨a + 1, b, ?_, hb⟩
      rw [Nat.pow_succ, Nat.mul_assoc, Nat.mul_left_comm, ← e]
      omega
theorem coprime_odd (a : Nat) {b : Nat} (hb : b % 2 = 1) : Nat.Coprime (2 ^ a) b := by
  apply Nat.Coprime.pow_left
  have h := Nat.gcd_dvd_left 2 b
  have h2 := Nat.gcd_dvd_right 2 b
  have hle := Nat.le_of_dvd (by decide) h
  have h0 : Nat.gcd 2 b ≠ 0 := fun e => by rw [e] at h; have := Nat.eq_zero_of_zero_dvd h; omega
  show Nat.gcd 2 b = 1
  rcases (show Nat.gcd 2 b = 1 ∨ Nat.gcd 2 b = 2 by omega) with e | e
  · exact e
  · rw [e] at h2
    omega
theorem pow2_dvd {n k : Nat} (h : k ∣ 2 ^ n) : ∃ c, c ≤ n ∧ k = 2 ^ c := by
  have h0 : 0 < k := Nat.pos_of_dvd_of_pos h (Nat.two_pow_pos n)
  obtain ⟨a, b, e, hb⟩ := two_part k h0
  have hbd : b ∣ 2 ^ n := Nat.dvd_trans (by rw [e]; exact Nat.dvd_mul_left b _) h
  have hb1 : b = 1 := by
    have := Nat.gcd_eq_right hbd
    rw [coprime_odd n hb] at this
    exact this.symm
  rw [hb1, Nat.mul_one] at e
  refine ⟨a, ?_, e⟩
  rw [e] at h
  exact (Nat.pow_dvd_pow_iff_le_right (by decide)).1 h
theorem coprime_pr {q n : Nat} (hq : Pr q) (h : ¬ q ∣ n) : Nat.Coprime q n := by
  rcases hq.2 _ (Nat.gcd_dvd_left q n) with h1 | h1
  · exact h1
  · exact absurd (h1 ▸ Nat.gcd_dvd_right q n) h
/-- What is of an order that the great prime does not divide is of the order 16 at most. -/
theorem tors {d : Fp} (hd : Ns d) {q t : Nat} (hq : Pr q) (hq2 : q % 2 = 1) {G T : Pt Fp d} (oG : OrdN hd q G) (oT : OrdN hd (2 ^ t) T) (b1 : 2 * P < 3 * (q * 2 ^ t)) (b2 : 2 * P < 32 * q)
    (Q : Pt Fp d) (m : Nat) (h : sm hd (16 * m) Q = nul d) (hm : ¬ q ∣ 16 * m) : sm hd 16 Q = nul d := by
  obtain ⟨k, k0, _, hk⟩ := order_small hd Q
  obtain ⟨n, ⟨hn0, hn⟩, hmin⟩ := least (P := fun n => 0 < n ∧ sm hd n Q = nul d) ⟨k0, hk⟩
  have on : OrdN hd n Q := ⟨hn, fun k hk => by
    have h1 := sm_mod hd hk hn
    by_cases h0 : k % n = 0
    · exact Nat.dvd_of_mod_eq_zero h0
    · have := hmin _ ⟨by omega, h1⟩
      have := Nat.mod_lt k hn0
      omega⟩
  have hqn : ¬ q ∣ n := fun hh => hm (Nat.dvd_trans hh (on.2 _ h))
  obtain ⟨a, b, e, hb⟩ := two_part n hn0
  have hqb : ¬ q ∣ b := fun hh => hqn (by rw [e]; exact Nat.dvd_trans hh (Nat.dvd_mul_left b _))
  have hqa : ¬ q ∣ 2 ^ t := fun hh => by
    have h2 := hq.of_pow hh
    have h3 := Nat.le_of_dvd (by decide) h2
    have h4 := hq.1
    have h5 : q = 2 := by omega
    omega
  by_cases hb1 : b = 1
  · rw [hb1, Nat.mul_one] at e
    by_cases ha : a ≤ 4
    · exact sm_dvd hd hn (by rw [e, show 16 = 2 ^ 4 from rfl]; exact Nat.pow_dvd_pow 2 ha)
    · exfalso
      have o := ord_add hd oG on (coprime_pr hq hqn)
      refine too_big hd o ?_
      have h32 : 2 ^ 5 ≤ n := by rw [e]; exact Nat.pow_le_pow_right (by decide) (by omega)
      have := Nat.mul_le_mul_left q h32
      omega
  · exfalso
    have oQ : OrdN hd b (sm hd (2 ^ a) Q) := ⟨by rw [← sm_mul, Nat.mul_comm, ← e]; exact hn, fun k hk => by
      rw [← sm_mul] at hk
      have h1 := on.2 _ hk
      rw [e, Nat.mul_comm k] at h1
      exact Nat.dvd_of_mul_dvd_mul_left (Nat.two_pow_pos a) h1⟩
    have o1 := ord_add hd oG oT (coprime_pr hq hqa)
    have hc : Nat.Coprime (q * 2 ^ t) b := Nat.Coprime.mul_left (coprime_pr hq hqb) (coprime_odd t hb)
    have o := ord_add hd o1 oQ hc
    refine too_big hd o ?_
    have h3 : 3 ≤ b := by omega
    have := Nat.mul_le_mul_left (q * 2 ^ t) h3
    omega

section
variable {K : Type} [Fd K] {d : K}
theorem dbl_u {c s v : K} (hf : Fits c s d) (hd : Ns d) {R : Pt K d} (hR : v * (1 - R.y) = s * (1 + R.y)) : Rep s (sm hd 2 R) (dblX v 1) (dblZ c v 1) := by
  have e : sm hd 2 R = add hd R R := by
    show add hd R (add hd R (nul d)) = _
    rw [add_nul]
  rw [e]
  refine dbl_rep hf hd (rep_of hf.sq ?_ ?_)
  · rw [hR]; grind
  · intro h
    exact one_ne h.2
theorem W_ne {c : K} (hc : Ns (c * (c + 1))) (v : K) : v * v + ((1 + 1) * (1 + 1) * c + (1 + 1)) * v + 1 ≠ 0 := fun e => by
  have := hc.zero (a := v + (1 + 1) * c + 1) (b := 1 + 1) (by grind)
  exact two_ne this
theorem dblX_1 (v : K) : dblX v 1 = (v + 1) * (v - 1) * ((v + 1) * (v - 1)) := by unfold dblX; grind
theorem dblZ_1 (c v : K) : dblZ c v 1 = (1 + 1) * (1 + 1) * v * (v * v + ((1 + 1) * (1 + 1) * c + (1 + 1)) * v + 1) := by unfold dblZ; grind
/-- The double is of the order 2 at most. -/
theorem half_low {c s v : K} (hc : Ns (c * (c + 1))) (hf : Fits c s d) (hd : Ns d) {R : Pt K d} (hv : v ≠ 0) (hR : v * (1 - R.y) = s * (1 + R.y)) (h : (sm hd 2 R).x = 0) : v = 1 ∨ v = -1 := by
  obtain ⟨l, hl, e1, e2⟩ := dbl_u hf hd hR
  have hy := y_sq _ h
  have e3 : dblX v 1 * dblZ c v 1 = 0 := by
    rw [e1, e2]
    generalize (sm hd 2 R).y = y at hy
    grind
  rw [dblX_1, dblZ_1] at e3
  have h2 := two_ne (K := K)
  have hz : (1 + 1) * (1 + 1) * v * (v * v + ((1 + 1) * (1 + 1) * c + (1 + 1)) * v + 1) ≠ 0 := mul_ne (mul_ne (mul_ne h2 h2) hv) (W_ne hc v)
  have e4 := (mul_or e3).resolve_right hz
  have e5 : (v + 1) * (v - 1) = 0 := by rcases mul_or e4 with h | h <;> exact h
  rcases mul_or e5 with h | h
  · right; grind
  · left; grind
/-- The double has the u w. -/
theorem half_u {c s v : K} (hf : Fits c s d) (hd : Ns d) {R : Pt K d} (hR : v * (1 - R.y) = s * (1 + R.y)) (h : (sm hd 2 R).x ≠ 0) : (v + 1) * (v - 1) * ((v + 1) * (v - 1)) = ucd s (sm hd 2 R) * ((1 + 1) * (1 + 1) * v * (v * v + ((1 + 1) * (1 + 1) * c + (1 + 1)) * v + 1)) := by
  obtain ⟨l, hl, e1, e2⟩ := dbl_u hf hd hR
  have hs := hf.sq
  have hne : ucd s (sm hd 2 R) ≠ 0 := fun e => h ((ucd_zero hd hs _).1 e)
  have hr := ucd_rel _ hne
  rw [← dblX_1, ← dblZ_1, e1, e2]
  generalize ucd s (sm hd 2 R) = w at *
  generalize (sm hd 2 R).y = y at *
  have e3 : w * (s * (l * (1 - y))) = s * l * (w * (1 - y)) := by grind
  rw [e3, hr]
  grind
theorem no_neg {c v : K} (hn : Ns (-c)) (hv : v ≠ 0) (h : (v + 1) * (v - 1) * ((v + 1) * (v - 1)) = -1 * ((1 + 1) * (1 + 1) * v * (v * v + ((1 + 1) * (1 + 1) * c + (1 + 1)) * v + 1))) : False := by
  have h2 := two_ne (K := K)
  have := hn.zero (a := (v + 1) * (v + 1)) (b := (1 + 1) * (1 + 1) * v) (by grind)
  exact (mul_ne (mul_ne h2 h2) hv) this
theorem no_e {c v e : K} (hn : Ns (e * e + ((1 + 1) * (1 + 1) * c + (1 + 1)) * e + 1)) (hv : v ≠ 0) (h : (v + 1) * (v - 1) * ((v + 1) * (v - 1)) = e * ((1 + 1) * (1 + 1) * v * (v * v + ((1 + 1) * (1 + 1) * c + (1 + 1)) * v + 1))) : False := by
  have h2 := two_ne (K := K)
  have := hn.zero (a := v * v + 1 - (1 + 1) * e * v) (b := (1 + 1) * v) (by grind)
  exact (mul_ne h2 hv) this
theorem one_e {c v e f t : K} (hef : e * f = 1) (ht : t = (1 + 1) * (1 + 1) - (e + f)) (hq : (e + f) * (e + f) - (1 + 1) * (1 + 1) * (e + f) - (1 + 1) * (1 + 1) * ((1 + 1) * (1 + 1) * c + (1 + 1)) - (1 + 1) * (1 + 1) = 0) (hn : Ns (t * t - (1 + 1) * (1 + 1)))
    (h : (v + 1) * (v - 1) * ((v + 1) * (v - 1)) = 1 * ((1 + 1) * (1 + 1) * v * (v * v + ((1 + 1) * (1 + 1) * c + (1 + 1)) * v + 1))) : v = e ∨ v = f := by
  have e1 : ((v - e) * (v - f)) * (v * v - t * v + 1) = 0 := by grind
  rcases mul_or e1 with h1 | h1
  · rcases mul_or h1 with h2 | h2
    · left; grind
    · right; grind
  · exact absurd (show ((1 + 1) * v - t) * ((1 + 1) * v - t) = t * t - (1 + 1) * (1 + 1) by grind) (hn _)
/-- What is of the order 16 at most. -/
theorem small_u {c s u e f t : K} (hc : Ns (c * (c + 1))) (hnc : Ns (-c)) (hef : e * f = 1) (ht : t = (1 + 1) * (1 + 1) - (e + f)) (hq : (e + f) * (e + f) - (1 + 1) * (1 + 1) * (e + f) - (1 + 1) * (1 + 1) * ((1 + 1) * (1 + 1) * c + (1 + 1)) - (1 + 1) * (1 + 1) = 0) (hnt : Ns (t * t - (1 + 1) * (1 + 1)))
    (hne : Ns (e * e + ((1 + 1) * (1 + 1) * c + (1 + 1)) * e + 1)) (hnf : Ns (f * f + ((1 + 1) * (1 + 1) * c + (1 + 1)) * f + 1))
    (hf : Fits c s d) (hd : Ns d) {P : Pt K d} (hu : u ≠ 0) (hP : u * (1 - P.y) = s * (1 + P.y)) (h : sm hd 16 P = nul d) : u = 1 ∨ u = -1 ∨ u = e ∨ u = f := by
  have hs := hf.sq
  have h8 : (sm hd 8 P).x = 0 := two_low hd (by rw [← sm_mul]; exact h)
  have e8 : sm hd 2 (sm hd 4 P) = sm hd 8 P := by rw [← sm_mul]
  have e4 : sm hd 2 (sm hd 2 P) = sm hd 4 P := by rw [← sm_mul]
  have nz : ∀ Q : Pt K d, Q.x ≠ 0 → ucd s Q ≠ 0 := fun Q hQ e => hQ ((ucd_zero hd hs Q).1 e)
  -- a double of u 1 or -1
  have step : ∀ (Q : Pt K d) (v : K), v ≠ 0 → v * (1 - Q.y) = s * (1 + Q.y) → (sm hd 2 Q).x ≠ 0 → (ucd s (sm hd 2 Q) = 1 ∨ ucd s (sm hd 2 Q) = -1) → v = e ∨ v = f := fun Q v hv hQ hx hw => by
    have hh := half_u hf hd hQ hx
    rcases hw with hw | hw
    · rw [hw] at hh; exact one_e hef ht hq hnt hh
    · rw [hw] at hh; exact (no_neg hnc hv hh).elim
  by_cases h2 : (sm hd 2 P).x = 0
  · rcases half_low hc hf hd hu hP h2 with h | h
    · exact .inl h
    · exact .inr (.inl h)
  · have n2 := nz _ h2
    have r2 := ucd_rel _ n2
    by_cases h4 : (sm hd 4 P).x = 0
    · rw [← e4] at h4
      have := half_low hc hf hd n2 r2 h4
      exact .inr (.inr (step P u hu hP h2 this))
    · exfalso
      have n4 := nz _ h4
      have r4 := ucd_rel _ n4
      have w4 := half_low hc hf hd n4 r4 (by rw [e8]; exact h8)
      have w2 := step (sm hd 2 P) _ n2 r2 (by rw [e4]; exact h4) (by rw [e4]; exact w4)
      have hh := half_u hf hd hP h2
      rcases w2 with w | w
      · rw [w] at hh; exact no_e hne hu hh
      · rw [w] at hh; exact no_e hnf hu hh
end

/-! The two curves. -/
def dE : Fp := re 20800338683988658368647408995589388737092878452977063003340006470870624536394
def dT : Fp := re 28692721048178265397853269683490922171210976843790175684556505508326675974058
theorem dE_is : dE * (cP + 1) = cP := by
  show re _ * (re 121665 + 1) = re 121665
  rw [← re_1, ← re_add, ← re_mul]
  exact re_eq.2 (by decide +kernel)
theorem dT_is : dT * cP = cP + 1 := by
  show re _ * re 121665 = re 121665 + 1
  rw [← re_1, ← re_add, ← re_mul]
  exact re_eq.2 (by decide +kernel)
theorem dE_fits : Fits cP 1 dE := .inl ⟨rfl, dE_is⟩
theorem dT_fits : Fits cP (-1) dT := .inr ⟨rfl, dT_is⟩
theorem dE_ns : Ns dE := fp_ns _ (by decide +kernel)
theorem dT_ns : Ns dT := fp_ns _ (by decide +kernel)
theorem fits_eq {s d : Fp} (h : Fits cP s d) : (s = 1 ∧ d = dE) ∨ (s = -1 ∧ d = dT) := fits_un ns_cP h dE_is dT_is
def gE : Pt Fp dE := ⟨re 9771384041963202563870679428059935816164187996444183106833894008023910952347, re 46316835694926478169428394003475163141307993866256225615783033603165251855960, by
  unfold dE
  rw [← re_1]
  simp only [← re_mul, ← re_add]
  exact re_eq.2 (by decide +kernel)⟩
theorem gE_u : re 9 * (1 - gE.y) = 1 * (1 + gE.y) := by
  have h : re 9 * 1 = 1 + gE.y + re 9 * gE.y := by
    show re 9 * 1 = 1 + re 46316835694926478169428394003475163141307993866256225615783033603165251855960 + re 9 * re 46316835694926478169428394003475163141307993866256225615783033603165251855960
    rw [← re_1]
    simp only [← re_mul, ← re_add]
    exact re_eq.2 (by decide +kernel)
  exact rel1 h
theorem gE_ne : re 9 ≠ 0 := fun h => by
  have : (re 9).val = (0 : Fp).val := congrArg Fin.val h
  rw [fp_zero] at this
  exact absurd this (by show 9 % P ≠ 0; decide +kernel)
def tE : Pt Fp dE := ⟨re 55188659117513257062467267217118295137698188065244968500265048394206261417927, re 55188659117513257062467267217118295137698188065244968500265048394206261417927, by
  unfold dE
  rw [← re_1]
  simp only [← re_mul, ← re_add]
  exact re_eq.2 (by decide +kernel)⟩
theorem tE_u : re 325606250916557431795983626356110631294008115727848805560023387167927233504 * (1 - tE.y) = 1 * (1 + tE.y) := by
  have h : re 325606250916557431795983626356110631294008115727848805560023387167927233504 * 1 = 1 + tE.y + re 325606250916557431795983626356110631294008115727848805560023387167927233504 * tE.y := by
    show re 325606250916557431795983626356110631294008115727848805560023387167927233504 * 1 = 1 + re 55188659117513257062467267217118295137698188065244968500265048394206261417927 + re 325606250916557431795983626356110631294008115727848805560023387167927233504 * re 55188659117513257062467267217118295137698188065244968500265048394206261417927
    rw [← re_1]
    simp only [← re_mul, ← re_add]
    exact re_eq.2 (by decide +kernel)
  exact rel1 h
theorem tE_ne : re 325606250916557431795983626356110631294008115727848805560023387167927233504 ≠ 0 := fun h => by
  have : (re 325606250916557431795983626356110631294008115727848805560023387167927233504).val = (0 : Fp).val := congrArg Fin.val h
  rw [fp_zero] at this
  exact absurd this (by show 325606250916557431795983626356110631294008115727848805560023387167927233504 % P ≠ 0; decide +kernel)
def gT : Pt Fp dT := ⟨re 32065679123207371837161887042422126473440588175635437574654347924003801580755, re 3, by
  unfold dT
  rw [← re_1]
  simp only [← re_mul, ← re_add]
  exact re_eq.2 (by decide +kernel)⟩
theorem gT_u : re 2 * (1 - gT.y) = -1 * (1 + gT.y) := by
  have h : re 2 * 1 + 1 + gT.y = re 2 * gT.y := by
    show re 2 * 1 + 1 + re 3 = re 2 * re 3
    rw [← re_1]
    simp only [← re_mul, ← re_add]
    all_goals exact re_eq.2 (by decide +kernel)
  exact rel2 h
theorem gT_ne : re 2 ≠ 0 := fun h => by
  have : (re 2).val = (0 : Fp).val := congrArg Fin.val h
  rw [fp_zero] at this
  exact absurd this (by show 2 % P ≠ 0; decide +kernel)
def tT : Pt Fp dT := ⟨re 1, re 0, by
  unfold dT
  rw [← re_1]
  simp only [← re_mul, ← re_add]
  all_goals exact re_eq.2 (by decide +kernel)⟩
theorem tT_u : re 57896044618658097711785492504343953926634992332820282019728792003956564819948 * (1 - tT.y) = -1 * (1 + tT.y) := by
  have h : re 57896044618658097711785492504343953926634992332820282019728792003956564819948 * 1 + 1 + tT.y = re 57896044618658097711785492504343953926634992332820282019728792003956564819948 * tT.y := by
    show re 57896044618658097711785492504343953926634992332820282019728792003956564819948 * 1 + 1 + re 0 = re 57896044618658097711785492504343953926634992332820282019728792003956564819948 * re 0
    rw [← re_1]
    simp only [← re_mul, ← re_add]
    exact re_eq.2 (by decide +kernel)
  exact rel2 h
theorem tT_ne : re 57896044618658097711785492504343953926634992332820282019728792003956564819948 ≠ 0 := fun h => by
  have : (re 57896044618658097711785492504343953926634992332820282019728792003956564819948).val = (0 : Fp).val := congrArg Fin.val h
  rw [fp_zero] at this
  exact absurd this (by show 57896044618658097711785492504343953926634992332820282019728792003956564819948 % P ≠ 0; decide +kernel)
theorem calGE : tmK cP Lo (re 9) = re 0 := by
  apply Fin.ext
  rw [Go.Proofs.Ytacancfmgnmpiaa.tm_nat _ _ (by decide +kernel)]
  show _ = 0 % P
  have h : (Go.Proofs.Ytacancfmgnmpiaa.ladN 9 Lo 255 1 0 9 1 == 0 % P) = true := by decide +kernel
  simpa using h
theorem calTE4 : tmK cP 4 (re 325606250916557431795983626356110631294008115727848805560023387167927233504) = re 0 := by
  apply Fin.ext
  rw [Go.Proofs.Ytacancfmgnmpiaa.tm_nat _ _ (by decide +kernel)]
  show _ = 0 % P
  have h : (Go.Proofs.Ytacancfmgnmpiaa.ladN 325606250916557431795983626356110631294008115727848805560023387167927233504 4 255 1 0 325606250916557431795983626356110631294008115727848805560023387167927233504 1 == 0 % P) = true := by decide +kernel
  simpa using h
theorem calTE2 : tmK cP 2 (re 325606250916557431795983626356110631294008115727848805560023387167927233504) = re 1 := by
  apply Fin.ext
  rw [Go.Proofs.Ytacancfmgnmpiaa.tm_nat _ _ (by decide +kernel)]
  show _ = 1 % P
  have h : (Go.Proofs.Ytacancfmgnmpiaa.ladN 325606250916557431795983626356110631294008115727848805560023387167927233504 2 255 1 0 325606250916557431795983626356110631294008115727848805560023387167927233504 1 == 1 % P) = true := by decide +kernel
  simpa using h
theorem calGT : tmK cP Tw (re 2) = re 0 := by
  apply Fin.ext
  rw [Go.Proofs.Ytacancfmgnmpiaa.tm_nat _ _ (by decide +kernel)]
  show _ = 0 % P
  have h : (Go.Proofs.Ytacancfmgnmpiaa.ladN 2 Tw 255 1 0 2 1 == 0 % P) = true := by decide +kernel
  simpa using h
theorem calTT2 : tmK cP 2 (re 57896044618658097711785492504343953926634992332820282019728792003956564819948) = re 0 := by
  apply Fin.ext
  rw [Go.Proofs.Ytacancfmgnmpiaa.tm_nat _ _ (by decide +kernel)]
  show _ = 0 % P
  have h : (Go.Proofs.Ytacancfmgnmpiaa.ladN 57896044618658097711785492504343953926634992332820282019728792003956564819948 2 255 1 0 57896044618658097711785492504343953926634992332820282019728792003956564819948 1 == 0 % P) = true := by decide +kernel
  simpa using h
theorem gE_ord : OrdN dE_ns Lo (sm dE_ns 2 gE) := by
  have h := calGE
  rw [times_is dE_fits dE_ns gE_ne gE_u Lo (by decide +kernel), re_0] at h
  have hx := (ucd_zero dE_ns dE_fits.sq _).1 h
  refine ord_prime dE_ns prLo ?_ fun e => u_x dE_ns dE_fits.sq gE_ne gE_u (two_low dE_ns e)
  rw [← sm_mul, Nat.mul_comm, sm_mul]
  exact low_two dE_ns hx
theorem gT_ord : OrdN dT_ns Tw (sm dT_ns 2 gT) := by
  have h := calGT
  rw [times_is dT_fits dT_ns gT_ne gT_u Tw (by decide +kernel), re_0] at h
  have hx := (ucd_zero dT_ns dT_fits.sq _).1 h
  refine ord_prime dT_ns prTw ?_ fun e => u_x dT_ns dT_fits.sq gT_ne gT_u (two_low dT_ns e)
  rw [← sm_mul, Nat.mul_comm, sm_mul]
  exact low_two dT_ns hx
theorem pow_ord {d : Fp} (hd : Ns d) {T : Pt Fp d} (t : Nat) (h : sm hd (2 ^ (t + 1)) T = nul d) (hn : sm hd (2 ^ t) T ≠ nul d) : OrdN hd (2 ^ (t + 1)) T := by
  refine ⟨h, fun k hk => ?_⟩
  have hg := sm_gcd hd _ _ hk h
  obtain ⟨c, hc, he⟩ := pow2_dvd (Nat.gcd_dvd_right k (2 ^ (t + 1)))
  rw [he] at hg
  by_cases hct : c = t + 1
  · rw [hct] at he
    exact he ▸ Nat.gcd_dvd_left k _
  · exact absurd (sm_dvd hd hg (Nat.pow_dvd_pow 2 (by omega))) hn
theorem tE_ord : OrdN dE_ns (2 ^ 3) tE := by
  have h4 := calTE4
  rw [times_is dE_fits dE_ns tE_ne tE_u 4 (by decide), re_0] at h4
  have hx4 := (ucd_zero dE_ns dE_fits.sq _).1 h4
  have h2 := calTE2
  rw [times_is dE_fits dE_ns tE_ne tE_u 2 (by decide)] at h2
  refine pow_ord dE_ns 2 (by rw [show 2 ^ (2 + 1) = 2 * 4 from rfl, sm_mul]; exact low_two dE_ns hx4) fun e => ?_
  have hx2 : (sm dE_ns 2 tE).x = 0 := two_low dE_ns (by rw [← sm_mul]; exact e)
  rw [(ucd_zero dE_ns dE_fits.sq _).2 hx2, re_1] at h2
  exact one_ne (K := Fp) h2.symm
theorem tT_ord : OrdN dT_ns (2 ^ 2) tT := by
  have h2 := calTT2
  rw [times_is dT_fits dT_ns tT_ne tT_u 2 (by decide), re_0] at h2
  have hx2 := (ucd_zero dT_ns dT_fits.sq _).1 h2
  refine pow_ord dT_ns 1 (by rw [show 2 ^ (1 + 1) = 2 * 2 from rfl, sm_mul]; exact low_two dT_ns hx2) fun e => ?_
  exact u_x dT_ns dT_fits.sq tT_ne tT_u (two_low dT_ns e)
def e1N : Nat := 325606250916557431795983626356110631294008115727848805560023387167927233504
def e2N : Nat := 39382357235489614581723060781553021112529911719440698176882885853963445705823
theorem ef : re e1N * re e2N = 1 := by
  rw [← re_mul, ← re_1]
  exact re_eq.2 (by decide +kernel)
theorem t2_is : re 18188081132251925698266448096434822182811072497651735037285882762825191880626 = (1 + 1) * (1 + 1) - (re e1N + re e2N) := by
  have h : re 18188081132251925698266448096434822182811072497651735037285882762825191880626 + (re e1N + re e2N) = (1 + 1) * (1 + 1) := by
    rw [← re_1]
    simp only [← re_mul, ← re_add]
    exact re_eq.2 (by decide +kernel)
  exact sub_of h
theorem t1_quad : (re e1N + re e2N) * (re e1N + re e2N) - (1 + 1) * (1 + 1) * (re e1N + re e2N) - (1 + 1) * (1 + 1) * ((1 + 1) * (1 + 1) * cP + (1 + 1)) - (1 + 1) * (1 + 1) = 0 := by
  have h : (re e1N + re e2N) * (re e1N + re e2N) = (1 + 1) * (1 + 1) * (re e1N + re e2N) + (1 + 1) * (1 + 1) * ((1 + 1) * (1 + 1) * cP + (1 + 1)) + (1 + 1) * (1 + 1) := by
    unfold cP
    rw [← re_1]
    simp only [← re_mul, ← re_add]
    exact re_eq.2 (by decide +kernel)
  exact quad_of h
theorem ns_of {a : Fp} (n : Nat) (h : a = re n) (hn : (pmod P (n % P) 255 ((P - 1) / 2) == P - 1) = true) : Ns a := by
  rw [h]; exact fp_ns n hn
theorem ns_t : Ns (re 18188081132251925698266448096434822182811072497651735037285882762825191880626 * re 18188081132251925698266448096434822182811072497651735037285882762825191880626 - (1 + 1) * (1 + 1)) := by
  refine ns_of 14856279910349605081280299881395334804609297657786658129414739047344204649203 ?_ (by decide +kernel)
  have h : re 18188081132251925698266448096434822182811072497651735037285882762825191880626 * re 18188081132251925698266448096434822182811072497651735037285882762825191880626 = re 14856279910349605081280299881395334804609297657786658129414739047344204649203 + (1 + 1) * (1 + 1) := by
    rw [← re_1]
    simp only [← re_mul, ← re_add]
    exact re_eq.2 (by decide +kernel)
  exact dif_of h
theorem ns_negc : Ns (-cP) := by
  refine ns_of 57896044618658097711785492504343953926634992332820282019728792003956564698284 ?_ (by decide +kernel)
  have h : re 57896044618658097711785492504343953926634992332820282019728792003956564698284 + cP = 0 := by
    unfold cP
    rw [← re_0]
    simp only [← re_add]
    exact re_eq.2 (by decide +kernel)
  exact neg_of h
theorem ns_e1 : Ns (re e1N * re e1N + ((1 + 1) * (1 + 1) * cP + (1 + 1)) * re e1N + 1) := by
  refine ns_of 4871724851227263330787707919532158396525034520243714830081772092258679503902 ?_ (by decide +kernel)
  unfold cP
  rw [← re_1]
  simp only [← re_mul, ← re_add]
  exact re_eq.2 (by decide +kernel)
theorem ns_e2 : Ns (re e2N * re e2N + ((1 + 1) * (1 + 1) * cP + (1 + 1)) * re e2N + 1) := by
  refine ns_of 27009579413685725878575504165379403114139611194929779674320683730235175199261 ?_ (by decide +kernel)
  unfold cP
  rw [← re_1]
  simp only [← re_mul, ← re_add]
  exact re_eq.2 (by decide +kernel)
theorem Tw_ndvd {m : Nat} (h0 : 0 < m) (h1 : m < 7237005577332262213973186563042994240829374041602535252466099000494570602496) : ¬ Tw ∣ 16 * m := fun h => by
  rcases prTw.euclid h with h | h
  · have := Nat.le_of_dvd (by decide) h
    unfold Tw at this
    omega
  · have := Nat.le_of_dvd h0 h
    unfold Tw at this
    omega
theorem Lo_ndvd16 {m : Nat} (h0 : 0 < m) (h1 : m < 7237005577332262213973186563042994240829374041602535252466099000494570602496) : ¬ Lo ∣ 16 * m := fun h => by
  rcases prLo.euclid h with h | h
  · have := Nat.le_of_dvd (by decide) h
    unfold Lo at this
    omega
  · exact Lo_ndvd h0 h1 h
/-- Only the low points' multiples are 0. -/
theorem low_only (m : Nat) (h0 : 0 < m) (h1 : m < 7237005577332262213973186563042994240829374041602535252466099000494570602496) (hk : 8 * m < 2 ^ 255) (u : Fp) (h : tmK cP (8 * m) u = 0) : u = 0 ∨ u = 1 ∨ u = -1 ∨ u = re e1N ∨ u = re e2N := by
  by_cases hu : u = 0
  · exact .inl hu
  right
  obtain ⟨s, d, hf, hd, Q, hQ⟩ := point cP ns_cP fp_sq3 u hu
  rw [times_is hf hd hu hQ (8 * m) hk] at h
  have hx := (ucd_zero hd hf.sq _).1 h
  have h16 : sm hd (16 * m) Q = nul d := by
    rw [show 16 * m = 2 * (8 * m) by omega, sm_mul]
    exact low_two hd hx
  refine small_u ns_cP ns_negc ef t2_is t1_quad ns_t ns_e1 ns_e2 hf hd hu hQ ?_
  rcases fits_eq hf with ⟨h1s, h1d⟩ | ⟨h1s, h1d⟩
  · subst h1d
    exact tors dE_ns prLo (by decide +kernel) gE_ord tE_ord (by decide +kernel) (by decide +kernel) Q m h16 (Lo_ndvd16 h0 h1)
  · subst h1d
    exact tors dT_ns prTw (by decide +kernel) gT_ord tT_ord (by decide +kernel) (by decide +kernel) Q m h16 (Tw_ndvd h0 h1)
/-- .. and those of the low points are. -/
theorem low_all (m : Nat) (hk : 8 * m < 2 ^ 255) (u : Fp) (hu0 : u ≠ 0) (h8 : tmK cP 8 u = 0) : tmK cP (8 * m) u = 0 := by
  obtain ⟨s, d, hf, hd, Q, hQ⟩ := point cP ns_cP fp_sq3 u hu0
  rw [times_is hf hd hu0 hQ 8 (by decide)] at h8
  rw [times_is hf hd hu0 hQ (8 * m) hk, Nat.mul_comm, sm_mul]
  exact (ucd_zero hd hf.sq _).2 (low_sm hd ((ucd_zero hd hf.sq _).1 h8) m)
theorem cal8_1 : tmK cP 8 (re 1) = re 0 := by
  apply Fin.ext
  rw [Go.Proofs.Ytacancfmgnmpiaa.tm_nat _ _ (by decide +kernel)]
  show _ = 0 % P
  have h : (Go.Proofs.Ytacancfmgnmpiaa.ladN 1 8 255 1 0 1 1 == 0 % P) = true := by decide +kernel
  simpa using h
theorem cal8_m : tmK cP 8 (re 57896044618658097711785492504343953926634992332820282019728792003956564819948) = re 0 := by
  apply Fin.ext
  rw [Go.Proofs.Ytacancfmgnmpiaa.tm_nat _ _ (by decide +kernel)]
  show _ = 0 % P
  have h : (Go.Proofs.Ytacancfmgnmpiaa.ladN 57896044618658097711785492504343953926634992332820282019728792003956564819948 8 255 1 0 57896044618658097711785492504343953926634992332820282019728792003956564819948 1 == 0 % P) = true := by decide +kernel
  simpa using h
theorem cal8_e1 : tmK cP 8 (re 325606250916557431795983626356110631294008115727848805560023387167927233504) = re 0 := by
  apply Fin.ext
  rw [Go.Proofs.Ytacancfmgnmpiaa.tm_nat _ _ (by decide +kernel)]
  show _ = 0 % P
  have h : (Go.Proofs.Ytacancfmgnmpiaa.ladN 325606250916557431795983626356110631294008115727848805560023387167927233504 8 255 1 0 325606250916557431795983626356110631294008115727848805560023387167927233504 1 == 0 % P) = true := by decide +kernel
  simpa using h
theorem cal8_e2 : tmK cP 8 (re 39382357235489614581723060781553021112529911719440698176882885853963445705823) = re 0 := by
  apply Fin.ext
  rw [Go.Proofs.Ytacancfmgnmpiaa.tm_nat _ _ (by decide +kernel)]
  show _ = 0 % P
  have h : (Go.Proofs.Ytacancfmgnmpiaa.ladN 39382357235489614581723060781553021112529911719440698176882885853963445705823 8 255 1 0 39382357235489614581723060781553021112529911719440698176882885853963445705823 1 == 0 % P) = true := by decide +kernel
  simpa using h
end Edw
