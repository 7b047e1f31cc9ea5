import Derived.Test.YtoceepmehmacbaaDoorKAdd
set_option linter.unusedVariables false
set_option linter.unusedSimpArgs false
namespace Go.Proofs.YtoceepmehmacbaaDoor.Cv
open Go.RowKit

/-- A number of 128 bits. -/
structure W2 where
  h : BitVec 64
  l : BitVec 64
def W2.cs (s : W2) : List Value := [.int .u64 (wn s.h), .int .u64 (wn s.l)]
def W2.v (s : W2) : Value := .agg s.cs.toArray
def plW (s : W2) (x y : BitVec 64) : W2 := ⟨plh s.h s.l x y, pll s.l x y⟩
def W2.up (s : W2) : BitVec 64 := abv s.h s.l
def w20 : W2 := ⟨0, 0⟩
theorem w2_one (s : W2) : s.cs.toArray.all (·.oneCell') = true := by simp [W2.cs, Value.oneCell']

def ms0 (x y : L5) : W2 := plW (plW (plW (plW (plW w20 x.a y.a) x.b (19#64 * y.e)) x.c (19#64 * y.d)) x.d (19#64 * y.c)) x.e (19#64 * y.b)
def ms1 (x y : L5) : W2 := plW (plW (plW (plW (plW w20 x.a y.b) x.b y.a) x.c (19#64 * y.e)) x.d (19#64 * y.d)) x.e (19#64 * y.c)
def ms2 (x y : L5) : W2 := plW (plW (plW (plW (plW w20 x.a y.c) x.b y.b) x.c y.a) x.d (19#64 * y.e)) x.e (19#64 * y.d)
def ms3 (x y : L5) : W2 := plW (plW (plW (plW (plW w20 x.a y.d) x.b y.c) x.c y.b) x.d y.a) x.e (19#64 * y.e)
def ms4 (x y : L5) : W2 := plW (plW (plW (plW (plW w20 x.a y.e) x.b y.d) x.c y.c) x.d y.b) x.e y.a
def joinW (s0 s1 s2 s3 s4 : W2) : L5 := ⟨(s0.l &&& mk51) + 19#64 * s4.up, (s1.l &&& mk51) + s0.up, (s2.l &&& mk51) + s1.up, (s3.l &&& mk51) + s2.up, (s4.l &&& mk51) + s3.up⟩
def mulE (x y : L5) : L5 := carr (joinW (ms0 x y) (ms1 x y) (ms2 x y) (ms3 x y) (ms4 x y))

end Go.Proofs.YtoceepmehmacbaaDoor.Cv

set_option linter.unusedVariables false
set_option linter.unusedSimpArgs false

/-! The prime 2^255 - 19, by Lucas's test; Fermat's theorem as its by-product. -/
namespace Prm

def Pr (n : Nat) : Prop := 2 ≤ n ∧ ∀ m, m ∣ n → m = 1 ∨ m = n

theorem Pr.euclid {p : Nat} (h : Pr p) {a b : Nat} (hd : p ∣ a * b) : p ∣ a ∨ p ∣ b := by
  rcases h.2 (Nat.gcd p a) (Nat.gcd_dvd_left p a) with h1 | h1
  · exact .inr (Nat.Coprime.dvd_of_dvd_mul_left h1 hd)
  · exact .inl (h1 ▸ Nat.gcd_dvd_right p a)

/-- Every number above 1 has a prime factor. -/
theorem factor (n : Nat) (hn : 2 ≤ n) : ∃ q, Pr q ∧ q ∣ n := by
  induction n using Nat.strongRecOn with
  | ind n ih =>
    by_cases h : ∃ m, m ∣ n ∧ m ≠ 1 ∧ m ≠ n
    · obtain ⟨m, hm, h1, h2⟩ := h
      have hpos : 0 < n := by omega
      have hle := Nat.le_of_dvd hpos hm
      have hm0 : m ≠ 0 := fun e => by subst e; have := Nat.eq_zero_of_zero_dvd hm; omega
      obtain ⟨q, hq, hqm⟩ := ih m (by omega) (by omega)
      exact ⟨q, hq, Nat.dvd_trans hqm hm⟩
    · refine ⟨n, ⟨hn, fun m hm => ?_⟩, Nat.dvd_refl n⟩
      by_cases h1 : m = 1
      · exact .inl h1
      · by_cases h2 : m = n
        · exact .inr h2
        · exact absurd ⟨m, hm, h1, h2⟩ h

/-- A prime factor of a power is one of the number. -/
theorem Pr.of_pow {p : Nat} (h : Pr p) {a : Nat} : ∀ {e : Nat}, p ∣ a ^ e → p ∣ a
  | 0, hd => by
    rw [Nat.pow_zero] at hd
    have := Nat.le_of_dvd (by decide) hd
    have := h.1
    omega
  | e + 1, hd => by
    rw [Nat.pow_succ] at hd
    rcases h.euclid hd with h1 | h1
    · exact h.of_pow h1
    · exact h1

/-- The product of prime powers. -/
def prod : List (Nat × Nat) → Nat
  | [] => 1
  | (q, e) :: r => q ^ e * prod r
theorem Pr.of_prod {p : Nat} (h : Pr p) : ∀ (l : List (Nat × Nat)), (∀ x ∈ l, Pr x.1) → p ∣ prod l → ∃ x ∈ l, x.1 = p
  | [], _, hd => by
    have := Nat.le_of_dvd (by decide) (show p ∣ 1 from hd)
    have := h.1
    omega
  | (q, e) :: r, hp, hd => by
    rcases h.euclid (show p ∣ q ^ e * prod r from hd) with h1 | h1
    · have h2 := h.of_pow h1
      rcases (hp (q, e) (by simp)).2 p h2 with h3 | h3
      · have := h.1; omega
      · exact ⟨(q, e), by simp, h3.symm⟩
    · obtain ⟨x, hx, he⟩ := h.of_prod r (fun x hx => hp x (by simp [hx])) h1
      exact ⟨x, by simp [hx], he⟩

/-- Pigeons. -/
theorem onto : ∀ (N : Nat) (f : Nat → Nat), (∀ i, i < N → f i < N) → (∀ i j, i < N → j < N → f i = f j → i = j) → ∀ a, a < N → ∃ i, i < N ∧ f i = a
  | 0, _, _, _, a, ha => by omega
  | N + 1, f, hf, hi, a, ha => by
    by_cases hN : f N = N
    · have hlt : ∀ i, i < N → f i < N := fun i h => by
        have h1 := hf i (by omega)
        have h2 : f i ≠ N := fun e => by have := hi i N (by omega) (by omega) (by omega); omega
        omega
      by_cases haN : a = N
      · exact ⟨N, by omega, by omega⟩
      · obtain ⟨i, h1, h2⟩ := onto N f hlt (fun i j h1 h2 h3 => hi i j (by omega) (by omega) h3) a (by omega)
        exact ⟨i, by omega, h2⟩
    · have hNl : f N < N := by have := hf N (by omega); omega
      by_cases hex : ∃ j, j < N ∧ f j = N
      · obtain ⟨j, hj, hfj⟩ := hex
        obtain ⟨g, hg⟩ : ∃ g : Nat → Nat, ∀ i, g i = if i = j then f N else f i := ⟨_, fun i => rfl⟩
        have hg1 : ∀ i, i < N → g i < N := fun i h => by
          rw [hg]
          split
          · exact hNl
          · rename_i hne
            have h1 := hf i (by omega)
            have h2 : f i ≠ N := fun e => hne (hi i j (by omega) (by omega) (by omega))
            omega
        have hg2 : ∀ i k, i < N → k < N → g i = g k → i = k := fun i k h1 h2 h3 => by
          rw [hg, hg] at h3
          split at h3 <;> split at h3
          · omega
          · have := hi N k (by omega) (by omega) h3; omega
          · have := hi i N (by omega) (by omega) h3; omega
          · exact hi i k (by omega) (by omega) h3
        by_cases haN : a = N
        · exact ⟨j, by omega, by omega⟩
        · obtain ⟨i, h1, h2⟩ := onto N g hg1 hg2 a (by omega)
          rw [hg] at h2
          split at h2
          · exact ⟨N, by omega, h2⟩
          · exact ⟨i, by omega, h2⟩
      · have hlt : ∀ i, i < N → f i < N := fun i h => by
          have h1 := hf i (by omega)
          have h2 : f i ≠ N := fun e => hex ⟨i, h, e⟩
          omega
        obtain ⟨i, h1, h2⟩ := onto N f hlt (fun i j h1 h2 h3 => hi i j (by omega) (by omega) h3) (f N) hNl
        have := hi i N (by omega) (by omega) h2
        omega

/-- The least one. -/
theorem least {P : Nat → Prop} {n : Nat} (h : P n) : ∃ d, P d ∧ ∀ m, P m → d ≤ m := by
  induction n using Nat.strongRecOn with
  | ind n ih =>
    by_cases hx : ∃ m, m < n ∧ P m
    · obtain ⟨m, h1, h2⟩ := hx
      exact ih m h1 h2
    · refine ⟨n, h, fun m hm => ?_⟩
      rcases Nat.lt_or_ge m n with h1 | h1
      · exact absurd ⟨m, h1, hm⟩ hx
      · exact h1

theorem pow_mod' (a k n : Nat) : (a % n) ^ k % n = a ^ k % n := (Nat.pow_mod a k n).symm
theorem pow_one_mod {g n d : Nat} (hn : 2 ≤ n) (h : g ^ d % n = 1) (k : Nat) : g ^ (d * k) % n = 1 := by
  rw [Nat.pow_mul, Nat.pow_mod, h, Nat.one_pow, Nat.mod_eq_of_lt (by omega)]

/-- Lucas's test: n is prime, every number but 0 is a power of g, Fermat's theorem. -/
theorem lucas {n g : Nat} (hn : 2 ≤ n) (l : List (Nat × Nat)) (hp : ∀ x ∈ l, Pr x.1) (hl : prod l = n - 1) (h1 : g ^ (n - 1) % n = 1) (hq : ∀ x ∈ l, g ^ ((n - 1) / x.1) % n ≠ 1) :
    Pr n ∧ ∀ a, a % n ≠ 0 → a ^ (n - 1) % n = 1 := by
  by_cases hn2 : n = 2
  · subst hn2
    refine ⟨⟨by omega, fun m hm => ?_⟩, fun a ha => ?_⟩
    · have h2 := Nat.le_of_dvd (by omega) hm
      have h3 : m ≠ 0 := fun e => by subst e; have := Nat.eq_zero_of_zero_dvd hm; omega
      omega
    · rw [Nat.pow_one]; omega
  · obtain ⟨d, ⟨hd0, hd⟩, hmin⟩ := least (P := fun d => 0 < d ∧ g ^ d % n = 1) (n := n - 1) ⟨by omega, h1⟩
    have hdvd : d ∣ n - 1 := by
      have e := Nat.div_add_mod (n - 1) d
      have hlt := Nat.mod_lt (n - 1) hd0
      have h2 : g ^ ((n - 1) % d) % n = 1 := by
        have h3 := h1
        rw [← e, Nat.pow_add, Nat.mul_mod, pow_one_mod hn hd, Nat.one_mul, Nat.mod_mod] at h3
        exact h3
      by_cases h0 : (n - 1) % d = 0
      · exact Nat.dvd_of_mod_eq_zero h0
      · have := hmin _ ⟨by omega, h2⟩
        omega
    have hdn : d = n - 1 := by
      obtain ⟨k, hk⟩ := hdvd
      by_cases hk1 : k = 1
      · rw [hk1, Nat.mul_one] at hk; exact hk.symm
      · have hk0 : k ≠ 0 := fun e => by rw [e, Nat.mul_zero] at hk; omega
        obtain ⟨q, hqp, hqk⟩ := factor k (by omega)
        obtain ⟨x, hx, hxq⟩ := hqp.of_prod l hp (by rw [hl, hk]; exact Nat.dvd_trans hqk (Nat.dvd_mul_left k d))
        obtain ⟨c, hc⟩ := hqk
        refine absurd ?_ (hq x hx)
        rw [hxq, hk, hc, show d * (q * c) = q * (d * c) by rw [Nat.mul_left_comm], Nat.mul_div_cancel_left _ (by have := hqp.1; omega)]
        exact pow_one_mod hn hd c
    subst hdn
    have hinv : ∀ i, i ≤ n - 1 → g ^ i * g ^ (n - 1 - i) % n = 1 := fun i hi => by
      rw [← Nat.pow_add, show i + (n - 1 - i) = n - 1 by omega]; exact h1
    have hsur : ∀ a, 0 < a → a < n → ∃ i, i < n - 1 ∧ g ^ i % n = a := fun a h0 ha => by
      have hpos : ∀ i, i < n - 1 → 0 < g ^ i % n := fun i hi => by
        rcases Nat.eq_zero_or_pos (g ^ i % n) with h2 | h2
        · have := hinv i (by omega)
          rw [Nat.mul_mod, h2, Nat.zero_mul, Nat.zero_mod] at this
          omega
        · exact h2
      obtain ⟨i, h2, h3⟩ := onto (n - 1) (fun i => g ^ i % n - 1) (fun i hi => by
        have := hpos i hi
        have := Nat.mod_lt (g ^ i) (show 0 < n by omega)
        show g ^ i % n - 1 < n - 1
        omega) (fun i j hi hj he => by
        have hi' := hpos i hi
        have hj' := hpos j hj
        have he' : g ^ i % n = g ^ j % n := by
          have : g ^ i % n - 1 = g ^ j % n - 1 := he
          omega
        have key : ∀ i j, i < n - 1 → j < n - 1 → i < j → g ^ i % n = g ^ j % n → False := fun i j hi hj hlt he => by
          have h2 : g ^ (j + (n - 1 - i)) % n = 1 := by
            rw [Nat.pow_add, Nat.mul_mod, ← he, ← Nat.mul_mod]
            exact hinv i (by omega)
          have h3 : g ^ (j - i) % n = 1 := by
            rw [show j + (n - 1 - i) = (n - 1) + (j - i) by omega, Nat.pow_add, Nat.mul_mod, h1, Nat.one_mul, Nat.mod_mod] at h2
            exact h2
          have := hmin _ ⟨by omega, h3⟩
          omega
        rcases Nat.lt_trichotomy i j with h2 | h2 | h2
        · exact (key i j hi hj h2 he').elim
        · exact h2
        · exact (key j i hj hi h2 he'.symm).elim) (a - 1) (by omega)
      refine ⟨i, h2, ?_⟩
      have := hpos i h2
      have h3' : g ^ i % n - 1 = a - 1 := h3
      omega
    refine ⟨⟨hn, fun m hm => ?_⟩, fun a ha => ?_⟩
    · have hle := Nat.le_of_dvd (by omega) hm
      have hm0 : m ≠ 0 := fun e => by subst e; have := Nat.eq_zero_of_zero_dvd hm; omega
      by_cases hmn : m = n
      · exact .inr hmn
      · obtain ⟨i, hi, he⟩ := hsur m (by omega) (by omega)
        have h2 := hinv i (by omega)
        rw [Nat.mul_mod, he, ← Nat.mul_mod_mod] at h2
        have h3 : m ∣ m * (g ^ (n - 1 - i) % n) % n := by
          rw [Nat.dvd_mod_iff hm]
          exact Nat.dvd_mul_right _ _
        rw [← Nat.mod_mod_of_dvd _ (Nat.dvd_refl n)] at h3
        have h4 : m ∣ 1 := by
          have e : m * (g ^ (n - 1 - i) % n) % n = 1 := by simpa using h2
          rw [Nat.mod_mod, e] at h3
          exact h3
        exact .inl (Nat.dvd_one.1 h4)
    · obtain ⟨i, hi, he⟩ := hsur (a % n) (by omega) (Nat.mod_lt _ (by omega))
      rw [Nat.pow_mod, ← he, pow_mod', ← Nat.pow_mul, Nat.mul_comm]
      exact pow_one_mod hn h1 i

/-- Powers by squares. -/
def sqm (x n : Nat) : Nat := x * x % n
def pmod (n g : Nat) : Nat → Nat → Nat
  | 0, _ => 1 % n
  | k + 1, e => if e % 2 = 1 then sqm (pmod n g k (e / 2)) n * g % n else sqm (pmod n g k (e / 2)) n
theorem pmod_eq (n g : Nat) : ∀ (k e : Nat), e < 2 ^ k → pmod n g k e = g ^ e % n
  | 0, e, h => by
    obtain rfl : e = 0 := by simpa using h
    simp [pmod]
  | k + 1, e, h => by
    have ih := pmod_eq n g k (e / 2) (by rw [Nat.pow_succ] at h; omega)
    have hs : sqm (pmod n g k (e / 2)) n = g ^ (2 * (e / 2)) % n := by
      rw [sqm, ih, ← Nat.mul_mod, ← Nat.pow_add]
      congr 2
      omega
    unfold pmod
    split
    · rename_i h1
      rw [hs, Nat.mod_mul_mod, ← Nat.pow_succ]
      congr 2
      omega
    · rename_i h1
      rw [hs]
      congr 2
      omega

/-- Small primes by division. -/
def trial (n k : Nat) : Bool := (List.range k).all fun i => n % (i + 2) != 0
theorem trial_ok (n k : Nat) (hn : 2 ≤ n) (hk : n < (k + 2) * (k + 2)) (h : trial n k = true) : Pr n := by
  refine ⟨hn, fun m hm => ?_⟩
  obtain ⟨c, hc⟩ := hm
  have small : ∀ m c, n = m * c → m ≤ k + 1 → m = 1 := fun m c hc hle => by
    by_cases h1 : m = 1
    · exact h1
    · have hm0 : m ≠ 0 := fun e => by rw [e, Nat.zero_mul] at hc; omega
      have := List.all_eq_true.1 h (m - 2) (List.mem_range.2 (by omega))
      rw [show m - 2 + 2 = m by omega, hc, Nat.mul_mod_right] at this
      simp at this
  by_cases h1 : m ≤ k + 1
  · exact .inl (small m c hc h1)
  · by_cases h2 : c ≤ k + 1
    · have := small c m (by rw [Nat.mul_comm]; exact hc) h2
      rw [this, Nat.mul_one] at hc
      exact .inr hc.symm
    · have : (k + 2) * (k + 2) ≤ m * c := Nat.mul_le_mul (by omega) (by omega)
      omega

theorem lucas_by {n g k : Nat} (hn : 2 ≤ n) (l : List (Nat × Nat)) (hp : ∀ x ∈ l, Pr x.1) (hk : n < 2 ^ k) (hl : (prod l == n - 1) = true) (h1 : (pmod n g k (n - 1) == 1) = true) (hq : (l.all fun x => pmod n g k ((n - 1) / x.1) != 1) = true) :
    Pr n ∧ ∀ a, a % n ≠ 0 → a ^ (n - 1) % n = 1 := by
  refine lucas hn l hp (by simpa using hl) (g := g) (by rw [← pmod_eq n g k _ (by omega)]; simpa using h1) (fun x hx => ?_)
  have := List.all_eq_true.1 hq x hx
  rw [← pmod_eq n g k _ (by have := Nat.div_le_self (n - 1) x.1; omega)]
  simpa using this
theorem pr2 : Pr 2 := trial_ok 2 0 (by decide) (by decide) (by decide +kernel)
theorem pr3 : Pr 3 := trial_ok 3 0 (by decide) (by decide) (by decide +kernel)
theorem pr5 : Pr 5 := trial_ok 5 1 (by decide) (by decide) (by decide +kernel)
theorem pr7 : Pr 7 := trial_ok 7 1 (by decide) (by decide) (by decide +kernel)
theorem pr13 : Pr 13 := trial_ok 13 2 (by decide) (by decide) (by decide +kernel)
theorem pr19 : Pr 19 := trial_ok 19 3 (by decide) (by decide) (by decide +kernel)
theorem pr31 : Pr 31 := trial_ok 31 4 (by decide) (by decide) (by decide +kernel)
theorem pr47 : Pr 47 := trial_ok 47 5 (by decide) (by decide) (by decide +kernel)
theorem pr107 : Pr 107 := trial_ok 107 9 (by decide) (by decide) (by decide +kernel)
theorem pr127 : Pr 127 := trial_ok 127 10 (by decide) (by decide) (by decide +kernel)
theorem pr223 : Pr 223 := trial_ok 223 13 (by decide) (by decide) (by decide +kernel)
theorem pr353 : Pr 353 := trial_ok 353 17 (by decide) (by decide) (by decide +kernel)
theorem pr2437 : Pr 2437 := trial_ok 2437 48 (by decide) (by decide) (by decide +kernel)
theorem pr4153 : Pr 4153 := trial_ok 4153 63 (by decide) (by decide) (by decide +kernel)
theorem pr57467 : Pr 57467 := trial_ok 57467 238 (by decide) (by decide) (by decide +kernel)
theorem pr65147 : Pr 65147 := trial_ok 65147 254 (by decide) (by decide) (by decide +kernel)
theorem pr75707 : Pr 75707 := trial_ok 75707 274 (by decide) (by decide) (by decide +kernel)
theorem pr132049 : Pr 132049 := trial_ok 132049 362 (by decide) (by decide) (by decide +kernel)
theorem pr430751 : Pr 430751 := trial_ok 430751 655 (by decide) (by decide) (by decide +kernel)
theorem pr569003 : Pr 569003 := trial_ok 569003 753 (by decide) (by decide) (by decide +kernel)
theorem pr1923133 : Pr 1923133 := trial_ok 1923133 1385 (by decide) (by decide) (by decide +kernel)
theorem pr8574133 : Pr 8574133 := trial_ok 8574133 2927 (by decide) (by decide) (by decide +kernel)

/-- The prime. -/
def P : Nat := 57896044618658097711785492504343953926634992332820282019728792003956564819949
theorem pr2773320623 : Pr 2773320623 :=
  (lucas_by (g := 5) (k := 32) (by decide) [(2, 1), (2437, 1), (569003, 1)] (fun x hx => by
    simp only [List.mem_cons, List.not_mem_nil, or_false] at hx
    rcases hx with rfl | rfl | rfl
    · exact pr2
    · exact pr2437
    · exact pr569003
    ) (by decide) (by decide +kernel) (by decide +kernel) (by decide +kernel)).1
theorem pr72106336199 : Pr 72106336199 :=
  (lucas_by (g := 7) (k := 37) (by decide) [(2, 1), (13, 1), (2773320623, 1)] (fun x hx => by
    simp only [List.mem_cons, List.not_mem_nil, or_false] at hx
    rcases hx with rfl | rfl | rfl
    · exact pr2
    · exact pr13
    · exact pr2773320623
    ) (by decide) (by decide +kernel) (by decide +kernel) (by decide +kernel)).1
theorem pr1919519569386763 : Pr 1919519569386763 :=
  (lucas_by (g := 2) (k := 69) (by decide) [(2, 1), (3, 1), (7, 1), (19, 1), (47, 2), (127, 1), (8574133, 1)] (fun x hx => by
    simp only [List.mem_cons, List.not_mem_nil, or_false] at hx
    rcases hx with rfl | rfl | rfl | rfl | rfl | rfl | rfl
    · exact pr2
    · exact pr3
    · exact pr7
    · exact pr19
    · exact pr47
    · exact pr127
    · exact pr8574133
    ) (by decide) (by decide +kernel) (by decide +kernel) (by decide +kernel)).1
theorem pr31757755568855353 : Pr 31757755568855353 :=
  (lucas_by (g := 10) (k := 73) (by decide) [(2, 3), (3, 1), (31, 1), (107, 1), (223, 1), (4153, 1), (430751, 1)] (fun x hx => by
    simp only [List.mem_cons, List.not_mem_nil, or_false] at hx
    rcases hx with rfl | rfl | rfl | rfl | rfl | rfl | rfl
    · exact pr2
    · exact pr3
    · exact pr31
    · exact pr107
    · exact pr223
    · exact pr4153
    · exact pr430751
    ) (by decide) (by decide +kernel) (by decide +kernel) (by decide +kernel)).1
theorem pr75445702479781427272750846543864801 : Pr 75445702479781427272750846543864801 :=
  (lucas_by (g := 7) (k := 116) (by decide) [(2, 5), (3, 2), (5, 2), (75707, 1), (72106336199, 1), (1919519569386763, 1)] (fun x hx => by
    simp only [List.mem_cons, List.not_mem_nil, or_false] at hx
    rcases hx with rfl | rfl | rfl | rfl | rfl | rfl
    · exact pr2
    · exact pr3
    · exact pr5
    · exact pr75707
    · exact pr72106336199
    · exact pr1919519569386763
    ) (by decide) (by decide +kernel) (by decide +kernel) (by decide +kernel)).1
theorem pr74058212732561358302231226437062788676166966415465897661863160754340907 : Pr 74058212732561358302231226437062788676166966415465897661863160754340907 :=
  (lucas_by (g := 2) (k := 236) (by decide) [(2, 1), (3, 1), (353, 1), (57467, 1), (132049, 1), (1923133, 1), (31757755568855353, 1), (75445702479781427272750846543864801, 1)] (fun x hx => by
    simp only [List.mem_cons, List.not_mem_nil, or_false] at hx
    rcases hx with rfl | rfl | rfl | rfl | rfl | rfl | rfl | rfl
    · exact pr2
    · exact pr3
    · exact pr353
    · exact pr57467
    · exact pr132049
    · exact pr1923133
    · exact pr31757755568855353
    · exact pr75445702479781427272750846543864801
    ) (by decide) (by decide +kernel) (by decide +kernel) (by decide +kernel)).1
theorem ferP : Pr P ∧ ∀ a, a % P ≠ 0 → a ^ (P - 1) % P = 1 :=
  lucas_by (n := P) (g := 2) (k := 255) (by decide +kernel) [(2, 2), (3, 1), (65147, 1), (74058212732561358302231226437062788676166966415465897661863160754340907, 1)] (fun x hx => by
    simp only [List.mem_cons, List.not_mem_nil, or_false] at hx
    rcases hx with rfl | rfl | rfl | rfl
    · exact pr2
    · exact pr3
    · exact pr65147
    · exact pr74058212732561358302231226437062788676166966415465897661863160754340907
    ) (by decide +kernel) (by decide +kernel) (by decide +kernel) (by decide +kernel)

theorem prP : Pr P := ferP.1
theorem fermat (a : Nat) (h : a % P ≠ 0) : a ^ (P - 1) % P = 1 := ferP.2 a h
theorem P_pos : 2 ≤ P := prP.1

/-- A square that is 1. -/
theorem sq_one (x : Nat) (h : x * x % P = 1) : x % P = 1 ∨ x % P = P - 1 := by
  have hP := P_pos
  have h0 : x % P ≠ 0 := fun e => by rw [Nat.mul_mod, e, Nat.zero_mul, Nat.zero_mod] at h; omega
  have hlt := Nat.mod_lt x (show 0 < P by omega)
  rw [Nat.mul_mod] at h
  obtain ⟨y, hy⟩ : ∃ y, x % P = y := ⟨_, rfl⟩
  rw [hy] at h h0 hlt ⊢
  have hd : P ∣ (y - 1) * (y + 1) := by
    have e : (y - 1) * (y + 1) = y * y - 1 := by
      obtain ⟨z, rfl⟩ : ∃ z, y = z + 1 := ⟨y - 1, by omega⟩
      simp only [Nat.add_sub_cancel]
      rw [Nat.add_mul, Nat.mul_add z z 1]
      simp only [Nat.mul_add, Nat.mul_one, Nat.one_mul]
      omega
    rw [e]
    have h1 := Nat.div_add_mod (y * y) P
    rw [h] at h1
    exact ⟨y * y / P, by omega⟩
  rcases prP.euclid hd with h1 | h1
  · have : y - 1 = 0 := by
      rcases Nat.eq_zero_or_pos (y - 1) with h2 | h2
      · exact h2
      · have := Nat.le_of_dvd h2 h1; omega
    omega
  · have := Nat.le_of_dvd (by omega) h1
    omega

end Prm
