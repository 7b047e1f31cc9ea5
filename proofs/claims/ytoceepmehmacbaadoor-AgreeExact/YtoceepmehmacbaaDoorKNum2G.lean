import Derived.Test.YtoceepmehmacbaaDoorKAdd
set_option linter.unusedVariables false
set_option linter.unusedSimpArgs false
namespace Go.Proofs.YtoceepmehmacbaaDoor.Cv
open Go.RowKit

/-- A number of 128 bits. -/
structure W2 where
  h : BitVec 64
  l : BitVec 64
def W2.cs (s : W2) : List Value := [.int .u64 (wn s.h), .int .u64 (wn s.l)]
def W2.v (s : W2) : Value := .agg s.cs.toArray
def plW (s : W2) (x y : BitVec 64) : W2 := ⟨plh s.h s.l x y, pll s.l x y⟩
def W2.up (s : W2) : BitVec 64 := abv s.h s.l
def w20 : W2 := ⟨0, 0⟩
theorem w2_one (s : W2) : s.cs.toArray.all (·.oneCell') = true := by simp [W2.cs, Value.oneCell']

def ms0 (x y : L5) : W2 := plW (plW (plW (plW (plW w20 x.a y.a) x.b (19#64 * y.e)) x.c (19#64 * y.d)) x.d (19#64 * y.c)) x.e (19#64 * y.b)
def ms1 (x y : L5) : W2 := plW (plW (plW (plW (plW w20 x.a y.b) x.b y.a) x.c (19#64 * y.e)) x.d (19#64 * y.d)) x.e (19#64 * y.c)
def ms2 (x y : L5) : W2 := plW (plW (plW (plW (plW w20 x.a y.c) x.b y.b) x.c y.a) x.d (19#64 * y.e)) x.e (19#64 * y.d)
def ms3 (x y : L5) : W2 := plW (plW (plW (plW (plW w20 x.a y.d) x.b y.c) x.c y.b) x.d y.a) x.e (19#64 * y.e)
def ms4 (x y : L5) : W2 := plW (plW (plW (plW (plW w20 x.a y.e) x.b y.d) x.c y.c) x.d y.b) x.e y.a
def joinW (s0 s1 s2 s3 s4 : W2) : L5 := ⟨(s0.l &&& mk51) + 19#64 * s4.up, (s1.l &&& mk51) + s0.up, (s2.l &&& mk51) + s1.up, (s3.l &&& mk51) + s2.up, (s4.l &&& mk51) + s3.up⟩
def mulE (x y : L5) : L5 := carr (joinW (ms0 x y) (ms1 x y) (ms2 x y) (ms3 x y) (ms4 x y))

end Go.Proofs.YtoceepmehmacbaaDoor.Cv
set_option linter.unusedVariables false
set_option linter.unusedSimpArgs false

/-! The prime 2^255 - 19, by Lucas's test; Fermat's theorem as its by-product. -/
namespace Prm

def Pr (n : Nat) : Prop := 2 ≤ n ∧ ∀ m, m ∣ n → m = 1 ∨ m = n

theorem Pr.euclid {p : Nat} (h : Pr p) {a b : Nat} (hd : p ∣ a * b) : p ∣ a ∨ p ∣ b := by
  rcases h.2 (Nat.gcd p a) (Nat.gcd_dvd_left p a) with h1 | h1
  · exact .inr (Nat.Coprime.dvd_of_dvd_mul_left h1 hd)
  · exact .inl (h1 ▸ Nat.gcd_dvd_right p a)

/-- Every number above 1 has a prime factor. -/
theorem factor (n : Nat) (hn : 2 ≤ n) : ∃ q, Pr q ∧ q ∣ n := by
  induction n using Nat.strongRecOn with
  | ind n ih =>
    by_cases h : ∃ m, m ∣ n ∧ m ≠ 1 ∧ m ≠ n
    · obtain ⟨m, hm, h1, h2⟩ := h
      have hpos : 0 < n := by omega
      have hle := Nat.le_of_dvd hpos hm
      have hm0 : m ≠ 0 := fun e => by subst e; have := Nat.eq_zero_of_zero_dvd hm; omega
      obtain ⟨q, hq, hqm⟩ := ih m (by omega) (by omega)
      exact ⟨q, hq, Nat.dvd_trans hqm hm⟩
    · refine ⟨n, ⟨hn, fun m hm => ?_⟩, Nat.dvd_refl n⟩
      by_cases h1 : m = 1
      · exact .inl h1
      · by_cases h2 : m = n
        · exact .inr h2
        · exact absurd ⟨m, hm, h1, h2⟩ h

/-- A prime factor of a power is one of the number. -/
theorem Pr.of_pow {p : Nat} (h : Pr p) {a : Nat} : ∀ {e : Nat}, p ∣ a ^ e → p ∣ a
  | 0, hd => by
    rw [Nat.pow_zero] at hd
    have := Nat.le_of_dvd (by decide) hd
    have := h.1
    omega
  | e + 1, hd => by
    rw [Nat.pow_succ] at hd
    rcases h.euclid hd with h1 | h1
    · exact h.of_pow h1
    · exact h1

/-- The product of prime powers. -/
def prod : List (Nat × Nat) → Nat
  | [] => 1
  | (q, e) :: r => q ^ e * prod r
theorem Pr.of_prod {p : Nat} (h : Pr p) : ∀ (l : List (Nat × Nat)), (∀ x ∈ l, Pr x.1) → p ∣ prod l → ∃ x ∈ l, x.1 = p
  | [], _, hd => by
    have := Nat.le_of_dvd (by decide) (show p ∣ 1 from hd)
    have := h.1
    omega
  | (q, e) :: r, hp, hd => by
    rcases h.euclid (show p ∣ q ^ e * prod r from hd) with h1 | h1
    · have h2 := h.of_pow h1
      rcases (hp (q, e) (by simp)).2 p h2 with h3 | h3
      · have := h.1; omega
      · exact ⟨(q, e), by simp, h3.symm⟩
    · obtain ⟨x, hx, he⟩ := h.of_prod r (fun x hx => hp x (by simp [hx])) h1
      exact ⟨x, by simp [hx], he⟩

/-- Pigeons. -/
theorem onto : ∀ (N : Nat) (f : Nat → Nat), (∀ i, i < N → f i < N) → (∀ i j, i < N → j < N → f i = f j → i = j) → ∀ a, a < N → ∃ i, i < N ∧ f i = a
  | 0, _, _, _, a, ha => by omega
  | N + 1, f, hf, hi, a, ha => by
    by_cases hN : f N = N
    · have hlt : ∀ i, i < N → f i < N := fun i h => by
        have h1 := hf i (by omega)
        have h2 : f i ≠ N := fun e => by have := hi i N (by omega) (by omega) (by omega); omega
        omega
      by_cases haN : a = N
      · exact ⟨N, by omega, by omega⟩
      · obtain ⟨i, h1, h2⟩ := onto N f hlt (fun i j h1 h2 h3 => hi i j (by omega) (by omega) h3) a (by omega)
        exact ⟨i, by omega, h2⟩
    · have hNl : f N < N := by have := hf N (by omega); omega
      by_cases hex : ∃ j, j < N ∧ f j = N
      · obtain ⟨j, hj, hfj⟩ := hex
        obtain ⟨g, hg⟩ : ∃ g : Nat → Nat, ∀ i, g i = if i = j then f N else f i := ⟨_, fun i => rfl⟩
        have hg1 : ∀ i, i < N → g i < N := fun i h => by
          rw [hg]
          split
          · exact hNl
          · rename_i hne
            have h1 := hf i (by omega)
            have h2 : f i ≠ N := fun e => hne (hi i j (by omega) (by omega) (by omega))
            omega
        have hg2 : ∀ i k, i < N → k < N → g i = g k → i = k := fun i k h1 h2 h3 => by
          rw [hg, hg] at h3
          split at h3 <;> split at h3
          · omega
          · have := hi N k (by omega) (by omega) h3; omega
          · have := hi i N (by omega) (by omega) h3; omega
          · exact hi i k (by omega) (by omega) h3
        by_cases haN : a = N
        · exact ⟨j, by omega, by omega⟩
        · obtain ⟨i, h1, h2⟩ := onto N g hg1 hg2 a (by omega)
          rw [hg] at h2
          split at h2
          · exact ⟨N, by omega, h2⟩
          · exact ⟨i, by omega, h2⟩
      · have hlt : ∀ i, i < N → f i < N := fun i h => by
          have h1 := hf i (by omega)
          have h2 : f i ≠ N := fun e => hex ⟨i, h, e⟩
          omega
        obtain ⟨i, h1, h2⟩ := onto N f hlt (fun i j h1 h2 h3 => hi i j (by omega) (by omega) h3) (f N) hNl
        have := hi i N (by omega) (by omega) h2
        omega

/-- The least one. -/
theorem least {P : Nat → Prop} {n : Nat} (h : P n) : ∃ d, P d ∧ ∀ m, P m → d ≤ m := by
  induction n using Nat.strongRecOn with
  | ind n ih =>
    by_cases hx : ∃ m, m < n ∧ P m
    · obtain ⟨m, h1, h2⟩ := hx
      exact ih m h1 h2
    · refine ⟨n, h, fun m hm => ?_⟩
      rcases Nat.lt_or_ge m n with h1 | h1
      · exact absurd ⟨m, h1, hm⟩ hx
      · exact h1

theorem pow_mod' (a k n : Nat) : (a % n) ^ k % n = a ^ k % n := (Nat.pow_mod a k n).symm
theorem pow_one_mod {g n d : Nat} (hn : 2 ≤ n) (h : g ^ d % n = 1) (k : Nat) : g ^ (d * k) % n = 1 := by
  rw [Nat.pow_mul, Nat.pow_mod, h, Nat.one_pow, Nat.mod_eq_of_lt (by omega)]

/-- Lucas's test: n is prime, every number but 0 is a power of g, Fermat's theorem. -/
theorem lucas {n g : Nat} (hn : 2 ≤ n) (l : List (Nat × Nat)) (hp : ∀ x ∈ l, Pr x.1) (hl : prod l = n - 1) (h1 : g ^ (n - 1) % n = 1) (hq : ∀ x ∈ l, g ^ ((n - 1) / x.1) % n ≠ 1) :
    Pr n ∧ ∀ a, a % n ≠ 0 → a ^ (n - 1) % n = 1 := by
  by_cases hn2 : n = 2
  · subst hn2
    refine ⟨⟨by omega, fun m hm => ?_⟩, fun a ha => ?_⟩
    · have h2 := Nat.le_of_dvd (by omega) hm
      have h3 : m ≠ 0 := fun e => by subst e; have := Nat.eq_zero_of_zero_dvd hm; omega
      omega
    · rw [Nat.pow_one]; omega
  · obtain ⟨d, ⟨hd0, hd⟩, hmin⟩ := least (P := fun d => 0 < d ∧ g ^ d % n = 1) (n := n - 1) ⟨by omega, h1⟩
    have hdvd : d ∣ n - 1 := by
      have e := Nat.div_add_mod (n - 1) d
      have hlt := Nat.mod_lt (n - 1) hd0
      have h2 : g ^ ((n - 1) % d) % n = 1 := by
        have h3 := h1
        rw [← e, Nat.pow_add, Nat.mul_mod, pow_one_mod hn hd, Nat.one_mul, Nat.mod_mod] at h3
        exact h3
      by_cases h0 : (n - 1) % d = 0
      · exact Nat.dvd_of_mod_eq_zero h0
      · have := hmin _ ⟨by omega, h2⟩
        omega
    have hdn : d = n - 1 := by
      obtain ⟨k, hk⟩ := hdvd
      by_cases hk1 : k = 1
      · rw [hk1, Nat.mul_one] at hk; exact hk.symm
      · have hk0 : k ≠ 0 := fun e => by rw [e, Nat.mul_zero] at hk; omega
        obtain ⟨q, hqp, hqk⟩ := factor k (by omega)
        obtain ⟨x, hx, hxq⟩ := hqp.of_prod l hp (by rw [hl, hk]; exact Nat.dvd_trans hqk (Nat.dvd_mul_left k d))
        obtain ⟨c, hc⟩ := hqk
        refine absurd ?_ (hq x hx)
        rw [hxq, hk, hc, show d * (q * c) = q * (d * c) by rw [Nat.mul_left_comm], Nat.mul_div_cancel_left _ (by have := hqp.1; omega)]
        exact pow_one_mod hn hd c
    subst hdn
    have hinv : ∀ i, i ≤ n - 1 → g ^ i * g ^ (n - 1 - i) % n = 1 := fun i hi => by
      rw [← Nat.pow_add, show i + (n - 1 - i) = n - 1 by omega]; exact h1
    have hsur : ∀ a, 0 < a → a < n → ∃ i, i < n - 1 ∧ g ^ i % n = a := fun a h0 ha => by
      have hpos : ∀ i, i < n - 1 → 0 < g ^ i % n := fun i hi => by
        rcases Nat.eq_zero_or_pos (g ^ i % n) with h2 | h2
        · have := hinv i (by omega)
          rw [Nat.mul_mod, h2, Nat.zero_mul, Nat.zero_mod] at this
          omega
        · exact h2
      obtain ⟨i, h2, h3⟩ := onto (n - 1) (fun i => g ^ i % n - 1) (fun i hi => by
        have := hpos i hi
        have := Nat.mod_lt (g ^ i) (show 0 < n by omega)
        show g ^ i % n - 1 < n - 1
        omega) (fun i j hi hj he => by
        have hi' := hpos i hi
        have hj' := hpos j hj
        have he' : g ^ i % n = g ^ j % n := by
          have : g ^ i % n - 1 = g ^ j % n - 1 := he
          omega
        have key : ∀ i j, i < n - 1 → j < n - 1 → i < j → g ^ i % n = g ^ j % n → False := fun i j hi hj hlt he => by
          have h2 : g ^ (j + (n - 1 - i)) % n = 1 := by
            rw [Nat.pow_add, Nat.mul_mod, ← he, ← Nat.mul_mod]
            exact hinv i (by omega)
          have h3 : g ^ (j - i) % n = 1 := by
            rw [show j + (n - 1 - i) = (n - 1) + (j - i) by omega, Nat.pow_add, Nat.mul_mod, h1, Nat.one_mul, Nat.mod_mod] at h2
            exact h2
          have := hmin _ ⟨by omega, h3⟩
          omega
        rcases Nat.lt_trichotomy i j with h2 | h2 | h2
        · exact (key i j hi hj h2 he').elim
        · exact h2
        · exact (key j i hj hi h2 he'.symm).elim) (a - 1) (by omega)
      refine ⟨i, h2, ?_⟩
      have := hpos i h2
      have h3' : g ^ i % n - 1 = a - 1 := h3
      omega
    refine ⟨⟨hn, fun m hm => ?_⟩, fun a ha => ?_⟩
    · have hle := Nat.le_of_dvd (by omega) hm
      have hm0 : m ≠ 0 := fun e => by subst e; have := Nat.eq_zero_of_zero_dvd hm; omega
      by_cases hmn : m = n
      · exact .inr hmn
      · obtain ⟨i, hi, he⟩ := hsur m (by omega) (by omega)
        have h2 := hinv i (by omega)
        rw [Nat.mul_mod, he, ← Nat.mul_mod_mod] at h2
        have h3 : m ∣ m * (g ^ (n - 1 - i) % n) % n := by
          rw [Nat.dvd_mod_iff hm]
          exact Nat.dvd_mul_right _ _
        rw [← Nat.mod_mod_of_dvd _ (Nat.dvd_refl n)] at h3
        have h4 : m ∣ 1 := by
          have e : m * (g ^ (n - 1 - i) % n) % n = 1 := by simpa using h2
          rw [Nat.mod_mod, e] at h3
          exact h3
        exact .inl (Nat.dvd_one.1 h4)
    · obtain ⟨i, hi, he⟩ := hsur (a % n) (by omega) (Nat.mod_lt _ (by omega))
      rw [Nat.pow_mod, ← he, pow_mod', ← Nat.pow_mul, Nat.mul_comm]
      exact pow_one_mod hn h1 i

/-- Powers by squares. -/
def sqm (x n : Nat) : Nat := x * x % n
def pmod (n g : Nat) : Nat → Nat → Nat
  | 0, _ => 1 % n
  | k + 1, e => if e % 2 = 1 then sqm (pmod n g k (e / 2)) n * g % n else sqm (pmod n g k (e / 2)) n
theorem pmod_eq (n g : Nat) : ∀ (k e : Nat), e < 2 ^ k → pmod n g k e = g ^ e % n
  | 0, e, h => by
    obtain rfl : e = 0 := by simpa using h
    simp [pmod]
  | k + 1, e, h => by
    have ih := pmod_eq n g k (e / 2) (by rw [Nat.pow_succ] at h; omega)
    have hs : sqm (pmod n g k (e / 2)) n = g ^ (2 * (e / 2)) % n := by
      rw [sqm, ih, ← Nat.mul_mod, ← Nat.pow_add]
      congr 2
      omega
    unfold pmod
    split
    · rename_i h1
      rw [hs, Nat.mod_mul_mod, ← Nat.pow_succ]
      congr 2
      omega
    · rename_i h1
      rw [hs]
      congr 2
      omega

/-- Small primes by division. -/
def trial (n k : Nat) : Bool := (List.range k).all fun i => n % (i + 2) != 0
theorem trial_ok (n k : Nat) (hn : 2 ≤ n) (hk : n < (k + 2) * (k + 2)) (h : trial n k = true) : Pr n := by
  refine ⟨hn, fun m hm => ?_⟩
  obtain ⟨c, hc⟩ := hm
  have small : ∀ m c, n = m * c → m ≤ k + 1 → m = 1 := fun m c hc hle => by
    by_cases h1 : m = 1
    · exact h1
    · have hm0 : m ≠ 0 := fun e => by rw [e, Nat.zero_mul] at hc; omega
      have := List.all_eq_true.1 h (m - 2) (List.mem_range.2 (by omega))
      rw [show m - 2 + 2 = m by omega, hc, Nat.mul_mod_right] at this
      simp at this
  by_cases h1 : m ≤ k + 1
  · exact .inl (small m c hc h1)
  · by_cases h2 : c ≤ k + 1
    · have := small c m (by rw [Nat.mul_comm]; exact hc) h2
      rw [this, Nat.mul_one] at hc
      exact .inr hc.symm
    · have : (k + 2) * (k + 2) ≤ m * c := Nat.mul_le_mul (by omega) (by omega)
      omega

theorem lucas_by {n g k : Nat} (hn : 2 ≤ n) (l : List (Nat × Nat)) (hp : ∀ x ∈ l, Pr x.1) (hk : n < 2 ^ k) (hl : (prod l == n - 1) = true) (h1 : (pmod n g k (n - 1) == 1) = true) (hq : (l.all fun x => pmod n g k ((n - 1) / x.1) != 1) = true) :
    Pr n ∧ ∀ a, a % n ≠ 0 → a ^ (n - 1) % n = 1 := by
  refine lucas hn l hp (by simpa using hl) (g := g) (by rw [← pmod_eq n g k _ (by omega)]; simpa using h1) (fun x hx => ?_)
  have := List.all_eq_true.1 hq x hx
  rw [← pmod_eq n g k _ (by have := Nat.div_le_self (n - 1) x.1; omega)]
  simpa using this
theorem pr2 : Pr 2 := trial_ok 2 0 (by decide) (by decide) (by decide +kernel)
theorem pr3 : Pr 3 := trial_ok 3 0 (by decide) (by decide) (by decide +kernel)
theorem pr5 : Pr 5 := trial_ok 5 1 (by decide) (by decide) (by decide +kernel)
theorem pr7 : Pr 7 := trial_ok 7 1 (by decide) (by decide) (by decide +kernel)
theorem pr13 : Pr 13 := trial_ok 13 2 (by decide) (by decide) (by decide +kernel)
theorem pr19 : Pr 19 := trial_ok 19 3 (by decide) (by decide) (by decide +kernel)
theorem pr31 : Pr 31 := trial_ok 31 4 (by decide) (by decide) (by decide +kernel)
theorem pr47 : Pr 47 := trial_ok 47 5 (by decide) (by decide) (by decide +kernel)
theorem pr107 : Pr 107 := trial_ok 107 9 (by decide) (by decide) (by decide +kernel)
theorem pr127 : Pr 127 := trial_ok 127 10 (by decide) (by decide) (by decide +kernel)
theorem pr223 : Pr 223 := trial_ok 223 13 (by decide) (by decide) (by decide +kernel)
theorem pr353 : Pr 353 := trial_ok 353 17 (by decide) (by decide) (by decide +kernel)
theorem pr2437 : Pr 2437 := trial_ok 2437 48 (by decide) (by decide) (by decide +kernel)
theorem pr4153 : Pr 4153 := trial_ok 4153 63 (by decide) (by decide) (by decide +kernel)
theorem pr57467 : Pr 57467 := trial_ok 57467 238 (by decide) (by decide) (by decide +kernel)
theorem pr65147 : Pr 65147 := trial_ok 65147 254 (by decide) (by decide) (by decide +kernel)
theorem pr75707 : Pr 75707 := trial_ok 75707 274 (by decide) (by decide) (by decide +kernel)
theorem pr132049 : Pr 132049 := trial_ok 132049 362 (by decide) (by decide) (by decide +kernel)
theorem pr430751 : Pr 430751 := trial_ok 430751 655 (by decide) (by decide) (by decide +kernel)
theorem pr569003 : Pr 569003 := trial_ok 569003 753 (by decide) (by decide) (by decide +kernel)
theorem pr1923133 : Pr 1923133 := trial_ok 1923133 1385 (by decide) (by decide) (by decide +kernel)
theorem pr8574133 : Pr 8574133 := trial_ok 8574133 2927 (by decide) (by decide) (by decide +kernel)

/-- The prime. -/
def P : Nat := 57896044618658097711785492504343953926634992332820282019728792003956564819949
theorem pr2773320623 : Pr 2773320623 :=
  (lucas_by (g := 5) (k := 32) (by decide) [(2, 1), (2437, 1), (569003, 1)] (fun x hx => by
    simp only [List.mem_cons, List.not_mem_nil, or_false] at hx
    rcases hx with rfl | rfl | rfl
    · exact pr2
    · exact pr2437
    · exact pr569003
    ) (by decide) (by decide +kernel) (by decide +kernel) (by decide +kernel)).1
theorem pr72106336199 : Pr 72106336199 :=
  (lucas_by (g := 7) (k := 37) (by decide) [(2, 1), (13, 1), (2773320623, 1)] (fun x hx => by
    simp only [List.mem_cons, List.not_mem_nil, or_false] at hx
    rcases hx with rfl | rfl | rfl
    · exact pr2
    · exact pr13
    · exact pr2773320623
    ) (by decide) (by decide +kernel) (by decide +kernel) (by decide +kernel)).1
theorem pr1919519569386763 : Pr 1919519569386763 :=
  (lucas_by (g := 2) (k := 69) (by decide) [(2, 1), (3, 1), (7, 1), (19, 1), (47, 2), (127, 1), (8574133, 1)] (fun x hx => by
    simp only [List.mem_cons, List.not_mem_nil, or_false] at hx
    rcases hx with rfl | rfl | rfl | rfl | rfl | rfl | rfl
    · exact pr2
    · exact pr3
    · exact pr7
    · exact pr19
    · exact pr47
    · exact pr127
    · exact pr8574133
    ) (by decide) (by decide +kernel) (by decide +kernel) (by decide +kernel)).1
theorem pr31757755568855353 : Pr 31757755568855353 :=
  (lucas_by (g := 10) (k := 73) (by decide) [(2, 3), (3, 1), (31, 1), (107, 1), (223, 1), (4153, 1), (430751, 1)] (fun x hx => by
    simp only [List.mem_cons, List.not_mem_nil, or_false] at hx
    rcases hx with rfl | rfl | rfl | rfl | rfl | rfl | rfl
    · exact pr2
    · exact pr3
    · exact pr31
    · exact pr107
    · exact pr223
    · exact pr4153
    · exact pr430751
    ) (by decide) (by decide +kernel) (by decide +kernel) (by decide +kernel)).1
theorem pr75445702479781427272750846543864801 : Pr 75445702479781427272750846543864801 :=
  (lucas_by (g := 7) (k := 116) (by decide) [(2, 5), (3, 2), (5, 2), (75707, 1), (72106336199, 1), (1919519569386763, 1)] (fun x hx => by
    simp only [List.mem_cons, List.not_mem_nil, or_false] at hx
    rcases hx with rfl | rfl | rfl | rfl | rfl | rfl
    · exact pr2
    · exact pr3
    · exact pr5
    · exact pr75707
    · exact pr72106336199
    · exact pr1919519569386763
    ) (by decide) (by decide +kernel) (by decide +kernel) (by decide +kernel)).1
theorem pr74058212732561358302231226437062788676166966415465897661863160754340907 : Pr 74058212732561358302231226437062788676166966415465897661863160754340907 :=
  (lucas_by (g := 2) (k := 236) (by decide) [(2, 1), (3, 1), (353, 1), (57467, 1), (132049, 1), (1923133, 1), (31757755568855353, 1), (75445702479781427272750846543864801, 1)] (fun x hx => by
    simp only [List.mem_cons, List.not_mem_nil, or_false] at hx
    rcases hx with rfl | rfl | rfl | rfl | rfl | rfl | rfl | rfl
    · exact pr2
    · exact pr3
    · exact pr353
    · exact pr57467
    · exact pr132049
    · exact pr1923133
    · exact pr31757755568855353
    · exact pr75445702479781427272750846543864801
    ) (by decide) (by decide +kernel) (by decide +kernel) (by decide +kernel)).1
theorem ferP : Pr P ∧ ∀ a, a % P ≠ 0 → a ^ (P - 1) % P = 1 :=
  lucas_by (n := P) (g := 2) (k := 255) (by decide +kernel) [(2, 2), (3, 1), (65147, 1), (74058212732561358302231226437062788676166966415465897661863160754340907, 1)] (fun x hx => by
    simp only [List.mem_cons, List.not_mem_nil, or_false] at hx
    rcases hx with rfl | rfl | rfl | rfl
    · exact pr2
    · exact pr3
    · exact pr65147
    · exact pr74058212732561358302231226437062788676166966415465897661863160754340907
    ) (by decide +kernel) (by decide +kernel) (by decide +kernel) (by decide +kernel)

theorem fermat (a : Nat) (h : a % P ≠ 0) : a ^ (P - 1) % P = 1 := ferP.2 a h
end Prm
set_option linter.unusedVariables false
set_option linter.unusedSimpArgs false
namespace Go.Proofs.YtoceepmehmacbaaDoor.Cv
open Go.RowKit Prm

/-- The number that limbs stand for. -/
def L5.val (x : L5) : Nat := x.a.toNat + 2251799813685248 * x.b.toNat + 5070602400912917605986812821504 * x.c.toNat + 11417981541647679048466287755595961091061972992 * x.d.toNat + 25711008708143844408671393477458601640355247900524685364822016 * x.e.toNat
structure L5.Ok (x : L5) : Prop where
  a : x.a.toNat < 2251799813947392
  b : x.b.toNat < 2251799813947392
  c : x.c.toNat < 2251799813947392
  d : x.d.toNat < 2251799813947392
  e : x.e.toNat < 2251799813947392

theorem lo51 (x : BitVec 64) : (x &&& mk51).toNat = x.toNat % 2251799813685248 := by
  rw [BitVec.toNat_and]
  exact Nat.and_two_pow_sub_one_eq_mod x.toNat 51
theorem hi51 (x : BitVec 64) : (x >>> 51).toNat = x.toNat / 2251799813685248 := by
  rw [BitVec.toNat_ushiftRight, Nat.shiftRight_eq_div_pow]

theorem carr_nat (x : L5) : (carr x).a.toNat = x.a.toNat % 2251799813685248 + 19 * (x.e.toNat / 2251799813685248) ∧ (carr x).b.toNat = x.b.toNat % 2251799813685248 + x.a.toNat / 2251799813685248 ∧ (carr x).c.toNat = x.c.toNat % 2251799813685248 + x.b.toNat / 2251799813685248 ∧
    (carr x).d.toNat = x.d.toNat % 2251799813685248 + x.c.toNat / 2251799813685248 ∧ (carr x).e.toNat = x.e.toNat % 2251799813685248 + x.d.toNat / 2251799813685248 := by
  have ha := wlt x.a
  have hb := wlt x.b
  have hc := wlt x.c
  have hd := wlt x.d
  have he := wlt x.e
  have e19 : (19#64 : BitVec 64).toNat = 19 := rfl
  refine ⟨?_, ?_, ?_, ?_, ?_⟩ <;> simp only [carr, BitVec.toNat_add, BitVec.toNat_mul, lo51, hi51, e19] <;> omega
theorem carr_ok (x : L5) : (carr x).Ok := by
  obtain ⟨h1, h2, h3, h4, h5⟩ := carr_nat x
  have ha := wlt x.a
  have hb := wlt x.b
  have hc := wlt x.c
  have hd := wlt x.d
  have he := wlt x.e
  exact ⟨by rw [h1]; omega, by rw [h2]; omega, by rw [h3]; omega, by rw [h4]; omega, by rw [h5]; omega⟩
theorem carr_val (x : L5) : x.val = (carr x).val + P * (x.e.toNat / 2251799813685248) := by
  obtain ⟨h1, h2, h3, h4, h5⟩ := carr_nat x
  unfold L5.val P
  rw [h1, h2, h3, h4, h5]
  generalize x.a.toNat = a
  generalize x.b.toNat = b
  generalize x.c.toNat = c
  generalize x.d.toNat = d
  generalize x.e.toNat = e
  omega

theorem add_ok (x y : L5) : (addE x y).Ok := carr_ok _
theorem sub_ok (x y : L5) : (subE x y).Ok := carr_ok _
theorem mul_ok (x y : L5) : (mulE x y).Ok := carr_ok _

theorem limb_add (x y : BitVec 64) (hx : x.toNat < 2251799813947392) (hy : y.toNat < 2251799813947392) : (x + y).toNat = x.toNat + y.toNat := by
  rw [BitVec.toNat_add]; omega
theorem kA_nat : kA.toNat = 4503599627370458 := rfl
theorem kB_nat : kB.toNat = 4503599627370494 := rfl
theorem limb_subA (x y : BitVec 64) (hx : x.toNat < 2251799813947392) (hy : y.toNat < 2251799813947392) : (x + kA - y).toNat + y.toNat = x.toNat + 4503599627370458 := by
  rw [BitVec.toNat_sub, BitVec.toNat_add, kA_nat]; omega
theorem limb_subB (x y : BitVec 64) (hx : x.toNat < 2251799813947392) (hy : y.toNat < 2251799813947392) : (x + kB - y).toNat + y.toNat = x.toNat + 4503599627370494 := by
  rw [BitVec.toNat_sub, BitVec.toNat_add, kB_nat]; omega

theorem add_val (x y : L5) (hx : x.Ok) (hy : y.Ok) : (addE x y).val % P = (x.val + y.val) % P := by
  have h := carr_val ⟨x.a + y.a, x.b + y.b, x.c + y.c, x.d + y.d, x.e + y.e⟩
  have e : (⟨x.a + y.a, x.b + y.b, x.c + y.c, x.d + y.d, x.e + y.e⟩ : L5).val = x.val + y.val := by
    simp only [L5.val, limb_add _ _ hx.a hy.a, limb_add _ _ hx.b hy.b, limb_add _ _ hx.c hy.c, limb_add _ _ hx.d hy.d, limb_add _ _ hx.e hy.e]
    omega
  rw [e] at h
  rw [h, Nat.add_mul_mod_self_left, addE]

theorem sub_val (x y : L5) (hx : x.Ok) (hy : y.Ok) : ((subE x y).val + y.val) % P = x.val % P := by
  have h := carr_val ⟨x.a + kA - y.a, x.b + kB - y.b, x.c + kB - y.c, x.d + kB - y.d, x.e + kB - y.e⟩
  have e : (⟨x.a + kA - y.a, x.b + kB - y.b, x.c + kB - y.c, x.d + kB - y.d, x.e + kB - y.e⟩ : L5).val + y.val = x.val + P * 2 := by
    have h1 := limb_subA _ _ hx.a hy.a
    have h2 := limb_subB _ _ hx.b hy.b
    have h3 := limb_subB _ _ hx.c hy.c
    have h4 := limb_subB _ _ hx.d hy.d
    have h5 := limb_subB _ _ hx.e hy.e
    simp only [L5.val, P]
    generalize (x.a + kA - y.a).toNat = t1 at *
    generalize (x.b + kB - y.b).toNat = t2 at *
    generalize (x.c + kB - y.c).toNat = t3 at *
    generalize (x.d + kB - y.d).toNat = t4 at *
    generalize (x.e + kB - y.e).toNat = t5 at *
    clear h
    omega
  rw [show carr ⟨x.a + kA - y.a, x.b + kB - y.b, x.c + kB - y.c, x.d + kB - y.d, x.e + kB - y.e⟩ = subE x y from rfl] at h
  obtain ⟨q, hq⟩ : ∃ q, q = (x.e + kB - y.e).toNat / 2251799813685248 := ⟨_, rfl⟩
  simp only [← hq] at h
  rw [h] at e
  have e2 : (subE x y).val + y.val + P * q = x.val + P * 2 := by rw [← e]; exact Nat.add_right_comm _ _ _
  rw [← Nat.add_mul_mod_self_left ((subE x y).val + y.val) P q, e2, Nat.add_mul_mod_self_left]

/-! Products. -/
def W2.nat (s : W2) : Nat := s.h.toNat * 18446744073709551616 + s.l.toNat
theorem plW_nat (s : W2) (x y : BitVec 64) (h : s.nat + x.toNat * y.toNat < 340282366920938463463374607431768211456) : (plW s x y).nat = s.nat + x.toNat * y.toNat := by
  have hh := wlt s.h
  have hl := wlt s.l
  unfold W2.nat plW plh pll at *
  simp only [BitVec.toNat_add, BitVec.toNat_mul, mhi_nat, cry_nat]
  generalize x.toNat * y.toNat = p at *
  generalize s.h.toNat = u at *
  generalize s.l.toNat = v at *
  omega
theorem w20_nat : w20.nat = 0 := rfl
theorem up_nat (s : W2) (h : s.nat < 41538374868278621028243970633760768) : s.up.toNat = s.nat / 2251799813685248 := by
  have hl := wlt s.l
  have hh : s.h.toNat < 2251799813685248 := by unfold W2.nat at h; omega
  have e1 : (s.h <<< 13).toNat = s.h.toNat * 8192 := by
    rw [BitVec.toNat_shiftLeft, Nat.shiftLeft_eq]; omega
  have e2 : (s.l >>> 51).toNat = s.l.toNat / 2251799813685248 := hi51 _
  unfold W2.up abv
  rw [BitVec.toNat_or, e1, e2]
  have : s.h.toNat * 8192 ||| s.l.toNat / 2251799813685248 = s.h.toNat * 8192 + s.l.toNat / 2251799813685248 := by
    have := Nat.two_pow_add_eq_or_of_lt (i := 13) (b := s.l.toNat / 2251799813685248) (by omega) s.h.toNat
    rw [Nat.mul_comm, ← this]
  rw [this]
  unfold W2.nat
  omega
theorem low_nat (s : W2) : (s.l &&& mk51).toNat = s.nat % 2251799813685248 := by
  rw [lo51]
  unfold W2.nat
  omega

end Go.Proofs.YtoceepmehmacbaaDoor.Cv
set_option linter.unusedVariables false
set_option linter.unusedSimpArgs false
namespace Go.Proofs.YtoceepmehmacbaaDoor.Cv
open Go.RowKit Prm

theorem nat19 (y : BitVec 64) (hy : y.toNat < 2251799813947392) : (19#64 * y).toNat = 19 * y.toNat := by
  have e19 : (19#64 : BitVec 64).toNat = 19 := rfl
  rw [BitVec.toNat_mul, e19]; omega

theorem prod_le {a b : Nat} (ha : a < 2251799813947392) (hb : b < 42784196465000448) : a * b ≤ 96341445639776630272689649483777 := Nat.mul_le_mul (Nat.le_of_lt_succ ha) (Nat.le_of_lt_succ hb)

theorem sum5 (u1 v1 u2 v2 u3 v3 u4 v4 u5 v5 : BitVec 64) (a1 : u1.toNat < 2251799813947392) (a2 : u2.toNat < 2251799813947392) (a3 : u3.toNat < 2251799813947392) (a4 : u4.toNat < 2251799813947392) (a5 : u5.toNat < 2251799813947392)
    (b1 : v1.toNat < 42784196465000448) (b2 : v2.toNat < 42784196465000448) (b3 : v3.toNat < 42784196465000448) (b4 : v4.toNat < 42784196465000448) (b5 : v5.toNat < 42784196465000448) :
    (plW (plW (plW (plW (plW w20 u1 v1) u2 v2) u3 v3) u4 v4) u5 v5).nat = u1.toNat * v1.toNat + u2.toNat * v2.toNat + u3.toNat * v3.toNat + u4.toNat * v4.toNat + u5.toNat * v5.toNat ∧
    (plW (plW (plW (plW (plW w20 u1 v1) u2 v2) u3 v3) u4 v4) u5 v5).nat < 649037107316853453566312041152512 := by
  have p1 := prod_le a1 b1
  have p2 := prod_le a2 b2
  have p3 := prod_le a3 b3
  have p4 := prod_le a4 b4
  have p5 := prod_le a5 b5
  have n1 : (plW w20 u1 v1).nat = u1.toNat * v1.toNat := by rw [plW_nat _ _ _ (by rw [w20_nat]; omega), w20_nat, Nat.zero_add]
  have n2 : (plW (plW w20 u1 v1) u2 v2).nat = u1.toNat * v1.toNat + u2.toNat * v2.toNat := by rw [plW_nat _ _ _ (by rw [n1]; omega), n1]
  have n3 : (plW (plW (plW w20 u1 v1) u2 v2) u3 v3).nat = u1.toNat * v1.toNat + u2.toNat * v2.toNat + u3.toNat * v3.toNat := by rw [plW_nat _ _ _ (by rw [n2]; omega), n2]
  have n4 : (plW (plW (plW (plW w20 u1 v1) u2 v2) u3 v3) u4 v4).nat = u1.toNat * v1.toNat + u2.toNat * v2.toNat + u3.toNat * v3.toNat + u4.toNat * v4.toNat := by rw [plW_nat _ _ _ (by rw [n3]; omega), n3]
  have n5 : (plW (plW (plW (plW (plW w20 u1 v1) u2 v2) u3 v3) u4 v4) u5 v5).nat = u1.toNat * v1.toNat + u2.toNat * v2.toNat + u3.toNat * v3.toNat + u4.toNat * v4.toNat + u5.toNat * v5.toNat := by rw [plW_nat _ _ _ (by rw [n4]; omega), n4]
  exact ⟨n5, by rw [n5]; omega⟩

theorem join_val (s0 s1 s2 s3 s4 : W2) (h0 : s0.nat < 649037107316853453566312041152512) (h1 : s1.nat < 649037107316853453566312041152512) (h2 : s2.nat < 649037107316853453566312041152512) (h3 : s3.nat < 649037107316853453566312041152512) (h4 : s4.nat < 649037107316853453566312041152512) :
    s0.nat + 2251799813685248 * s1.nat + 5070602400912917605986812821504 * s2.nat + 11417981541647679048466287755595961091061972992 * s3.nat + 25711008708143844408671393477458601640355247900524685364822016 * s4.nat = (joinW s0 s1 s2 s3 s4).val + P * (s4.nat / 2251799813685248) := by
  have e19 : (19#64 : BitVec 64).toNat = 19 := rfl
  have j0 : ((s0.l &&& mk51) + 19#64 * s4.up).toNat = s0.nat % 2251799813685248 + 19 * (s4.nat / 2251799813685248) := by
    rw [BitVec.toNat_add, BitVec.toNat_mul, e19, low_nat, up_nat _ (by omega)]; omega
  have j1 : ((s1.l &&& mk51) + s0.up).toNat = s1.nat % 2251799813685248 + s0.nat / 2251799813685248 := by
    rw [BitVec.toNat_add, low_nat, up_nat _ (by omega)]; omega
  have j2 : ((s2.l &&& mk51) + s1.up).toNat = s2.nat % 2251799813685248 + s1.nat / 2251799813685248 := by
    rw [BitVec.toNat_add, low_nat, up_nat _ (by omega)]; omega
  have j3 : ((s3.l &&& mk51) + s2.up).toNat = s3.nat % 2251799813685248 + s2.nat / 2251799813685248 := by
    rw [BitVec.toNat_add, low_nat, up_nat _ (by omega)]; omega
  have j4 : ((s4.l &&& mk51) + s3.up).toNat = s4.nat % 2251799813685248 + s3.nat / 2251799813685248 := by
    rw [BitVec.toNat_add, low_nat, up_nat _ (by omega)]; omega
  simp only [L5.val, joinW, j0, j1, j2, j3, j4, P]
  clear j0 j1 j2 j3 j4 h0 h1 h2 h3 h4 e19
  generalize s0.nat = n0
  generalize s1.nat = n1
  generalize s2.nat = n2
  generalize s3.nat = n3
  generalize s4.nat = n4
  omega

theorem poly (a b c d e p q r s t : Nat) :
    (a + 2251799813685248 * b + 5070602400912917605986812821504 * c + 11417981541647679048466287755595961091061972992 * d + 25711008708143844408671393477458601640355247900524685364822016 * e) * (p + 2251799813685248 * q + 5070602400912917605986812821504 * r + 11417981541647679048466287755595961091061972992 * s + 25711008708143844408671393477458601640355247900524685364822016 * t) =
    (a * p + b * (19 * t) + c * (19 * s) + d * (19 * r) + e * (19 * q)) + 2251799813685248 * (a * q + b * p + c * (19 * t) + d * (19 * s) + e * (19 * r)) + 5070602400912917605986812821504 * (a * r + b * q + c * p + d * (19 * t) + e * (19 * s)) + 11417981541647679048466287755595961091061972992 * (a * s + b * r + c * q + d * p + e * (19 * t)) + 25711008708143844408671393477458601640355247900524685364822016 * (a * t + b * s + c * r + d * q + e * p)
    + 57896044618658097711785492504343953926634992332820282019728792003956564819949 * ((b * t + c * s + d * r + e * q) + 2251799813685248 * (c * t + d * s + e * r) + 5070602400912917605986812821504 * (d * t + e * s) + 11417981541647679048466287755595961091061972992 * (e * t)) := by
  grind

theorem mul_val (x y : L5) (hx : x.Ok) (hy : y.Ok) : (mulE x y).val % P = (x.val * y.val) % P := by
  have hb := nat19 y.b hy.b
  have hc := nat19 y.c hy.c
  have hd := nat19 y.d hy.d
  have he := nat19 y.e hy.e
  have la : y.a.toNat < 42784196465000448 := by have := hy.a; omega
  have lb : y.b.toNat < 42784196465000448 := by have := hy.b; omega
  have lc : y.c.toNat < 42784196465000448 := by have := hy.c; omega
  have ld : y.d.toNat < 42784196465000448 := by have := hy.d; omega
  have le : y.e.toNat < 42784196465000448 := by have := hy.e; omega
  have zb : (19#64 * y.b).toNat < 42784196465000448 := by have := hy.b; omega
  have zc : (19#64 * y.c).toNat < 42784196465000448 := by have := hy.c; omega
  have zd : (19#64 * y.d).toNat < 42784196465000448 := by have := hy.d; omega
  have ze : (19#64 * y.e).toNat < 42784196465000448 := by have := hy.e; omega
  obtain ⟨m0, k0⟩ := sum5 x.a y.a x.b (19#64 * y.e) x.c (19#64 * y.d) x.d (19#64 * y.c) x.e (19#64 * y.b) hx.a hx.b hx.c hx.d hx.e la ze zd zc zb
  obtain ⟨m1, k1⟩ := sum5 x.a y.b x.b y.a x.c (19#64 * y.e) x.d (19#64 * y.d) x.e (19#64 * y.c) hx.a hx.b hx.c hx.d hx.e lb la ze zd zc
  obtain ⟨m2, k2⟩ := sum5 x.a y.c x.b y.b x.c y.a x.d (19#64 * y.e) x.e (19#64 * y.d) hx.a hx.b hx.c hx.d hx.e lc lb la ze zd
  obtain ⟨m3, k3⟩ := sum5 x.a y.d x.b y.c x.c y.b x.d y.a x.e (19#64 * y.e) hx.a hx.b hx.c hx.d hx.e ld lc lb la ze
  obtain ⟨m4, k4⟩ := sum5 x.a y.e x.b y.d x.c y.c x.d y.b x.e y.a hx.a hx.b hx.c hx.d hx.e le ld lc lb la
  rw [hb, hc, hd, he] at m0
  rw [hc, hd, he] at m1
  rw [hd, he] at m2
  rw [he] at m3
  have hj := join_val (ms0 x y) (ms1 x y) (ms2 x y) (ms3 x y) (ms4 x y) k0 k1 k2 k3 k4
  have hp := poly x.a.toNat x.b.toNat x.c.toNat x.d.toNat x.e.toNat y.a.toNat y.b.toNat y.c.toNat y.d.toNat y.e.toNat
  rw [← m0, ← m1, ← m2, ← m3, ← m4] at hp
  have e : x.val * y.val % P = (joinW (ms0 x y) (ms1 x y) (ms2 x y) (ms3 x y) (ms4 x y)).val % P := by
    have hp' : x.val * y.val = (ms0 x y).nat + 2251799813685248 * (ms1 x y).nat + 5070602400912917605986812821504 * (ms2 x y).nat + 11417981541647679048466287755595961091061972992 * (ms3 x y).nat + 25711008708143844408671393477458601640355247900524685364822016 * (ms4 x y).nat + P * _ := hp
    rw [hp', Nat.add_mul_mod_self_left, hj, Nat.add_mul_mod_self_left]
  rw [e, carr_val (joinW (ms0 x y) (ms1 x y) (ms2 x y) (ms3 x y) (ms4 x y)), Nat.add_mul_mod_self_left, mulE]

end Go.Proofs.YtoceepmehmacbaaDoor.Cv
