import Derived.Test.YtacancfmgnmpiaaMod
set_option linter.unusedVariables false
set_option linter.unusedSimpArgs false
namespace Go.Proofs.Ytacancfmgnmpiaa
open Go.RowKit Prm

/-- u is x to the e-th. -/
def IsPow (x u : L5) (e : Nat) : Prop := u.Ok ∧ u.val % P = x.val ^ e % P
theorem IsPow.self {x : L5} (h : x.Ok) : IsPow x x 1 := ⟨h, by rw [Nat.pow_one]⟩
theorem IsPow.mul {x u v : L5} {a b : Nat} (h : IsPow x u a) (k : IsPow x v b) : IsPow x (mulE u v) (a + b) :=
  ⟨mul_ok _ _, by rw [mul_val u v h.1 k.1, mul_mod2 h.2 k.2, Nat.pow_add]⟩
theorem IsPow.sq {x u : L5} {a : Nat} (h : IsPow x u a) : ∀ t, IsPow x (sqN u t) (a * 2 ^ t)
  | 0 => by rw [sqN, Nat.pow_zero, Nat.mul_one]; exact h
  | t + 1 => by
    have ih := h.sq t
    have := ih.mul ih
    rw [sqN, Nat.pow_succ, ← Nat.mul_assoc, Nat.mul_two]
    exact this
theorem IsPow.cast {x u : L5} {a b : Nat} (h : IsPow x u a) (e : a = b) : IsPow x u b := e ▸ h

theorem o5_is {x : L5} (h : x.Ok) : IsPow x (o5 x) 31 := by
  have s := IsPow.self h
  exact ((((s.sq 4).mul (s.sq 3)).mul (s.sq 2)).mul (s.sq 1)).mul s
theorem o10_is {x : L5} (h : x.Ok) : IsPow x (o10 x) 1023 := (((o5_is h).sq 5).mul (o5_is h)).cast (by decide +kernel)
theorem o20_is {x : L5} (h : x.Ok) : IsPow x (o20 x) 1048575 := (((o10_is h).sq 10).mul (o10_is h)).cast (by decide +kernel)
theorem o40_is {x : L5} (h : x.Ok) : IsPow x (o40 x) 1099511627775 := (((o20_is h).sq 20).mul (o20_is h)).cast (by decide +kernel)
theorem o50_is {x : L5} (h : x.Ok) : IsPow x (o50 x) 1125899906842623 := (((o40_is h).sq 10).mul (o10_is h)).cast (by decide +kernel)
theorem o100_is {x : L5} (h : x.Ok) : IsPow x (o100 x) 1267650600228229401496703205375 := (((o50_is h).sq 50).mul (o50_is h)).cast (by decide +kernel)
theorem o200_is {x : L5} (h : x.Ok) : IsPow x (o200 x) 1606938044258990275541962092341162602522202993782792835301375 := (((o100_is h).sq 100).mul (o100_is h)).cast (by decide +kernel)
def E250 : Nat := 1809251394333065553493296640760748560207343510400633813116524750123642650623
theorem ones_is {x : L5} (h : x.Ok) : IsPow x (onesE x) E250 := (((o200_is h).sq 50).mul (o50_is h)).cast (by decide +kernel)
theorem inv_is {x : L5} (h : x.Ok) : IsPow x (invE x) (P - 2) := by
  have s := IsPow.self h
  exact (((((ones_is h).sq 5).mul ((s.mul s).sq 2)).mul (s.mul s)).mul s).cast (by decide +kernel)
def kbit (k : List UInt8) (i : Nat) : Bool := decide ((k.getD (i / 8) 0).toNat / 2 ^ (i % 8) % 2 = 1)
theorem bit_of (M r : Nat) (hr : r < 8) : M % 256 / 2 ^ r % 2 = M / 2 ^ r % 2 := by
  have : r = 0 ∨ r = 1 ∨ r = 2 ∨ r = 3 ∨ r = 4 ∨ r = 5 ∨ r = 6 ∨ r = 7 := by omega
  rcases this with rfl | rfl | rfl | rfl | rfl | rfl | rfl | rfl <;> simp only [Nat.reducePow, Nat.pow_zero, Nat.pow_one] <;> omega
theorem kbit_is (k : List UInt8) (i : Nat) (hi : i < 256) : kbit k i = decide (kn k / 2 ^ i % 2 = 1) := by
  unfold kbit
  have h := psum_div k 32 (i / 8) (by omega)
  have e : kn k / 2 ^ i = kn k / 256 ^ (i / 8) / 2 ^ (i % 8) := by
    rw [Nat.div_div_eq_div_mul, show (256 : Nat) = 2 ^ 8 from rfl, ← Nat.pow_mul, ← Nat.pow_add]
    congr 2
    omega
  rw [e, ← h, bit_of _ _ (by omega)]
  rfl
theorem pow_mod_l (a e : Nat) : (a % P) ^ e % P = a ^ e % P := (Nat.pow_mod a e P).symm
theorem pow_congr {a b : Nat} (e : Nat) (h : a % P = b % P) : a ^ e % P = b ^ e % P := by rw [Nat.pow_mod, h, ← Nat.pow_mod]
theorem zero_pow_mod {a e : Nat} (h : a % P = 0) (he : 0 < e) : a ^ e % P = 0 := by
  rw [Nat.pow_mod, h, Nat.zero_pow he, Nat.zero_mod]
theorem pow_P (a : Nat) : a ^ P % P = a % P := by
  by_cases h : a % P = 0
  · rw [zero_pow_mod h (by decide), h]
  · have e : P = (P - 1) + 1 := by decide +kernel
    have f := fermat a h
    conv => lhs; lhs; rw [e]
    rw [Nat.pow_succ, Nat.mul_mod, f, Nat.one_mul, Nat.mod_mod]
theorem pow_top (a : Nat) : a ^ (P + 19) % P = a ^ 20 % P := by
  rw [Nat.pow_add, Nat.mul_mod, pow_P, ← Nat.mul_mod, ← Nat.pow_succ']
theorem pow_mul_one {a : Nat} (h : a % P ≠ 0) (m : Nat) : a ^ ((P - 1) * m) % P = 1 := by
  rw [Nat.pow_mul, Nat.pow_mod, fermat a h, Nat.one_pow]
  rfl

end Go.Proofs.Ytacancfmgnmpiaa
