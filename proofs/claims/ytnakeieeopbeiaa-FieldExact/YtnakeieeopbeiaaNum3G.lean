import Derived.Test.YtnakeieeopbeiaaTellG
import Derived.Test.YtnakeieeopbeiaaPrm
import Derived.Test.YtnakeieeopbeiaaByt
set_option linter.unusedVariables false
set_option linter.unusedSimpArgs false
namespace Go.Proofs.Ytnakeieeopbeiaa
open Go.RowKit Prm

/-- The number that limbs stand for. -/
def L5.val (x : L5) : Nat := x.a.toNat + 2251799813685248 * x.b.toNat + 5070602400912917605986812821504 * x.c.toNat + 11417981541647679048466287755595961091061972992 * x.d.toNat + 25711008708143844408671393477458601640355247900524685364822016 * x.e.toNat
structure L5.Ok (x : L5) : Prop where
  a : x.a.toNat < 2251799813947392
  b : x.b.toNat < 2251799813947392
  c : x.c.toNat < 2251799813947392
  d : x.d.toNat < 2251799813947392
  e : x.e.toNat < 2251799813947392

theorem lo51 (x : BitVec 64) : (x &&& mk51).toNat = x.toNat % 2251799813685248 := by
  rw [BitVec.toNat_and]
  exact Nat.and_two_pow_sub_one_eq_mod x.toNat 51
theorem hi51 (x : BitVec 64) : (x >>> 51).toNat = x.toNat / 2251799813685248 := by
  rw [BitVec.toNat_ushiftRight, Nat.shiftRight_eq_div_pow]

theorem carr_nat (x : L5) : (carr x).a.toNat = x.a.toNat % 2251799813685248 + 19 * (x.e.toNat / 2251799813685248) ∧ (carr x).b.toNat = x.b.toNat % 2251799813685248 + x.a.toNat / 2251799813685248 ∧ (carr x).c.toNat = x.c.toNat % 2251799813685248 + x.b.toNat / 2251799813685248 ∧
    (carr x).d.toNat = x.d.toNat % 2251799813685248 + x.c.toNat / 2251799813685248 ∧ (carr x).e.toNat = x.e.toNat % 2251799813685248 + x.d.toNat / 2251799813685248 := by
  have ha := wlt x.a
  have hb := wlt x.b
  have hc := wlt x.c
  have hd := wlt x.d
  have he := wlt x.e
  have e19 : (19#64 : BitVec 64).toNat = 19 := rfl
  refine ⟨?_, ?_, ?_, ?_, ?_⟩ <;> simp only [carr, BitVec.toNat_add, BitVec.toNat_mul, lo51, hi51, e19] <;> omega
theorem carr_ok (x : L5) : (carr x).Ok := by
  obtain ⟨h1, h2, h3, h4, h5⟩ := carr_nat x
  have ha := wlt x.a
  have hb := wlt x.b
  have hc := wlt x.c
  have hd := wlt x.d
  have he := wlt x.e
  exact ⟨by rw [h1]; omega, by rw [h2]; omega, by rw [h3]; omega, by rw [h4]; omega, by rw [h5]; omega⟩
theorem carr_val (x : L5) : x.val = (carr x).val + P * (x.e.toNat / 2251799813685248) := by
  obtain ⟨h1, h2, h3, h4, h5⟩ := carr_nat x
  unfold L5.val P
  rw [h1, h2, h3, h4, h5]
  generalize x.a.toNat = a
  generalize x.b.toNat = b
  generalize x.c.toNat = c
  generalize x.d.toNat = d
  generalize x.e.toNat = e
  omega

theorem add_ok (x y : L5) : (addE x y).Ok := carr_ok _
theorem sub_ok (x y : L5) : (subE x y).Ok := carr_ok _
theorem mul_ok (x y : L5) : (mulE x y).Ok := carr_ok _

theorem limb_add (x y : BitVec 64) (hx : x.toNat < 2251799813947392) (hy : y.toNat < 2251799813947392) : (x + y).toNat = x.toNat + y.toNat := by
  rw [BitVec.toNat_add]; omega
theorem kA_nat : kA.toNat = 4503599627370458 := rfl
theorem kB_nat : kB.toNat = 4503599627370494 := rfl
theorem limb_subA (x y : BitVec 64) (hx : x.toNat < 2251799813947392) (hy : y.toNat < 2251799813947392) : (x + kA - y).toNat + y.toNat = x.toNat + 4503599627370458 := by
  rw [BitVec.toNat_sub, BitVec.toNat_add, kA_nat]; omega
theorem limb_subB (x y : BitVec 64) (hx : x.toNat < 2251799813947392) (hy : y.toNat < 2251799813947392) : (x + kB - y).toNat + y.toNat = x.toNat + 4503599627370494 := by
  rw [BitVec.toNat_sub, BitVec.toNat_add, kB_nat]; omega

theorem add_val (x y : L5) (hx : x.Ok) (hy : y.Ok) : (addE x y).val % P = (x.val + y.val) % P := by
  have h := carr_val ⟨x.a + y.a, x.b + y.b, x.c + y.c, x.d + y.d, x.e + y.e⟩
  have e : (⟨x.a + y.a, x.b + y.b, x.c + y.c, x.d + y.d, x.e + y.e⟩ : L5).val = x.val + y.val := by
    simp only [L5.val, limb_add _ _ hx.a hy.a, limb_add _ _ hx.b hy.b, limb_add _ _ hx.c hy.c, limb_add _ _ hx.d hy.d, limb_add _ _ hx.e hy.e]
    omega
  rw [e] at h
  rw [h, Nat.add_mul_mod_self_left, addE]

theorem sub_val (x y : L5) (hx : x.Ok) (hy : y.Ok) : ((subE x y).val + y.val) % P = x.val % P := by
  have h := carr_val ⟨x.a + kA - y.a, x.b + kB - y.b, x.c + kB - y.c, x.d + kB - y.d, x.e + kB - y.e⟩
  have e : (⟨x.a + kA - y.a, x.b + kB - y.b, x.c + kB - y.c, x.d + kB - y.d, x.e + kB - y.e⟩ : L5).val + y.val = x.val + P * 2 := by
    have h1 := limb_subA _ _ hx.a hy.a
    have h2 := limb_subB _ _ hx.b hy.b
    have h3 := limb_subB _ _ hx.c hy.c
    have h4 := limb_subB _ _ hx.d hy.d
    have h5 := limb_subB _ _ hx.e hy.e
    simp only [L5.val, P]
    generalize (x.a + kA - y.a).toNat = t1 at *
    generalize (x.b + kB - y.b).toNat = t2 at *
    generalize (x.c + kB - y.c).toNat = t3 at *
    generalize (x.d + kB - y.d).toNat = t4 at *
    generalize (x.e + kB - y.e).toNat = t5 at *
    clear h
    omega
  rw [show carr ⟨x.a + kA - y.a, x.b + kB - y.b, x.c + kB - y.c, x.d + kB - y.d, x.e + kB - y.e⟩ = subE x y from rfl] at h
  obtain ⟨q, hq⟩ : ∃ q, q = (x.e + kB - y.e).toNat / 2251799813685248 := ⟨_, rfl⟩
  simp only [← hq] at h
  rw [h] at e
  have e2 : (subE x y).val + y.val + P * q = x.val + P * 2 := by rw [← e]; exact Nat.add_right_comm _ _ _
  rw [← Nat.add_mul_mod_self_left ((subE x y).val + y.val) P q, e2, Nat.add_mul_mod_self_left]

/-! Products. -/
def W2.nat (s : W2) : Nat := s.h.toNat * 18446744073709551616 + s.l.toNat
theorem plW_nat (s : W2) (x y : BitVec 64) (h : s.nat + x.toNat * y.toNat < 340282366920938463463374607431768211456) : (plW s x y).nat = s.nat + x.toNat * y.toNat := by
  have hh := wlt s.h
  have hl := wlt s.l
  unfold W2.nat plW plh pll at *
  simp only [BitVec.toNat_add, BitVec.toNat_mul, mhi_nat, cry_nat]
  generalize x.toNat * y.toNat = p at *
  generalize s.h.toNat = u at *
  generalize s.l.toNat = v at *
  omega
theorem w20_nat : w20.nat = 0 := rfl
theorem up_nat (s : W2) (h : s.nat < 41538374868278621028243970633760768) : s.up.toNat = s.nat / 2251799813685248 := by
  have hl := wlt s.l
  have hh : s.h.toNat < 2251799813685248 := by unfold W2.nat at h; omega
  have e1 : (s.h <<< 13).toNat = s.h.toNat * 8192 := by
    rw [BitVec.toNat_shiftLeft, Nat.shiftLeft_eq]; omega
  have e2 : (s.l >>> 51).toNat = s.l.toNat / 2251799813685248 := hi51 _
  unfold W2.up abv
  rw [BitVec.toNat_or, e1, e2]
  have : s.h.toNat * 8192 ||| s.l.toNat / 2251799813685248 = s.h.toNat * 8192 + s.l.toNat / 2251799813685248 := by
    have := Nat.two_pow_add_eq_or_of_lt (i := 13) (b := s.l.toNat / 2251799813685248) (by omega) s.h.toNat
    rw [Nat.mul_comm, ← this]
  rw [this]
  unfold W2.nat
  omega
theorem low_nat (s : W2) : (s.l &&& mk51).toNat = s.nat % 2251799813685248 := by
  rw [lo51]
  unfold W2.nat
  omega

end Go.Proofs.Ytnakeieeopbeiaa

set_option linter.unusedVariables false
set_option linter.unusedSimpArgs false
namespace Go.Proofs.Ytnakeieeopbeiaa
open Go.RowKit Prm

/-- r bytes from place s on, as a number. -/
def psum (k : List UInt8) (s : Nat) : Nat → Nat
  | 0 => 0
  | r + 1 => psum k s r + (k.getD (s + r) 0).toNat * 256 ^ r
theorem psum_lt (k : List UInt8) (s : Nat) : ∀ r, psum k s r < 256 ^ r
  | 0 => by simp [psum]
  | r + 1 => by
    have h := psum_lt k s r
    have hu := (k.getD (s + r) 0).toNat_lt
    rw [psum, Nat.pow_succ]
    have : (k.getD (s + r) 0).toNat * 256 ^ r ≤ 255 * 256 ^ r := Nat.mul_le_mul_right _ (by omega)
    omega
theorem psum_add (k : List UInt8) (s r : Nat) : ∀ q, psum k s (r + q) = psum k s r + 256 ^ r * psum k (s + r) q
  | 0 => by simp [psum]
  | q + 1 => by
    rw [← Nat.add_assoc, psum, psum_add k s r q, psum, Nat.pow_add, Nat.add_assoc s r q, Nat.mul_add, Nat.add_assoc]
    congr 2
    rw [Nat.mul_left_comm]

theorem or_add (x : BitVec 64) (u : UInt8) (r : Nat) (hr : r < 8) (hx : x.toNat < 256 ^ r) : (x ||| bw u <<< (8 * r)).toNat = x.toNat + u.toNat * 256 ^ r := by
  have hu := u.toNat_lt
  have hp : (256 : Nat) ^ r = 2 ^ (8 * r) := by rw [Nat.pow_mul]
  have hle : u.toNat * 2 ^ (8 * r) < 18446744073709551616 := by
    have h1 : 2 ^ (8 * r) ≤ 2 ^ 56 := Nat.pow_le_pow_right (by decide) (by omega)
    have h2 : u.toNat * 2 ^ (8 * r) ≤ 255 * 2 ^ 56 := Nat.mul_le_mul (by omega) h1
    omega
  rw [BitVec.toNat_or, BitVec.toNat_shiftLeft, bw_nat, Nat.shiftLeft_eq, Nat.mod_eq_of_lt (by omega), hp]
  rw [hp] at hx
  have := Nat.two_pow_add_eq_or_of_lt hx u.toNat
  rw [Nat.or_comm, Nat.mul_comm u.toNat, ← this, Nat.add_comm]

theorem wdk_at (k : List UInt8) : ∀ t, t ≤ 32 → ∀ j, j < 4 → ((wdk k t).getD j 0).toNat = psum k (8 * j) (min 8 (t - 8 * j))
  | 0, _, j, hj => by
    have : j = 0 ∨ j = 1 ∨ j = 2 ∨ j = 3 := by omega
    rcases this with rfl | rfl | rfl | rfl <;> rfl
  | t + 1, ht, j, hj => by
    have ih := wdk_at k t (by omega)
    have hl := wdk_length k t
    rw [wdk]
    by_cases hq : t / 8 = j
    · have hr : t % 8 < 8 := by omega
      have e1 : min 8 (t + 1 - 8 * j) = t % 8 + 1 := by omega
      have e2 : min 8 (t - 8 * j) = t % 8 := by omega
      have e3 : 8 * j + t % 8 = t := by omega
      have hi := ih j hj
      rw [e2] at hi
      rw [hq, List.getD_eq_getElem?_getD, List.getElem?_set_self (by omega), Option.getD_some, or_add _ _ _ hr (by rw [hi]; exact psum_lt _ _ _), hi, e1, psum, e3]
    · rw [List.getD_eq_getElem?_getD, List.getElem?_set_ne hq, ← List.getD_eq_getElem?_getD, ih j hj]
      congr 1
      omega

/-- The number of a key. -/
def kn (k : List UInt8) : Nat := psum k 0 32
theorem kn_words (k : List UInt8) : kn k = psum k 0 8 + 18446744073709551616 * psum k 8 8 + 340282366920938463463374607431768211456 * psum k 16 8 + 6277101735386680763835789423207666416102355444464034512896 * psum k 24 8 := by
  have h1 := psum_add k 0 8 24
  have h2 := psum_add k 8 8 16
  have h3 := psum_add k 16 8 8
  simp only [Nat.zero_add, Nat.reduceAdd, Nat.reducePow] at h1 h2 h3
  unfold kn
  omega
theorem psum8 (k : List UInt8) (s : Nat) : psum k s 8 < 18446744073709551616 := psum_lt k s 8
theorem kn_lt (k : List UInt8) : kn k < 115792089237316195423570985008687907853269984665640564039457584007913129639936 := by
  have := psum_lt k 0 32
  simpa [kn] using this

theorem or_small (x y : Nat) (i : Nat) (hx : x < 2 ^ i) : x ||| y * 2 ^ i = x + y * 2 ^ i := by
  have := Nat.two_pow_add_eq_or_of_lt hx y
  rw [Nat.or_comm, Nat.mul_comm, ← this, Nat.add_comm]
theorem sh_or (x y : BitVec 64) (p q : Nat) (hpq : p + q = 64) : (x >>> p ||| y <<< q).toNat = x.toNat / 2 ^ p + y.toNat * 2 ^ q % 18446744073709551616 := by
  have hx := wlt x
  rw [BitVec.toNat_or, BitVec.toNat_ushiftRight, BitVec.toNat_shiftLeft, Nat.shiftRight_eq_div_pow, Nat.shiftLeft_eq]
  have e : y.toNat * 2 ^ q % 2 ^ 64 = y.toNat % 2 ^ p * 2 ^ q := by
    generalize y.toNat = z
    rw [← hpq, Nat.pow_add, Nat.mul_mod_mul_right]
  rw [e, or_small _ _ _ (by
    rw [Nat.div_lt_iff_lt_mul (Nat.two_pow_pos p), ← Nat.pow_add, Nat.add_comm, hpq]; exact hx), ← e]

theorem limbs4_nat (a b c d : BitVec 64) : (limbs4 a b c d).val = (a.toNat + 18446744073709551616 * b.toNat + 340282366920938463463374607431768211456 * c.toNat + 6277101735386680763835789423207666416102355444464034512896 * d.toNat) % 57896044618658097711785492504343953926634992332820282019728792003956564819968 ∧ (limbs4 a b c d).Ok := by
  have ha := wlt a
  have hb := wlt b
  have hc := wlt c
  have hd := wlt d
  have e0 : (a &&& mk51).toNat = a.toNat % 2251799813685248 := lo51 a
  have e1 : ((a >>> 51 ||| b <<< 13) &&& mk51).toNat = (a.toNat / 2251799813685248 + b.toNat * 8192 % 18446744073709551616) % 2251799813685248 := by rw [lo51, sh_or a b 51 13 rfl]
  have e2 : ((b >>> 38 ||| c <<< 26) &&& mk51).toNat = (b.toNat / 274877906944 + c.toNat * 67108864 % 18446744073709551616) % 2251799813685248 := by rw [lo51, sh_or b c 38 26 rfl]
  have e3 : ((c >>> 25 ||| d <<< 39) &&& mk51).toNat = (c.toNat / 33554432 + d.toNat * 549755813888 % 18446744073709551616) % 2251799813685248 := by rw [lo51, sh_or c d 25 39 rfl]
  have e4 : (d >>> 12 &&& mk51).toNat = d.toNat / 4096 % 2251799813685248 := by rw [lo51, BitVec.toNat_ushiftRight, Nat.shiftRight_eq_div_pow]
  refine ⟨?_, ⟨?_, ?_, ?_, ?_, ?_⟩⟩
  · simp only [L5.val, limbs4, e0, e1, e2, e3, e4]
    clear e0 e1 e2 e3 e4
    generalize a.toNat = a at *
    generalize b.toNat = b at *
    generalize c.toNat = c at *
    generalize d.toNat = d at *
    omega
  all_goals (first | (show (a &&& mk51).toNat < _; rw [e0]; omega) | (show ((a >>> 51 ||| b <<< 13) &&& mk51).toNat < _; rw [e1]; omega) | (show ((b >>> 38 ||| c <<< 26) &&& mk51).toNat < _; rw [e2]; omega) | (show ((c >>> 25 ||| d <<< 39) &&& mk51).toNat < _; rw [e3]; omega) | (show (d >>> 12 &&& mk51).toNat < _; rw [e4]; omega))

theorem read_val (k : List UInt8) : (readE k).val = kn k % 57896044618658097711785492504343953926634992332820282019728792003956564819968 := by
  unfold readE
  have w0 : ((wdk k 32).getD 0 0).toNat = psum k 0 8 := wdk_at k 32 (by omega) 0 (by omega)
  have w1 : ((wdk k 32).getD 1 0).toNat = psum k 8 8 := wdk_at k 32 (by omega) 1 (by omega)
  have w2 : ((wdk k 32).getD 2 0).toNat = psum k 16 8 := wdk_at k 32 (by omega) 2 (by omega)
  have w3 : ((wdk k 32).getD 3 0).toNat = psum k 24 8 := wdk_at k 32 (by omega) 3 (by omega)
  rw [(limbs4_nat _ _ _ _).1, w0, w1, w2, w3, kn_words]
theorem read_ok (k : List UInt8) : (readE k).Ok := (limbs4_nat _ _ _ _).2

end Go.Proofs.Ytnakeieeopbeiaa
