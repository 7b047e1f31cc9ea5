import Derived.Test.YtoceepmehmacbaaDoorKNum3G
set_option linter.unusedVariables false
set_option linter.unusedSimpArgs false
namespace Go.Proofs.YtoceepmehmacbaaDoor.Cv
open Go.RowKit Prm

/-- A number's 32 bytes. -/
def nb (T : Nat) : List UInt8 := (List.range 32).map fun t => UInt8.ofNat (T / 256 ^ t)
theorem nb_length (T : Nat) : (nb T).length = 32 := by simp [nb]
theorem nb_at (T i : Nat) (h : i < 32) : (nb T).getD i 0 = UInt8.ofNat (T / 256 ^ i) := by
  rw [List.getD_eq_getElem?_getD, nb, List.getElem?_map, List.getElem?_range h]; rfl

theorem getD_ext' {L M : List UInt8} {n : Nat} (h1 : L.length = n) (h2 : M.length = n) (h : ∀ i, i < n → L.getD i 0 = M.getD i 0) : L = M := by
  apply List.ext_getElem (by omega)
  intro i hi hi'
  have := h i (by omega)
  rw [List.getD_eq_getElem?_getD, List.getD_eq_getElem?_getD, List.getElem?_eq_getElem hi, List.getElem?_eq_getElem hi'] at this
  simpa using this
theorem psum_nb (T : Nat) : ∀ r, r ≤ 32 → psum (nb T) 0 r = T % 256 ^ r
  | 0, _ => by simp [psum, Nat.mod_one]
  | r + 1, h => by
    rw [psum, psum_nb T r (by omega), Nat.zero_add, nb_at T r (by omega), UInt8.toNat_ofNat']
    have e := @Nat.mod_mul (256 ^ r) 256 T
    rw [← Nat.pow_succ] at e
    rw [e, Nat.mul_comm (256 ^ r)]
theorem kn_nb (T : Nat) (h : T < 115792089237316195423570985008687907853269984665640564039457584007913129639936) : kn (nb T) = T := by
  unfold kn
  rw [psum_nb T 32 (by omega)]
  exact Nat.mod_eq_of_lt h
theorem psum_div (k : List UInt8) : ∀ r i, i < r → psum k 0 r / 256 ^ i % 256 = (k.getD i 0).toNat
  | 0, i, h => by omega
  | r + 1, i, h => by
    rw [psum, Nat.zero_add]
    by_cases hi : i = r
    · subst hi
      have hl := psum_lt k 0 i
      have hu := (k.getD i 0).toNat_lt
      rw [Nat.add_mul_div_right _ _ (Nat.pow_pos (by decide)), Nat.div_eq_of_lt hl, Nat.zero_add]
      omega
    · have ih := psum_div k r i (by omega)
      obtain ⟨d, hd⟩ : ∃ d, r = i + (d + 1) := ⟨r - i - 1, by omega⟩
      have e : (k.getD r 0).toNat * 256 ^ r = (k.getD r 0).toNat * 256 ^ d * 256 * 256 ^ i := by
        rw [hd, Nat.pow_add, Nat.pow_succ, Nat.mul_comm (256 ^ i), ← Nat.mul_assoc, ← Nat.mul_assoc]
      rw [e, Nat.add_mul_div_right _ _ (Nat.pow_pos (by decide)), Nat.add_mul_mod_self_right, ih]
theorem nb_kn (k : List UInt8) (h : k.length = 32) : nb (kn k) = k := by
  refine getD_ext' (nb_length _) h fun i hi => ?_
  rw [nb_at _ _ hi]
  apply UInt8.toNat_inj.1
  rw [UInt8.toNat_ofNat']
  exact psum_div k 32 i hi
theorem kn_inj {a b : List UInt8} (ha : a.length = 32) (hb : b.length = 32) (h : kn a = kn b) : a = b := by
  rw [← nb_kn a ha, ← nb_kn b hb, h]

theorem ubk_at (W : List (BitVec 64)) : ∀ t, t ≤ 32 → ∀ j, j < t → (ubk W t).getD j 0 = UInt8.ofNat (W.getD (j / 8) 0 >>> (8 * (j % 8))).toNat
  | 0, _, j, h => by omega
  | t + 1, ht, j, hj => by
    have hl := ubk_length W t
    rw [ubk]
    by_cases hq : t = j
    · subst hq
      rw [List.getD_eq_getElem?_getD, List.getElem?_set_self (by omega), Option.getD_some]
    · rw [List.getD_eq_getElem?_getD, List.getElem?_set_ne hq, ← List.getD_eq_getElem?_getD]
      exact ubk_at W t (by omega) j (by omega)

theorem byte_of (M r : Nat) (hr : r < 8) : M / 256 ^ r % 256 = M % 18446744073709551616 / 256 ^ r % 256 := by
  have : r = 0 ∨ r = 1 ∨ r = 2 ∨ r = 3 ∨ r = 4 ∨ r = 5 ∨ r = 6 ∨ r = 7 := by omega
  rcases this with rfl | rfl | rfl | rfl | rfl | rfl | rfl | rfl <;> simp only [Nat.reducePow, Nat.pow_zero, Nat.pow_one] <;> omega

theorem ubk_nb (a b c d : BitVec 64) : ubk [a, b, c, d] 32 = nb (a.toNat + 18446744073709551616 * b.toNat + 340282366920938463463374607431768211456 * c.toNat + 6277101735386680763835789423207666416102355444464034512896 * d.toNat) := by
  have ha := wlt a
  have hb := wlt b
  have hc := wlt c
  have hd := wlt d
  refine getD_ext' (ubk_length _ _) (nb_length _) fun t ht => ?_
  rw [ubk_at _ 32 (by omega) t ht, nb_at _ _ ht]
  apply UInt8.toNat_inj.1
  rw [UInt8.toNat_ofNat', UInt8.toNat_ofNat', BitVec.toNat_ushiftRight, Nat.shiftRight_eq_div_pow]
  obtain ⟨N, hN⟩ : ∃ N, N = a.toNat + 18446744073709551616 * b.toNat + 340282366920938463463374607431768211456 * c.toNat + 6277101735386680763835789423207666416102355444464034512896 * d.toNat := ⟨_, rfl⟩
  rw [← hN]
  have hr : t % 8 < 8 := by omega
  have e1 : 2 ^ (8 * (t % 8)) = 256 ^ (t % 8) := by rw [Nat.pow_mul]
  have e2 : N / 256 ^ t = N / 256 ^ (8 * (t / 8)) / 256 ^ (t % 8) := by
    rw [Nat.div_div_eq_div_mul, ← Nat.pow_add]
    congr 2
    omega
  show _ % 256 = _ % 256
  rw [e1, e2, byte_of (N / 256 ^ (8 * (t / 8))) _ hr]
  congr 3
  have hj : t / 8 = 0 ∨ t / 8 = 1 ∨ t / 8 = 2 ∨ t / 8 = 3 := by omega
  rcases hj with h | h | h | h <;> rw [h]
  · show a.toNat = _
    simp only [Nat.reduceMul, Nat.pow_zero]
    omega
  · show b.toNat = _
    simp only [Nat.reduceMul, Nat.reducePow]
    omega
  · show c.toNat = _
    simp only [Nat.reduceMul, Nat.reducePow]
    omega
  · show d.toNat = _
    simp only [Nat.reduceMul, Nat.reducePow]
    omega

theorem or_sh (x y : BitVec 64) (p q : Nat) (h : x.toNat / 2 ^ p < 2 ^ q) (hq : q ≤ 64) : (x >>> p ||| y <<< q).toNat = x.toNat / 2 ^ p + y.toNat * 2 ^ q % 18446744073709551616 := by
  rw [BitVec.toNat_or, BitVec.toNat_ushiftRight, BitVec.toNat_shiftLeft, Nat.shiftRight_eq_div_pow, Nat.shiftLeft_eq]
  have e : y.toNat * 2 ^ q % 2 ^ 64 = y.toNat % 2 ^ (64 - q) * 2 ^ q := by
    generalize y.toNat = z
    conv => lhs; rw [show 64 = (64 - q) + q by omega, Nat.pow_add]
    rw [Nat.mul_mod_mul_right]
  rw [e, or_small _ _ _ h, ← e]

theorem words5_nat (a b c d e : BitVec 64) (ha : a.toNat < 2251799813685248) (hb : b.toNat < 2251799813685248) (hc : c.toNat < 2251799813685248) (hd : d.toNat < 2251799813685248) (he : e.toNat < 2251799813685248) :
    ubk (words5 a b c d e) 32 = nb (a.toNat + 2251799813685248 * b.toNat + 5070602400912917605986812821504 * c.toNat + 11417981541647679048466287755595961091061972992 * d.toNat + 25711008708143844408671393477458601640355247900524685364822016 * e.toNat) := by
  have e0 : (a ||| b <<< 51).toNat = a.toNat + b.toNat * 2251799813685248 % 18446744073709551616 := by
    have := or_sh a b 0 51 (by simpa using ha) (by omega)
    simpa using this
  have e1 : (b >>> 13 ||| c <<< 38).toNat = b.toNat / 8192 + c.toNat * 274877906944 % 18446744073709551616 := or_sh b c 13 38 (by simp only [Nat.reducePow]; omega) (by omega)
  have e2 : (c >>> 26 ||| d <<< 25).toNat = c.toNat / 67108864 + d.toNat * 33554432 % 18446744073709551616 := or_sh c d 26 25 (by simp only [Nat.reducePow]; omega) (by omega)
  have e3 : (d >>> 39 ||| e <<< 12).toNat = d.toNat / 549755813888 + e.toNat * 4096 % 18446744073709551616 := or_sh d e 39 12 (by simp only [Nat.reducePow]; omega) (by omega)
  unfold words5
  rw [ubk_nb, e0, e1, e2, e3]
  congr 1
  clear e0 e1 e2 e3
  generalize a.toNat = a at *
  generalize b.toNat = b at *
  generalize c.toNat = c at *
  generalize d.toNat = d at *
  generalize e.toNat = e at *
  omega

theorem ov_nat (x : L5) (hx : x.Ok) : (ov x.list 5).toNat = (x.val + 19) / 57896044618658097711785492504343953926634992332820282019728792003956564819968 := by
  obtain ⟨ha, hb, hc, hd, he⟩ := hx
  have o1 : (ov x.list 1).toNat = (x.a.toNat + 19) / 2251799813685248 := by
    show ((x.a + 19#64) >>> 51).toNat = _
    rw [hi51, BitVec.toNat_add]
    show (x.a.toNat + 19) % _ / _ = _
    omega
  have o2 : (ov x.list 2).toNat = (x.b.toNat + (x.a.toNat + 19) / 2251799813685248) / 2251799813685248 := by
    show ((x.b + ov x.list 1) >>> 51).toNat = _
    rw [hi51, BitVec.toNat_add, o1]
    omega
  have o3 : (ov x.list 3).toNat = (x.c.toNat + (ov x.list 2).toNat) / 2251799813685248 := by
    show ((x.c + ov x.list 2) >>> 51).toNat = _
    rw [hi51, BitVec.toNat_add]
    omega
  have o4 : (ov x.list 4).toNat = (x.d.toNat + (ov x.list 3).toNat) / 2251799813685248 := by
    show ((x.d + ov x.list 3) >>> 51).toNat = _
    rw [hi51, BitVec.toNat_add]
    omega
  have o5 : (ov x.list 5).toNat = (x.e.toNat + (ov x.list 4).toNat) / 2251799813685248 := by
    show ((x.e + ov x.list 4) >>> 51).toNat = _
    rw [hi51, BitVec.toNat_add]
    omega
  unfold L5.val
  generalize (ov x.list 5).toNat = t5 at *
  generalize (ov x.list 4).toNat = t4 at *
  generalize (ov x.list 3).toNat = t3 at *
  generalize (ov x.list 2).toNat = t2 at *
  clear o1
  generalize x.a.toNat = a at *
  generalize x.b.toNat = b at *
  generalize x.c.toNat = c at *
  generalize x.d.toNat = d at *
  generalize x.e.toNat = e at *
  omega

theorem rc_at (x : L5) : (rcL x.list 5).getD 0 0 = (x.a + rcC x.list 0) &&& mk51 ∧ (rcL x.list 5).getD 1 0 = (x.b + rcC x.list 1) &&& mk51 ∧ (rcL x.list 5).getD 2 0 = (x.c + rcC x.list 2) &&& mk51 ∧
    (rcL x.list 5).getD 3 0 = (x.d + rcC x.list 3) &&& mk51 ∧ (rcL x.list 5).getD 4 0 = (x.e + rcC x.list 4) &&& mk51 := by
  obtain ⟨a, b, c, d, e⟩ := x
  simp only [L5.list, rcL]
  generalize rcC [a, b, c, d, e] 0 = c0
  generalize rcC [a, b, c, d, e] 1 = c1
  generalize rcC [a, b, c, d, e] 2 = c2
  generalize rcC [a, b, c, d, e] 3 = c3
  generalize rcC [a, b, c, d, e] 4 = c4
  simp

theorem val_lt (x : L5) (hx : x.Ok) : x.val < 115792089237316195423570985008687907853269984665640564039457584007913129639898 := by
  obtain ⟨ha, hb, hc, hd, he⟩ := hx
  unfold L5.val
  omega

theorem tell_is (x : L5) (hx : x.Ok) : tellE x = nb (x.val % P) := by
  have ho := ov_nat x hx
  have hv := val_lt x hx
  obtain ⟨r0, r1, r2, r3, r4⟩ := rc_at x
  obtain ⟨ha, hb, hc, hd, he⟩ := hx
  have hol : (ov x.list 5).toNat ≤ 1 := by rw [ho]; omega
  have e19 : (19#64 : BitVec 64).toNat = 19 := rfl
  have c0 : (rcC x.list 0).toNat = 19 * (ov x.list 5).toNat := by
    show (19#64 * ov x.list 5).toNat = _
    rw [BitVec.toNat_mul, e19]
    omega
  have c1 : (rcC x.list 1).toNat = (x.a.toNat + (rcC x.list 0).toNat) / 2251799813685248 := by
    show ((x.a + rcC x.list 0) >>> 51).toNat = _
    rw [hi51, BitVec.toNat_add]
    omega
  have c2 : (rcC x.list 2).toNat = (x.b.toNat + (rcC x.list 1).toNat) / 2251799813685248 := by
    show ((x.b + rcC x.list 1) >>> 51).toNat = _
    rw [hi51, BitVec.toNat_add]
    omega
  have c3 : (rcC x.list 3).toNat = (x.c.toNat + (rcC x.list 2).toNat) / 2251799813685248 := by
    show ((x.c + rcC x.list 2) >>> 51).toNat = _
    rw [hi51, BitVec.toNat_add]
    omega
  have c4 : (rcC x.list 4).toNat = (x.d.toNat + (rcC x.list 3).toNat) / 2251799813685248 := by
    show ((x.d + rcC x.list 3) >>> 51).toNat = _
    rw [hi51, BitVec.toNat_add]
    omega
  have s0 : ((x.a + rcC x.list 0) &&& mk51).toNat = (x.a.toNat + (rcC x.list 0).toNat) % 2251799813685248 := by rw [lo51, BitVec.toNat_add]; omega
  have s1 : ((x.b + rcC x.list 1) &&& mk51).toNat = (x.b.toNat + (rcC x.list 1).toNat) % 2251799813685248 := by rw [lo51, BitVec.toNat_add]; omega
  have s2 : ((x.c + rcC x.list 2) &&& mk51).toNat = (x.c.toNat + (rcC x.list 2).toNat) % 2251799813685248 := by rw [lo51, BitVec.toNat_add]; omega
  have s3 : ((x.d + rcC x.list 3) &&& mk51).toNat = (x.d.toNat + (rcC x.list 3).toNat) % 2251799813685248 := by rw [lo51, BitVec.toNat_add]; omega
  have s4 : ((x.e + rcC x.list 4) &&& mk51).toNat = (x.e.toNat + (rcC x.list 4).toNat) % 2251799813685248 := by rw [lo51, BitVec.toNat_add]; omega
  unfold tellE
  rw [r0, r1, r2, r3, r4, words5_nat _ _ _ _ _ (by rw [s0]; omega) (by rw [s1]; omega) (by rw [s2]; omega) (by rw [s3]; omega) (by rw [s4]; omega), s0, s1, s2, s3, s4]
  congr 1
  have hP : x.val % P = if (ov x.list 5).toNat = 1 then x.val + 19 - 57896044618658097711785492504343953926634992332820282019728792003956564819968 else x.val := by
    unfold P
    split <;> omega
  rw [hP]
  clear r0 r1 r2 r3 r4 s0 s1 s2 s3 s4 hP e19
  unfold L5.val at *
  generalize (rcC x.list 4).toNat = t4 at *
  generalize (rcC x.list 3).toNat = t3 at *
  generalize (rcC x.list 2).toNat = t2 at *
  generalize (rcC x.list 1).toNat = t1 at *
  generalize (rcC x.list 0).toNat = t0 at *
  generalize (ov x.list 5).toNat = o at *
  generalize x.a.toNat = a at *
  generalize x.b.toNat = b at *
  generalize x.c.toNat = c at *
  generalize x.d.toNat = d at *
  generalize x.e.toNat = e at *
  split <;> omega

end Go.Proofs.YtoceepmehmacbaaDoor.Cv
