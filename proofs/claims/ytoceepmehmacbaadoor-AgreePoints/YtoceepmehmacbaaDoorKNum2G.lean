import Derived.Test.YtoceepmehmacbaaDoorKPrmG
set_option linter.unusedVariables false
set_option linter.unusedSimpArgs false
namespace Go.Proofs.YtoceepmehmacbaaDoor.Cv
open Go.RowKit Prm

/-- The number that limbs stand for. -/
def L5.val (x : L5) : Nat := x.a.toNat + 2251799813685248 * x.b.toNat + 5070602400912917605986812821504 * x.c.toNat + 11417981541647679048466287755595961091061972992 * x.d.toNat + 25711008708143844408671393477458601640355247900524685364822016 * x.e.toNat
structure L5.Ok (x : L5) : Prop where
  a : x.a.toNat < 2251799813947392
  b : x.b.toNat < 2251799813947392
  c : x.c.toNat < 2251799813947392
  d : x.d.toNat < 2251799813947392
  e : x.e.toNat < 2251799813947392

theorem lo51 (x : BitVec 64) : (x &&& mk51).toNat = x.toNat % 2251799813685248 := by
  rw [BitVec.toNat_and]
  exact Nat.and_two_pow_sub_one_eq_mod x.toNat 51
theorem hi51 (x : BitVec 64) : (x >>> 51).toNat = x.toNat / 2251799813685248 := by
  rw [BitVec.toNat_ushiftRight, Nat.shiftRight_eq_div_pow]

theorem carr_nat (x : L5) : (carr x).a.toNat = x.a.toNat % 2251799813685248 + 19 * (x.e.toNat / 2251799813685248) ∧ (carr x).b.toNat = x.b.toNat % 2251799813685248 + x.a.toNat / 2251799813685248 ∧ (carr x).c.toNat = x.c.toNat % 2251799813685248 + x.b.toNat / 2251799813685248 ∧
    (carr x).d.toNat = x.d.toNat % 2251799813685248 + x.c.toNat / 2251799813685248 ∧ (carr x).e.toNat = x.e.toNat % 2251799813685248 + x.d.toNat / 2251799813685248 := by
  have ha := wlt x.a
  have hb := wlt x.b
  have hc := wlt x.c
  have hd := wlt x.d
  have he := wlt x.e
  have e19 : (19#64 : BitVec 64).toNat = 19 := rfl
  refine ⟨?_, ?_, ?_, ?_, ?_⟩ <;> simp only [carr, BitVec.toNat_add, BitVec.toNat_mul, lo51, hi51, e19] <;> omega
theorem carr_ok (x : L5) : (carr x).Ok := by
  obtain ⟨h1, h2, h3, h4, h5⟩ := carr_nat x
  have ha := wlt x.a
  have hb := wlt x.b
  have hc := wlt x.c
  have hd := wlt x.d
  have he := wlt x.e
  exact ⟨by rw [h1]; omega, by rw [h2]; omega, by rw [h3]; omega, by rw [h4]; omega, by rw [h5]; omega⟩
theorem carr_val (x : L5) : x.val = (carr x).val + P * (x.e.toNat / 2251799813685248) := by
  obtain ⟨h1, h2, h3, h4, h5⟩ := carr_nat x
  unfold L5.val P
  rw [h1, h2, h3, h4, h5]
  generalize x.a.toNat = a
  generalize x.b.toNat = b
  generalize x.c.toNat = c
  generalize x.d.toNat = d
  generalize x.e.toNat = e
  omega

theorem add_ok (x y : L5) : (addE x y).Ok := carr_ok _
theorem sub_ok (x y : L5) : (subE x y).Ok := carr_ok _
theorem mul_ok (x y : L5) : (mulE x y).Ok := carr_ok _

theorem limb_add (x y : BitVec 64) (hx : x.toNat < 2251799813947392) (hy : y.toNat < 2251799813947392) : (x + y).toNat = x.toNat + y.toNat := by
  rw [BitVec.toNat_add]; omega
theorem kA_nat : kA.toNat = 4503599627370458 := rfl
theorem kB_nat : kB.toNat = 4503599627370494 := rfl
theorem limb_subA (x y : BitVec 64) (hx : x.toNat < 2251799813947392) (hy : y.toNat < 2251799813947392) : (x + kA - y).toNat + y.toNat = x.toNat + 4503599627370458 := by
  rw [BitVec.toNat_sub, BitVec.toNat_add, kA_nat]; omega
theorem limb_subB (x y : BitVec 64) (hx : x.toNat < 2251799813947392) (hy : y.toNat < 2251799813947392) : (x + kB - y).toNat + y.toNat = x.toNat + 4503599627370494 := by
  rw [BitVec.toNat_sub, BitVec.toNat_add, kB_nat]; omega

theorem add_val (x y : L5) (hx : x.Ok) (hy : y.Ok) : (addE x y).val % P = (x.val + y.val) % P := by
  have h := carr_val ⟨x.a + y.a, x.b + y.b, x.c + y.c, x.d + y.d, x.e + y.e⟩
  have e : (⟨x.a + y.a, x.b + y.b, x.c + y.c, x.d + y.d, x.e + y.e⟩ : L5).val = x.val + y.val := by
    simp only [L5.val, limb_add _ _ hx.a hy.a, limb_add _ _ hx.b hy.b, limb_add _ _ hx.c hy.c, limb_add _ _ hx.d hy.d, limb_add _ _ hx.e hy.e]
    omega
  rw [e] at h
  rw [h, Nat.add_mul_mod_self_left, addE]

theorem sub_val (x y : L5) (hx : x.Ok) (hy : y.Ok) : ((subE x y).val + y.val) % P = x.val % P := by
  have h := carr_val ⟨x.a + kA - y.a, x.b + kB - y.b, x.c + kB - y.c, x.d + kB - y.d, x.e + kB - y.e⟩
  have e : (⟨x.a + kA - y.a, x.b + kB - y.b, x.c + kB - y.c, x.d + kB - y.d, x.e + kB - y.e⟩ : L5).val + y.val = x.val + P * 2 := by
    have h1 := limb_subA _ _ hx.a hy.a
    have h2 := limb_subB _ _ hx.b hy.b
    have h3 := limb_subB _ _ hx.c hy.c
    have h4 := limb_subB _ _ hx.d hy.d
    have h5 := limb_subB _ _ hx.e hy.e
    simp only [L5.val, P]
    generalize (x.a + kA - y.a).toNat = t1 at *
    generalize (x.b + kB - y.b).toNat = t2 at *
    generalize (x.c + kB - y.c).toNat = t3 at *
    generalize (x.d + kB - y.d).toNat = t4 at *
    generalize (x.e + kB - y.e).toNat = t5 at *
    clear h
    omega
  rw [show carr ⟨x.a + kA - y.a, x.b + kB - y.b, x.c + kB - y.c, x.d + kB - y.d, x.e + kB - y.e⟩ = subE x y from rfl] at h
  obtain ⟨q, hq⟩ : ∃ q, q = (x.e + kB - y.e).toNat / 2251799813685248 := ⟨_, rfl⟩
  simp only [← hq] at h
  rw [h] at e
  have e2 : (subE x y).val + y.val + P * q = x.val + P * 2 := by rw [← e]; exact Nat.add_right_comm _ _ _
  rw [← Nat.add_mul_mod_self_left ((subE x y).val + y.val) P q, e2, Nat.add_mul_mod_self_left]

/-! Products. -/
def W2.nat (s : W2) : Nat := s.h.toNat * 18446744073709551616 + s.l.toNat
theorem plW_nat (s : W2) (x y : BitVec 64) (h : s.nat + x.toNat * y.toNat < 340282366920938463463374607431768211456) : (plW s x y).nat = s.nat + x.toNat * y.toNat := by
  have hh := wlt s.h
  have hl := wlt s.l
  unfold W2.nat plW plh pll at *
  simp only [BitVec.toNat_add, BitVec.toNat_mul, mhi_nat, cry_nat]
  generalize x.toNat * y.toNat = p at *
  generalize s.h.toNat = u at *
  generalize s.l.toNat = v at *
  omega
theorem w20_nat : w20.nat = 0 := rfl
theorem up_nat (s : W2) (h : s.nat < 41538374868278621028243970633760768) : s.up.toNat = s.nat / 2251799813685248 := by
  have hl := wlt s.l
  have hh : s.h.toNat < 2251799813685248 := by unfold W2.nat at h; omega
  have e1 : (s.h <<< 13).toNat = s.h.toNat * 8192 := by
    rw [BitVec.toNat_shiftLeft, Nat.shiftLeft_eq]; omega
  have e2 : (s.l >>> 51).toNat = s.l.toNat / 2251799813685248 := hi51 _
  unfold W2.up abv
  rw [BitVec.toNat_or, e1, e2]
  have : s.h.toNat * 8192 ||| s.l.toNat / 2251799813685248 = s.h.toNat * 8192 + s.l.toNat / 2251799813685248 := by
    have := Nat.two_pow_add_eq_or_of_lt (i := 13) (b := s.l.toNat / 2251799813685248) (by omega) s.h.toNat
    rw [Nat.mul_comm, ← this]
  rw [this]
  unfold W2.nat
  omega
theorem low_nat (s : W2) : (s.l &&& mk51).toNat = s.nat % 2251799813685248 := by
  rw [lo51]
  unfold W2.nat
  omega

end Go.Proofs.YtoceepmehmacbaaDoor.Cv

set_option linter.unusedVariables false
set_option linter.unusedSimpArgs false
namespace Go.Proofs.YtoceepmehmacbaaDoor.Cv
open Go.RowKit Prm

theorem nat19 (y : BitVec 64) (hy : y.toNat < 2251799813947392) : (19#64 * y).toNat = 19 * y.toNat := by
  have e19 : (19#64 : BitVec 64).toNat = 19 := rfl
  rw [BitVec.toNat_mul, e19]; omega

theorem prod_le {a b : Nat} (ha : a < 2251799813947392) (hb : b < 42784196465000448) : a * b ≤ 96341445639776630272689649483777 := Nat.mul_le_mul (Nat.le_of_lt_succ ha) (Nat.le_of_lt_succ hb)

theorem sum5 (u1 v1 u2 v2 u3 v3 u4 v4 u5 v5 : BitVec 64) (a1 : u1.toNat < 2251799813947392) (a2 : u2.toNat < 2251799813947392) (a3 : u3.toNat < 2251799813947392) (a4 : u4.toNat < 2251799813947392) (a5 : u5.toNat < 2251799813947392)
    (b1 : v1.toNat < 42784196465000448) (b2 : v2.toNat < 42784196465000448) (b3 : v3.toNat < 42784196465000448) (b4 : v4.toNat < 42784196465000448) (b5 : v5.toNat < 42784196465000448) :
    (plW (plW (plW (plW (plW w20 u1 v1) u2 v2) u3 v3) u4 v4) u5 v5).nat = u1.toNat * v1.toNat + u2.toNat * v2.toNat + u3.toNat * v3.toNat + u4.toNat * v4.toNat + u5.toNat * v5.toNat ∧
    (plW (plW (plW (plW (plW w20 u1 v1) u2 v2) u3 v3) u4 v4) u5 v5).nat < 649037107316853453566312041152512 := by
  have p1 := prod_le a1 b1
  have p2 := prod_le a2 b2
  have p3 := prod_le a3 b3
  have p4 := prod_le a4 b4
  have p5 := prod_le a5 b5
  have n1 : (plW w20 u1 v1).nat = u1.toNat * v1.toNat := by rw [plW_nat _ _ _ (by rw [w20_nat]; omega), w20_nat, Nat.zero_add]
  have n2 : (plW (plW w20 u1 v1) u2 v2).nat = u1.toNat * v1.toNat + u2.toNat * v2.toNat := by rw [plW_nat _ _ _ (by rw [n1]; omega), n1]
  have n3 : (plW (plW (plW w20 u1 v1) u2 v2) u3 v3).nat = u1.toNat * v1.toNat + u2.toNat * v2.toNat + u3.toNat * v3.toNat := by rw [plW_nat _ _ _ (by rw [n2]; omega), n2]
  have n4 : (plW (plW (plW (plW w20 u1 v1) u2 v2) u3 v3) u4 v4).nat = u1.toNat * v1.toNat + u2.toNat * v2.toNat + u3.toNat * v3.toNat + u4.toNat * v4.toNat := by rw [plW_nat _ _ _ (by rw [n3]; omega), n3]
  have n5 : (plW (plW (plW (plW (plW w20 u1 v1) u2 v2) u3 v3) u4 v4) u5 v5).nat = u1.toNat * v1.toNat + u2.toNat * v2.toNat + u3.toNat * v3.toNat + u4.toNat * v4.toNat + u5.toNat * v5.toNat := by rw [plW_nat _ _ _ (by rw [n4]; omega), n4]
  exact ⟨n5, by rw [n5]; omega⟩

theorem join_val (s0 s1 s2 s3 s4 : W2) (h0 : s0.nat < 649037107316853453566312041152512) (h1 : s1.nat < 649037107316853453566312041152512) (h2 : s2.nat < 649037107316853453566312041152512) (h3 : s3.nat < 649037107316853453566312041152512) (h4 : s4.nat < 649037107316853453566312041152512) :
    s0.nat + 2251799813685248 * s1.nat + 5070602400912917605986812821504 * s2.nat + 11417981541647679048466287755595961091061972992 * s3.nat + 25711008708143844408671393477458601640355247900524685364822016 * s4.nat = (joinW s0 s1 s2 s3 s4).val + P * (s4.nat / 2251799813685248) := by
  have e19 : (19#64 : BitVec 64).toNat = 19 := rfl
  have j0 : ((s0.l &&& mk51) + 19#64 * s4.up).toNat = s0.nat % 2251799813685248 + 19 * (s4.nat / 2251799813685248) := by
    rw [BitVec.toNat_add, BitVec.toNat_mul, e19, low_nat, up_nat _ (by omega)]; omega
  have j1 : ((s1.l &&& mk51) + s0.up).toNat = s1.nat % 2251799813685248 + s0.nat / 2251799813685248 := by
    rw [BitVec.toNat_add, low_nat, up_nat _ (by omega)]; omega
  have j2 : ((s2.l &&& mk51) + s1.up).toNat = s2.nat % 2251799813685248 + s1.nat / 2251799813685248 := by
    rw [BitVec.toNat_add, low_nat, up_nat _ (by omega)]; omega
  have j3 : ((s3.l &&& mk51) + s2.up).toNat = s3.nat % 2251799813685248 + s2.nat / 2251799813685248 := by
    rw [BitVec.toNat_add, low_nat, up_nat _ (by omega)]; omega
  have j4 : ((s4.l &&& mk51) + s3.up).toNat = s4.nat % 2251799813685248 + s3.nat / 2251799813685248 := by
    rw [BitVec.toNat_add, low_nat, up_nat _ (by omega)]; omega
  simp only [L5.val, joinW, j0, j1, j2, j3, j4, P]
  clear j0 j1 j2 j3 j4 h0 h1 h2 h3 h4 e19
  generalize s0.nat = n0
  generalize s1.nat = n1
  generalize s2.nat = n2
  generalize s3.nat = n3
  generalize s4.nat = n4
  omega

theorem poly (a b c d e p q r s t : Nat) :
    (a + 2251799813685248 * b + 5070602400912917605986812821504 * c + 11417981541647679048466287755595961091061972992 * d + 25711008708143844408671393477458601640355247900524685364822016 * e) * (p + 2251799813685248 * q + 5070602400912917605986812821504 * r + 11417981541647679048466287755595961091061972992 * s + 25711008708143844408671393477458601640355247900524685364822016 * t) =
    (a * p + b * (19 * t) + c * (19 * s) + d * (19 * r) + e * (19 * q)) + 2251799813685248 * (a * q + b * p + c * (19 * t) + d * (19 * s) + e * (19 * r)) + 5070602400912917605986812821504 * (a * r + b * q + c * p + d * (19 * t) + e * (19 * s)) + 11417981541647679048466287755595961091061972992 * (a * s + b * r + c * q + d * p + e * (19 * t)) + 25711008708143844408671393477458601640355247900524685364822016 * (a * t + b * s + c * r + d * q + e * p)
    + 57896044618658097711785492504343953926634992332820282019728792003956564819949 * ((b * t + c * s + d * r + e * q) + 2251799813685248 * (c * t + d * s + e * r) + 5070602400912917605986812821504 * (d * t + e * s) + 11417981541647679048466287755595961091061972992 * (e * t)) := by
  grind

theorem mul_val (x y : L5) (hx : x.Ok) (hy : y.Ok) : (mulE x y).val % P = (x.val * y.val) % P := by
  have hb := nat19 y.b hy.b
  have hc := nat19 y.c hy.c
  have hd := nat19 y.d hy.d
  have he := nat19 y.e hy.e
  have la : y.a.toNat < 42784196465000448 := by have := hy.a; omega
  have lb : y.b.toNat < 42784196465000448 := by have := hy.b; omega
  have lc : y.c.toNat < 42784196465000448 := by have := hy.c; omega
  have ld : y.d.toNat < 42784196465000448 := by have := hy.d; omega
  have le : y.e.toNat < 42784196465000448 := by have := hy.e; omega
  have zb : (19#64 * y.b).toNat < 42784196465000448 := by have := hy.b; omega
  have zc : (19#64 * y.c).toNat < 42784196465000448 := by have := hy.c; omega
  have zd : (19#64 * y.d).toNat < 42784196465000448 := by have := hy.d; omega
  have ze : (19#64 * y.e).toNat < 42784196465000448 := by have := hy.e; omega
  obtain ⟨m0, k0⟩ := sum5 x.a y.a x.b (19#64 * y.e) x.c (19#64 * y.d) x.d (19#64 * y.c) x.e (19#64 * y.b) hx.a hx.b hx.c hx.d hx.e la ze zd zc zb
  obtain ⟨m1, k1⟩ := sum5 x.a y.b x.b y.a x.c (19#64 * y.e) x.d (19#64 * y.d) x.e (19#64 * y.c) hx.a hx.b hx.c hx.d hx.e lb la ze zd zc
  obtain ⟨m2, k2⟩ := sum5 x.a y.c x.b y.b x.c y.a x.d (19#64 * y.e) x.e (19#64 * y.d) hx.a hx.b hx.c hx.d hx.e lc lb la ze zd
  obtain ⟨m3, k3⟩ := sum5 x.a y.d x.b y.c x.c y.b x.d y.a x.e (19#64 * y.e) hx.a hx.b hx.c hx.d hx.e ld lc lb la ze
  obtain ⟨m4, k4⟩ := sum5 x.a y.e x.b y.d x.c y.c x.d y.b x.e y.a hx.a hx.b hx.c hx.d hx.e le ld lc lb la
  rw [hb, hc, hd, he] at m0
  rw [hc, hd, he] at m1
  rw [hd, he] at m2
  rw [he] at m3
  have hj := join_val (ms0 x y) (ms1 x y) (ms2 x y) (ms3 x y) (ms4 x y) k0 k1 k2 k3 k4
  have hp := poly x.a.toNat x.b.toNat x.c.toNat x.d.toNat x.e.toNat y.a.toNat y.b.toNat y.c.toNat y.d.toNat y.e.toNat
  rw [← m0, ← m1, ← m2, ← m3, ← m4] at hp
  have e : x.val * y.val % P = (joinW (ms0 x y) (ms1 x y) (ms2 x y) (ms3 x y) (ms4 x y)).val % P := by
    have hp' : x.val * y.val = (ms0 x y).nat + 2251799813685248 * (ms1 x y).nat + 5070602400912917605986812821504 * (ms2 x y).nat + 11417981541647679048466287755595961091061972992 * (ms3 x y).nat + 25711008708143844408671393477458601640355247900524685364822016 * (ms4 x y).nat + P * _ := hp
    rw [hp', Nat.add_mul_mod_self_left, hj, Nat.add_mul_mod_self_left]
  rw [e, carr_val (joinW (ms0 x y) (ms1 x y) (ms2 x y) (ms3 x y) (ms4 x y)), Nat.add_mul_mod_self_left, mulE]

end Go.Proofs.YtoceepmehmacbaaDoor.Cv
