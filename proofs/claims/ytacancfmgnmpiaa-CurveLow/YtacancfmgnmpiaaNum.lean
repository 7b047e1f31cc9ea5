import Derived.Test.YtacancfmgnmpiaaMulD
import Derived.Test.YtacancfmgnmpiaaPrm
set_option linter.unusedVariables false
set_option linter.unusedSimpArgs false
namespace Go.Proofs.Ytacancfmgnmpiaa
open Go.RowKit Prm

/-- The number that limbs stand for. -/
def L5.val (x : L5) : Nat := x.a.toNat + 2251799813685248 * x.b.toNat + 5070602400912917605986812821504 * x.c.toNat + 11417981541647679048466287755595961091061972992 * x.d.toNat + 25711008708143844408671393477458601640355247900524685364822016 * x.e.toNat
structure L5.Ok (x : L5) : Prop where
  a : x.a.toNat < 2251799813947392
  b : x.b.toNat < 2251799813947392
  c : x.c.toNat < 2251799813947392
  d : x.d.toNat < 2251799813947392
  e : x.e.toNat < 2251799813947392

theorem lo51 (x : BitVec 64) : (x &&& mk51).toNat = x.toNat % 2251799813685248 := by
  rw [BitVec.toNat_and]
  exact Nat.and_two_pow_sub_one_eq_mod x.toNat 51
theorem hi51 (x : BitVec 64) : (x >>> 51).toNat = x.toNat / 2251799813685248 := by
  rw [BitVec.toNat_ushiftRight, Nat.shiftRight_eq_div_pow]

theorem carr_nat (x : L5) : (carr x).a.toNat = x.a.toNat % 2251799813685248 + 19 * (x.e.toNat / 2251799813685248) ∧ (carr x).b.toNat = x.b.toNat % 2251799813685248 + x.a.toNat / 2251799813685248 ∧ (carr x).c.toNat = x.c.toNat % 2251799813685248 + x.b.toNat / 2251799813685248 ∧
    (carr x).d.toNat = x.d.toNat % 2251799813685248 + x.c.toNat / 2251799813685248 ∧ (carr x).e.toNat = x.e.toNat % 2251799813685248 + x.d.toNat / 2251799813685248 := by
  have ha := wlt x.a
  have hb := wlt x.b
  have hc := wlt x.c
  have hd := wlt x.d
  have he := wlt x.e
  have e19 : (19#64 : BitVec 64).toNat = 19 := rfl
  refine ⟨?_, ?_, ?_, ?_, ?_⟩ <;> simp only [carr, BitVec.toNat_add, BitVec.toNat_mul, lo51, hi51, e19] <;> omega
theorem carr_ok (x : L5) : (carr x).Ok := by
  obtain ⟨h1, h2, h3, h4, h5⟩ := carr_nat x
  have ha := wlt x.a
  have hb := wlt x.b
  have hc := wlt x.c
  have hd := wlt x.d
  have he := wlt x.e
  exact ⟨by rw [h1]; omega, by rw [h2]; omega, by rw [h3]; omega, by rw [h4]; omega, by rw [h5]; omega⟩
theorem carr_val (x : L5) : x.val = (carr x).val + P * (x.e.toNat / 2251799813685248) := by
  obtain ⟨h1, h2, h3, h4, h5⟩ := carr_nat x
  unfold L5.val P
  rw [h1, h2, h3, h4, h5]
  generalize x.a.toNat = a
  generalize x.b.toNat = b
  generalize x.c.toNat = c
  generalize x.d.toNat = d
  generalize x.e.toNat = e
  omega

theorem add_ok (x y : L5) : (addE x y).Ok := carr_ok _
theorem sub_ok (x y : L5) : (subE x y).Ok := carr_ok _
theorem mul_ok (x y : L5) : (mulE x y).Ok := carr_ok _

theorem limb_add (x y : BitVec 64) (hx : x.toNat < 2251799813947392) (hy : y.toNat < 2251799813947392) : (x + y).toNat = x.toNat + y.toNat := by
  rw [BitVec.toNat_add]; omega
theorem kA_nat : kA.toNat = 4503599627370458 := rfl
theorem kB_nat : kB.toNat = 4503599627370494 := rfl
theorem limb_subA (x y : BitVec 64) (hx : x.toNat < 2251799813947392) (hy : y.toNat < 2251799813947392) : (x + kA - y).toNat + y.toNat = x.toNat + 4503599627370458 := by
  rw [BitVec.toNat_sub, BitVec.toNat_add, kA_nat]; omega
theorem limb_subB (x y : BitVec 64) (hx : x.toNat < 2251799813947392) (hy : y.toNat < 2251799813947392) : (x + kB - y).toNat + y.toNat = x.toNat + 4503599627370494 := by
  rw [BitVec.toNat_sub, BitVec.toNat_add, kB_nat]; omega

theorem add_val (x y : L5) (hx : x.Ok) (hy : y.Ok) : (addE x y).val % P = (x.val + y.val) % P := by
  have h := carr_val ⟨x.a + y.a, x.b + y.b, x.c + y.c, x.d + y.d, x.e + y.e⟩
  have e : (⟨x.a + y.a, x.b + y.b, x.c + y.c, x.d + y.d, x.e + y.e⟩ : L5).val = x.val + y.val := by
    simp only [L5.val, limb_add _ _ hx.a hy.a, limb_add _ _ hx.b hy.b, limb_add _ _ hx.c hy.c, limb_add _ _ hx.d hy.d, limb_add _ _ hx.e hy.e]
    omega
  rw [e] at h
  rw [h, Nat.add_mul_mod_self_left, addE]

theorem sub_val (x y : L5) (hx : x.Ok) (hy : y.Ok) : ((subE x y).val + y.val) % P = x.val % P := by
  have h := carr_val ⟨x.a + kA - y.a, x.b + kB - y.b, x.c + kB - y.c, x.d + kB - y.d, x.e + kB - y.e⟩
  have e : (⟨x.a + kA - y.a, x.b + kB - y.b, x.c + kB - y.c, x.d + kB - y.d, x.e + kB - y.e⟩ : L5).val + y.val = x.val + P * 2 := by
    have h1 := limb_subA _ _ hx.a hy.a
    have h2 := limb_subB _ _ hx.b hy.b
    have h3 := limb_subB _ _ hx.c hy.c
    have h4 := limb_subB _ _ hx.d hy.d
    have h5 := limb_subB _ _ hx.e hy.e
    simp only [L5.val, P]
    generalize (x.a + kA - y.a).toNat = t1 at *
    generalize (x.b + kB - y.b).toNat = t2 at *
    generalize (x.c + kB - y.c).toNat = t3 at *
    generalize (x.d + kB - y.d).toNat = t4 at *
    generalize (x.e + kB - y.e).toNat = t5 at *
    clear h
    omega
  rw [show carr ⟨x.a + kA - y.a, x.b + kB - y.b, x.c + kB - y.c, x.d + kB - y.d, x.e + kB - y.e⟩ = subE x y from rfl] at h
  obtain ⟨q, hq⟩ : ∃ q, q = (x.e + kB - y.e).toNat / 2251799813685248 := ⟨_, rfl⟩
  simp only [← hq] at h
  rw [h] at e
  have e2 : (subE x y).val + y.val + P * q = x.val + P * 2 := by rw [← e]; exact Nat.add_right_comm _ _ _
  rw [← Nat.add_mul_mod_self_left ((subE x y).val + y.val) P q, e2, Nat.add_mul_mod_self_left]

/-! Products. -/
def W2.nat (s : W2) : Nat := s.h.toNat * 18446744073709551616 + s.l.toNat
theorem plW_nat (s : W2) (x y : BitVec 64) (h : s.nat + x.toNat * y.toNat < 340282366920938463463374607431768211456) : (plW s x y).nat = s.nat + x.toNat * y.toNat := by
  have hh := wlt s.h
  have hl := wlt s.l
  unfold W2.nat plW plh pll at *
  simp only [BitVec.toNat_add, BitVec.toNat_mul, mhi_nat, cry_nat]
  generalize x.toNat * y.toNat = p at *
  generalize s.h.toNat = u at *
  generalize s.l.toNat = v at *
  omega
theorem w20_nat : w20.nat = 0 := rfl
theorem up_nat (s : W2) (h : s.nat < 41538374868278621028243970633760768) : s.up.toNat = s.nat / 2251799813685248 := by
  have hl := wlt s.l
  have hh : s.h.toNat < 2251799813685248 := by unfold W2.nat at h; omega
  have e1 : (s.h <<< 13).toNat = s.h.toNat * 8192 := by
    rw [BitVec.toNat_shiftLeft, Nat.shiftLeft_eq]; omega
  have e2 : (s.l >>> 51).toNat = s.l.toNat / 2251799813685248 := hi51 _
  unfold W2.up abv
  rw [BitVec.toNat_or, e1, e2]
  have : s.h.toNat * 8192 ||| s.l.toNat / 2251799813685248 = s.h.toNat * 8192 + s.l.toNat / 2251799813685248 := by
    have := Nat.two_pow_add_eq_or_of_lt (i := 13) (b := s.l.toNat / 2251799813685248) (by omega) s.h.toNat
    rw [Nat.mul_comm, ← this]
  rw [this]
  unfold W2.nat
  omega
theorem low_nat (s : W2) : (s.l &&& mk51).toNat = s.nat % 2251799813685248 := by
  rw [lo51]
  unfold W2.nat
  omega

end Go.Proofs.Ytacancfmgnmpiaa
