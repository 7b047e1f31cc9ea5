import Derived.Test.YtoceepmehmacbaaDoorKPrmG
import Derived.Test.YtoceepmehmacbaaDoorKEdw
import Derived.Test.YtoceepmehmacbaaDoorKCntG
set_option linter.unusedVariables false
set_option linter.unusedSimpArgs false
/-! The orders of the base point and of the twist are prime (but for 8 and 4). -/
namespace Prm
theorem pr11 : Pr 11 := trial_ok 11 2 (by decide) (by decide) (by decide +kernel)
theorem pr23 : Pr 23 := trial_ok 23 3 (by decide) (by decide) (by decide +kernel)
theorem pr41 : Pr 41 := trial_ok 41 5 (by decide) (by decide) (by decide +kernel)
theorem pr43 : Pr 43 := trial_ok 43 5 (by decide) (by decide) (by decide +kernel)
theorem pr73 : Pr 73 := trial_ok 73 7 (by decide) (by decide) (by decide +kernel)
theorem pr269 : Pr 269 := trial_ok 269 15 (by decide) (by decide) (by decide +kernel)
theorem pr307 : Pr 307 := trial_ok 307 16 (by decide) (by decide) (by decide +kernel)
theorem pr1361 : Pr 1361 := trial_ok 1361 35 (by decide) (by decide) (by decide +kernel)
theorem pr2851 : Pr 2851 := trial_ok 2851 52 (by decide) (by decide) (by decide +kernel)
theorem pr5879 : Pr 5879 := trial_ok 5879 75 (by decide) (by decide) (by decide +kernel)
theorem pr30703 : Pr 30703 := trial_ok 30703 174 (by decide) (by decide) (by decide +kernel)
theorem pr82163 : Pr 82163 := trial_ok 82163 285 (by decide) (by decide) (by decide +kernel)
theorem pr132667 : Pr 132667 := trial_ok 132667 363 (by decide) (by decide) (by decide +kernel)
theorem pr137849 : Pr 137849 := trial_ok 137849 370 (by decide) (by decide) (by decide +kernel)
theorem pr531581 : Pr 531581 := trial_ok 531581 728 (by decide) (by decide) (by decide +kernel)
theorem pr1224481 : Pr 1224481 := trial_ok 1224481 1105 (by decide) (by decide) (by decide +kernel)
theorem pr14741173 : Pr 14741173 := trial_ok 14741173 3838 (by decide) (by decide) (by decide +kernel)
theorem pr58964693 : Pr 58964693 :=
  (lucas_by (g := 2) (k := 26) (by decide) [(2, 2), (14741173, 1)] (fun x hx => by
    simp only [List.mem_cons, List.not_mem_nil, or_false] at hx
    rcases hx with rfl | rfl
    · exact pr2
    · exact pr14741173
    ) (by decide) (by decide +kernel) (by decide +kernel) (by decide +kernel)).1
theorem pr292386187 : Pr 292386187 :=
  (lucas_by (g := 2) (k := 29) (by decide) [(2, 1), (3, 4), (307, 1), (5879, 1)] (fun x hx => by
    simp only [List.mem_cons, List.not_mem_nil, or_false] at hx
    rcases hx with rfl | rfl | rfl | rfl
    · exact pr2
    · exact pr3
    · exact pr307
    · exact pr5879
    ) (by decide) (by decide +kernel) (by decide +kernel) (by decide +kernel)).1
theorem pr213441916511 : Pr 213441916511 :=
  (lucas_by (g := 13) (k := 38) (by decide) [(2, 1), (5, 1), (73, 1), (292386187, 1)] (fun x hx => by
    simp only [List.mem_cons, List.not_mem_nil, or_false] at hx
    rcases hx with rfl | rfl | rfl | rfl
    · exact pr2
    · exact pr5
    · exact pr73
    · exact pr292386187
    ) (by decide) (by decide +kernel) (by decide +kernel) (by decide +kernel)).1
theorem pr1257559732178653 : Pr 1257559732178653 :=
  (lucas_by (g := 2) (k := 51) (by decide) [(2, 2), (3, 1), (7, 1), (23, 1), (531581, 1), (1224481, 1)] (fun x hx => by
    simp only [List.mem_cons, List.not_mem_nil, or_false] at hx
    rcases hx with rfl | rfl | rfl | rfl | rfl | rfl
    · exact pr2
    · exact pr3
    · exact pr7
    · exact pr23
    · exact pr531581
    · exact pr1224481
    ) (by decide) (by decide +kernel) (by decide +kernel) (by decide +kernel)).1
theorem pr4434155615661930479 : Pr 4434155615661930479 :=
  (lucas_by (g := 17) (k := 62) (by decide) [(2, 1), (41, 1), (43, 1), (1257559732178653, 1)] (fun x hx => by
    simp only [List.mem_cons, List.not_mem_nil, or_false] at hx
    rcases hx with rfl | rfl | rfl | rfl
    · exact pr2
    · exact pr41
    · exact pr43
    · exact pr1257559732178653
    ) (by decide) (by decide +kernel) (by decide +kernel) (by decide +kernel)).1
theorem pr3044861653679985063343 : Pr 3044861653679985063343 :=
  (lucas_by (g := 5) (k := 72) (by decide) [(2, 1), (3, 1), (11, 1), (30703, 1), (82163, 1), (132667, 1), (137849, 1)] (fun x hx => by
    simp only [List.mem_cons, List.not_mem_nil, or_false] at hx
    rcases hx with rfl | rfl | rfl | rfl | rfl | rfl | rfl
    · exact pr2
    · exact pr3
    · exact pr11
    · exact pr30703
    · exact pr82163
    · exact pr132667
    · exact pr137849
    ) (by decide) (by decide +kernel) (by decide +kernel) (by decide +kernel)).1
theorem pr172054593956031949258510691 : Pr 172054593956031949258510691 :=
  (lucas_by (g := 2) (k := 88) (by decide) [(2, 1), (5, 1), (1361, 1), (2851, 1), (4434155615661930479, 1)] (fun x hx => by
    simp only [List.mem_cons, List.not_mem_nil, or_false] at hx
    rcases hx with rfl | rfl | rfl | rfl | rfl
    · exact pr2
    · exact pr5
    · exact pr1361
    · exact pr2851
    · exact pr4434155615661930479
    ) (by decide) (by decide +kernel) (by decide +kernel) (by decide +kernel)).1
theorem pr198211423230930754013084525763697 : Pr 198211423230930754013084525763697 :=
  (lucas_by (g := 5) (k := 108) (by decide) [(2, 4), (3, 1), (23, 1), (58964693, 1), (3044861653679985063343, 1)] (fun x hx => by
    simp only [List.mem_cons, List.not_mem_nil, or_false] at hx
    rcases hx with rfl | rfl | rfl | rfl | rfl
    · exact pr2
    · exact pr3
    · exact pr23
    · exact pr58964693
    · exact pr3044861653679985063343
    ) (by decide) (by decide +kernel) (by decide +kernel) (by decide +kernel)).1
theorem pr19757330305831588566944191468367130476339 : Pr 19757330305831588566944191468367130476339 :=
  (lucas_by (g := 2) (k := 134) (by decide) [(2, 1), (269, 1), (213441916511, 1), (172054593956031949258510691, 1)] (fun x hx => by
    simp only [List.mem_cons, List.not_mem_nil, or_false] at hx
    rcases hx with rfl | rfl | rfl | rfl
    · exact pr2
    · exact pr269
    · exact pr213441916511
    · exact pr172054593956031949258510691
    ) (by decide) (by decide +kernel) (by decide +kernel) (by decide +kernel)).1
theorem pr276602624281642239937218680557139826668747 : Pr 276602624281642239937218680557139826668747 :=
  (lucas_by (g := 2) (k := 138) (by decide) [(2, 1), (7, 1), (19757330305831588566944191468367130476339, 1)] (fun x hx => by
    simp only [List.mem_cons, List.not_mem_nil, or_false] at hx
    rcases hx with rfl | rfl | rfl
    · exact pr2
    · exact pr7
    · exact pr19757330305831588566944191468367130476339
    ) (by decide) (by decide +kernel) (by decide +kernel) (by decide +kernel)).1
theorem pr7237005577332262213973186563042994240857116359379907606001950938285454250989 : Pr 7237005577332262213973186563042994240857116359379907606001950938285454250989 :=
  (lucas_by (g := 2) (k := 253) (by decide) [(2, 2), (3, 1), (11, 1), (198211423230930754013084525763697, 1), (276602624281642239937218680557139826668747, 1)] (fun x hx => by
    simp only [List.mem_cons, List.not_mem_nil, or_false] at hx
    rcases hx with rfl | rfl | rfl | rfl | rfl
    · exact pr2
    · exact pr3
    · exact pr11
    · exact pr198211423230930754013084525763697
    · exact pr276602624281642239937218680557139826668747
    ) (by decide) (by decide +kernel) (by decide +kernel) (by decide +kernel)).1
/-- The order of the base point. -/
def Lo : Nat := 7237005577332262213973186563042994240857116359379907606001950938285454250989
theorem prLo : Pr Lo := pr7237005577332262213973186563042994240857116359379907606001950938285454250989
end Prm

set_option linter.unusedVariables false
set_option linter.unusedSimpArgs false
/-! The numbers modulo the prime are such a field. -/
namespace Edw
open Prm

instance : NeZero P := ⟨by decide +kernel⟩
/-- The numbers modulo the prime. -/
abbrev Fp : Type := Fin P
def ivP (a : Fp) : Fp := ⟨a.val ^ (P - 2) % P, Nat.mod_lt _ (by decide +kernel)⟩
theorem two_le_P : 2 < P := by decide +kernel
theorem fp_one : ((1 : Fp)).val = 1 := by
  show 1 % P = 1
  exact Nat.mod_eq_of_lt (by have := two_le_P; omega)
theorem fp_zero : ((0 : Fp)).val = 0 := by
  show 0 % P = 0
  exact Nat.zero_mod _
theorem fp_mul_iv (a : Fp) (h : a ≠ 0) : a * ivP a = 1 := by
  have hv : a.val % P ≠ 0 := fun e => h (Fin.ext (by rw [fp_zero, ← e, Nat.mod_eq_of_lt a.isLt]))
  apply Fin.ext
  rw [fp_one, Fin.val_mul]
  show a.val * (a.val ^ (P - 2) % P) % P = 1
  rw [Nat.mul_mod_mod, ← Nat.pow_succ', show (P - 2).succ = P - 1 by decide +kernel]
  exact fermat a.val hv
theorem ivP_val (a : Fp) : (ivP a).val = a.val ^ (P - 2) % P := rfl
theorem zero_pw {z e : Nat} (hz : z = 0) (he : 0 < e) : z ^ e % P = 0 := by subst hz; rw [Nat.zero_pow he, Nat.zero_mod]
theorem fp_iv0 : ivP 0 = 0 := by
  apply Fin.ext
  rw [fp_zero, ivP_val]
  exact zero_pw fp_zero (by have := two_le_P; omega)
instance fdP : Fd Fp := { (inferInstance : Lean.Grind.CommRing Fp) with
  iv := ivP
  iv_zero := fp_iv0
  mul_iv := fun {a} h => fp_mul_iv a h
  one_ne := fun h => by have := congrArg Fin.val h; rw [fp_one, fp_zero] at this; omega
  two_ne := fun h => by
    have h1 : ((1 : Fp) + 1).val = (0 : Fp).val := congrArg Fin.val h
    rw [Fin.val_add, fp_one, fp_zero, Nat.mod_eq_of_lt two_le_P] at h1
    omega }
/-- The residue of a number. -/
def re (n : Nat) : Fp := ⟨n % P, Nat.mod_lt _ (by decide +kernel)⟩
theorem re_eq {a b : Nat} : re a = re b ↔ a % P = b % P := ⟨fun h => congrArg Fin.val h, fun h => Fin.ext h⟩
theorem re_val (a : Fp) : re a.val = a := Fin.ext (Nat.mod_eq_of_lt a.isLt)
theorem re_mul (a b : Nat) : re (a * b) = re a * re b := by
  apply Fin.ext
  rw [Fin.val_mul]
  show a * b % P = (a % P) * (b % P) % P
  rw [← Nat.mul_mod]
theorem re_add (a b : Nat) : re (a + b) = re a + re b := by
  apply Fin.ext
  rw [Fin.val_add]
  show (a + b) % P = (a % P + b % P) % P
  rw [← Nat.add_mod]
theorem re_0 : re 0 = 0 := Fin.ext (by rw [fp_zero]; exact Nat.zero_mod _)
theorem re_1 : re 1 = 1 := Fin.ext (by rw [fp_one]; exact Nat.mod_eq_of_lt (by have := two_le_P; omega))
theorem re_iv (a : Nat) : re (a ^ (P - 2)) = Fd.iv (re a) := by
  apply Fin.ext
  show a ^ (P - 2) % P = (a % P) ^ (P - 2) % P
  rw [← Nat.pow_mod]
/-- Every residue is a square, or minus .. : Euler. -/
theorem fp_sq_of (a : Fp) (h : a.val ^ ((P - 1) / 2) % P = 1) : ∃ s : Fp, s * s = a := by
  have hP := two_le_P
  have h2 : a.val ^ ((P - 1) / 4) * a.val ^ ((P - 1) / 4) % P = 1 := by
    rw [← Nat.pow_add, show (P - 1) / 4 + (P - 1) / 4 = (P - 1) / 2 by decide +kernel]
    exact h
  have e : ∀ s : Nat, re (s ^ ((P + 3) / 8)) * re (s ^ ((P + 3) / 8)) = re s * re (s ^ ((P - 1) / 4)) := fun s => by
    rw [← re_mul, ← re_mul, ← Nat.pow_add, show (P + 3) / 8 + (P + 3) / 8 = 1 + (P - 1) / 4 by decide +kernel, Nat.pow_add, Nat.pow_one]
  rcases sq_one _ h2 with h1 | h1
  · refine ⟨re (a.val ^ ((P + 3) / 8)), ?_⟩
    rw [e, re_val]
    have : re (a.val ^ ((P - 1) / 4)) = 1 := by rw [← re_1]; exact re_eq.2 (by rw [h1]; exact (Nat.mod_eq_of_lt (by omega)).symm)
    rw [this]; grind
  · have hm : re (2 ^ ((P - 1) / 4)) * re (2 ^ ((P - 1) / 4)) = re (P - 1) := by
      rw [← re_mul, ← Nat.pow_add, show (P - 1) / 4 + (P - 1) / 4 = (P - 1) / 2 by decide +kernel]
      refine re_eq.2 ?_
      rw [← pmod_eq P 2 255 ((P - 1) / 2) (by decide +kernel)]
      decide +kernel
    refine ⟨re (a.val ^ ((P + 3) / 8)) * re (2 ^ ((P - 1) / 4)), ?_⟩
    have h3 := e a.val
    have h4 : re (a.val ^ ((P - 1) / 4)) = re (P - 1) := re_eq.2 (by rw [h1]; exact (Nat.mod_eq_of_lt (by omega)).symm)
    have h5 : re (P - 1) * re (P - 1) = 1 := by
      rw [← re_mul, ← re_1]
      refine re_eq.2 ?_
      decide +kernel
    rw [h4, re_val] at h3
    generalize re (a.val ^ ((P + 3) / 8)) = x at *
    generalize re (2 ^ ((P - 1) / 4)) = y at *
    generalize re (P - 1) = z at *
    grind
theorem fp_half (a : Fp) (h : a ≠ 0) : a.val ^ ((P - 1) / 2) % P = 1 ∨ a.val ^ ((P - 1) / 2) % P = P - 1 := by
  have hv : a.val % P ≠ 0 := fun e => h (Fin.ext (by rw [fp_zero, ← e, Nat.mod_eq_of_lt a.isLt]))
  have h2 : a.val ^ ((P - 1) / 2) * a.val ^ ((P - 1) / 2) % P = 1 := by
    rw [← Nat.pow_add, show (P - 1) / 2 + (P - 1) / 2 = P - 1 by decide +kernel]
    exact fermat _ hv
  exact sq_one _ h2
theorem fp_sq3 (a b : Fp) : (∃ s, s * s = a) ∨ (∃ s, s * s = b) ∨ ∃ s : Fp, s * s = a * b := by
  by_cases ha : a = 0
  · exact .inl ⟨0, by rw [ha]; grind⟩
  by_cases hb : b = 0
  · exact .inr (.inl ⟨0, by rw [hb]; grind⟩)
  rcases fp_half a ha with h1 | h1
  · exact .inl (fp_sq_of a h1)
  rcases fp_half b hb with h2 | h2
  · exact .inr (.inl (fp_sq_of b h2))
  refine .inr (.inr (fp_sq_of _ ?_))
  rw [Fin.val_mul, ← Nat.pow_mod, Nat.mul_pow, Nat.mul_mod, h1, h2]
  decide +kernel
/-- What is no square. -/
theorem fp_ns (n : Nat) (h : (pmod P (n % P) 255 ((P - 1) / 2) == P - 1) = true) : Ns (re n) := fun s hs => by
  have h' : (n % P) ^ ((P - 1) / 2) % P = P - 1 := by
    rw [← pmod_eq P (n % P) 255 ((P - 1) / 2) (by decide +kernel)]
    simpa using h
  have hP := two_le_P
  by_cases h0 : s = 0
  · have e : re n = 0 := by rw [← hs, h0]; grind
    have e2 : n % P = 0 := by have := congrArg Fin.val e; rw [fp_zero] at this; exact this
    rw [e2, Nat.zero_pow (by decide +kernel), Nat.zero_mod] at h'
    omega
  · have hv : s.val % P ≠ 0 := fun e => h0 (Fin.ext (by rw [fp_zero, ← e, Nat.mod_eq_of_lt s.isLt]))
    have e : n % P = s.val * s.val % P := by have := congrArg Fin.val hs; rw [Fin.val_mul] at this; exact this.symm
    rw [e, ← Nat.pow_mod, Nat.mul_pow, ← Nat.pow_add, show (P - 1) / 2 + (P - 1) / 2 = P - 1 by decide +kernel, fermat _ hv] at h'
    omega
/-- A quarter of the curve's coefficient but 2. -/
def cP : Fp := re 121665
theorem ns_cP : Ns (cP * (cP + 1)) := by
  have e : cP * (cP + 1) = re (121665 * 121666) := by
    rw [re_mul, show (121666 : Nat) = 121665 + 1 from rfl, re_add, re_1]
    rfl
  rw [e]
  exact fp_ns _ (by decide +kernel)
theorem meetsP (a b : Nat) (ha : a < 2 ^ 255) (hb : b < 2 ^ 255) (u : Fp) : tmK cP a (tmK cP b u) = tmK cP b (tmK cP a u) := meets cP ns_cP fp_sq3 a b ha hb u
end Edw

set_option linter.unusedVariables false
set_option linter.unusedSimpArgs false
namespace Go.Proofs.YtoceepmehmacbaaDoor.Cv
open Go.RowKit Prm Edw

/-- An element as a residue. -/
def el (x : L5) : Fp := re x.val
theorem el_mul {x y : L5} (hx : x.Ok) (hy : y.Ok) : el (mulE x y) = el x * el y := by
  unfold el
  rw [← re_mul]
  exact re_eq.2 (mul_val x y hx hy)
theorem el_add {x y : L5} (hx : x.Ok) (hy : y.Ok) : el (addE x y) = el x + el y := by
  unfold el
  rw [← re_add]
  exact re_eq.2 (add_val x y hx hy)
theorem el_sub {x y : L5} (hx : x.Ok) (hy : y.Ok) : el (subE x y) = el x - el y := by
  have h : el (subE x y) + el y = el x := by
    unfold el
    rw [← re_add]
    exact re_eq.2 (sub_val x y hx hy)
  rw [← h]
  grind
theorem el_inv {x : L5} (hx : x.Ok) : el (invE x) = Fd.iv (el x) := by
  unfold el
  rw [← re_iv]
  exact re_eq.2 (inv_is hx).2
theorem el_small (n : BitVec 32) : el (small n) = re n.toNat := by unfold el; rw [small_val]
theorem el_zero : el zeroE = 0 := by unfold el; rw [zero_val, re_0]
theorem inv_ok {x : L5} (hx : x.Ok) : (invE x).Ok := (inv_is hx).1

structure R2.Ok (r : R2) : Prop where
  x : r.x.Ok
  z : r.z.Ok
theorem dbl_ok (r : R2) : (dblE r).Ok := ⟨mul_ok _ _, mul_ok _ _⟩
theorem sum_ok (r s : R2) (u : L5) : (sumE r s u).Ok := ⟨mul_ok _ _, mul_ok _ _⟩
theorem dbl_x {r : R2} (h : r.Ok) : el (dblE r).x = dblX (el r.x) (el r.z) := by
  unfold dblE dblX stA stB
  rw [el_mul (mul_ok _ _) (mul_ok _ _), el_mul (add_ok _ _) (add_ok _ _), el_mul (sub_ok _ _) (sub_ok _ _), el_add h.x h.z, el_sub h.x h.z]
theorem dbl_z {r : R2} (h : r.Ok) : el (dblE r).z = dblZ cP (el r.x) (el r.z) := by
  unfold dblE dblZ stF stA stB
  rw [el_mul (sub_ok _ _) (add_ok _ _), el_add (mul_ok _ _) (mul_ok _ _), el_mul (small_ok _) (sub_ok _ _), el_sub (mul_ok _ _) (mul_ok _ _), el_mul (add_ok _ _) (add_ok _ _), el_mul (sub_ok _ _) (sub_ok _ _), el_add h.x h.z, el_sub h.x h.z, el_small]
  rfl
theorem sum_x {r s : R2} (u : L5) (h : r.Ok) (k : s.Ok) : el (sumE r s u).x = sumX (el r.x) (el r.z) (el s.x) (el s.z) := by
  unfold sumE sumX stDA stCB stA stB
  rw [el_mul (add_ok _ _) (add_ok _ _), el_add (mul_ok _ _) (mul_ok _ _), el_mul (sub_ok _ _) (add_ok _ _), el_mul (add_ok _ _) (sub_ok _ _), el_add h.x h.z, el_sub h.x h.z, el_add k.x k.z, el_sub k.x k.z]
theorem sum_z {r s : R2} {u : L5} (h : r.Ok) (k : s.Ok) (hu : u.Ok) : el (sumE r s u).z = sumZ (el u) (el r.x) (el r.z) (el s.x) (el s.z) := by
  unfold sumE sumZ stDA stCB stA stB
  rw [el_mul (mul_ok _ _) hu, el_mul (sub_ok _ _) (sub_ok _ _), el_sub (mul_ok _ _) (mul_ok _ _), el_mul (sub_ok _ _) (add_ok _ _), el_mul (add_ok _ _) (sub_ok _ _), el_add h.x h.z, el_sub h.x h.z, el_add k.x k.z, el_sub k.x k.z]

theorem lad_link (k : List UInt8) {u : L5} (hu : u.Ok) : ∀ j, j ≤ 255 → ((ladL k u j).1.Ok ∧ (ladL k u j).2.Ok) ∧ (el (ladL k u j).1.x = (ladK cP (el u) (kn k) j).x2 ∧ el (ladL k u j).1.z = (ladK cP (el u) (kn k) j).z2) ∧ (el (ladL k u j).2.x = (ladK cP (el u) (kn k) j).x3 ∧ el (ladL k u j).2.z = (ladK cP (el u) (kn k) j).z3)
  | 0, _ => ⟨⟨⟨small_ok _, zero_ok⟩, ⟨hu, small_ok _⟩⟩, ⟨by rw [ladL, ladK, el_small]; exact re_1, by rw [ladL, ladK]; exact el_zero⟩, ⟨rfl, by rw [ladL, ladK, el_small]; exact re_1⟩⟩
  | j + 1, hj => by
    obtain ⟨⟨o1, o2⟩, ⟨a1, a2⟩, ⟨b1, b2⟩⟩ := lad_link k hu j (by omega)
    have hb := kbit_is k (254 - j) (by omega)
    rw [ladL, ladK, hb]
    by_cases hq : kn k / 2 ^ (254 - j) % 2 = 1
    · rw [if_pos hq, if_pos (by simpa using hq)]
      refine ⟨⟨sum_ok _ _ _, dbl_ok _⟩, ⟨?_, ?_⟩, ⟨?_, ?_⟩⟩
      · rw [sum_x u o2 o1, a1, a2, b1, b2]
      · rw [sum_z o2 o1 hu, a1, a2, b1, b2]
      · rw [dbl_x o2, b1, b2]
      · rw [dbl_z o2, b1, b2]
    · rw [if_neg hq, if_neg (by simpa using hq)]
      refine ⟨⟨dbl_ok _, sum_ok _ _ _⟩, ⟨?_, ?_⟩, ⟨?_, ?_⟩⟩
      · rw [dbl_x o1, a1, a2]
      · rw [dbl_z o1, a1, a2]
      · rw [sum_x u o1 o2, a1, a2, b1, b2]
      · rw [sum_z o1 o2 hu, a1, a2, b1, b2]

/-- The u of 32 bytes. -/
def un (u : List UInt8) : Fp := re (kn u % 57896044618658097711785492504343953926634992332820282019728792003956564819968)
theorem el_read (u : List UInt8) : el (readE u) = un u := by unfold el un; rw [read_val]
theorem times_num (k u : List UInt8) : timesL k u = nb (tmK cP (kn (clampL k)) (un u)).val := by
  obtain ⟨⟨o1, o2⟩, ⟨a1, a2⟩, _⟩ := lad_link (clampL k) (read_ok u) 255 (Nat.le_refl _)
  unfold timesL tmK
  rw [tell_is _ (mul_ok _ _)]
  congr 1
  have e := el_mul o1.x (inv_ok o1.z)
  rw [el_inv o1.z, a1, a2, el_read] at e
  exact congrArg Fin.val e
theorem un_nb (v : Fp) : un (nb v.val) = v := by
  have hv := v.isLt
  have hP : P < 57896044618658097711785492504343953926634992332820282019728792003956564819968 := by decide +kernel
  unfold un
  rw [kn_nb _ (by omega), Nat.mod_eq_of_lt (by omega)]
  exact re_val v
theorem un_times (k u : List UInt8) : un (timesL k u) = tmK cP (kn (clampL k)) (un u) := by rw [times_num, un_nb]

/-- The clamped number. -/
theorem kn_ends (k : List UInt8) : kn k = (k.getD 0 0).toNat + 256 * psum k 1 30 + 452312848583266388373324160190187140051835877600158453279131187530910662656 * (k.getD 31 0).toNat := by
  unfold kn
  have h := psum_add k 0 1 31
  rw [show 1 + 31 = 32 from rfl, show 0 + 1 = 1 from rfl] at h
  rw [h, show psum k 1 31 = psum k 1 30 + (k.getD (1 + 30) 0).toNat * 256 ^ 30 from rfl]
  simp only [psum, Nat.zero_add, Nat.pow_zero, Nat.mul_one, Nat.pow_one, Nat.reduceAdd, Nat.reducePow]
  omega
theorem psum_eq {k l : List UInt8} (s : Nat) : ∀ r, (∀ i, i < r → k.getD (s + i) 0 = l.getD (s + i) 0) → psum k s r = psum l s r
  | 0, _ => rfl
  | r + 1, h => by rw [psum, psum, psum_eq s r (fun i hi => h i (by omega)), h r (by omega)]
theorem clamp_at (k : List UInt8) (hk : k.length = 32) (i : Nat) : (clampL k).getD i 0 = if i = 31 then k.getD 31 0 &&& 127 ||| 64 else if i = 0 then k.getD 0 0 &&& 248 else k.getD i 0 := by
  unfold clampL
  rw [List.getD_eq_getElem?_getD]
  by_cases h31 : i = 31
  · subst h31
    rw [if_pos rfl, List.getElem?_set_self (by rw [List.length_set]; omega)]
    rfl
  · rw [if_neg h31, List.getElem?_set_ne (by omega)]
    by_cases h0 : i = 0
    · subst h0
      rw [if_pos rfl, List.getElem?_set_self (by omega)]
      rfl
    · rw [if_neg h0, List.getElem?_set_ne (by omega), ← List.getD_eq_getElem?_getD]
theorem byte_low (a : UInt8) : (a &&& 248).toNat = a.toNat / 8 * 8 := by
  have h : ∀ a : Fin 256, (a.val &&& 248) = a.val / 8 * 8 := by decide +kernel
  rw [UInt8.toNat_and]
  exact h ⟨a.toNat, a.toNat_lt⟩
theorem byte_top (a : UInt8) : (a &&& 127 ||| 64).toNat = a.toNat % 64 + 64 := by
  have h : ∀ a : Fin 256, ((a.val &&& 127) ||| 64) = a.val % 64 + 64 := by decide +kernel
  rw [UInt8.toNat_or, UInt8.toNat_and]
  exact h ⟨a.toNat, a.toNat_lt⟩
set_option maxRecDepth 10000 in
theorem kn_clamp (k : List UInt8) (hk : k.length = 32) : kn (clampL k) = (k.getD 0 0).toNat / 8 * 8 + 256 * psum k 1 30 + 452312848583266388373324160190187140051835877600158453279131187530910662656 * ((k.getD 31 0).toNat % 64 + 64) := by
  rw [kn_ends, clamp_at k hk 0, clamp_at k hk 31, psum_eq (l := k) 1 30 (fun i hi => by rw [clamp_at k hk, if_neg (by omega), if_neg (by omega)])]
  rw [if_neg (by decide), if_pos rfl, if_pos rfl, byte_low, byte_top]
theorem cl_one (q p c s : Nat) : q * 8 + 256 * p + (8 * c) * s = 8 * (q + 32 * p + c * s) := by
  rw [Nat.mul_add, Nat.mul_add, ← Nat.mul_assoc 8 32 p, Nat.mul_assoc 8 c s, Nat.mul_comm q 8]
theorem cl_nums (q p r K : Nat) (h : K = q * 8 + 256 * p + 452312848583266388373324160190187140051835877600158453279131187530910662656 * (r + 64)) (hq : q < 32) (hr : r < 64) (hp : p < 1766847064778384329583297500742918515827483896875618958121606201292619776) :
    ∃ m, K = 8 * m ∧ 3618502788666131106986593281521497120414687020801267626233049500247285301248 ≤ m ∧ m < 7237005577332262213973186563042994240829374041602535252466099000494570602496 := by
  refine ⟨q + 32 * p + 56539106072908298546665520023773392506479484700019806659891398441363832832 * (r + 64), ?_, ?_, ?_⟩
  · exact h.trans (cl_one q p 56539106072908298546665520023773392506479484700019806659891398441363832832 (r + 64))
  · have h1 : 56539106072908298546665520023773392506479484700019806659891398441363832832 * 64 ≤ 56539106072908298546665520023773392506479484700019806659891398441363832832 * (r + 64) := Nat.mul_le_mul_left _ (Nat.le_add_left 64 r)
    have h2 : 3618502788666131106986593281521497120414687020801267626233049500247285301248 ≤ 56539106072908298546665520023773392506479484700019806659891398441363832832 * 64 := Nat.le_of_ble_eq_true rfl
    exact Nat.le_trans h2 (Nat.le_trans h1 (Nat.le_add_left _ _))
  · omega
theorem clamp_num (k : List UInt8) (hk : k.length = 32) : ∃ m, kn (clampL k) = 8 * m ∧ 3618502788666131106986593281521497120414687020801267626233049500247285301248 ≤ m ∧ m < 7237005577332262213973186563042994240829374041602535252466099000494570602496 := by
  have h0 := (k.getD 0 0).toNat_lt
  exact cl_nums _ _ _ _ (kn_clamp k hk) (by omega) (Nat.mod_lt _ (by decide)) (psum_lt k 1 30)
theorem clamp_lt (k : List UInt8) (hk : k.length = 32) : kn (clampL k) < 2 ^ 255 := by
  obtain ⟨m, h1, h2, h3⟩ := clamp_num k hk
  rw [h1]
  simp only [Nat.reducePow]
  omega
set_option maxRecDepth 10000 in
theorem clamp_twice (k : List UInt8) (hk : k.length = 32) : clampL (clampL k) = clampL k := by
  have hl : (clampL k).length = 32 := by rw [clamp_length]; exact hk
  apply kn_inj (by rw [clamp_length, hl]) hl
  have h31 := (k.getD 31 0).toNat_lt
  rw [kn_clamp _ hl, kn_clamp k hk, clamp_at k hk 0, clamp_at k hk 31, psum_eq (l := k) 1 30 (fun i hi => by rw [clamp_at k hk, if_neg (by omega), if_neg (by omega)])]
  rw [if_neg (by decide), if_pos rfl, if_pos rfl, byte_low, byte_top]
  omega
end Go.Proofs.YtoceepmehmacbaaDoor.Cv
