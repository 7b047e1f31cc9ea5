import Derived.Test.YtoceepmehmacbaaDoorKTms
import Derived.Test.YtoceepmehmacbaaDoorKNum2G
import Derived.Test.YtoceepmehmacbaaDoorGiG
import Derived.Test.YtoceepmehmacbaaDoorKExchG
set_option linter.unusedVariables false
set_option linter.unusedSimpArgs false
namespace Go.Proofs.YtoceepmehmacbaaDoor.Cv
open Go.RowKit

structure Cnt (n : Nat) (w wx : World) (L : List UInt8) : Prop where
  re : Blk wx n (z32.map byt) 23
  ke : Blk wx (n + 1) (L.map byt) 23
  be : Below n w wx
theorem wrap64_small {z : Int} (h1 : -9223372036854775808 ≤ z) (h2 : z < 9223372036854775808) : IntKind.i64.wrap z = z := by
  rw [IntKind.wrap_i64]; omega
end Go.Proofs.YtoceepmehmacbaaDoor.Cv
set_option linter.unusedVariables false
set_option linter.unusedSimpArgs false
/-! Edwards curves over a field whose d is no square: the group law, and the ladder over the u of a point. -/
namespace Edw

/-- A field in which 2 is not 0. -/
class Fd (K : Type) extends Lean.Grind.CommRing K where
  iv : K → K
  iv_zero : iv 0 = 0
  mul_iv : ∀ {a : K}, a ≠ 0 → a * iv a = 1
  one_ne : (1 : K) ≠ 0
  two_ne : (1 : K) + 1 ≠ 0
open Fd
variable {K : Type} [Fd K]

/-- A point. -/
structure Pt (K : Type) [Fd K] (d : K) where
  x : K
  y : K
  on : x * x + y * y = 1 + d * (x * x * (y * y))
variable {d : K}
/-- The ladder's step. -/
def dblX (X Z : K) : K := (X + Z) * (X + Z) * ((X - Z) * (X - Z))
def dblZ (c X Z : K) : K := ((X + Z) * (X + Z) - (X - Z) * (X - Z)) * (c * ((X + Z) * (X + Z) - (X - Z) * (X - Z)) + (X + Z) * (X + Z))
def sumX (X Z X' Z' : K) : K := ((X' - Z') * (X + Z) + (X' + Z') * (X - Z)) * ((X' - Z') * (X + Z) + (X' + Z') * (X - Z))
def sumZ (u X Z X' Z' : K) : K := ((X' - Z') * (X + Z) - (X' + Z') * (X - Z)) * ((X' - Z') * (X + Z) - (X' + Z') * (X - Z)) * u

/-- The ladder. -/
structure L4 (K : Type) where
  x2 : K
  z2 : K
  x3 : K
  z3 : K
def ladK (c u : K) (k : Nat) : Nat → L4 K
  | 0 => ⟨1, 0, u, 1⟩
  | j + 1 => if k / 2 ^ (254 - j) % 2 = 1 then ⟨sumX (ladK c u k j).x3 (ladK c u k j).z3 (ladK c u k j).x2 (ladK c u k j).z2, sumZ u (ladK c u k j).x3 (ladK c u k j).z3 (ladK c u k j).x2 (ladK c u k j).z2, dblX (ladK c u k j).x3 (ladK c u k j).z3, dblZ c (ladK c u k j).x3 (ladK c u k j).z3⟩
    else ⟨dblX (ladK c u k j).x2 (ladK c u k j).z2, dblZ c (ladK c u k j).x2 (ladK c u k j).z2, sumX (ladK c u k j).x2 (ladK c u k j).z2 (ladK c u k j).x3 (ladK c u k j).z3, sumZ u (ladK c u k j).x2 (ladK c u k j).z2 (ladK c u k j).x3 (ladK c u k j).z3⟩
def tmK (c : K) (k : Nat) (u : K) : K := (ladK c u k 255).x2 * iv (ladK c u k 255).z2

end Edw
set_option linter.unusedVariables false
set_option linter.unusedSimpArgs false
/-! The orders of the base point and of the twist are prime (but for 8 and 4). -/
namespace Prm
end Prm
set_option linter.unusedVariables false
set_option linter.unusedSimpArgs false
/-! The numbers modulo the prime are such a field. -/
namespace Edw
open Prm

instance : NeZero P := ⟨by decide +kernel⟩
/-- The numbers modulo the prime. -/
abbrev Fp : Type := Fin P
def ivP (a : Fp) : Fp := ⟨a.val ^ (P - 2) % P, Nat.mod_lt _ (by decide +kernel)⟩
theorem two_le_P : 2 < P := by decide +kernel
theorem fp_one : ((1 : Fp)).val = 1 := by
  show 1 % P = 1
  exact Nat.mod_eq_of_lt (by have := two_le_P; omega)
theorem fp_zero : ((0 : Fp)).val = 0 := by
  show 0 % P = 0
  exact Nat.zero_mod _
theorem fp_mul_iv (a : Fp) (h : a ≠ 0) : a * ivP a = 1 := by
  have hv : a.val % P ≠ 0 := fun e => h (Fin.ext (by rw [fp_zero, ← e, Nat.mod_eq_of_lt a.isLt]))
  apply Fin.ext
  rw [fp_one, Fin.val_mul]
  show a.val * (a.val ^ (P - 2) % P) % P = 1
  rw [Nat.mul_mod_mod, ← Nat.pow_succ', show (P - 2).succ = P - 1 by decide +kernel]
  exact fermat a.val hv
theorem ivP_val (a : Fp) : (ivP a).val = a.val ^ (P - 2) % P := rfl
theorem zero_pw {z e : Nat} (hz : z = 0) (he : 0 < e) : z ^ e % P = 0 := by subst hz; rw [Nat.zero_pow he, Nat.zero_mod]
theorem fp_iv0 : ivP 0 = 0 := by
  apply Fin.ext
  rw [fp_zero, ivP_val]
  exact zero_pw fp_zero (by have := two_le_P; omega)
instance fdP : Fd Fp := { (inferInstance : Lean.Grind.CommRing Fp) with
  iv := ivP
  iv_zero := fp_iv0
  mul_iv := fun {a} h => fp_mul_iv a h
  one_ne := fun h => by have := congrArg Fin.val h; rw [fp_one, fp_zero] at this; omega
  two_ne := fun h => by
    have h1 : ((1 : Fp) + 1).val = (0 : Fp).val := congrArg Fin.val h
    rw [Fin.val_add, fp_one, fp_zero, Nat.mod_eq_of_lt two_le_P] at h1
    omega }
/-- The residue of a number. -/
def re (n : Nat) : Fp := ⟨n % P, Nat.mod_lt _ (by decide +kernel)⟩
theorem re_eq {a b : Nat} : re a = re b ↔ a % P = b % P := ⟨fun h => congrArg Fin.val h, fun h => Fin.ext h⟩
theorem re_mul (a b : Nat) : re (a * b) = re a * re b := by
  apply Fin.ext
  rw [Fin.val_mul]
  show a * b % P = (a % P) * (b % P) % P
  rw [← Nat.mul_mod]
theorem re_add (a b : Nat) : re (a + b) = re a + re b := by
  apply Fin.ext
  rw [Fin.val_add]
  show (a + b) % P = (a % P + b % P) % P
  rw [← Nat.add_mod]
theorem re_0 : re 0 = 0 := Fin.ext (by rw [fp_zero]; exact Nat.zero_mod _)
theorem re_1 : re 1 = 1 := Fin.ext (by rw [fp_one]; exact Nat.mod_eq_of_lt (by have := two_le_P; omega))
theorem re_iv (a : Nat) : re (a ^ (P - 2)) = Fd.iv (re a) := by
  apply Fin.ext
  show a ^ (P - 2) % P = (a % P) ^ (P - 2) % P
  rw [← Nat.pow_mod]
/-- A quarter of the curve's coefficient but 2. -/
def cP : Fp := re 121665
end Edw
set_option linter.unusedVariables false
set_option linter.unusedSimpArgs false
namespace Go.Proofs.YtoceepmehmacbaaDoor.Cv
open Go.RowKit Prm Edw

/-- An element as a residue. -/
def el (x : L5) : Fp := re x.val
theorem el_mul {x y : L5} (hx : x.Ok) (hy : y.Ok) : el (mulE x y) = el x * el y := by
  unfold el
  rw [← re_mul]
  exact re_eq.2 (mul_val x y hx hy)
theorem el_add {x y : L5} (hx : x.Ok) (hy : y.Ok) : el (addE x y) = el x + el y := by
  unfold el
  rw [← re_add]
  exact re_eq.2 (add_val x y hx hy)
theorem el_sub {x y : L5} (hx : x.Ok) (hy : y.Ok) : el (subE x y) = el x - el y := by
  have h : el (subE x y) + el y = el x := by
    unfold el
    rw [← re_add]
    exact re_eq.2 (sub_val x y hx hy)
  rw [← h]
  grind
theorem el_inv {x : L5} (hx : x.Ok) : el (invE x) = Fd.iv (el x) := by
  unfold el
  rw [← re_iv]
  exact re_eq.2 (inv_is hx).2
theorem el_small (n : BitVec 32) : el (small n) = re n.toNat := by unfold el; rw [small_val]
theorem el_zero : el zeroE = 0 := by unfold el; rw [zero_val, re_0]
theorem inv_ok {x : L5} (hx : x.Ok) : (invE x).Ok := (inv_is hx).1

structure R2.Ok (r : R2) : Prop where
  x : r.x.Ok
  z : r.z.Ok
theorem dbl_ok (r : R2) : (dblE r).Ok := ⟨mul_ok _ _, mul_ok _ _⟩
theorem sum_ok (r s : R2) (u : L5) : (sumE r s u).Ok := ⟨mul_ok _ _, mul_ok _ _⟩
theorem dbl_x {r : R2} (h : r.Ok) : el (dblE r).x = dblX (el r.x) (el r.z) := by
  unfold dblE dblX stA stB
  rw [el_mul (mul_ok _ _) (mul_ok _ _), el_mul (add_ok _ _) (add_ok _ _), el_mul (sub_ok _ _) (sub_ok _ _), el_add h.x h.z, el_sub h.x h.z]
theorem dbl_z {r : R2} (h : r.Ok) : el (dblE r).z = dblZ cP (el r.x) (el r.z) := by
  unfold dblE dblZ stF stA stB
  rw [el_mul (sub_ok _ _) (add_ok _ _), el_add (mul_ok _ _) (mul_ok _ _), el_mul (small_ok _) (sub_ok _ _), el_sub (mul_ok _ _) (mul_ok _ _), el_mul (add_ok _ _) (add_ok _ _), el_mul (sub_ok _ _) (sub_ok _ _), el_add h.x h.z, el_sub h.x h.z, el_small]
  rfl
theorem sum_x {r s : R2} (u : L5) (h : r.Ok) (k : s.Ok) : el (sumE r s u).x = sumX (el r.x) (el r.z) (el s.x) (el s.z) := by
  unfold sumE sumX stDA stCB stA stB
  rw [el_mul (add_ok _ _) (add_ok _ _), el_add (mul_ok _ _) (mul_ok _ _), el_mul (sub_ok _ _) (add_ok _ _), el_mul (add_ok _ _) (sub_ok _ _), el_add h.x h.z, el_sub h.x h.z, el_add k.x k.z, el_sub k.x k.z]
theorem sum_z {r s : R2} {u : L5} (h : r.Ok) (k : s.Ok) (hu : u.Ok) : el (sumE r s u).z = sumZ (el u) (el r.x) (el r.z) (el s.x) (el s.z) := by
  unfold sumE sumZ stDA stCB stA stB
  rw [el_mul (mul_ok _ _) hu, el_mul (sub_ok _ _) (sub_ok _ _), el_sub (mul_ok _ _) (mul_ok _ _), el_mul (sub_ok _ _) (add_ok _ _), el_mul (add_ok _ _) (sub_ok _ _), el_add h.x h.z, el_sub h.x h.z, el_add k.x k.z, el_sub k.x k.z]

theorem lad_link (k : List UInt8) {u : L5} (hu : u.Ok) : ∀ j, j ≤ 255 → ((ladL k u j).1.Ok ∧ (ladL k u j).2.Ok) ∧ (el (ladL k u j).1.x = (ladK cP (el u) (kn k) j).x2 ∧ el (ladL k u j).1.z = (ladK cP (el u) (kn k) j).z2) ∧ (el (ladL k u j).2.x = (ladK cP (el u) (kn k) j).x3 ∧ el (ladL k u j).2.z = (ladK cP (el u) (kn k) j).z3)
  | 0, _ => ⟨⟨⟨small_ok _, zero_ok⟩, ⟨hu, small_ok _⟩⟩, ⟨by rw [ladL, ladK, el_small]; exact re_1, by rw [ladL, ladK]; exact el_zero⟩, ⟨rfl, by rw [ladL, ladK, el_small]; exact re_1⟩⟩
  | j + 1, hj => by
    obtain ⟨⟨o1, o2⟩, ⟨a1, a2⟩, ⟨b1, b2⟩⟩ := lad_link k hu j (by omega)
    have hb := kbit_is k (254 - j) (by omega)
    rw [ladL, ladK, hb]
    by_cases hq : kn k / 2 ^ (254 - j) % 2 = 1
    · rw [if_pos hq, if_pos (by simpa using hq)]
      refine ⟨⟨sum_ok _ _ _, dbl_ok _⟩, ⟨?_, ?_⟩, ⟨?_, ?_⟩⟩
      · rw [sum_x u o2 o1, a1, a2, b1, b2]
      · rw [sum_z o2 o1 hu, a1, a2, b1, b2]
      · rw [dbl_x o2, b1, b2]
      · rw [dbl_z o2, b1, b2]
    · rw [if_neg hq, if_neg (by simpa using hq)]
      refine ⟨⟨dbl_ok _, sum_ok _ _ _⟩, ⟨?_, ?_⟩, ⟨?_, ?_⟩⟩
      · rw [dbl_x o1, a1, a2]
      · rw [dbl_z o1, a1, a2]
      · rw [sum_x u o1 o2, a1, a2, b1, b2]
      · rw [sum_z o1 o2 hu, a1, a2, b1, b2]

/-- The u of 32 bytes. -/
def un (u : List UInt8) : Fp := re (kn u % 57896044618658097711785492504343953926634992332820282019728792003956564819968)
theorem el_read (u : List UInt8) : el (readE u) = un u := by unfold el un; rw [read_val]
theorem times_num (k u : List UInt8) : timesL k u = nb (tmK cP (kn (clampL k)) (un u)).val := by
  obtain ⟨⟨o1, o2⟩, ⟨a1, a2⟩, _⟩ := lad_link (clampL k) (read_ok u) 255 (Nat.le_refl _)
  unfold timesL tmK
  rw [tell_is _ (mul_ok _ _)]
  congr 1
  have e := el_mul o1.x (inv_ok o1.z)
  rw [el_inv o1.z, a1, a2, el_read] at e
  exact congrArg Fin.val e
theorem byte_low (a : UInt8) : (a &&& 248).toNat = a.toNat / 8 * 8 := by
  have h : ∀ a : Fin 256, (a.val &&& 248) = a.val / 8 * 8 := by decide +kernel
  rw [UInt8.toNat_and]
  exact h ⟨a.toNat, a.toNat_lt⟩
theorem byte_top (a : UInt8) : (a &&& 127 ||| 64).toNat = a.toNat % 64 + 64 := by
  have h : ∀ a : Fin 256, ((a.val &&& 127) ||| 64) = a.val % 64 + 64 := by decide +kernel
  rw [UInt8.toNat_or, UInt8.toNat_and]
  exact h ⟨a.toNat, a.toNat_lt⟩
end Go.Proofs.YtoceepmehmacbaaDoor.Cv
set_option linter.unusedVariables false
set_option linter.unusedSimpArgs false
namespace Go.Proofs.YtoceepmehmacbaaDoor.Cv
open Go.RowKit Prm Edw

end Go.Proofs.YtoceepmehmacbaaDoor.Cv
set_option linter.unusedVariables false
set_option linter.unusedSimpArgs false
/-! Orders of points. -/
namespace Edw
open Fd Prm
section
variable {K : Type} [Fd K] {d : K}
end
end Edw
set_option linter.unusedVariables false
set_option linter.unusedSimpArgs false
namespace Go.Proofs.YtoceepmehmacbaaDoor.Cv
open Go.RowKit Prm Edw

end Go.Proofs.YtoceepmehmacbaaDoor.Cv
set_option linter.unusedVariables false
set_option linter.unusedSimpArgs false
namespace Go.Proofs.YtoceepmehmacbaaDoor.Cv
open Go.RowKit

end Go.Proofs.YtoceepmehmacbaaDoor.Cv
set_option linter.unusedVariables false
set_option linter.unusedSimpArgs false
/-! Which points are of a small order. -/
namespace Edw
open Fd Prm
section
variable {K : Type} [Fd K] {d : K}
end

section
variable {K : Type} [Fd K]
end
section
variable {K : Type} [Fd K] {d : K}
end

/-! The two curves. -/
end Edw
set_option linter.unusedVariables false
set_option linter.unusedSimpArgs false
namespace Go.Proofs.YtoceepmehmacbaaDoor
open Go.RowKit

theorem eql35_t {g h : An} (kg : g.ok) (e : g = h) (W : World) (x y : Operand) : (do eqGuard .eql 35 x y g.v h.v; binOp .eql 35 g.v h.v : Sem Value).run Tryd.prog W = .ok (.bool true) W := by
  subst e
  have := eql35 g g kg kg W x y
  rwa [decide_eq_true rfl] at this
theorem ld35 {w : World} {q : Nat} {p : An} {t : TypeId} (hb : Blk w q p.cs t) (hp : p.ok) : (Instr.loadAt 35 (.pointer (some ⟨q, 0, none⟩))).run Tryd.prog w = .ok p.v w := by
  obtain ⟨d, h1, h2⟩ := u35
  exact run_loadR hb h1 h2 (i35 hp)
theorem ldI3 {w : World} {q o : Nat} {v : Int} (hc : w.cell? ⟨q, o, none⟩ = some (.int .i64 v)) : (Instr.loadAt 3 (.pointer (some ⟨q, o, none⟩))).run Tryd.prog w = .ok (.int .i64 v) w := by go_simp
end Go.Proofs.YtoceepmehmacbaaDoor
set_option linter.unusedVariables false
set_option linter.unusedSimpArgs false
namespace Go.Proofs.YtoceepmehmacbaaDoor.Cv
open Go.RowKit

section
variable {P : Program} {ops : Array Oper} {Q : Exit → Act → World → Prop} {md : Region.Mode} {S : World → Prop}

/-- New variables, in whatever order. -/
def newsOk (md : Region.Mode) (ops : Array Oper) (fin : Array Bool) : Nat → List Nat → Array Bool → Bool
  | 0, R, listed => R.isEmpty && listed == fin
  | m + 1, R, listed => !R.isEmpty && (Region.ready md ops listed == R) && R.all fun i => newsOk md ops fin m (R.erase i) (listed.setIfInBounds i true)
def putAll (dst G : Nat → Nat) : List Nat → Act → Act
  | [], a => a
  | i :: R, a => putAll dst G R (a.put (some (dst i)) (.pointer (some ⟨G i, 0, none⟩)))
theorem put_comm2 (a : Act) {d e : Nat} (u v : Value) (h : d ≠ e) : (a.put (some d) u).put (some e) v = (a.put (some e) v).put (some d) u := by
  simp only [Act.put, Act.mk.injEq, true_and, and_true]
  exact Array.setIfInBounds_comm _ _ h
theorem putAll_erase (dst G : Nat → Nat) (i : Nat) : ∀ (R : List Nat) (a : Act), i ∈ R → (∀ j ∈ R, j ≠ i → dst j ≠ dst i) →
    putAll dst G (R.erase i) (a.put (some (dst i)) (.pointer (some ⟨G i, 0, none⟩))) = putAll dst G R a
  | [], _, h, _ => by cases h
  | j :: R, a, h, hd => by
    by_cases hj : j = i
    · subst hj
      rw [List.erase_cons_head]
      rfl
    · rw [List.erase_cons_tail (by simpa using hj)]
      show putAll dst G (R.erase i) ((a.put _ _).put (some (dst j)) _) = putAll dst G R (a.put (some (dst j)) _)
      rw [put_comm2 a _ _ (Ne.symm (hd j (by simp) hj))]
      refine putAll_erase dst G i R _ ?_ (fun k hk => hd k (by simp [hk]))
      simp only [List.mem_cons] at h
      rcases h with h | h
      · exact absurd h.symm hj
      · exact h
theorem putAll_congr (dst : Nat → Nat) {G G' : Nat → Nat} : ∀ (R : List Nat) (a : Act), (∀ i ∈ R, G i = G' i) → putAll dst G R a = putAll dst G' R a
  | [], _, _ => rfl
  | j :: R, a, h => by
    rw [putAll, putAll, h j (by simp)]
    exact putAll_congr dst R _ (fun i hi => h i (by simp [hi]))
theorem wpAnyS_news (t : TypeId) (zs : List Value) (hz : ∀ w, (zeroValue t).run P w = .ok (.agg zs.toArray) w) (dst : Nat → Nat) (fin : Array Bool) (F lo : Nat) :
    ∀ (m : Nat) (R : List Nat) (listed : Array Bool) (a : Act) (C : World → Prop) (U : List Nat), newsOk md ops fin m R listed = true → R.Nodup →
      (∀ i ∈ R, ∃ o, ops[i]? = some o ∧ o.guard = none ∧ o.op = .alloc t ∧ o.dst = some (dst i)) → (∀ i ∈ R, ∀ j ∈ R, i ≠ j → dst i ≠ dst j) →
      (∀ W, C W → lo ≤ W.heap.size) → (∀ W, C W → ∀ u ∈ U, u < W.heap.size) →
      (∀ (G : Nat → Nat) (C' : World → Prop), (∀ W, C' W → C W ∧ ∀ i ∈ R, Blk W (G i) zs t) → (∀ i ∈ R, lo ≤ G i) → (∀ i ∈ R, ∀ u ∈ U, G i ≠ u) → (∀ i ∈ R, ∀ j ∈ R, i ≠ j → G i ≠ G j) →
        wpAnyS P md ops Q S F fin (putAll dst G R a) C') → wpAnyS P md ops Q S (F + m) listed a C
  | 0, R, listed, a, C, U, hB, hN, ho, hd, hlo, hU, h => by
    simp only [newsOk, Bool.and_eq_true, beq_iff_eq, List.isEmpty_iff] at hB
    obtain ⟨rfl, rfl⟩ := hB
    exact h (fun _ => 0) C (fun W hW => ⟨hW, fun i hi => by cases hi⟩) (fun i hi => by cases hi) (fun i hi => by cases hi) (fun i hi => by cases hi)
  | m + 1, R, listed, a, C, U, hB, hN, ho, hd, hlo, hU, h => by
    simp only [newsOk, Bool.and_eq_true, beq_iff_eq, Bool.not_eq_true', List.isEmpty_eq_false_iff, List.all_eq_true] at hB
    obtain ⟨⟨hne, hr⟩, hall⟩ := hB
    refine ⟨fun h0 => absurd (hr.symm.trans h0) hne, fun i hi => ?_⟩
    rw [hr] at hi
    obtain ⟨o, hoi, hg, hop, hdst⟩ := ho i hi
    refine ⟨o, hoi, .inr (.inl ⟨hg, t, zs, hop, hz, fun g hgw => ?_⟩)⟩
    obtain ⟨W0, hW0, hs0⟩ := hgw
    rw [hdst]
    have sub : ∀ k, k ∈ R.erase i → k ∈ R := fun k hk => List.mem_of_mem_erase hk
    have nei : ∀ k, k ∈ R.erase i → k ≠ i := fun k hk e => by
      rw [hN.mem_erase_iff] at hk
      exact hk.1 e
    refine wpAnyS_news t zs hz dst fin F lo m (R.erase i) _ _ _ (g :: U) (hall i hi) (hN.erase i) (fun k hk => ho k (sub k hk)) (fun k hk j hj => hd k (sub k hk) j (sub j hj))
      (fun W hW => hlo W hW.1) (fun W hW u hu => ?_) (fun G C' hC' hl' hu' hg' => ?_)
    · simp only [List.mem_cons] at hu
      rcases hu with rfl | hu
      · exact hW.2.lt
      · exact hU W hW.1 u hu
    · have hG : ∀ k, k ∈ R → k ≠ i → k ∈ R.erase i := fun k hk hki => by rw [hN.mem_erase_iff]; exact ⟨hki, hk⟩
      have key := h (fun k => if k = i then g else G k) C' (fun W hW => ⟨(hC' W hW).1.1, fun k hk => ?_⟩) (fun k hk => ?_) (fun k hk u hu => ?_) (fun k hk j hj hkj => ?_)
      · rw [← putAll_erase dst (fun k => if k = i then g else G k) i R a hi (fun j hj hji => hd j hj i hi hji)] at key
        simp only [if_true] at key
        rw [putAll_congr dst (R.erase i) _ (fun k hk => if_neg (nei k hk))] at key
        exact key
      · by_cases hki : k = i
        · simp only [if_pos hki]; exact (hC' W hW).1.2
        · simp only [if_neg hki]; exact (hC' W hW).2 k (hG k hk hki)
      · by_cases hki : k = i
        · simp only [if_pos hki]; rw [← hs0]; exact hlo W0 hW0
        · simp only [if_neg hki]; exact hl' k (hG k hk hki)
      · by_cases hki : k = i
        · simp only [if_pos hki]; have := hU W0 hW0 u hu; omega
        · simp only [if_neg hki]; exact hu' k (hG k hk hki) u (by simp [hu])
      · by_cases hki : k = i
        · have hji : j ≠ i := fun e => hkj (hki.trans e.symm)
          simp only [if_pos hki, if_neg hji]
          exact Ne.symm (hu' j (hG j hj hji) g (by simp))
        · by_cases hji : j = i
          · simp only [if_neg hki, if_pos hji]
            exact hu' k (hG k hk hki) g (by simp)
          · simp only [if_neg hki, if_neg hji]
            exact hg' k (hG k hk hki) j (hG j hj hji) hkj
theorem putAll_eval (dst G : Nat → Nat) (y : Operand) : ∀ (R : List Nat) (a : Act), (∀ i ∈ R, y ≠ .tmp (dst i)) → (putAll dst G R a).eval y = a.eval y
  | [], _, _ => rfl
  | j :: R, a, h => by
    rw [putAll, putAll_eval dst G y R _ (fun i hi => h i (by simp [hi]))]
    exact Act.eval_put (fun d hd hyd => h j (by simp) (by rw [hyd]; cases hd; rfl))
theorem put_size (a : Act) (d : Option Nat) (v : Value) : (a.put d v).tmps.size = a.tmps.size := by
  cases d <;> simp [Act.put]
theorem putAll_at (dst G : Nat → Nat) (i : Nat) : ∀ (R : List Nat) (a : Act), i ∈ R → R.Nodup → (∀ j ∈ R, j ≠ i → dst j ≠ dst i) → dst i < a.tmps.size → (putAll dst G R a).eval (.tmp (dst i)) = .pointer (some ⟨G i, 0, none⟩)
  | [], _, h, _, _, _ => by cases h
  | j :: R, a, h, hN, hd, hs => by
    rw [putAll]
    by_cases hj : j = i
    · subst hj
      have hnot : j ∉ R := (List.nodup_cons.1 hN).1
      rw [putAll_eval dst G (.tmp (dst j)) R _ (fun k hk e => hd k (by simp [hk]) (fun e' => hnot (e' ▸ hk)) (by injection e with e; exact e.symm))]
      simp [Act.eval, Act.put, hs, Array.getElem?_setIfInBounds]
    · refine putAll_at dst G i R _ ?_ (List.nodup_cons.1 hN).2 (fun k hk => hd k (by simp [hk])) (by rw [put_size]; exact hs)
      simp only [List.mem_cons] at h
      rcases h with h | h
      · exact absurd h.symm hj
      · exact h

/-- Then a row into each, in their order. -/
def chainOk (md : Region.Mode) (ops : Array Oper) : Nat → Nat → Array Bool → Bool
  | 0, _, listed => Region.ready md ops listed == []
  | r + 1, k, listed => (Region.ready md ops listed == [k]) && chainOk md ops r (k + 1) (listed.setIfInBounds k true)
structure Rows (w0 : World) (t : TypeId) (zs : List Value) (n m : Nat) (G : Nat → Nat) (c : Nat → List Value) (s : Nat) (W : World) : Prop where
  be : Below w0.heap.size w0 W
  fi : ∀ i, n ≤ i → i < n + s → i < n + m → Blk W (G i) (c i) t
  ze : ∀ i, n + s ≤ i → i < n + m → Blk W (G i) zs t
theorem rows_stable (w0 : World) (t : TypeId) (zs : List Value) (n m : Nat) (G : Nat → Nat) (c : Nat → List Value) (s : Nat) (hlo : ∀ i, n ≤ i → i < n + m → w0.heap.size ≤ G i) : Stable (Rows w0 t zs n m G c s) := fun W W' h hb =>
  ⟨stable_below w0 W W' h.be hb, fun i h1 h2 h3 => (h.fi i h1 h2 h3).on hb, fun i h1 h2 => (h.ze i h1 h2).on hb⟩
theorem wpAnyS_rows (w0 : World) (t : TypeId) (zs : List Value) (n m : Nat) (G : Nat → Nat) (c : Nat → List Value) (dst : Nat → Nat) (y : Nat → Operand) (a : Act)
    (hinf : (P.info? t).map (·.size) = some zs.length) (hlo : ∀ i, n ≤ i → i < n + m → w0.heap.size ≤ G i) (hne : ∀ i j, n ≤ i → i < n + m → n ≤ j → j < n + m → i ≠ j → G i ≠ G j)
    (hst : ∀ i, n ≤ i → i < n + m → ∃ o, ops[i + m]? = some o ∧ o.guard = none ∧ o.dst = none ∧ o.op = .store t (.tmp (dst i)) (y i))
    (hpt : ∀ i, n ≤ i → i < n + m → a.eval (.tmp (dst i)) = .pointer (some ⟨G i, 0, none⟩)) (hev : ∀ i, n ≤ i → i < n + m → a.eval (y i) = .agg (List.toArray (c i)))
    (hle : ∀ i, n ≤ i → i < n + m → zs.length = (c i).length) (hon : ∀ i, n ≤ i → i < n + m → (c i).toArray.all (·.oneCell') = true)
    (hQ : ∀ W, Rows w0 t zs n m G c m W → Q .normal a W) :
    ∀ (r s : Nat) (listed : Array Bool), s + r = m → chainOk md ops r (n + m + s) listed = true → ∀ C : World → Prop, (∀ W, C W → Rows w0 t zs n m G c s W) →
      wpAnyS P md ops Q (fun W => Below w0.heap.size w0 W) r listed a C
  | 0, s, listed, hs, hB, C, hC => by
    simp only [chainOk, beq_iff_eq] at hB
    obtain rfl : s = m := by omega
    exact ⟨hB, fun W hW => hQ W (hC W hW)⟩
  | r + 1, s, listed, hs, hB, C, hC => by
    simp only [chainOk, Bool.and_eq_true, beq_iff_eq] at hB
    obtain ⟨h1, h2⟩ := hB
    refine ⟨fun h0 => (by rw [h0] at h1; cases h1), fun i hi => ?_⟩
    rw [h1] at hi
    obtain rfl : i = n + m + s := by simpa using hi
    obtain ⟨o, ho, hg, hd, hop⟩ := hst (n + s) (by omega) (by omega)
    rw [show n + s + m = n + m + s by omega] at ho
    refine opS_row ho hg hd t _ _ hop (C' := Rows w0 t zs n m G c (s + 1)) (G (n + s)) (c (n + s)) zs t (hpt _ (by omega) (by omega)) (hev _ (by omega) (by omega)) (fun W hW => (hC W hW).ze _ (by omega) (by omega))
      (by rw [hinf, hle (n + s) (by omega) (by omega)]) (hle _ (by omega) (by omega)) (hon _ (by omega) (by omega)) (rows_stable w0 t zs n m G c (s + 1) hlo) (fun W h => h.be) (fun W hW => ?_) ?_
    · refine ⟨below_setRow (hC W hW).be _ _ (hlo _ (by omega) (by omega)), fun i k1 k2 k3 => ?_, fun i k1 k2 => ?_⟩
      · by_cases e : i = n + s
        · subst e; exact ((hC W hW).ze _ (by omega) (by omega)).setRow _
        · exact ((hC W hW).fi i k1 (by omega) k3).setRowOther _ _ (hne _ _ (by omega) (by omega) (by omega) (by omega) e)
      · exact ((hC W hW).ze i (by omega) k2).setRowOther _ _ (hne _ _ (by omega) (by omega) (by omega) (by omega) (by omega))
    · exact wpAnyS_rows w0 t zs n m G c dst y a hinf hlo hne hst hpt hev hle hon hQ r (s + 1) _ (by omega) (by rw [← Nat.add_assoc]; exact h2) _ (fun W h => h)

/-- Operations of one value each, and new variables, in whatever order. -/
theorem reg_news {id : Nat} {l : List Oper} {a : Act} {w : World} (hm : P.follows .mixedOrders = true) (n m : Nat) (hl : l.length = n + m + m) (dst : Nat → Nat) (y : Nat → Operand)
    (hns : Region.noSelect l.toArray = true) (hlex : lexOkS .any l.toArray n 0 (none_ (n + m + m)) = true)
    (fin : Array Bool) (hnew : newsOk .any l.toArray fin m (List.range' n m) (firstN n 0 (none_ (n + m + m))) = true) (hch : chainOk .any l.toArray m (n + m) fin = true)
    (t : TypeId) (zs : List Value) (hz : ∀ w, (zeroValue t).run P w = .ok (.agg zs.toArray) w) (hinf : (P.info? t).map (·.size) = some zs.length)
    (hal : ∀ i, n ≤ i → i < n + m → ∃ o, l[i]? = some o ∧ o.guard = none ∧ o.op = .alloc t ∧ o.dst = some (dst i))
    (hst : ∀ i, n ≤ i → i < n + m → ∃ o, l[i + m]? = some o ∧ o.guard = none ∧ o.dst = none ∧ o.op = .store t (.tmp (dst i)) (y i))
    (hdd : ∀ i j, i ≠ j → dst i ≠ dst j) (hyd : ∀ i j, n ≤ i → i < n + m → n ≤ j → j < n + m → y i ≠ .tmp (dst j))
    (h : wpLex P l.toArray (fun W => Below w.heap.size w W) (fun a' => ∃ c : Nat → List Value, (∀ i, n ≤ i → i < n + m → a'.eval (y i) = .agg (List.toArray (c i)) ∧ zs.length = (c i).length ∧ (c i).toArray.all (·.oneCell') = true ∧ dst i < a'.tmps.size) ∧
      ∀ (G : Nat → Nat) W, (∀ i, n ≤ i → i < n + m → w.heap.size ≤ G i) → (∀ i j, n ≤ i → i < n + m → n ≤ j → j < n + m → i ≠ j → G i ≠ G j) → Below w.heap.size w W → (∀ i, n ≤ i → i < n + m → Blk W (G i) (c i) t) →
        Q .normal (putAll dst G (List.range' n m) a') W) (l.take n) a) : (Code.region id l.toArray true).wp P Q a w := by
  have hn : (l.take n).length = n := by simp; omega
  have hmem : ∀ i, i ∈ List.range' n m ↔ n ≤ i ∧ i < n + m := fun i => by simp [List.mem_range'_1]
  refine wp_region_any hm ?_; refine wpAny_of_S (S := fun W => Below w.heap.size w W) _ _ _ (fun W => Below w.heap.size w W) (stable_below w) (fun _ h => h) ?_ _ (below_drawn w)
  have := wpAnyS_lex (P := P) (Q := Q) (md := .any) (S := fun W => Below w.heap.size w W) (ops := l.toArray) hns (fun W => Below w.heap.size w W) (m + m) (l.take n) 0 (none_ (n + m + m)) a (by
      intro j hj
      rw [hn] at hj
      simp [List.getElem?_take, hj]) (by rw [hn]; exact hlex) ?_
  · rw [hn, show m + m + n = n + m + m by omega] at this
    simpa [none_, hl] using this
  · refine wpLex_mono ?_ (l.take n) a h
    rintro a' ⟨c, hc, hk⟩
    rw [hn]
    refine wpAnyS_news t zs hz dst fin m w.heap.size m (List.range' n m) _ a' _ [] hnew List.nodup_range' (fun i hi => ?_) (fun i _ j _ hij => hdd i j hij) (fun W hW => hW.size) (fun W hW u hu => by cases hu) (fun G C' hC' hlo _ hne => ?_)
    · obtain ⟨h1, h2⟩ := (hmem i).1 hi
      simpa using hal i h1 h2
    · have lo : ∀ i, n ≤ i → i < n + m → w.heap.size ≤ G i := fun i h1 h2 => hlo i ((hmem i).2 ⟨h1, h2⟩)
      have ne : ∀ i j, n ≤ i → i < n + m → n ≤ j → j < n + m → i ≠ j → G i ≠ G j := fun i j h1 h2 h3 h4 => hne i ((hmem i).2 ⟨h1, h2⟩) j ((hmem j).2 ⟨h3, h4⟩)
      refine wpAnyS_rows w t zs n m G c dst y _ hinf lo ne (fun i h1 h2 => by simpa using hst i h1 h2)
        (fun i h1 h2 => putAll_at dst G i _ _ ((hmem i).2 ⟨h1, h2⟩) List.nodup_range' (fun j _ hji => hdd j i hji) (hc i h1 h2).2.2.2)
        (fun i h1 h2 => (putAll_eval dst G (y i) _ _ (fun j hj => hyd i j h1 h2 ((hmem j).1 hj).1 ((hmem j).1 hj).2)).trans (hc i h1 h2).1)
        (fun i h1 h2 => (hc i h1 h2).2.1) (fun i h1 h2 => (hc i h1 h2).2.2.1) (fun W hW => ?_) m 0 fin (by omega) hch C' (fun W hW => ?_)
      · exact hk G W lo ne hW.be (fun i h1 h2 => hW.fi i h1 h2 h2)
      · obtain ⟨h1, h2⟩ := hC' W hW
        exact ⟨h1, fun i k1 k2 k3 => by omega, fun i k1 k2 => h2 i ((hmem i).2 ⟨by omega, k2⟩)⟩
end
end Go.Proofs.YtoceepmehmacbaaDoor.Cv
