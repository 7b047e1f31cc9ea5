import Derived.Test.YtnakeieeopbeiaaGvG
set_option linter.unusedVariables false
set_option linter.unusedSimpArgs false
namespace Go.Proofs.Ytnakeieeopbeiaa
open Go.RowKit Prm

/-- The document's number of an element. -/
def nx (x : L5) : List Nat := numD (x.val % PP)
theorem nx_nm (x : L5) : Nm (nx x) := numD_nm _
theorem nx_val (x : L5) : dpre (nx x) 16 = x.val % PP := num_of (Nat.mod_lt _ PP_pos)
theorem nx_eq {x y : L5} (h : x.val % PP = y.val % PP) : nx x = nx y := by rw [nx, nx, h]
theorem nx_of {x : L5} {V : Nat} (h : V % PP = x.val % PP) : numD (V % PP) = nx x := by rw [nx, h]
theorem min_val {b : List Nat} (hb : Nm b) (hlt : dpre b 16 ≤ PP) : dpre (minD primeD b 16) 16 = PP - dpre b 16 := by
  have h := minD_val primeD_nm.dg hb.dg 16 (by rw [primeD_nm.ln]; exact Nat.le_refl _)
  have h1 : dpre (minD primeD b 16) 16 < 65536 ^ 16 := dpre_lt (minD_nm primeD_nm hb).dg 16
  rw [primeD_val] at h
  rcases Nat.eq_zero_or_pos (borD primeD b 16) with e | e
  · rw [e, Nat.zero_mul] at h; omega
  · have h2 : 1 * 65536 ^ 16 ≤ borD primeD b 16 * 65536 ^ 16 := Nat.mul_le_mul_right _ e
    omega
theorem cAdd {x y : L5} (hx : x.Ok) (hy : y.Ok) (W : World) : Calls Try.prog 39 #[.agg (dv (nx x)).toArray, .agg (dv (nx y)).toArray] W fun e w' => e = .returned (.agg (dv (nx (addE x y))).toArray) ∧ Below W.heap.size W w' := by
  have h := add_num (nx x) (nx y) (nx_nm x) (nx_nm y) W
  rw [nx_val, nx_val, nx_of (x := addE x y) (by rw [PP_is, add_val x y hx hy, ← Nat.add_mod])] at h
  exact h
theorem cMul {x y : L5} (hx : x.Ok) (hy : y.Ok) (W : World) : Calls Try.prog 41 #[.agg (dv (nx x)).toArray, .agg (dv (nx y)).toArray] W fun e w' => e = .returned (.agg (dv (nx (mulE x y))).toArray) ∧ Below W.heap.size W w' := by
  have h := mul_num (nx x) (nx y) (nx_nm x) (nx_nm y) W
  rw [nx_val, nx_val, nx_of (x := mulE x y) (by rw [PP_is, mul_val x y hx hy, ← Nat.mul_mod])] at h
  exact h
theorem sub_mod {a b s : Nat} (h : (s + b) % P = a % P) : (a % P + (P - b % P) % P) % P = s % P := by
  have hP : 0 < P := by decide
  have h1 : (s + b) % P = ((a % P + (P - b % P) % P) + b) % P := by
    rw [h]
    have e : (a % P + (P - b % P) % P + b) % P = (a % P + ((P - b % P) + b)) % P := by
      rw [Nat.add_assoc, Nat.add_mod (a % P) ((P - b % P) % P + b), Nat.mod_add_mod (P - b % P) P b, ← Nat.add_mod]
    rw [e]
    have e2 : (P - b % P) + b = P * (b / P + 1) := by
      have := Nat.div_add_mod b P
      have := Nat.mod_lt b hP
      rw [Nat.mul_add, Nat.mul_one]; omega
    rw [e2, Nat.add_mul_mod_self_left, Nat.mod_mod]
  exact (mod_cancel h1).symm
theorem cSub {x y : L5} (hx : x.Ok) (hy : y.Ok) (W : World) : Calls Try.prog 40 #[.agg (dv (nx x)).toArray, .agg (dv (nx y)).toArray] W fun e w' => e = .returned (.agg (dv (nx (subE x y))).toArray) ∧ Below W.heap.size W w' := by
  have h := sub_num (nx x) (nx y) (nx_nm x) (nx_nm y) W
  have hl : y.val % PP ≤ PP := Nat.le_of_lt (Nat.mod_lt _ PP_pos)
  rw [min_val (nx_nm y) (by rw [nx_val]; exact hl), nx_val, nx_val, nx_of (x := subE x y) (by rw [PP_is]; exact sub_mod (sub_val x y hx hy))] at h
  exact h
theorem cFrom (k : List UInt8) (hk : k.length = 32) (W : World) : Calls Try.prog 36 #[.agg (k.map byt).toArray] W fun e w' => e = .returned (.agg (dv (nx (readE k))).toArray) ∧ Below W.heap.size W w' := by
  have h := from_num k hk W
  rw [from_val] at h
  exact h
theorem cInt (n : BitVec 32) (W : World) : Calls Try.prog 38 #[.int .u64 (n.toNat : Int)] W fun e w' => e = .returned (.agg (dv (nx (small n))).toArray) ∧ Below W.heap.size W w' := by
  have hn := n.isLt
  have h := int_num n.toNat (by omega) W
  rw [show numD n.toNat = nx (small n) by rw [nx, small_val, Nat.mod_eq_of_lt (Nat.lt_of_lt_of_le hn (by decide))]] at h
  exact h
theorem cPow {x : L5} (hx : x.Ok) (k : List UInt8) (hk : k.length = 32) (W : World) : Calls Try.prog 50 #[.agg (dv (nx x)).toArray, .agg (k.map byt).toArray] W fun e w' => e = .returned (.agg (dv (nx (powL x k 256))).toArray) ∧ Below W.heap.size W w' := by
  have h := pow_num (nx x) k (nx_nm x) hk W
  rw [pow_all, nx_val, nx_of (x := powL x k 256) (by rw [PP_is, pow_mod_l, (powk_is hx k).2])] at h
  exact h
theorem cInv {x : L5} (hx : x.Ok) (W : World) : Calls Try.prog 51 #[.agg (dv (nx x)).toArray] W fun e w' => e = .returned (.agg (dv (nx (invE x))).toArray) ∧ Below W.heap.size W w' := by
  have h := inv_num (nx x) (nx_nm x) W
  rw [pow_all, nx_val, kn_nb _ (by decide), nx_of (x := invE x) (by rw [PP_is, pow_mod_l, (inv_is hx).2])] at h
  exact h
theorem fits_eq (k : List UInt8) (hk : k.length = 32) : decide (kn k < PP) = fitE k := by rw [fit_is k hk, PP_is]
theorem nx_same {x y : L5} (hx : x.Ok) (hy : y.Ok) : decide (nx x = nx y) = eqE x y := by
  rw [eq_is hx hy, nx, nx]
  refine decide_eq_decide.2 ?_
  rw [numD_inj (Nat.mod_lt _ PP_pos) (Nat.mod_lt _ PP_pos), PP_is]
theorem kn_root : kn (fK 254 15) = (P + 3) / 8 := by decide +kernel
theorem kn_quart : kn (fK 251 31) = (P - 1) / 4 := by decide +kernel
theorem sq0_is {x : L5} (hx : x.Ok) : sq0 (nx x) = (root1 x).val % PP := by
  rw [sq0, pow_all, nx_val, kn_root, PP_is, pow_mod_l, (root1_is hx).2]
theorem sqB_is {x r : L5} (hx : x.Ok) (hr : r.Ok) : sqB (nx x) (r.val % PP) = eqE (mulE r r) x := by
  rw [eq_is (mul_ok _ _) hx, mul_val r r hr hr, sqB, nx, ← Nat.mul_mod]
  refine decide_eq_decide.2 ?_
  rw [numD_inj (Nat.mod_lt _ PP_pos) (Nat.mod_lt _ PP_pos), PP_is]
theorem root1_ok {x : L5} (hx : x.Ok) : (root1 x).Ok := (root1_is hx).1
theorem sq1_is {x : L5} (hx : x.Ok) : sq1 (nx x) = (root2 x).val % PP := by
  have hm : pN 2 (fK 251 31) 256 = rootM.val % PP := by
    rw [pow_all, kn_quart, PP_is, rootM_is.2, small_val, show (2#32 : BitVec 32).toNat = 2 from rfl]
  rw [sq1, sq0_is hx, sqB_is hx (root1_ok hx), root2, hm]
  by_cases h : eqE (mulE (root1 x) (root1 x)) x = true
  · rw [if_pos h, if_pos h]
  · rw [if_neg h, if_neg h, PP_is, mul_val _ _ (root1_ok hx) rootM_is.1, ← Nat.mul_mod]
theorem negD_is {r : L5} (hr : r.Ok) : negD (r.val % PP) = nx (subE zeroE r) := by
  have hl : r.val % PP ≤ PP := Nat.le_of_lt (Nat.mod_lt _ PP_pos)
  have e : numD (r.val % PP) = nx r := rfl
  rw [negD, e, min_val (nx_nm r) (by rw [nx_val]; exact hl), nx_val]
  refine nx_of ?_
  have := sub_mod (sub_val zeroE r zero_ok hr)
  rw [zero_val, Nat.zero_mod, Nat.zero_add, Nat.mod_mod] at this
  rw [PP_is]; exact this
theorem odd_is {r : L5} (hr : r.Ok) : ((numD (r.val % PP)).getD 0 0 % 2 = 1) = (oddE r = true) := by
  rw [numD_getD _ _ (by decide), Nat.pow_zero, Nat.div_one, oddE, low_bit r hr, PP_is, decide_eq_true_eq, Nat.mod_mod_of_dvd _ (by decide)]
theorem sqR_is {x : L5} (hx : x.Ok) : sqR (nx x) (sq1 (nx x)) = (nx (rootE x), hasE x) := by
  have h2 := root2_ok x
  rw [sq1_is hx, sqR, sqB_is hx h2, hasE, rootE]
  by_cases h : eqE (mulE (root2 x) (root2 x)) x = true
  · rw [if_pos h, if_pos h, h]
    by_cases ho : oddE (root2 x) = true
    · rw [if_pos ho, if_pos (by rw [odd_is h2]; exact ho), negD_is h2]
    · rw [if_neg ho, if_neg (by rw [odd_is h2]; exact ho)]; rfl
  · rw [if_neg h, if_neg h, Bool.eq_false_iff.2 h]
    rfl
theorem cSqrt {x : L5} (hx : x.Ok) (W : World) : Calls Try.prog 52 #[.agg (dv (nx x)).toArray] W fun e w' => e = .returned (.tuple #[.agg (dv (nx (rootE x))).toArray, .bool (hasE x)]) ∧ Below W.heap.size W w' := by
  have h := sqrt_num (nx x) (nx_nm x) W
  have e1 : (sqR (nx x) (sq1 (nx x))).1 = nx (rootE x) := by rw [sqR_is hx]
  have e2 : (sqR (nx x) (sq1 (nx x))).2 = hasE x := by rw [sqR_is hx]
  rw [e1, e2] at h
  exact h
end Go.Proofs.Ytnakeieeopbeiaa
