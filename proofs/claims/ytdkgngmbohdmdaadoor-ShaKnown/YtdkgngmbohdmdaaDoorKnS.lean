import Derived.Test.YtdkgngmbohdmdaaDoorKnT
namespace Go.Proofs.YtdkgngmbohdmdaaDoor
open Go.RowKit

theorem one_block (m : List UInt8) (hm : m.length = 64) (ks l : List Nat) (hk : (List.range' 0 64).map (kx (sched m)) = ks) (hl : nxtN ks (iv.map BitVec.toNat) = l) : stt m = l.map (BitVec.ofNat 32) := by
  have hb : blk m 0 = m := by
    unfold blk
    rw [Nat.mul_zero, List.drop_zero, List.take_of_length_le (by omega)]
  have hs : stt m = comp iv m := by
    unfold stt
    rw [hm]
    show comp iv (blk m 0) = _
    rw [hb]
  rw [hs]
  exact back _ _ ((comp_nat iv iv_length m ks hk).trans hl)

theorem sumZ : sumOf [] = dgZ := by
  unfold sumOf
  rw [show ([] ++ padOf ([] : List UInt8).length) = padOf 0 from rfl, one_block (padOf 0) (by rw [padOf_length]) ksZ _ ksZ_eq ((congrArg (nxtN ksZ) ivN).trans endZ)]
  exact digZ
theorem sumC : sumOf [97, 98, 99] = dgC := by
  unfold sumOf
  rw [show ([97, 98, 99] ++ padOf ([97, 98, 99] : List UInt8).length) = 97 :: 98 :: 99 :: padOf 3 from rfl, one_block (97 :: 98 :: 99 :: padOf 3) (by rw [List.length_cons, List.length_cons, List.length_cons, padOf_length]) ksC _ ksC_eq ((congrArg (nxtN ksC) ivN).trans endC)]
  exact digC

/-- So many letters a. -/
def mil (k : Nat) : List UInt8 := List.replicate k 97
theorem mil_length (k : Nat) : (mil k).length = k := by unfold mil; exact List.length_replicate ..
theorem mil_append (a b : Nat) : mil a ++ mil b = mil (a + b) := by unfold mil; exact List.replicate_append_replicate ..

theorem mil_blk (q j : Nat) (P : List UInt8) (hj : j < q) : blk (mil (64 * q) ++ P) j = blkA := by
  unfold blk mil blkA
  rw [List.drop_append_of_le_length (by rw [List.length_replicate]; omega), List.drop_replicate, List.take_append_of_le_length (by rw [List.length_replicate]; omega), List.take_replicate, Nat.min_eq_left (by omega)]
theorem mil_st (q : Nat) (P : List UInt8) : ∀ k, k ≤ q → stN (mil (64 * q) ++ P) k = cIter blkA k iv
  | 0, _ => rfl
  | k + 1, h => by rw [stN, mil_st q P k (by omega), mil_blk q k P (by omega), cIter_succ]
theorem mil_all (q : Nat) (P : List UInt8) (hP : P.length = 64) : stt (mil (64 * q) ++ P) = comp (cIter blkA q iv) P := by
  unfold stt
  rw [List.length_append, mil_length, hP, show (64 * q + 64) / 64 = q + 1 by omega, stN, mil_st q P q (Nat.le_refl _)]
  congr 1
  unfold blk
  rw [List.drop_append_of_le_length (by rw [mil_length]; exact Nat.le_refl _), show (mil (64 * q)).drop (64 * q) = [] from List.drop_of_length_le (by rw [mil_length]; exact Nat.le_refl _), List.nil_append, List.take_of_length_le (by omega)]

theorem sumM : sumOf (mil 1000000) = dgM := by
  unfold sumOf
  rw [mil_length]
  have hl : (padOf 1000000).length = 64 := by rw [padOf_length]
  have h := mil_all 15625 (padOf 1000000) hl
  rw [show 64 * 15625 = 1000000 from rfl] at h
  rw [h]
  have h1 := cIter_nat blkA ksA ksA_eq 15625 iv rfl
  rw [ivN, to15625] at h1
  have h2 := comp_nat (cIter blkA 15625 iv) (cIter_length blkA 15625 iv rfl) (padOf 1000000) ksM ksM_eq
  rw [h1, endM] at h2
  rw [back _ _ h2]
  exact digM
end Go.Proofs.YtdkgngmbohdmdaaDoor
