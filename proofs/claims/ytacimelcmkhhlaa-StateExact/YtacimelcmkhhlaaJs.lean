import Derived.Test.YtacimelcmkhhlaaJr
set_option linter.unusedVariables false
set_option linter.unusedSimpArgs false
namespace Go.Proofs.Ytacimelcmkhhlaa
open Go.RowKit

/-- Bytes that are taken are what is written of the state that they tell. -/
theorem enc_form {c : List UInt8} (h : decE c = 0) : Good (decS c) ∧ encD (decS c) = c := by
  rw [(par_is c).1] at h
  have hS : decS c = preS c := by rw [(par_is c).2, parS, if_pos h]
  rw [hS]
  unfold parE at h
  by_cases h0 : c.length = 0
  · rw [if_pos h0] at h; cases h
  rw [if_neg h0] at h
  by_cases hv : ¬ numB (cutB c 0 1) = 1
  · rw [if_neg hv] at h; cases h
  have hv := Classical.not_not.1 hv
  rw [if_pos hv] at h
  by_cases h1 : c.length < 221
  · rw [if_pos h1] at h; cases h
  rw [if_neg h1] at h
  by_cases h2 : c.length ≤ tA c
  · rw [if_pos h2] at h; cases h
  rw [if_neg h2] at h
  by_cases h3 : 1 < mkN c
  · rw [if_pos h3] at h; cases h
  rw [if_neg h3] at h
  by_cases h4 : c.length < enA c
  · rw [if_pos h4] at h; cases h
  rw [if_neg h4] at h
  by_cases h5 : enA c < c.length
  · rw [if_pos h5] at h; cases h
  rw [if_neg h5] at h
  by_cases h6 : ¬ mkN c = mkD (preS c).hl
  · rw [if_neg h6] at h; cases h
  have h6 := Classical.not_not.1 h6
  rw [if_pos h6] at h
  have hG : Good (preS c) := by
    unfold chkD at h
    split at h
    · assumption
    · cases h
  refine ⟨hG, ?_⟩
  have e0 : [1] = cutB c 0 1 := by
    rw [← one_numB (cutB_len (c := c) (a := 0) (m := 1) (by omega)), hv]
    rfl
  have eC : corD (preS c) = cutB c 1 220 := by
    show cutB c 1 16 ++ (cutB c 17 64 ++ (cutB c 81 32 ++ (cutB c 113 32 ++ (cutB c 145 32 ++ (cutB c 177 32 ++ (be32 (ownN c) ++ (be32 (trnN c) ++ be32 (numB (cutB c 217 4))))))))) = _
    unfold ownN trnN
    rw [be32_numB (cutB_len (by omega)), be32_numB (cutB_len (by omega)), be32_numB (cutB_len (by omega)), cutB_add c 213 4 4, cutB_add c 209 4 8, cutB_add c 177 32 12, cutB_add c 145 32 44, cutB_add c 113 32 76, cutB_add c 81 32 108, cutB_add c 17 64 140, cutB_add c 1 16 204]
  have hoA : oA c ≤ tA c := by unfold tA; split <;> omega
  have eS : (if 0 < (preS c).own then sndD (preS c) else []) = cutB c 221 (oA c - 221) := by
    show (if 0 < ownN c then sndD (preS c) else []) = _
    unfold oA at hoA ⊢
    by_cases ho : 0 < ownN c
    · rw [if_pos ho] at hoA
      rw [if_pos ho, if_pos ho]
      simp only [sndD, preS, if_pos ho]
      rw [be32_numB (cutB_len (by omega)), be32_numB (cutB_len (by omega)), cutB_add c 253 4 4, cutB_add c 221 32 8]
    · rw [if_neg ho, if_neg ho]
      simp [cutB]
  have eR : (if 0 < (preS c).turns then rcvD (preS c) else []) = cutB c (oA c) (tA c - oA c) := by
    show (if 0 < trnN c then rcvD (preS c) else []) = _
    unfold tA at h2 ⊢
    by_cases ht : 0 < trnN c
    · rw [if_pos ht] at h2
      rw [if_pos ht, if_pos ht]
      simp only [rcvD, preS, if_pos ht]
      rw [be32_numB (cutB_len (by omega)), cutB_add c (oA c) 32 4, Nat.add_sub_cancel_left]
    · rw [if_neg ht, if_neg ht]
      simp [cutB]
  have eM : [UInt8.ofNat (mkD (preS c).hl)] = cutB c (tA c) 1 := by
    rw [← h6]
    exact one_numB (cutB_len (by omega))
  have eH : (if (preS c).hl = Hl.z then [] else helB (preS c).hl) = cutB c (tA c + 1) (enA c - (tA c + 1)) := by
    unfold enA at h4 ⊢
    by_cases hm : mkN c = 1
    · rw [if_pos hm] at h4
      have hz : ¬ (preS c).hl = Hl.z := fun e => by
        rw [hm, mkD, if_pos e] at h6
        cases h6
      rw [if_neg hz, if_pos hm]
      have hhl : (preS c).hl = ⟨(cutB c 17 64).take 32, cutB c (tA c + 1) 32, numB (cutB c (tA c + 33) 4)⟩ := by simp only [preS, if_pos hm]
      rw [hhl]
      show cutB c (tA c + 1) 32 ++ be32 (numB (cutB c (tA c + 33) 4)) = _
      rw [be32_numB (cutB_len (by omega)), show tA c + 33 = tA c + 1 + 32 from rfl, cutB_add c (tA c + 1) 32 4, show tA c + 37 - (tA c + 1) = 32 + 4 by omega]
    · have hz : (preS c).hl = Hl.z := by simp only [preS, if_neg hm]
      rw [if_pos hz, if_neg hm]
      simp [cutB]
  have hen : tA c + 1 ≤ enA c := by unfold enA; split <;> omega
  unfold encD
  rw [eC, eS, eR, eM, eH, e0]
  have ho : 221 ≤ oA c := by unfold oA; split <;> omega
  rw [cutB_add c (tA c) 1 _]
  have x1 := cutB_add c (oA c) (tA c - oA c) (1 + (enA c - (tA c + 1)))
  rw [show oA c + (tA c - oA c) = tA c by omega] at x1
  rw [x1]
  have x2 := cutB_add c 221 (oA c - 221) (tA c - oA c + (1 + (enA c - (tA c + 1))))
  rw [show 221 + (oA c - 221) = oA c by omega] at x2
  rw [x2, cutB_add c 1 220 _, cutB_add c 0 1 _]
  unfold cutB
  rw [List.drop_zero, List.take_of_length_le (by omega)]
theorem good_z : Good Sg.z := ⟨⟨by decide, by decide⟩, by decide, by decide, .inl rfl⟩
theorem enc_z_len : (encD Sg.z).length = 222 := by
  rw [(enc_back Sg.z_ok good_z).2.2.2.2, if_pos (show Sg.z.hl = Hl.z from rfl)]
  simp [atP, sndP, rcvP, Sg.z]
end Go.Proofs.Ytacimelcmkhhlaa
