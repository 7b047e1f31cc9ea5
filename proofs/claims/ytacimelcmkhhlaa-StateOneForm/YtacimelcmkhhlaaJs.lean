import Derived.Test.YtacimelcmkhhlaaJr
set_option linter.unusedVariables false
set_option linter.unusedSimpArgs false
namespace Go.Proofs.Ytacimelcmkhhlaa
open Go.RowKit

/-- Bytes that are taken are what is written of the state that they tell. -/
theorem enc_form {c : List UInt8} (h : decE c = 0) : Good (decS c) ∧ encD (decS c) = c := by
  rw [(par_is c).1] at h
  have hS : decS c = preS c := by rw [(par_is c).2, parS, if_pos h]
  rw [hS]
  unfold parE at h
  by_cases h0 : c.length = 0
  · rw [if_pos h0] at h; cases h
  rw [if_neg h0] at h
  by_cases hv : ¬ numB (cutB c 0 1) = 1
  · rw [if_neg hv] at h; cases h
  have hv := Classical.not_not.1 hv
  rw [if_pos hv] at h
  by_cases h1 : c.length < 221
  · rw [if_pos h1] at h; cases h
  rw [if_neg h1] at h
  by_cases h2 : c.length ≤ tA c
  · rw [if_pos h2] at h; cases h
  rw [if_neg h2] at h
  by_cases h3 : 1 < mkN c
  · rw [if_pos h3] at h; cases h
  rw [if_neg h3] at h
  by_cases h4 : c.length < enA c
  · rw [if_pos h4] at h; cases h
  rw [if_neg h4] at h
  by_cases h5 : enA c < c.length
  · rw [if_pos h5] at h; cases h
  rw [if_neg h5] at h
  by_cases h6 : ¬ mkN c = mkD (preS c).hl
  · rw [if_neg h6] at h; cases h
  have h6 := Classical.not_not.1 h6
  rw [if_pos h6] at h
  have hG : Good (preS c) := by
    unfold chkD at h
    split at h
    · assumption
    · cases h
  refine ⟨hG, ?_⟩
  have e0 : [1] = cutB c 0 1 := by
    rw [← one_numB (cutB_len (c := c) (a := 0) (m := 1) (by omega)), hv]
    rfl
  have eC : corD (preS c) = cutB c 1 220 := by
    show cutB c 1 16 ++ (cutB c 17 64 ++ (cutB c 81 32 ++ (cutB c 113 32 ++ (cutB c 145 32 ++ (cutB c 177 32 ++ (be32 (ownN c) ++ (be32 (trnN c) ++ be32 (numB (cutB c 217 4))))))))) = _
    unfold ownN trnN
    rw [be32_numB (cutB_len (by omega)), be32_numB (cutB_len (by omega)), be32_numB (cutB_len (by omega)), cutB_add c 213 4 4, cutB_add c 209 4 8, cutB_add c 177 32 12, cutB_add c 145 32 44, cutB_add c 113 32 76, cutB_add c 81 32 108, cutB_add c 17 64 140, cutB_add c 1 16 204]
  have hoA : oA c ≤ tA c := by unfold tA; split <;> omega
  have eS : (if 0 < (preS c).own then sndD (preS c) else []) = cutB c 221 (oA c - 221) := by
    show (if 0 < ownN c then sndD (preS c) else []) = _
    unfold oA at hoA ⊢
    by_cases ho : 0 < ownN c
    · rw [if_pos ho] at hoA
      rw [if_pos ho, if_pos ho]
      simp only [sndD, preS, if_pos ho]
      rw [be32_numB (cutB_len (by omega)), be32_numB (cutB_len (by omega)), cutB_add c 253 4 4, cutB_add c 221 32 8]
    · rw [if_neg ho, if_neg ho]
      simp [cutB]
  have eR : (if 0 < (preS c).turns then rcvD (preS c) else []) = cutB c (oA c) (tA c - oA c) := by
    show (if 0 < trnN c then rcvD (preS c) else []) = _
    unfold tA at h2 ⊢
    by_cases ht : 0 < trnN c
    · rw [if_pos ht] at h2
      rw [if_pos ht, if_pos ht]
      simp only [rcvD, preS, if_pos ht]
      rw [be32_numB (cutB_len (by omega)), cutB_add c (oA c) 32 4, Nat.add_sub_cancel_left]
    · rw [if_neg ht, if_neg ht]
      simp [cutB]
  have eM : [UInt8.ofNat (mkD (preS c).hl)] = cutB c (tA c) 1 := by
    rw [← h6]
    exact one_numB (cutB_len (by omega))
  have eH : (if (preS c).hl = Hl.z then [] else helB (preS c).hl) = cutB c (tA c + 1) (enA c - (tA c + 1)) := by
    unfold enA at h4 ⊢
    by_cases hm : mkN c = 1
    · rw [if_pos hm] at h4
      have hz : ¬ (preS c).hl = Hl.z := fun e => by
        rw [hm, mkD, if_pos e] at h6
        cases h6
      rw [if_neg hz, if_pos hm]
      have hhl : (preS c).hl = ⟨(cutB c 17 64).take 32, cutB c (tA c + 1) 32, numB (cutB c (tA c + 33) 4)⟩ := by simp only [preS, if_pos hm]
      rw [hhl]
      show cutB c (tA c + 1) 32 ++ be32 (numB (cutB c (tA c + 33) 4)) = _
      rw [be32_numB (cutB_len (by omega)), show tA c + 33 = tA c + 1 + 32 from rfl, cutB_add c (tA c + 1) 32 4, show tA c + 37 - (tA c + 1) = 32 + 4 by omega]
    · have hz : (preS c).hl = Hl.z := by simp only [preS, if_neg hm]
      rw [if_pos hz, if_neg hm]
      simp [cutB]
  have hen : tA c + 1 ≤ enA c := by unfold enA; split <;> omega
  unfold encD
  rw [eC, eS, eR, eM, eH, e0]
  have ho : 221 ≤ oA c := by unfold oA; split <;> omega
  rw [cutB_add c (tA c) 1 _]
  have x1 := cutB_add c (oA c) (tA c - oA c) (1 + (enA c - (tA c + 1)))
  rw [show oA c + (tA c - oA c) = tA c by omega] at x1
  rw [x1]
  have x2 := cutB_add c 221 (oA c - 221) (tA c - oA c + (1 + (enA c - (tA c + 1))))
  rw [show 221 + (oA c - 221) = oA c by omega] at x2
  rw [x2, cutB_add c 1 220 _, cutB_add c 0 1 _]
  unfold cutB
  rw [List.drop_zero, List.take_of_length_le (by omega)]
theorem good_z : Good Sg.z := ⟨⟨by decide, by decide⟩, by decide, by decide, .inl rfl⟩
theorem enc_z_len : (encD Sg.z).length = 222 := by
  rw [(enc_back Sg.z_ok good_z).2.2.2.2, if_pos (show Sg.z.hl = Hl.z from rfl)]
  simp [atP, sndP, rcvP, Sg.z]
set_option maxRecDepth 100000 in
set_option maxHeartbeats 4000000 in
theorem oneForm_any (vb : Value) (c : List UInt8) (w : World) (hb : Has w vb c) (hl : c.length ≤ 140737488355328) : Calls Try.prog 7 #[vb] w fun e w' => e = .returned (.bool true) ∧ Below w.heap.size w w' := by
  refine calls_of_args [vb] Try.func7 rfl 75 Try.ntmps7 (by show 1 ≤ 75; decide) ?_
  refine EW.seq ?_
  refine EW.region ?_
  first | refine WL.assign rfl rfl rfl ?_
  refine WL.done ?_
  refine EW.on ?_
  refine EW.seq ?_
  refine EW.region ?_
  refine WL.buildN [] rfl rfl rfl (bd33 _) ?_
  refine WL.call [Sg.z.v] enter12 rfl rfl rfl (encode_any Sg.z Sg.z_ok _) ?_
  rintro _ w1 ⟨vz, rfl, oz_1, l_1⟩
  rw [if_pos good_z] at oz_1
  rw [chkD, if_pos good_z]
  have hb_1 := hb.below l_1
  refine ⟨_, rfl, ?_⟩
  first | refine WL.move rfl rfl rfl ?_
  first | refine WL.extract rfl rfl rfl (ext_2 _ _ _).1 ?_
  first | refine WL.extract rfl rfl rfl (ext_2 _ _ _).2 ?_
  first | refine WL.assign rfl rfl rfl ?_
  first | refine WL.assign rfl rfl rfl ?_
  refine WL.done ?_
  refine EW.on ?_
  refine EW.seq ?_
  refine EW.seq ?_
  refine EW.region ?_
  first | refine WL.move rfl rfl rfl ?_
  refine WL.bin rfl rfl rfl rfl (int_ne_f rfl _ _ _) ?_
  first | refine WL.move rfl rfl rfl ?_
  first | refine WL.move rfl rfl rfl ?_ | refine WL.skip _ rfl rfl rfl ?_
  refine WL.len rfl rfl rfl (oz_1.has.len _ _) ?_
  refine WL.bin rfl rfl rfl rfl (int_ne_f (by rw [enc_z_len]; rfl) _ _ _) ?_
  first | refine WL.pick rfl rfl rfl rfl ?_
  refine WL.done ?_
  refine EW.on ?_
  refine EW.cond_f rfl ?_
  refine EW.skip ?_
  refine EW.on ?_
  refine EW.seq ?_
  refine EW.region ?_
  first | refine WL.move rfl rfl rfl ?_
  refine WL.call [vb] enter16 rfl rfl rfl (decode_any vb c _ hb_1 hl) ?_
  rintro _ w11 ⟨rfl, e11⟩
  refine ⟨_, rfl, ?_⟩
  have hb_11 := hb_1.below e11
  have l_11 := bt l_1 e11
  first | refine WL.move rfl rfl rfl ?_
  first | refine WL.extract rfl rfl rfl (ext_2 _ _ _).1 ?_
  first | refine WL.extract rfl rfl rfl (ext_2 _ _ _).2 ?_
  obtain ⟨q12, wa12, w12, r12, s12, bs_12, e12, hq12⟩ := putS (decS_ok c) w11
  refine WL.new rfl rfl r12 ?_
  refine WL.store rfl rfl rfl s12 ?_
  have hb_12 := hb_11.below e12
  have l_12 := bt l_11 e12
  first | refine WL.assign rfl rfl rfl ?_
  refine WL.done ?_
  refine EW.on ?_
  refine EW.seq ?_
  refine EW.seq ?_
  by_cases hE : decE c = 0
  · refine EW.region ?_
    first | refine WL.move rfl rfl rfl ?_
    refine WL.bin rfl rfl rfl rfl (int_eq_t hE _ _ _) ?_
    refine WL.done ?_
    refine EW.on ?_
    refine EW.cond_t rfl ?_
    refine EW.seq ?_
    refine EW.region ?_
    refine WL.load rfl rfl rfl (Sg.ld bs_12 (decS_ok c)) ?_
    refine WL.call [(decS c).v] enter12 rfl rfl rfl (encode_any _ (decS_ok c) _) ?_
    rintro _ w13 ⟨va, rfl, oa, e13⟩
    rw [if_pos (enc_form hE).1, (enc_form hE).2] at oa
    rw [chkD, if_pos (enc_form hE).1]
    refine ⟨_, rfl, ?_⟩
    have hb_13 := hb_12.below e13
    have l_13 := bt l_12 e13
    have bs_13 := bs_12.on e13
    first | refine WL.move rfl rfl rfl ?_
    first | refine WL.extract rfl rfl rfl (ext_2 _ _ _).1 ?_
    first | refine WL.extract rfl rfl rfl (ext_2 _ _ _).2 ?_
    first | refine WL.assign rfl rfl rfl ?_
    first | refine WL.assign rfl rfl rfl ?_
    refine WL.done ?_
    refine EW.on ?_
    refine EW.seq ?_
    refine EW.region ?_
    first | refine WL.move rfl rfl rfl ?_
    refine WL.bin rfl rfl rfl rfl (int_ne_f rfl _ _ _) ?_
    first | refine WL.move rfl rfl rfl ?_
    first | refine WL.move rfl rfl rfl ?_ | refine WL.skip _ rfl rfl rfl ?_
    first | refine WL.move rfl rfl rfl ?_ | refine WL.skip _ rfl rfl rfl ?_
    refine WL.call [va, vb] enter17 rfl rfl rfl (eq_any va vb c c _ oa.has hb_13) ?_
    rintro _ _ ⟨rfl, rfl⟩
    rw [decide_eq_true rfl]
    refine ⟨_, rfl, ?_⟩
    refine WL.un rfl rfl rfl (not_t _ _) ?_
    first | refine WL.pick rfl rfl rfl rfl ?_
    refine WL.done ?_
    refine EW.on ?_
    refine EW.cond_f rfl ?_
    refine EW.skip ?_
    refine EW.on ?_
    refine EW.seq ?_
    refine EW.region ?_
    first | refine WL.move rfl rfl rfl ?_
    refine WL.call [vb] enter15 rfl rfl rfl (decodeL_any vb c _ hb_13 hl) ?_
    rintro _ w15 ⟨rfl, e15⟩
    refine ⟨_, rfl, ?_⟩
    have hb_15 := hb_13.below e15
    have l_15 := bt l_13 e15
    have bs_15 := bs_13.on e15
    first | refine WL.move rfl rfl rfl ?_
    first | refine WL.extract rfl rfl rfl (ext_2 _ _ _).1 ?_
    first | refine WL.extract rfl rfl rfl (ext_2 _ _ _).2 ?_
    obtain ⟨q16, wa16, w16, r16, s16, bm_16, e16, hq16⟩ := putL (dLS_ok c) w15
    refine WL.new rfl rfl r16 ?_
    refine WL.store rfl rfl rfl s16 ?_
    have hb_16 := hb_15.below e16
    have l_16 := bt l_15 e16
    have bs_16 := bs_15.on e16
    first | refine WL.assign rfl rfl rfl ?_
    refine WL.done ?_
    refine EW.on ?_
    refine EW.seq ?_
    refine EW.seq ?_
    by_cases hL : dLE c = 0
    · refine EW.region ?_
      first | refine WL.move rfl rfl rfl ?_
      refine WL.bin rfl rfl rfl rfl (int_ne_f hL _ _ _) ?_
      refine WL.done ?_
      refine EW.on ?_
      refine EW.cond_f rfl ?_
      refine EW.skip ?_
      refine EW.on ?_
      refine EW.seq ?_
      refine EW.region ?_
      refine WL.load rfl rfl rfl (Lm.ld bm_16 (dLS_ok c)) ?_
      refine WL.call [(dLS c).v] enter13 rfl rfl rfl (encodeL_any _ (dLS_ok c) _) ?_
      rintro _ w17 ⟨va2, rfl, oa2, e17⟩
      rw [if_pos (dL_form hL).2.1, (dL_form hL).2.2] at oa2
      rw [chkL, if_pos (dL_form hL).2.1]
      refine ⟨_, rfl, ?_⟩
      have hb_17 := hb_16.below e17
      have l_17 := bt l_16 e17
      have bs_17 := bs_16.on e17
      have bm_17 := bm_16.on e17
      first | refine WL.move rfl rfl rfl ?_
      first | refine WL.extract rfl rfl rfl (ext_2 _ _ _).1 ?_
      first | refine WL.extract rfl rfl rfl (ext_2 _ _ _).2 ?_
      first | refine WL.assign rfl rfl rfl ?_
      first | refine WL.assign rfl rfl rfl ?_
      refine WL.done ?_
      refine EW.on ?_
      refine EW.seq ?_
      refine EW.region ?_
      first | refine WL.move rfl rfl rfl ?_
      refine WL.bin rfl rfl rfl rfl (int_eq_t rfl _ _ _) ?_
      first | refine WL.move rfl rfl rfl ?_
      first | refine WL.move rfl rfl rfl ?_ | refine WL.skip _ rfl rfl rfl ?_
      first | refine WL.move rfl rfl rfl ?_ | refine WL.skip _ rfl rfl rfl ?_
      refine WL.call [va2, vb] enter17 rfl rfl rfl (eq_any va2 vb c c _ oa2.has hb_17) ?_
      rintro _ _ ⟨rfl, rfl⟩
      rw [decide_eq_true rfl]
      refine ⟨_, rfl, ?_⟩
      first | refine WL.pick rfl rfl rfl rfl ?_
      first | refine WL.move rfl rfl rfl ?_
      first | refine WL.move rfl rfl rfl ?_ | refine WL.skip _ rfl rfl rfl ?_
      refine WL.len rfl rfl rfl (hb_17.len _ _) ?_
      refine WL.bin rfl rfl rfl rfl (int_eq_t (by rw [(dL_form hL).1]; rfl) _ _ _) ?_
      first | refine WL.pick rfl rfl rfl rfl ?_
      first | refine WL.assign rfl rfl rfl ?_
      refine WL.done ?_
      refine EW.on ?_
      refine EW.ret ?_
      exact EW.returns Try.results7 rfl ⟨rfl, l_17⟩
    · have hLz : dLS c = Lm.z := by rw [dLS, if_neg hL]
      refine EW.region ?_
      first | refine WL.move rfl rfl rfl ?_
      refine WL.bin rfl rfl rfl rfl (int_ne_t hL _ _ _) ?_
      refine WL.done ?_
      refine EW.on ?_
      refine EW.cond_t rfl ?_
      refine EW.seq ?_
      refine EW.region ?_
      refine WL.load rfl rfl rfl (Lm.ld bm_16 (dLS_ok c)) ?_
      refine WL.buildN [] rfl rfl rfl (bd43 _) ?_
      refine WL.bin rfl rfl rfl rfl ((eql43 _ _ _ _ _).trans (by rw [decide_eq_true hLz])) ?_
      first | refine WL.assign rfl rfl rfl ?_
      refine WL.done ?_
      refine EW.on ?_
      refine EW.ret ?_
      refine pr_then ?_
      exact EW.returns Try.results7 rfl ⟨rfl, l_16⟩
  · have hSz : decS c = Sg.z := by rw [decS, if_neg hE]
    refine EW.region ?_
    first | refine WL.move rfl rfl rfl ?_
    refine WL.bin rfl rfl rfl rfl (int_eq_f hE _ _ _) ?_
    refine WL.done ?_
    refine EW.on ?_
    refine EW.cond_f rfl ?_
    refine EW.seq ?_
    refine EW.region ?_
    refine WL.load rfl rfl rfl (Sg.ld bs_12 (decS_ok c)) ?_
    refine WL.buildN [] rfl rfl rfl (bd33 _) ?_
    refine WL.bin rfl rfl rfl rfl ((neq33 _ _ (decS_ok c) Sg.z_ok _ _ _).trans (by rw [decide_eq_false (fun h => h hSz)])) ?_
    refine WL.done ?_
    refine EW.on ?_
    refine EW.cond_f rfl ?_
    refine EW.skip ?_
    refine EW.on ?_
    refine EW.seq ?_
    refine EW.region ?_
    first | refine WL.move rfl rfl rfl ?_
    refine WL.call [vb] enter15 rfl rfl rfl (decodeL_any vb c _ hb_12 hl) ?_
    rintro _ w13 ⟨rfl, e13⟩
    refine ⟨_, rfl, ?_⟩
    have hb_13 := hb_12.below e13
    have l_13 := bt l_12 e13
    have bs_13 := bs_12.on e13
    first | refine WL.move rfl rfl rfl ?_
    first | refine WL.extract rfl rfl rfl (ext_2 _ _ _).1 ?_
    first | refine WL.extract rfl rfl rfl (ext_2 _ _ _).2 ?_
    obtain ⟨q14, wa14, w14, r14, s14, bm_14, e14, hq14⟩ := putL (dLS_ok c) w13
    refine WL.new rfl rfl r14 ?_
    refine WL.store rfl rfl rfl s14 ?_
    have hb_14 := hb_13.below e14
    have l_14 := bt l_13 e14
    have bs_14 := bs_13.on e14
    first | refine WL.assign rfl rfl rfl ?_
    refine WL.done ?_
    refine EW.on ?_
    refine EW.seq ?_
    refine EW.seq ?_
    by_cases hL : dLE c = 0
    · refine EW.region ?_
      first | refine WL.move rfl rfl rfl ?_
      refine WL.bin rfl rfl rfl rfl (int_ne_f hL _ _ _) ?_
      refine WL.done ?_
      refine EW.on ?_
      refine EW.cond_f rfl ?_
      refine EW.skip ?_
      refine EW.on ?_
      refine EW.seq ?_
      refine EW.region ?_
      refine WL.load rfl rfl rfl (Lm.ld bm_14 (dLS_ok c)) ?_
      refine WL.call [(dLS c).v] enter13 rfl rfl rfl (encodeL_any _ (dLS_ok c) _) ?_
      rintro _ w15 ⟨va2, rfl, oa2, e15⟩
      rw [if_pos (dL_form hL).2.1, (dL_form hL).2.2] at oa2
      rw [chkL, if_pos (dL_form hL).2.1]
      refine ⟨_, rfl, ?_⟩
      have hb_15 := hb_14.below e15
      have l_15 := bt l_14 e15
      have bs_15 := bs_14.on e15
      have bm_15 := bm_14.on e15
      first | refine WL.move rfl rfl rfl ?_
      first | refine WL.extract rfl rfl rfl (ext_2 _ _ _).1 ?_
      first | refine WL.extract rfl rfl rfl (ext_2 _ _ _).2 ?_
      first | refine WL.assign rfl rfl rfl ?_
      first | refine WL.assign rfl rfl rfl ?_
      refine WL.done ?_
      refine EW.on ?_
      refine EW.seq ?_
      refine EW.region ?_
      first | refine WL.move rfl rfl rfl ?_
      refine WL.bin rfl rfl rfl rfl (int_eq_t rfl _ _ _) ?_
      first | refine WL.move rfl rfl rfl ?_
      first | refine WL.move rfl rfl rfl ?_ | refine WL.skip _ rfl rfl rfl ?_
      first | refine WL.move rfl rfl rfl ?_ | refine WL.skip _ rfl rfl rfl ?_
      refine WL.call [va2, vb] enter17 rfl rfl rfl (eq_any va2 vb c c _ oa2.has hb_15) ?_
      rintro _ _ ⟨rfl, rfl⟩
      rw [decide_eq_true rfl]
      refine ⟨_, rfl, ?_⟩
      first | refine WL.pick rfl rfl rfl rfl ?_
      first | refine WL.move rfl rfl rfl ?_
      first | refine WL.move rfl rfl rfl ?_ | refine WL.skip _ rfl rfl rfl ?_
      refine WL.len rfl rfl rfl (hb_15.len _ _) ?_
      refine WL.bin rfl rfl rfl rfl (int_eq_t (by rw [(dL_form hL).1]; rfl) _ _ _) ?_
      first | refine WL.pick rfl rfl rfl rfl ?_
      first | refine WL.assign rfl rfl rfl ?_
      refine WL.done ?_
      refine EW.on ?_
      refine EW.ret ?_
      exact EW.returns Try.results7 rfl ⟨rfl, l_15⟩
    · have hLz : dLS c = Lm.z := by rw [dLS, if_neg hL]
      refine EW.region ?_
      first | refine WL.move rfl rfl rfl ?_
      refine WL.bin rfl rfl rfl rfl (int_ne_t hL _ _ _) ?_
      refine WL.done ?_
      refine EW.on ?_
      refine EW.cond_t rfl ?_
      refine EW.seq ?_
      refine EW.region ?_
      refine WL.load rfl rfl rfl (Lm.ld bm_14 (dLS_ok c)) ?_
      refine WL.buildN [] rfl rfl rfl (bd43 _) ?_
      refine WL.bin rfl rfl rfl rfl ((eql43 _ _ _ _ _).trans (by rw [decide_eq_true hLz])) ?_
      first | refine WL.assign rfl rfl rfl ?_
      refine WL.done ?_
      refine EW.on ?_
      refine EW.ret ?_
      refine pr_then ?_
      exact EW.returns Try.results7 rfl ⟨rfl, l_14⟩
end Go.Proofs.Ytacimelcmkhhlaa
