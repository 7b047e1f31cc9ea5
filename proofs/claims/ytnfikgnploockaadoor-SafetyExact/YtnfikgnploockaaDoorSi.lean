import Derived.Test.YtnfikgnploockaaDoorSh
set_option linter.unusedVariables false
set_option linter.unusedSimpArgs false
namespace Go.Proofs.YtnfikgnploockaaDoor
open Go.RowKit

def z60 : List UInt8 := [48, 48, 48, 48, 48, 48, 48, 48, 48, 48, 48, 48, 48, 48, 48, 48, 48, 48, 48, 48, 48, 48, 48, 48, 48, 48, 48, 48, 48, 48, 48, 48, 48, 48, 48, 48, 48, 48, 48, 48, 48, 48, 48, 48, 48, 48, 48, 48, 48, 48, 48, 48, 48, 48, 48, 48, 48, 48, 48, 48]
theorem z60_rd : rd z60 = z60 ∧ rdE z60 = 0 := by
  have h : rdOk z60 := by decide
  have e : dgt z60 = z60 := by decide
  rw [(rd_yes h).1, (rd_yes h).2, e]; exact ⟨rfl, rfl⟩
theorem one_rd : rdE [48] = 250 := (rd_no (by decide)).2
theorem str_eq_t {a b : List UInt8} (h : a = b) (W : World) (x y : Operand) : (do eqGuard .eql 9 x y (sv a) (sv b); binOp .eql 9 (sv a) (sv b) : Sem Value).run Tryd.prog W = .ok (.bool true) W := by rw [str_eq_d, decide_eq_true h]
theorem str_ne_f {a b : List UInt8} (h : a = b) (W : World) (x y : Operand) : (do eqGuard .neq 9 x y (sv a) (sv b); binOp .neq 9 (sv a) (sv b) : Sem Value).run Tryd.prog W = .ok (.bool false) W := by rw [str_ne_d, decide_eq_false (by simpa using h)]
theorem mtE_z (a b : List UInt8) : mtE z60 a b = bhE a b := by unfold mtE; rw [if_pos z60_rd.2]
theorem mtE_1 (a b : List UInt8) : mtE [48] a b = 250 := by unfold mtE; rw [one_rd]; rfl
theorem mtD_no {t a ka b kb : List UInt8} (h : ¬ mtE t a b = 0) : mtD t a ka b kb = false := by unfold mtD; rw [if_neg h]
theorem numD_no {a b : List UInt8} (ka kb : List UInt8) (h : ¬ bhE a b = 0) : numD a ka b kb = [] := by unfold numD; rw [if_neg h]
theorem numD_len {a b : List UInt8} (ka kb : List UInt8) (h : bhE a b = 0) : (numD a ka b kb).length = 71 := by unfold numD; rw [if_pos h, nG_len (bhD_len ka kb h) 12 (Nat.le_refl _)]
theorem mey : bhE [109, 101] [121, 111, 117] = 0 := by decide
set_option maxRecDepth 100000 in
set_option maxHeartbeats 4000000 in
theorem names_any (a b K : List UInt8) (hK : K.length = 32) (w : World) (hL : Lst w) : Calls Tryd.prog 4 #[sv a, sv b, kv K] w fun e w' => e = .returned (.bool true) ∧ Below w.heap.size w w' := by
  obtain ⟨w1, q, r1, b1, l1, hq⟩ := box23 K w
  rcases (show nmE a = 0 ∨ ¬ nmE a = 0 by omega) with hA | hA
  · obtain ⟨E, hE, hE'⟩ : ∃ E, bhE a b = E ∧ nmE b = E := ⟨_, by unfold bhE; rw [if_pos hA], rfl⟩
    rcases (show E = 0 ∨ ¬ E = 0 by omega) with hE0 | hE0
    · have hW0 : nmE b = 0 := hE'.trans hE0
      refine calls_of_args [sv a, sv b, kv K] Tryd.func4 rfl 96 Tryd.ntmps4 (by show 3 ≤ 96; decide) ?_
      refine EW.seq ?_
      refine EW.region ?_
      refine WL.box rfl rfl rfl r1 ?_
      first | refine WL.assign rfl rfl rfl ?_
      refine WL.done ?_
      refine EW.on ?_
      refine EW.seq ?_
      refine EW.region ?_
      first | refine WL.move rfl rfl rfl ?_
      refine WL.call [sv a] enter11 rfl rfl rfl (code_any a w1) ?_
      rintro _ wz ⟨rfl, hz⟩
      rw [hz]
      clear hz wz
      refine ⟨_, rfl, ?_⟩
      first | refine WL.assign rfl rfl rfl ?_
      refine WL.done ?_
      refine EW.on ?_
      refine EW.seq ?_
      refine EW.region ?_
      first | refine WL.move rfl rfl rfl ?_
      refine WL.load rfl rfl rfl (ld23 b1 hK) ?_
      refine WL.call [sv a, kv K] enter10 rfl rfl rfl (half_any a K hK w1 (hL.on l1)) ?_
      rintro _ w2 ⟨rfl, l2⟩
      refine ⟨_, rfl, ?_⟩
      have b2 := b1.on l2
      have L2 := (hL.on l1).on l2
      first | refine WL.move rfl rfl rfl ?_
      first | refine WL.extract rfl rfl rfl (ext_2 _ _ _).1 ?_
      first | refine WL.extract rfl rfl rfl (ext_2 _ _ _).2 ?_
      first | refine WL.assign rfl rfl rfl ?_
      first | refine WL.assign rfl rfl rfl ?_
      refine WL.done ?_
      refine EW.on ?_
      refine EW.seq ?_
      refine EW.seq ?_
      refine EW.region ?_
      first | refine WL.move rfl rfl rfl ?_
      first | refine WL.move rfl rfl rfl ?_
      refine WL.bin rfl rfl rfl rfl (int_ne_f rfl _ _ _) ?_
      refine WL.done ?_
      refine EW.on ?_
      refine EW.cond_f rfl ?_
      refine EW.skip ?_
      refine EW.on ?_
      refine EW.seq ?_
      refine EW.seq ?_
      refine EW.region ?_
      first | refine WL.move rfl rfl rfl ?_
      first | refine WL.bin rfl rfl rfl rfl (int_eq_t hA _ _ _) ?_ | refine WL.bin rfl rfl rfl rfl (int_eq_f hA _ _ _) ?_
      refine WL.done ?_
      refine EW.on ?_
      refine EW.cond_t rfl ?_
      refine EW.region ?_
      first | refine WL.move rfl rfl rfl ?_
      refine WL.call [sv b] enter11 rfl rfl rfl (code_any b w2) ?_
      rintro _ wz ⟨rfl, hz⟩
      rw [hz]
      clear hz wz
      refine ⟨_, rfl, ?_⟩
      first | refine WL.assign rfl rfl rfl ?_
      refine WL.done ?_
      refine EW.on ?_
      refine EW.seq ?_
      refine EW.region ?_
      first | refine WL.move rfl rfl rfl ?_
      refine WL.load rfl rfl rfl (ld23 b2 hK) ?_
      first | refine WL.move rfl rfl rfl ?_
      refine WL.load rfl rfl rfl (ld23 b2 hK) ?_
      refine WL.call [sv a, kv K, sv b, kv K] enter12 rfl rfl rfl (number_any a K b K hK hK w2 L2) ?_
      rintro _ w3 ⟨rfl, l3⟩
      rw [hE]
      refine ⟨_, rfl, ?_⟩
      have b3 := b2.on l3
      have L3 := L2.on l3
      first | refine WL.move rfl rfl rfl ?_
      first | refine WL.extract rfl rfl rfl (ext_2 _ _ _).1 ?_
      first | refine WL.extract rfl rfl rfl (ext_2 _ _ _).2 ?_
      first | refine WL.assign rfl rfl rfl ?_
      first | refine WL.assign rfl rfl rfl ?_
      refine WL.done ?_
      refine EW.on ?_
      refine EW.seq ?_
      refine EW.region ?_
      first | refine WL.move rfl rfl rfl ?_
      refine WL.load rfl rfl rfl (ld23 b3 hK) ?_
      first | refine WL.move rfl rfl rfl ?_
      refine WL.load rfl rfl rfl (ld23 b3 hK) ?_
      refine WL.call [sv z60, sv a, kv K, sv b, kv K] enter13 rfl rfl rfl (match_any z60 a K b K hK hK w3 L3) ?_
      rintro _ w4 ⟨rfl, l4⟩
      rw [mtE_z, hE]
      refine ⟨_, rfl, ?_⟩
      have b4 := b3.on l4
      have L4 := L3.on l4
      first | refine WL.move rfl rfl rfl ?_
      first | refine WL.extract rfl rfl rfl (ext_2 _ _ _).1 ?_
      first | refine WL.extract rfl rfl rfl (ext_2 _ _ _).2 ?_
      first | refine WL.assign rfl rfl rfl ?_
      first | refine WL.assign rfl rfl rfl ?_
      refine WL.done ?_
      refine EW.on ?_
      refine EW.seq ?_
      refine EW.region ?_
      first | refine WL.move rfl rfl rfl ?_
      refine WL.load rfl rfl rfl (ld23 b4 hK) ?_
      first | refine WL.move rfl rfl rfl ?_
      refine WL.load rfl rfl rfl (ld23 b4 hK) ?_
      refine WL.call [sv [48], sv a, kv K, sv b, kv K] enter13 rfl rfl rfl (match_any [48] a K b K hK hK w4 L4) ?_
      rintro _ w5 ⟨rfl, l5⟩
      rw [mtE_1]
      refine ⟨_, rfl, ?_⟩
      have b5 := b4.on l5
      have L5 := L4.on l5
      first | refine WL.move rfl rfl rfl ?_
      first | refine WL.extract rfl rfl rfl (ext_2 _ _ _).1 ?_
      first | refine WL.extract rfl rfl rfl (ext_2 _ _ _).2 ?_
      first | refine WL.assign rfl rfl rfl ?_
      first | refine WL.assign rfl rfl rfl ?_
      refine WL.done ?_
      refine EW.on ?_
      refine EW.seq ?_
      refine EW.region ?_
      refine WL.load rfl rfl rfl (ld23 b5 hK) ?_
      refine WL.load rfl rfl rfl (ld23 b5 hK) ?_
      refine WL.call [sv [109, 101], kv K, sv [121, 111, 117], kv K] enter12 rfl rfl rfl (number_any _ K _ K hK hK w5 L5) ?_
      rintro _ w6 ⟨rfl, l6⟩
      rw [mey]
      refine ⟨_, rfl, ?_⟩
      first | refine WL.move rfl rfl rfl ?_
      first | refine WL.extract rfl rfl rfl (ext_2 _ _ _).1 ?_
      first | refine WL.extract rfl rfl rfl (ext_2 _ _ _).2 ?_
      first | refine WL.assign rfl rfl rfl ?_
      first | refine WL.assign rfl rfl rfl ?_
      refine WL.done ?_
      refine EW.on ?_
      refine EW.seq ?_
      refine EW.region ?_
      first | refine WL.move rfl rfl rfl ?_
      first | refine WL.move rfl rfl rfl ?_
      first | refine WL.bin rfl rfl rfl rfl (int_eq_t rfl _ _ _) ?_ | refine WL.bin rfl rfl rfl rfl (int_eq_t hE'.symm _ _ _) ?_ | refine WL.bin rfl rfl rfl rfl (int_eq_t hW0 _ _ _) ?_ | refine WL.bin rfl rfl rfl rfl (int_eq_f hW0 _ _ _) ?_
      first | refine WL.move rfl rfl rfl ?_
      first | refine WL.move rfl rfl rfl ?_ | refine WL.skip _ rfl rfl rfl ?_
      first | refine WL.move rfl rfl rfl ?_ | refine WL.skip _ rfl rfl rfl ?_
      first | refine WL.bin rfl rfl rfl rfl (int_eq_t rfl _ _ _) ?_ | refine WL.bin rfl rfl rfl rfl (int_eq_t hE'.symm _ _ _) ?_ | refine WL.bin rfl rfl rfl rfl (int_eq_t hW0 _ _ _) ?_ | refine WL.bin rfl rfl rfl rfl (int_eq_f hW0 _ _ _) ?_ | refine WL.skip _ rfl rfl rfl ?_
      first | refine WL.pick rfl rfl rfl rfl ?_
      first | refine WL.move rfl rfl rfl ?_
      first | refine WL.move rfl rfl rfl ?_ | refine WL.skip _ rfl rfl rfl ?_
      first | refine WL.bin rfl rfl rfl rfl (int_eq_t rfl _ _ _) ?_ | refine WL.bin rfl rfl rfl rfl (int_eq_t hE'.symm _ _ _) ?_ | refine WL.bin rfl rfl rfl rfl (int_eq_t hW0 _ _ _) ?_ | refine WL.bin rfl rfl rfl rfl (int_eq_f hW0 _ _ _) ?_ | refine WL.skip _ rfl rfl rfl ?_
      first | refine WL.move rfl rfl rfl ?_ | refine WL.skip _ rfl rfl rfl ?_
      first | refine WL.move rfl rfl rfl ?_ | refine WL.skip _ rfl rfl rfl ?_
      first | refine WL.bin rfl rfl rfl rfl (str_eq_t (numD_no K K hN) _ _ _) ?_ | refine WL.skip _ rfl rfl rfl ?_
      first | refine WL.move rfl rfl rfl ?_ | refine WL.skip _ rfl rfl rfl ?_
      first | refine WL.move rfl rfl rfl ?_ | refine WL.skip _ rfl rfl rfl ?_
      first | (refine WL.un rfl rfl rfl (not_t _ _) ?_; rw [mtD_no (by rw [mtE_z]; exact hN)]) | refine WL.skip _ rfl rfl rfl ?_
      first | refine WL.pick rfl rfl rfl rfl ?_ | refine WL.skip _ rfl rfl rfl ?_
      first | refine WL.pick rfl rfl rfl rfl ?_ | refine WL.skip _ rfl rfl rfl ?_
      first | refine WL.pick rfl rfl rfl rfl ?_
      first | refine WL.move rfl rfl rfl ?_
      first | refine WL.move rfl rfl rfl ?_ | refine WL.skip _ rfl rfl rfl ?_
      first | refine WL.bin rfl rfl rfl rfl (int_eq_t rfl _ _ _) ?_ | refine WL.bin rfl rfl rfl rfl (int_eq_t hE'.symm _ _ _) ?_ | refine WL.bin rfl rfl rfl rfl (int_eq_t hW0 _ _ _) ?_ | refine WL.bin rfl rfl rfl rfl (int_eq_f hW0 _ _ _) ?_ | refine WL.skip _ rfl rfl rfl ?_
      first | refine WL.pick rfl rfl rfl rfl ?_
      first | refine WL.move rfl rfl rfl ?_
      first | refine WL.move rfl rfl rfl ?_ | refine WL.skip _ rfl rfl rfl ?_
      first | refine WL.bin rfl rfl rfl rfl (int_eq_t rfl _ _ _) ?_ | refine WL.bin rfl rfl rfl rfl (int_eq_t hE'.symm _ _ _) ?_ | refine WL.bin rfl rfl rfl rfl (int_eq_t hW0 _ _ _) ?_ | refine WL.bin rfl rfl rfl rfl (int_eq_f hW0 _ _ _) ?_ | refine WL.skip _ rfl rfl rfl ?_
      first | refine WL.pick rfl rfl rfl rfl ?_
      first | refine WL.move rfl rfl rfl ?_
      first | refine WL.move rfl rfl rfl ?_ | refine WL.skip _ rfl rfl rfl ?_
      first | refine WL.len rfl rfl rfl (len_s _ _ _) ?_ | refine WL.skip _ rfl rfl rfl ?_
      refine WL.bin rfl rfl rfl rfl (int_eq_t (a := ((numD [109, 101] K [121, 111, 117] K).length : Int)) (b := 71) (by rw [numD_len K K mey]; rfl) _ _ _) ?_
      first | refine WL.pick rfl rfl rfl rfl ?_
      first | refine WL.assign rfl rfl rfl ?_
      refine WL.done ?_
      refine EW.on ?_
      refine EW.ret ?_
      exact EW.returns Tryd.results4 rfl ⟨rfl, bt (bt (bt (bt (bt l1 l2) l3) l4) l5) l6⟩
    · have hN : ¬ bhE a b = 0 := by rw [hE]; exact hE0
      have hW0 : ¬ nmE b = 0 := by rw [hE']; exact hE0
      refine calls_of_args [sv a, sv b, kv K] Tryd.func4 rfl 96 Tryd.ntmps4 (by show 3 ≤ 96; decide) ?_
      refine EW.seq ?_
      refine EW.region ?_
      refine WL.box rfl rfl rfl r1 ?_
      first | refine WL.assign rfl rfl rfl ?_
      refine WL.done ?_
      refine EW.on ?_
      refine EW.seq ?_
      refine EW.region ?_
      first | refine WL.move rfl rfl rfl ?_
      refine WL.call [sv a] enter11 rfl rfl rfl (code_any a w1) ?_
      rintro _ wz ⟨rfl, hz⟩
      rw [hz]
      clear hz wz
      refine ⟨_, rfl, ?_⟩
      first | refine WL.assign rfl rfl rfl ?_
      refine WL.done ?_
      refine EW.on ?_
      refine EW.seq ?_
      refine EW.region ?_
      first | refine WL.move rfl rfl rfl ?_
      refine WL.load rfl rfl rfl (ld23 b1 hK) ?_
      refine WL.call [sv a, kv K] enter10 rfl rfl rfl (half_any a K hK w1 (hL.on l1)) ?_
      rintro _ w2 ⟨rfl, l2⟩
      refine ⟨_, rfl, ?_⟩
      have b2 := b1.on l2
      have L2 := (hL.on l1).on l2
      first | refine WL.move rfl rfl rfl ?_
      first | refine WL.extract rfl rfl rfl (ext_2 _ _ _).1 ?_
      first | refine WL.extract rfl rfl rfl (ext_2 _ _ _).2 ?_
      first | refine WL.assign rfl rfl rfl ?_
      first | refine WL.assign rfl rfl rfl ?_
      refine WL.done ?_
      refine EW.on ?_
      refine EW.seq ?_
      refine EW.seq ?_
      refine EW.region ?_
      first | refine WL.move rfl rfl rfl ?_
      first | refine WL.move rfl rfl rfl ?_
      refine WL.bin rfl rfl rfl rfl (int_ne_f rfl _ _ _) ?_
      refine WL.done ?_
      refine EW.on ?_
      refine EW.cond_f rfl ?_
      refine EW.skip ?_
      refine EW.on ?_
      refine EW.seq ?_
      refine EW.seq ?_
      refine EW.region ?_
      first | refine WL.move rfl rfl rfl ?_
      first | refine WL.bin rfl rfl rfl rfl (int_eq_t hA _ _ _) ?_ | refine WL.bin rfl rfl rfl rfl (int_eq_f hA _ _ _) ?_
      refine WL.done ?_
      refine EW.on ?_
      refine EW.cond_t rfl ?_
      refine EW.region ?_
      first | refine WL.move rfl rfl rfl ?_
      refine WL.call [sv b] enter11 rfl rfl rfl (code_any b w2) ?_
      rintro _ wz ⟨rfl, hz⟩
      rw [hz]
      clear hz wz
      refine ⟨_, rfl, ?_⟩
      first | refine WL.assign rfl rfl rfl ?_
      refine WL.done ?_
      refine EW.on ?_
      refine EW.seq ?_
      refine EW.region ?_
      first | refine WL.move rfl rfl rfl ?_
      refine WL.load rfl rfl rfl (ld23 b2 hK) ?_
      first | refine WL.move rfl rfl rfl ?_
      refine WL.load rfl rfl rfl (ld23 b2 hK) ?_
      refine WL.call [sv a, kv K, sv b, kv K] enter12 rfl rfl rfl (number_any a K b K hK hK w2 L2) ?_
      rintro _ w3 ⟨rfl, l3⟩
      rw [hE]
      refine ⟨_, rfl, ?_⟩
      have b3 := b2.on l3
      have L3 := L2.on l3
      first | refine WL.move rfl rfl rfl ?_
      first | refine WL.extract rfl rfl rfl (ext_2 _ _ _).1 ?_
      first | refine WL.extract rfl rfl rfl (ext_2 _ _ _).2 ?_
      first | refine WL.assign rfl rfl rfl ?_
      first | refine WL.assign rfl rfl rfl ?_
      refine WL.done ?_
      refine EW.on ?_
      refine EW.seq ?_
      refine EW.region ?_
      first | refine WL.move rfl rfl rfl ?_
      refine WL.load rfl rfl rfl (ld23 b3 hK) ?_
      first | refine WL.move rfl rfl rfl ?_
      refine WL.load rfl rfl rfl (ld23 b3 hK) ?_
      refine WL.call [sv z60, sv a, kv K, sv b, kv K] enter13 rfl rfl rfl (match_any z60 a K b K hK hK w3 L3) ?_
      rintro _ w4 ⟨rfl, l4⟩
      rw [mtE_z, hE]
      refine ⟨_, rfl, ?_⟩
      have b4 := b3.on l4
      have L4 := L3.on l4
      first | refine WL.move rfl rfl rfl ?_
      first | refine WL.extract rfl rfl rfl (ext_2 _ _ _).1 ?_
      first | refine WL.extract rfl rfl rfl (ext_2 _ _ _).2 ?_
      first | refine WL.assign rfl rfl rfl ?_
      first | refine WL.assign rfl rfl rfl ?_
      refine WL.done ?_
      refine EW.on ?_
      refine EW.seq ?_
      refine EW.region ?_
      first | refine WL.move rfl rfl rfl ?_
      refine WL.load rfl rfl rfl (ld23 b4 hK) ?_
      first | refine WL.move rfl rfl rfl ?_
      refine WL.load rfl rfl rfl (ld23 b4 hK) ?_
      refine WL.call [sv [48], sv a, kv K, sv b, kv K] enter13 rfl rfl rfl (match_any [48] a K b K hK hK w4 L4) ?_
      rintro _ w5 ⟨rfl, l5⟩
      rw [mtE_1]
      refine ⟨_, rfl, ?_⟩
      have b5 := b4.on l5
      have L5 := L4.on l5
      first | refine WL.move rfl rfl rfl ?_
      first | refine WL.extract rfl rfl rfl (ext_2 _ _ _).1 ?_
      first | refine WL.extract rfl rfl rfl (ext_2 _ _ _).2 ?_
      first | refine WL.assign rfl rfl rfl ?_
      first | refine WL.assign rfl rfl rfl ?_
      refine WL.done ?_
      refine EW.on ?_
      refine EW.seq ?_
      refine EW.region ?_
      refine WL.load rfl rfl rfl (ld23 b5 hK) ?_
      refine WL.load rfl rfl rfl (ld23 b5 hK) ?_
      refine WL.call [sv [109, 101], kv K, sv [121, 111, 117], kv K] enter12 rfl rfl rfl (number_any _ K _ K hK hK w5 L5) ?_
      rintro _ w6 ⟨rfl, l6⟩
      rw [mey]
      refine ⟨_, rfl, ?_⟩
      first | refine WL.move rfl rfl rfl ?_
      first | refine WL.extract rfl rfl rfl (ext_2 _ _ _).1 ?_
      first | refine WL.extract rfl rfl rfl (ext_2 _ _ _).2 ?_
      first | refine WL.assign rfl rfl rfl ?_
      first | refine WL.assign rfl rfl rfl ?_
      refine WL.done ?_
      refine EW.on ?_
      refine EW.seq ?_
      refine EW.region ?_
      first | refine WL.move rfl rfl rfl ?_
      first | refine WL.move rfl rfl rfl ?_
      first | refine WL.bin rfl rfl rfl rfl (int_eq_t rfl _ _ _) ?_ | refine WL.bin rfl rfl rfl rfl (int_eq_t hE'.symm _ _ _) ?_ | refine WL.bin rfl rfl rfl rfl (int_eq_t hW0 _ _ _) ?_ | refine WL.bin rfl rfl rfl rfl (int_eq_f hW0 _ _ _) ?_
      first | refine WL.move rfl rfl rfl ?_
      first | refine WL.move rfl rfl rfl ?_ | refine WL.skip _ rfl rfl rfl ?_
      first | refine WL.move rfl rfl rfl ?_ | refine WL.skip _ rfl rfl rfl ?_
      first | refine WL.bin rfl rfl rfl rfl (int_eq_t rfl _ _ _) ?_ | refine WL.bin rfl rfl rfl rfl (int_eq_t hE'.symm _ _ _) ?_ | refine WL.bin rfl rfl rfl rfl (int_eq_t hW0 _ _ _) ?_ | refine WL.bin rfl rfl rfl rfl (int_eq_f hW0 _ _ _) ?_ | refine WL.skip _ rfl rfl rfl ?_
      first | refine WL.pick rfl rfl rfl rfl ?_
      first | refine WL.move rfl rfl rfl ?_
      first | refine WL.move rfl rfl rfl ?_ | refine WL.skip _ rfl rfl rfl ?_
      first | refine WL.bin rfl rfl rfl rfl (int_eq_t rfl _ _ _) ?_ | refine WL.bin rfl rfl rfl rfl (int_eq_t hE'.symm _ _ _) ?_ | refine WL.bin rfl rfl rfl rfl (int_eq_t hW0 _ _ _) ?_ | refine WL.bin rfl rfl rfl rfl (int_eq_f hW0 _ _ _) ?_ | refine WL.skip _ rfl rfl rfl ?_
      first | refine WL.move rfl rfl rfl ?_ | refine WL.skip _ rfl rfl rfl ?_
      first | refine WL.move rfl rfl rfl ?_ | refine WL.skip _ rfl rfl rfl ?_
      first | refine WL.bin rfl rfl rfl rfl (str_eq_t (numD_no K K hN) _ _ _) ?_ | refine WL.skip _ rfl rfl rfl ?_
      first | refine WL.move rfl rfl rfl ?_ | refine WL.skip _ rfl rfl rfl ?_
      first | refine WL.move rfl rfl rfl ?_ | refine WL.skip _ rfl rfl rfl ?_
      first | (refine WL.un rfl rfl rfl (not_t _ _) ?_; rw [mtD_no (by rw [mtE_z]; exact hN)]) | refine WL.skip _ rfl rfl rfl ?_
      first | refine WL.pick rfl rfl rfl rfl ?_ | refine WL.skip _ rfl rfl rfl ?_
      first | refine WL.pick rfl rfl rfl rfl ?_ | refine WL.skip _ rfl rfl rfl ?_
      first | refine WL.pick rfl rfl rfl rfl ?_
      first | refine WL.move rfl rfl rfl ?_
      first | refine WL.move rfl rfl rfl ?_ | refine WL.skip _ rfl rfl rfl ?_
      first | refine WL.bin rfl rfl rfl rfl (int_eq_t rfl _ _ _) ?_ | refine WL.bin rfl rfl rfl rfl (int_eq_t hE'.symm _ _ _) ?_ | refine WL.bin rfl rfl rfl rfl (int_eq_t hW0 _ _ _) ?_ | refine WL.bin rfl rfl rfl rfl (int_eq_f hW0 _ _ _) ?_ | refine WL.skip _ rfl rfl rfl ?_
      first | refine WL.pick rfl rfl rfl rfl ?_
      first | refine WL.move rfl rfl rfl ?_
      first | refine WL.move rfl rfl rfl ?_ | refine WL.skip _ rfl rfl rfl ?_
      first | refine WL.bin rfl rfl rfl rfl (int_eq_t rfl _ _ _) ?_ | refine WL.bin rfl rfl rfl rfl (int_eq_t hE'.symm _ _ _) ?_ | refine WL.bin rfl rfl rfl rfl (int_eq_t hW0 _ _ _) ?_ | refine WL.bin rfl rfl rfl rfl (int_eq_f hW0 _ _ _) ?_ | refine WL.skip _ rfl rfl rfl ?_
      first | refine WL.pick rfl rfl rfl rfl ?_
      first | refine WL.move rfl rfl rfl ?_
      first | refine WL.move rfl rfl rfl ?_ | refine WL.skip _ rfl rfl rfl ?_
      first | refine WL.len rfl rfl rfl (len_s _ _ _) ?_ | refine WL.skip _ rfl rfl rfl ?_
      refine WL.bin rfl rfl rfl rfl (int_eq_t (a := ((numD [109, 101] K [121, 111, 117] K).length : Int)) (b := 71) (by rw [numD_len K K mey]; rfl) _ _ _) ?_
      first | refine WL.pick rfl rfl rfl rfl ?_
      first | refine WL.assign rfl rfl rfl ?_
      refine WL.done ?_
      refine EW.on ?_
      refine EW.ret ?_
      exact EW.returns Tryd.results4 rfl ⟨rfl, bt (bt (bt (bt (bt l1 l2) l3) l4) l5) l6⟩
  · obtain ⟨E, hE, hE'⟩ : ∃ E, bhE a b = E ∧ nmE a = E := ⟨_, by unfold bhE; rw [if_neg hA], rfl⟩
    have hE0 : ¬ E = 0 := by rw [← hE']; exact hA
    have hN : ¬ bhE a b = 0 := by rw [hE]; exact hE0
    have hW0 : ¬ nmE a = 0 := hA
    refine calls_of_args [sv a, sv b, kv K] Tryd.func4 rfl 96 Tryd.ntmps4 (by show 3 ≤ 96; decide) ?_
    refine EW.seq ?_
    refine EW.region ?_
    refine WL.box rfl rfl rfl r1 ?_
    first | refine WL.assign rfl rfl rfl ?_
    refine WL.done ?_
    refine EW.on ?_
    refine EW.seq ?_
    refine EW.region ?_
    first | refine WL.move rfl rfl rfl ?_
    refine WL.call [sv a] enter11 rfl rfl rfl (code_any a w1) ?_
    rintro _ wz ⟨rfl, hz⟩
    rw [hz]
    clear hz wz
    refine ⟨_, rfl, ?_⟩
    first | refine WL.assign rfl rfl rfl ?_
    refine WL.done ?_
    refine EW.on ?_
    refine EW.seq ?_
    refine EW.region ?_
    first | refine WL.move rfl rfl rfl ?_
    refine WL.load rfl rfl rfl (ld23 b1 hK) ?_
    refine WL.call [sv a, kv K] enter10 rfl rfl rfl (half_any a K hK w1 (hL.on l1)) ?_
    rintro _ w2 ⟨rfl, l2⟩
    refine ⟨_, rfl, ?_⟩
    have b2 := b1.on l2
    have L2 := (hL.on l1).on l2
    first | refine WL.move rfl rfl rfl ?_
    first | refine WL.extract rfl rfl rfl (ext_2 _ _ _).1 ?_
    first | refine WL.extract rfl rfl rfl (ext_2 _ _ _).2 ?_
    first | refine WL.assign rfl rfl rfl ?_
    first | refine WL.assign rfl rfl rfl ?_
    refine WL.done ?_
    refine EW.on ?_
    refine EW.seq ?_
    refine EW.seq ?_
    refine EW.region ?_
    first | refine WL.move rfl rfl rfl ?_
    first | refine WL.move rfl rfl rfl ?_
    refine WL.bin rfl rfl rfl rfl (int_ne_f rfl _ _ _) ?_
    refine WL.done ?_
    refine EW.on ?_
    refine EW.cond_f rfl ?_
    refine EW.skip ?_
    refine EW.on ?_
    refine EW.seq ?_
    refine EW.seq ?_
    refine EW.region ?_
    first | refine WL.move rfl rfl rfl ?_
    first | refine WL.bin rfl rfl rfl rfl (int_eq_t hA _ _ _) ?_ | refine WL.bin rfl rfl rfl rfl (int_eq_f hA _ _ _) ?_
    refine WL.done ?_
    refine EW.on ?_
    refine EW.cond_f rfl ?_
    refine EW.skip ?_
    refine EW.on ?_
    refine EW.seq ?_
    refine EW.region ?_
    first | refine WL.move rfl rfl rfl ?_
    refine WL.load rfl rfl rfl (ld23 b2 hK) ?_
    first | refine WL.move rfl rfl rfl ?_
    refine WL.load rfl rfl rfl (ld23 b2 hK) ?_
    refine WL.call [sv a, kv K, sv b, kv K] enter12 rfl rfl rfl (number_any a K b K hK hK w2 L2) ?_
    rintro _ w3 ⟨rfl, l3⟩
    rw [hE]
    refine ⟨_, rfl, ?_⟩
    have b3 := b2.on l3
    have L3 := L2.on l3
    first | refine WL.move rfl rfl rfl ?_
    first | refine WL.extract rfl rfl rfl (ext_2 _ _ _).1 ?_
    first | refine WL.extract rfl rfl rfl (ext_2 _ _ _).2 ?_
    first | refine WL.assign rfl rfl rfl ?_
    first | refine WL.assign rfl rfl rfl ?_
    refine WL.done ?_
    refine EW.on ?_
    refine EW.seq ?_
    refine EW.region ?_
    first | refine WL.move rfl rfl rfl ?_
    refine WL.load rfl rfl rfl (ld23 b3 hK) ?_
    first | refine WL.move rfl rfl rfl ?_
    refine WL.load rfl rfl rfl (ld23 b3 hK) ?_
    refine WL.call [sv z60, sv a, kv K, sv b, kv K] enter13 rfl rfl rfl (match_any z60 a K b K hK hK w3 L3) ?_
    rintro _ w4 ⟨rfl, l4⟩
    rw [mtE_z, hE]
    refine ⟨_, rfl, ?_⟩
    have b4 := b3.on l4
    have L4 := L3.on l4
    first | refine WL.move rfl rfl rfl ?_
    first | refine WL.extract rfl rfl rfl (ext_2 _ _ _).1 ?_
    first | refine WL.extract rfl rfl rfl (ext_2 _ _ _).2 ?_
    first | refine WL.assign rfl rfl rfl ?_
    first | refine WL.assign rfl rfl rfl ?_
    refine WL.done ?_
    refine EW.on ?_
    refine EW.seq ?_
    refine EW.region ?_
    first | refine WL.move rfl rfl rfl ?_
    refine WL.load rfl rfl rfl (ld23 b4 hK) ?_
    first | refine WL.move rfl rfl rfl ?_
    refine WL.load rfl rfl rfl (ld23 b4 hK) ?_
    refine WL.call [sv [48], sv a, kv K, sv b, kv K] enter13 rfl rfl rfl (match_any [48] a K b K hK hK w4 L4) ?_
    rintro _ w5 ⟨rfl, l5⟩
    rw [mtE_1]
    refine ⟨_, rfl, ?_⟩
    have b5 := b4.on l5
    have L5 := L4.on l5
    first | refine WL.move rfl rfl rfl ?_
    first | refine WL.extract rfl rfl rfl (ext_2 _ _ _).1 ?_
    first | refine WL.extract rfl rfl rfl (ext_2 _ _ _).2 ?_
    first | refine WL.assign rfl rfl rfl ?_
    first | refine WL.assign rfl rfl rfl ?_
    refine WL.done ?_
    refine EW.on ?_
    refine EW.seq ?_
    refine EW.region ?_
    refine WL.load rfl rfl rfl (ld23 b5 hK) ?_
    refine WL.load rfl rfl rfl (ld23 b5 hK) ?_
    refine WL.call [sv [109, 101], kv K, sv [121, 111, 117], kv K] enter12 rfl rfl rfl (number_any _ K _ K hK hK w5 L5) ?_
    rintro _ w6 ⟨rfl, l6⟩
    rw [mey]
    refine ⟨_, rfl, ?_⟩
    first | refine WL.move rfl rfl rfl ?_
    first | refine WL.extract rfl rfl rfl (ext_2 _ _ _).1 ?_
    first | refine WL.extract rfl rfl rfl (ext_2 _ _ _).2 ?_
    first | refine WL.assign rfl rfl rfl ?_
    first | refine WL.assign rfl rfl rfl ?_
    refine WL.done ?_
    refine EW.on ?_
    refine EW.seq ?_
    refine EW.region ?_
    first | refine WL.move rfl rfl rfl ?_
    first | refine WL.move rfl rfl rfl ?_
    first | refine WL.bin rfl rfl rfl rfl (int_eq_t rfl _ _ _) ?_ | refine WL.bin rfl rfl rfl rfl (int_eq_t hE'.symm _ _ _) ?_ | refine WL.bin rfl rfl rfl rfl (int_eq_t hW0 _ _ _) ?_ | refine WL.bin rfl rfl rfl rfl (int_eq_f hW0 _ _ _) ?_
    first | refine WL.move rfl rfl rfl ?_
    first | refine WL.move rfl rfl rfl ?_ | refine WL.skip _ rfl rfl rfl ?_
    first | refine WL.move rfl rfl rfl ?_ | refine WL.skip _ rfl rfl rfl ?_
    first | refine WL.bin rfl rfl rfl rfl (int_eq_t rfl _ _ _) ?_ | refine WL.bin rfl rfl rfl rfl (int_eq_t hE'.symm _ _ _) ?_ | refine WL.bin rfl rfl rfl rfl (int_eq_t hW0 _ _ _) ?_ | refine WL.bin rfl rfl rfl rfl (int_eq_f hW0 _ _ _) ?_ | refine WL.skip _ rfl rfl rfl ?_
    first | refine WL.pick rfl rfl rfl rfl ?_
    first | refine WL.move rfl rfl rfl ?_
    first | refine WL.move rfl rfl rfl ?_ | refine WL.skip _ rfl rfl rfl ?_
    first | refine WL.bin rfl rfl rfl rfl (int_eq_t rfl _ _ _) ?_ | refine WL.bin rfl rfl rfl rfl (int_eq_t hE'.symm _ _ _) ?_ | refine WL.bin rfl rfl rfl rfl (int_eq_t hW0 _ _ _) ?_ | refine WL.bin rfl rfl rfl rfl (int_eq_f hW0 _ _ _) ?_ | refine WL.skip _ rfl rfl rfl ?_
    first | refine WL.move rfl rfl rfl ?_ | refine WL.skip _ rfl rfl rfl ?_
    first | refine WL.move rfl rfl rfl ?_ | refine WL.skip _ rfl rfl rfl ?_
    first | refine WL.bin rfl rfl rfl rfl (str_eq_t (numD_no K K hN) _ _ _) ?_ | refine WL.skip _ rfl rfl rfl ?_
    first | refine WL.move rfl rfl rfl ?_ | refine WL.skip _ rfl rfl rfl ?_
    first | refine WL.move rfl rfl rfl ?_ | refine WL.skip _ rfl rfl rfl ?_
    first | (refine WL.un rfl rfl rfl (not_t _ _) ?_; rw [mtD_no (by rw [mtE_z]; exact hN)]) | refine WL.skip _ rfl rfl rfl ?_
    first | refine WL.pick rfl rfl rfl rfl ?_ | refine WL.skip _ rfl rfl rfl ?_
    first | refine WL.pick rfl rfl rfl rfl ?_ | refine WL.skip _ rfl rfl rfl ?_
    first | refine WL.pick rfl rfl rfl rfl ?_
    first | refine WL.move rfl rfl rfl ?_
    first | refine WL.move rfl rfl rfl ?_ | refine WL.skip _ rfl rfl rfl ?_
    first | refine WL.bin rfl rfl rfl rfl (int_eq_t rfl _ _ _) ?_ | refine WL.bin rfl rfl rfl rfl (int_eq_t hE'.symm _ _ _) ?_ | refine WL.bin rfl rfl rfl rfl (int_eq_t hW0 _ _ _) ?_ | refine WL.bin rfl rfl rfl rfl (int_eq_f hW0 _ _ _) ?_ | refine WL.skip _ rfl rfl rfl ?_
    first | refine WL.pick rfl rfl rfl rfl ?_
    first | refine WL.move rfl rfl rfl ?_
    first | refine WL.move rfl rfl rfl ?_ | refine WL.skip _ rfl rfl rfl ?_
    first | refine WL.bin rfl rfl rfl rfl (int_eq_t rfl _ _ _) ?_ | refine WL.bin rfl rfl rfl rfl (int_eq_t hE'.symm _ _ _) ?_ | refine WL.bin rfl rfl rfl rfl (int_eq_t hW0 _ _ _) ?_ | refine WL.bin rfl rfl rfl rfl (int_eq_f hW0 _ _ _) ?_ | refine WL.skip _ rfl rfl rfl ?_
    first | refine WL.pick rfl rfl rfl rfl ?_
    first | refine WL.move rfl rfl rfl ?_
    first | refine WL.move rfl rfl rfl ?_ | refine WL.skip _ rfl rfl rfl ?_
    first | refine WL.len rfl rfl rfl (len_s _ _ _) ?_ | refine WL.skip _ rfl rfl rfl ?_
    refine WL.bin rfl rfl rfl rfl (int_eq_t (a := ((numD [109, 101] K [121, 111, 117] K).length : Int)) (b := 71) (by rw [numD_len K K mey]; rfl) _ _ _) ?_
    first | refine WL.pick rfl rfl rfl rfl ?_
    first | refine WL.assign rfl rfl rfl ?_
    refine WL.done ?_
    refine EW.on ?_
    refine EW.ret ?_
    exact EW.returns Tryd.results4 rfl ⟨rfl, bt (bt (bt (bt (bt l1 l2) l3) l4) l5) l6⟩
end Go.Proofs.YtnfikgnploockaaDoor
