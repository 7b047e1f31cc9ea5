import Derived.Test.YtacimelcmkhhlaaJj
set_option linter.unusedVariables false
set_option linter.unusedSimpArgs false
namespace Go.Proofs.Ytacimelcmkhhlaa
open Go.RowKit

theorem bfx2 {w a b : World} {q p : Nat} (h : Below w.heap.size w a) (hq : w.heap.size ≤ q) (hp : w.heap.size ≤ p) (k : Fx (fun i => i = q ∨ i = p) a b) : Below w.heap.size w b := h.trans (k.below (fun i hi e => by rcases e with e | e <;> omega) h.size)
theorem newE (w : World) : ∃ w1 q, (Instr.alloc 35 true (.tuple #[])).run Try.prog w = .ok (.pointer (some ⟨q, 0, none⟩)) w1 ∧ Blk w1 q [.int .i64 0] 35 ∧ Below w.heap.size w w1 ∧ q = w.heap.size :=
  ⟨w.alloc (.cells [.int .i64 0].toArray 35), w.heap.size, by go_simp; try rfl, Blk.new _ _ _, below_new _ _, rfl⟩
def dS1 (c : List UInt8) : Sg := corR c (rS c 1 (0, 0)) Sg.z
def dT1 (c : List UInt8) : Nat × Int := corS c (rS c 1 (0, 0))
def dS2 (c : List UInt8) : Sg := if 0 < (dS1 c).own then sndR c (dT1 c) (dS1 c) else dS1 c
def dT2 (c : List UInt8) : Nat × Int := if 0 < (dS1 c).own then sndS c (dT1 c) else dT1 c
def dS3 (c : List UInt8) : Sg := if 0 < (dS2 c).turns then rcvR c (dT2 c) (dS2 c) else dS2 c
def dT3 (c : List UInt8) : Nat × Int := if 0 < (dS2 c).turns then rcvS c (dT2 c) else dT2 c
def dM (c : List UInt8) : Nat := numB (rB c 1 (dT3 c))
def dT4 (c : List UInt8) : Nat × Int := rS c 1 (dT3 c)
def dS4 (c : List UInt8) : Sg := if dM c = 1 then helR c (dT4 c) (dS3 c) else dS3 c
def dT5 (c : List UInt8) : Nat × Int := if dM c = 1 then helS c (dT4 c) else dT4 c
def decE (c : List UInt8) : Int := if numB (rB c 1 (0, 0)) = 1 then (if 1 < dM c then tlE (dT4 c).2 180 else tlE (eS c (dT5 c)).2 (if dM c = mkD (dS4 c).hl then chkD (dS4 c) else 180)) else tlE (rS c 1 (0, 0)).2 140
def decS (c : List UInt8) : Sg := if decE c = 0 then dS4 c else Sg.z
theorem dS1_ok (c : List UInt8) : (dS1 c).ok := corR_ok Sg.z_ok
theorem dS2_ok (c : List UInt8) : (dS2 c).ok := by unfold dS2; split; exact sndR_ok (dS1_ok c); exact dS1_ok c
theorem dS3_ok (c : List UInt8) : (dS3 c).ok := by unfold dS3; split; exact rcvR_ok (dS2_ok c); exact dS2_ok c
theorem dS4_ok (c : List UInt8) : (dS4 c).ok := by unfold dS4; split; exact helR_ok (dS3_ok c); exact dS3_ok c
theorem decS_ok (c : List UInt8) : (decS c).ok := by unfold decS; split; exact dS4_ok c; exact Sg.z_ok
theorem tlE_ne {f e : Int} (h : ¬ e = 0) : ¬ tlE f e = 0 := by unfold tlE; split <;> assumption
set_option maxRecDepth 100000 in
set_option maxHeartbeats 4000000 in
theorem decode_any (vb : Value) (c : List UInt8) (w : World) (hb : Has w vb c) (hl : c.length ≤ 140737488355328) : Calls Try.prog 16 #[vb] w fun e w' => e = .returned (.tuple #[(decS c).v, .int .i64 (decE c)]) ∧ Below w.heap.size w w' := by
  obtain ⟨w1, p, r1, b1, e1, hp1⟩ := new_any (t := 33) (cs := Sg.z.cs) zv33 w
  obtain ⟨w2, pe, r2, b2, e2, hp2'⟩ := newE w1
  have l1 := e1.size
  have l2 := e2.size
  have hb1 := b1.lt
  refine calls_of_argsD [vb] Try.func16 rfl 46 Try.ntmps16 (by show 1 ≤ 46; decide) ?_
  refine EW.seq ?_
  refine EW.region ?_
  refine WL.new rfl rfl r1 ?_
  refine WL.new rfl rfl r2 ?_
  refine WL.done ?_
  refine EW.on ?_
  refine EW.seq ?_
  refine EW.region ?_
  first | refine WL.move rfl rfl rfl ?_
  refine WL.call [vb] enter35 rfl rfl rfl (newR_any vb c _ (hb.below (bt e1 e2)) hl) ?_
  rintro _ w3 ⟨u, q, rfl, rd3, hq3, fr3, e3⟩
  have bp3 := (b1.on e2).on e3
  have be3 := b2.on e3
  have l3 := bt (bt e1 e2) e3
  have hp2 := (b1.on e2).lt
  have hpe2 := b2.lt
  have hqp : ¬ q = p := by omega
  have hov : Off u c p := fr3.off hp2
  have hpe : ¬ p = pe := by omega
  refine ⟨_, rfl, ?_⟩
  first | refine WL.assign rfl rfl rfl ?_
  refine WL.done ?_
  refine EW.on ?_
  refine EW.seq ?_
  refine EW.region ?_
  first | refine WL.move rfl rfl rfl ?_
  refine WL.deferA [.pointer (some ⟨q, 0, none⟩), .pointer (some ⟨p, 0, none⟩), .pointer (some ⟨pe, 0, none⟩)] rfl rfl ?_
  refine WL.done ?_
  refine EW.on ?_
  refine EW.seq ?_
  refine EW.seq ?_
  by_cases hv : numB (rB c 1 (0, 0)) = 1
  · refine EW.region ?_
    first | refine WL.move rfl rfl rfl ?_
    refine WL.call [.pointer (some ⟨q, 0, none⟩)] enter41 rfl rfl rfl (rn1_any q u c (0, 0) _ rd3 hl) ?_
    rintro _ w11 ⟨rfl, rd11, f11⟩
    refine ⟨_, rfl, ?_⟩
    have bp11 := bp3.fx f11 (fun e => hqp e.symm)
    have be11 := be3.fx f11 (fun e => by omega)
    have l11 := bfx l3 (by omega) f11
    refine WL.bin rfl rfl rfl rfl (int_ne_f (by omega) _ _ _) ?_
    refine WL.done ?_
    refine EW.on ?_
    refine EW.cond_f rfl ?_
    refine EW.skip ?_
    refine EW.on ?_
    refine EW.seq ?_
    refine EW.region ?_
    first | refine WL.move rfl rfl rfl ?_
    refine WL.call [.pointer (some ⟨q, 0, none⟩), .pointer (some ⟨p, 0, none⟩)] enter42 rfl rfl rfl (rdCore_any q p u c (rS c 1 (0, 0)) Sg.z Sg.z_ok _ rd11 bp11 hl hqp hov) ?_
    rintro _ w12 ⟨rfl, bp12', rd12', f12⟩
    refine ⟨_, rfl, ?_⟩
    have be12 := be11.fx f12 (fun e => by rcases e with e | e <;> omega)
    have l12 := bfx2 l11 (by omega) (by omega) f12
    refine WL.done ?_
    refine EW.on ?_
    refine EW.seq ?_
    refine EW.seq ?_
    have bp13 : Blk w12 p (dS1 c).cs 33 := bp12'
    have rd13 : Rd w12 q u c (dT1 c).1 (dT1 c).2 := rd12'
    refine EW.region ?_
    refine WL.field rfl rfl rfl (f33_6 p _) ?_
    refine WL.load rfl rfl rfl (Sg.ld_own bp13 (dS1_ok c)) ?_
    refine WL.bin rfl rfl rfl rfl (u_gt_d _ 0 _ _ _) ?_
    refine WL.done ?_
    refine EW.on ?_
    refine EW.cond_d rfl (fun h17 => ?_) (fun h17 => ?_)
    · refine EW.region ?_
      first | refine WL.move rfl rfl rfl ?_
      refine WL.call [.pointer (some ⟨q, 0, none⟩), .pointer (some ⟨p, 0, none⟩)] enter43 rfl rfl rfl (rdSend_any q p u c (dT1 c) (dS1 c) (dS1_ok c) _ rd13 bp13 hl hqp hov) ?_
      rintro _ w14 ⟨rfl, bp14', rd14', f14⟩
      refine ⟨_, rfl, ?_⟩
      have be14 := be12.fx f14 (fun e => by rcases e with e | e <;> omega)
      have l14 := bfx2 l12 (by omega) (by omega) f14
      refine WL.done ?_
      refine EW.on ?_
      refine EW.seq ?_
      refine EW.seq ?_
      have bp15 : Blk w14 p (dS2 c).cs 33 := by rw [dS2, if_pos h17]; exact bp14'
      have rd15 : Rd w14 q u c (dT2 c).1 (dT2 c).2 := by rw [dT2, if_pos h17]; exact rd14'
      refine EW.region ?_
      refine WL.field rfl rfl rfl (f33_7 p _) ?_
      refine WL.load rfl rfl rfl (Sg.ld_turns bp15 (dS2_ok c)) ?_
      refine WL.bin rfl rfl rfl rfl (u_gt_d _ 0 _ _ _) ?_
      refine WL.done ?_
      refine EW.on ?_
      refine EW.cond_d rfl (fun h22 => ?_) (fun h22 => ?_)
      · refine EW.region ?_
        first | refine WL.move rfl rfl rfl ?_
        refine WL.call [.pointer (some ⟨q, 0, none⟩), .pointer (some ⟨p, 0, none⟩)] enter44 rfl rfl rfl (rdRecv_any q p u c (dT2 c) (dS2 c) (dS2_ok c) _ rd15 bp15 hl hqp hov) ?_
        rintro _ w16 ⟨rfl, bp16', rd16', f16⟩
        refine ⟨_, rfl, ?_⟩
        have be16 := be14.fx f16 (fun e => by rcases e with e | e <;> omega)
        have l16 := bfx2 l14 (by omega) (by omega) f16
        refine WL.done ?_
        refine EW.on ?_
        refine EW.seq ?_
        have bp17 : Blk w16 p (dS3 c).cs 33 := by rw [dS3, if_pos h22]; exact bp16'
        have rd17 : Rd w16 q u c (dT3 c).1 (dT3 c).2 := by rw [dT3, if_pos h22]; exact rd16'
        refine EW.region ?_
        first | refine WL.move rfl rfl rfl ?_
        refine WL.call [.pointer (some ⟨q, 0, none⟩)] enter41 rfl rfl rfl (rn1_any q u c (dT3 c) _ rd17 hl) ?_
        rintro _ w18 ⟨rfl, rd18, f18⟩
        refine ⟨_, rfl, ?_⟩
        have bp18 := bp17.fx f18 (fun e => hqp e.symm)
        have be18 := be16.fx f18 (fun e => by omega)
        have l18 := bfx l16 (by omega) f18
        first | refine WL.assign rfl rfl rfl ?_
        refine WL.done ?_
        refine EW.on ?_
        refine EW.seq ?_
        refine EW.seq ?_
        have hc : dM c = 0 ∨ dM c = 1 ∨ 1 < dM c := by omega
        have hdm : numB (rB c 1 (dT3 c)) = dM c := rfl
        rcases hc with hc | hc | hc
        · refine EW.region ?_
          first | refine WL.move rfl rfl rfl ?_
          refine WL.done ?_
          refine EW.on ?_
          refine EW.block ?_
          refine EW.seq ?_
          have rd19 : Rd w18 q u c (dT4 c).1 (dT4 c).2 := rd18
          refine EW.region ?_
          refine WL.bin rfl rfl rfl rfl (int_eq_t (by omega) _ _ _) ?_
          first | refine WL.assign rfl rfl rfl ?_
          refine WL.done ?_
          refine EW.on ?_
          refine EW.cond_t rfl ?_
          refine EW.skip ?_
          refine pn_block ?_
          refine EW.on ?_
          refine EW.seq ?_
          have bp20 : Blk w18 p (dS4 c).cs 33 := by rw [dS4, if_neg (show ¬ dM c = 1 by omega)]; exact bp18
          have rd20 : Rd w18 q u c (dT5 c).1 (dT5 c).2 := by rw [dT5, if_neg (show ¬ dM c = 1 by omega)]; exact rd19
          refine EW.region ?_
          first | refine WL.move rfl rfl rfl ?_
          refine WL.call [.pointer (some ⟨q, 0, none⟩)] enter39 rfl rfl rfl (end_any q u c (dT5 c) _ rd20 hl) ?_
          rintro _ w21 ⟨rfl, rd21, f21⟩
          refine ⟨_, rfl, ?_⟩
          have bp21 := bp20.fx f21 (fun e => hqp e.symm)
          have be21 := be18.fx f21 (fun e => by omega)
          have l21 := bfx l18 (by omega) f21
          refine WL.done ?_
          refine EW.on ?_
          refine EW.seq ?_
          refine EW.seq ?_
          by_cases hm : dM c = mkD (dS4 c).hl
          · refine EW.region ?_
            first | refine WL.move rfl rfl rfl ?_
            refine WL.field rfl rfl rfl (f33_12 p _) ?_
            refine WL.load rfl rfl rfl (Sg.ld_hl bp21 (dS4_ok c)) ?_
            refine WL.call [(dS4 c).hl.v] enter29 rfl rfl rfl (mark_any _ (dS4_ok c).hl _) ?_
            rintro _ w22 ⟨rfl, e22⟩
            refine ⟨_, rfl, ?_⟩
            have bp22 := bp21.on e22
            have be22 := be21.on e22
            have rd22 := rd21.below e22
            have l22 := bt l21 e22
            refine WL.bin rfl rfl rfl rfl (int_ne_f (by omega) _ _ _) ?_
            refine WL.done ?_
            refine EW.on ?_
            refine EW.cond_f rfl ?_
            refine EW.skip ?_
            refine EW.on ?_
            refine EW.seq ?_
            refine EW.ordB [(0, 0, 1), (1, 0, 1), (2, 1, 1), (3, 1, 0), (4, 1, 0)] (by kernel_rfl) rfl (by kernel_rfl) ?_
            simp only [opsZ, List.getD_cons_zero, List.getD_cons_succ]
            refine ZE.load rfl rfl rfl rfl sz1 (fun W hW => Sg.ld (bp22.on (sb_of hW)) (dS4_ok c)) ?_
            refine ZE.load rfl rfl rfl rfl sz1 (fun W hW => Sg.ld (bp22.on (sb_of hW)) (dS4_ok c)) ?_
            refine ZE.callB [(dS4 c).v] enter10 rfl rfl rfl (fun W h => .inr h) (fun W hW => check_any _ (dS4_ok c) W) ?_
            refine ZE.store (fun W => Blk W p (dS4 c).cs 33 ∧ Blk W pe [.int .i64 0] 35 ∧ Rd W q u c (eS c (dT5 c)).1 (eS c (dT5 c)).2 ∧ Below w.heap.size w W) rfl rfl rfl (fun _ _ => .inl rfl) (fun W hW => ?_) ?_
            · obtain ⟨w', g1, g2, g3⟩ := Sg.st (s := dS4 c) (bp22.on hW) (dS4_ok c) (dS4_ok c)
              exact ⟨w', g1, g2, (be22.on hW).fx g3 (fun e => hpe e.symm), (rd22.below hW).fx g3 hqp hov, bfx (bt l22 hW) (by omega) g3⟩
            refine ZE.store (fun W => Blk W p (dS4 c).cs 33 ∧ Blk W pe [.int .i64 (chkD (dS4 c))] 35 ∧ Rd W q u c (eS c (dT5 c)).1 (eS c (dT5 c)).2 ∧ Below w.heap.size w W) rfl rfl rfl (fun _ _ => .inl rfl) (fun W hW => ?_) ?_
            · obtain ⟨g1, g2, g3, g4⟩ := hW
              obtain ⟨w', h1, h2, h3⟩ := stE0 g2 (chkD (dS4 c))
              exact ⟨w', h1, g1.fx h3 hpe, h2, g3.fx h3 (by omega) (fr3.off hpe2), bfx g4 (by omega) h3⟩
            rintro w99 ⟨bp99, be99, rd99, l99⟩
            refine EW.on ?_
            refine EW.ret ?_
            have hE : decE c = tlE (eS c (dT5 c)).2 (chkD (dS4 c)) := by rw [decE, if_pos hv, if_neg (by omega), if_pos hm]
            have hS : decS c = if tlE (eS c (dT5 c)).2 (chkD (dS4 c)) = 0 then dS4 c else Sg.z := by rw [decS, hE]
            refine EW.leavesA (S := fun w' => Blk w' p (decS c).cs 33 ∧ Blk w' pe [.int .i64 (decE c)] 35 ∧ Below w.heap.size w w') enter40 ((tellS .returning q p pe u c (eS c (dT5 c)).1 (eS c (dT5 c)).2 (dS4 c) (dS4_ok c) (chkD (dS4 c)) _ rd99 bp99 be99 hpe).mono ?_) ?_
            · rintro x u' w' ⟨rfl, rfl, g1, g2, g3⟩
              exact ⟨rfl, rfl, by rw [hS]; exact g1, by rw [hE]; exact g2, bfx2 l99 (by omega) (by omega) g3⟩
            · rintro w' ⟨g1, g2, g3⟩ a ha
              exact ⟨_, res_ci Try.results16 a.tmps w' p pe 33 35 _ _ _ (ha.kn 2 _ rfl) g1 Try.underlying33 rfl (i33 (decS_ok c)) (ha.kn 3 _ rfl) g2, rfl, g3⟩
          · refine EW.region ?_
            first | refine WL.move rfl rfl rfl ?_
            refine WL.field rfl rfl rfl (f33_12 p _) ?_
            refine WL.load rfl rfl rfl (Sg.ld_hl bp21 (dS4_ok c)) ?_
            refine WL.call [(dS4 c).hl.v] enter29 rfl rfl rfl (mark_any _ (dS4_ok c).hl _) ?_
            rintro _ w22 ⟨rfl, e22⟩
            refine ⟨_, rfl, ?_⟩
            have bp22 := bp21.on e22
            have be22 := be21.on e22
            have rd22 := rd21.below e22
            have l22 := bt l21 e22
            refine WL.bin rfl rfl rfl rfl (int_ne_t (by omega) _ _ _) ?_
            refine WL.done ?_
            refine EW.on ?_
            refine EW.cond_t rfl ?_
            refine EW.seq ?_
            refine EW.region ?_
            refine WL.load rfl rfl rfl (Sg.ld bp22 (dS4_ok c)) ?_
            obtain ⟨w23, s23, bp23, f23⟩ := Sg.st (s := (dS4 c)) bp22 (dS4_ok c) (dS4_ok c)
            refine WL.store rfl rfl rfl s23 ?_
            have be23 := be22.fx f23 (fun e => hpe e.symm)
            have rd23 := rd22.fx f23 hqp hov
            have l23 := bfx l22 (by omega) f23
            obtain ⟨w24, s24, be24, f24⟩ := stE0 be23 180
            refine WL.store rfl rfl rfl s24 ?_
            have bp24 := bp23.fx f24 hpe
            have rd24 := rd23.fx f24 (by omega) (fr3.off hpe2)
            have l24 := bfx l23 (by omega) f24
            refine WL.done ?_
            refine EW.on ?_
            refine EW.ret ?_
            refine pr_then ?_
            have hE : decE c = tlE (eS c (dT5 c)).2 (180) := by rw [decE, if_pos hv, if_neg (by omega), if_neg hm]
            have hS : decS c = if tlE (eS c (dT5 c)).2 (180) = 0 then dS4 c else Sg.z := by rw [decS, hE]
            refine EW.leavesA (S := fun w' => Blk w' p (decS c).cs 33 ∧ Blk w' pe [.int .i64 (decE c)] 35 ∧ Below w.heap.size w w') enter40 ((tellS .returning q p pe u c (eS c (dT5 c)).1 (eS c (dT5 c)).2 (dS4 c) (dS4_ok c) (180) _ rd24 bp24 be24 hpe).mono ?_) ?_
            · rintro x u' w' ⟨rfl, rfl, g1, g2, g3⟩
              exact ⟨rfl, rfl, by rw [hS]; exact g1, by rw [hE]; exact g2, bfx2 l24 (by omega) (by omega) g3⟩
            · rintro w' ⟨g1, g2, g3⟩ a ha
              exact ⟨_, res_ci Try.results16 a.tmps w' p pe 33 35 _ _ _ (ha.kn 2 _ rfl) g1 Try.underlying33 rfl (i33 (decS_ok c)) (ha.kn 3 _ rfl) g2, rfl, g3⟩
        · refine EW.region ?_
          first | refine WL.move rfl rfl rfl ?_
          refine WL.done ?_
          refine EW.on ?_
          refine EW.block ?_
          refine EW.seq ?_
          have rd19 : Rd w18 q u c (dT4 c).1 (dT4 c).2 := rd18
          refine EW.region ?_
          refine WL.bin rfl rfl rfl rfl (int_eq_f (by omega) _ _ _) ?_
          first | refine WL.assign rfl rfl rfl ?_
          refine WL.done ?_
          refine EW.on ?_
          refine EW.cond_f rfl ?_
          refine EW.seq ?_
          refine EW.region ?_
          refine WL.bin rfl rfl rfl rfl (int_eq_t (by omega) _ _ _) ?_
          first | refine WL.assign rfl rfl rfl ?_
          refine WL.done ?_
          refine EW.on ?_
          refine EW.cond_t rfl ?_
          refine EW.region ?_
          first | refine WL.move rfl rfl rfl ?_
          refine WL.call [.pointer (some ⟨q, 0, none⟩), .pointer (some ⟨p, 0, none⟩)] enter45 rfl rfl rfl (rdHello_any q p u c (dT4 c) (dS3 c) (dS3_ok c) _ rd19 bp18 hl hqp hov) ?_
          rintro _ w20 ⟨rfl, bp20', rd20', f20⟩
          refine ⟨_, rfl, ?_⟩
          have be20 := be18.fx f20 (fun e => by rcases e with e | e <;> omega)
          have l20 := bfx2 l18 (by omega) (by omega) f20
          refine WL.done ?_
          refine pn_block ?_
          refine EW.on ?_
          refine EW.seq ?_
          have bp21 : Blk w20 p (dS4 c).cs 33 := by rw [dS4, if_pos (show dM c = 1 by omega)]; exact bp20'
          have rd21 : Rd w20 q u c (dT5 c).1 (dT5 c).2 := by rw [dT5, if_pos (show dM c = 1 by omega)]; exact rd20'
          refine EW.region ?_
          first | refine WL.move rfl rfl rfl ?_
          refine WL.call [.pointer (some ⟨q, 0, none⟩)] enter39 rfl rfl rfl (end_any q u c (dT5 c) _ rd21 hl) ?_
          rintro _ w22 ⟨rfl, rd22, f22⟩
          refine ⟨_, rfl, ?_⟩
          have bp22 := bp21.fx f22 (fun e => hqp e.symm)
          have be22 := be20.fx f22 (fun e => by omega)
          have l22 := bfx l20 (by omega) f22
          refine WL.done ?_
          refine EW.on ?_
          refine EW.seq ?_
          refine EW.seq ?_
          by_cases hm : dM c = mkD (dS4 c).hl
          · refine EW.region ?_
            first | refine WL.move rfl rfl rfl ?_
            refine WL.field rfl rfl rfl (f33_12 p _) ?_
            refine WL.load rfl rfl rfl (Sg.ld_hl bp22 (dS4_ok c)) ?_
            refine WL.call [(dS4 c).hl.v] enter29 rfl rfl rfl (mark_any _ (dS4_ok c).hl _) ?_
            rintro _ w23 ⟨rfl, e23⟩
            refine ⟨_, rfl, ?_⟩
            have bp23 := bp22.on e23
            have be23 := be22.on e23
            have rd23 := rd22.below e23
            have l23 := bt l22 e23
            refine WL.bin rfl rfl rfl rfl (int_ne_f (by omega) _ _ _) ?_
            refine WL.done ?_
            refine EW.on ?_
            refine EW.cond_f rfl ?_
            refine EW.skip ?_
            refine EW.on ?_
            refine EW.seq ?_
            refine EW.ordB [(0, 0, 1), (1, 0, 1), (2, 1, 1), (3, 1, 0), (4, 1, 0)] (by kernel_rfl) rfl (by kernel_rfl) ?_
            simp only [opsZ, List.getD_cons_zero, List.getD_cons_succ]
            refine ZE.load rfl rfl rfl rfl sz1 (fun W hW => Sg.ld (bp23.on (sb_of hW)) (dS4_ok c)) ?_
            refine ZE.load rfl rfl rfl rfl sz1 (fun W hW => Sg.ld (bp23.on (sb_of hW)) (dS4_ok c)) ?_
            refine ZE.callB [(dS4 c).v] enter10 rfl rfl rfl (fun W h => .inr h) (fun W hW => check_any _ (dS4_ok c) W) ?_
            refine ZE.store (fun W => Blk W p (dS4 c).cs 33 ∧ Blk W pe [.int .i64 0] 35 ∧ Rd W q u c (eS c (dT5 c)).1 (eS c (dT5 c)).2 ∧ Below w.heap.size w W) rfl rfl rfl (fun _ _ => .inl rfl) (fun W hW => ?_) ?_
            · obtain ⟨w', g1, g2, g3⟩ := Sg.st (s := dS4 c) (bp23.on hW) (dS4_ok c) (dS4_ok c)
              exact ⟨w', g1, g2, (be23.on hW).fx g3 (fun e => hpe e.symm), (rd23.below hW).fx g3 hqp hov, bfx (bt l23 hW) (by omega) g3⟩
            refine ZE.store (fun W => Blk W p (dS4 c).cs 33 ∧ Blk W pe [.int .i64 (chkD (dS4 c))] 35 ∧ Rd W q u c (eS c (dT5 c)).1 (eS c (dT5 c)).2 ∧ Below w.heap.size w W) rfl rfl rfl (fun _ _ => .inl rfl) (fun W hW => ?_) ?_
            · obtain ⟨g1, g2, g3, g4⟩ := hW
              obtain ⟨w', h1, h2, h3⟩ := stE0 g2 (chkD (dS4 c))
              exact ⟨w', h1, g1.fx h3 hpe, h2, g3.fx h3 (by omega) (fr3.off hpe2), bfx g4 (by omega) h3⟩
            rintro w99 ⟨bp99, be99, rd99, l99⟩
            refine EW.on ?_
            refine EW.ret ?_
            have hE : decE c = tlE (eS c (dT5 c)).2 (chkD (dS4 c)) := by rw [decE, if_pos hv, if_neg (by omega), if_pos hm]
            have hS : decS c = if tlE (eS c (dT5 c)).2 (chkD (dS4 c)) = 0 then dS4 c else Sg.z := by rw [decS, hE]
            refine EW.leavesA (S := fun w' => Blk w' p (decS c).cs 33 ∧ Blk w' pe [.int .i64 (decE c)] 35 ∧ Below w.heap.size w w') enter40 ((tellS .returning q p pe u c (eS c (dT5 c)).1 (eS c (dT5 c)).2 (dS4 c) (dS4_ok c) (chkD (dS4 c)) _ rd99 bp99 be99 hpe).mono ?_) ?_
            · rintro x u' w' ⟨rfl, rfl, g1, g2, g3⟩
              exact ⟨rfl, rfl, by rw [hS]; exact g1, by rw [hE]; exact g2, bfx2 l99 (by omega) (by omega) g3⟩
            · rintro w' ⟨g1, g2, g3⟩ a ha
              exact ⟨_, res_ci Try.results16 a.tmps w' p pe 33 35 _ _ _ (ha.kn 2 _ rfl) g1 Try.underlying33 rfl (i33 (decS_ok c)) (ha.kn 3 _ rfl) g2, rfl, g3⟩
          · refine EW.region ?_
            first | refine WL.move rfl rfl rfl ?_
            refine WL.field rfl rfl rfl (f33_12 p _) ?_
            refine WL.load rfl rfl rfl (Sg.ld_hl bp22 (dS4_ok c)) ?_
            refine WL.call [(dS4 c).hl.v] enter29 rfl rfl rfl (mark_any _ (dS4_ok c).hl _) ?_
            rintro _ w23 ⟨rfl, e23⟩
            refine ⟨_, rfl, ?_⟩
            have bp23 := bp22.on e23
            have be23 := be22.on e23
            have rd23 := rd22.below e23
            have l23 := bt l22 e23
            refine WL.bin rfl rfl rfl rfl (int_ne_t (by omega) _ _ _) ?_
            refine WL.done ?_
            refine EW.on ?_
            refine EW.cond_t rfl ?_
            refine EW.seq ?_
            refine EW.region ?_
            refine WL.load rfl rfl rfl (Sg.ld bp23 (dS4_ok c)) ?_
            obtain ⟨w24, s24, bp24, f24⟩ := Sg.st (s := (dS4 c)) bp23 (dS4_ok c) (dS4_ok c)
            refine WL.store rfl rfl rfl s24 ?_
            have be24 := be23.fx f24 (fun e => hpe e.symm)
            have rd24 := rd23.fx f24 hqp hov
            have l24 := bfx l23 (by omega) f24
            obtain ⟨w25, s25, be25, f25⟩ := stE0 be24 180
            refine WL.store rfl rfl rfl s25 ?_
            have bp25 := bp24.fx f25 hpe
            have rd25 := rd24.fx f25 (by omega) (fr3.off hpe2)
            have l25 := bfx l24 (by omega) f25
            refine WL.done ?_
            refine EW.on ?_
            refine EW.ret ?_
            refine pr_then ?_
            have hE : decE c = tlE (eS c (dT5 c)).2 (180) := by rw [decE, if_pos hv, if_neg (by omega), if_neg hm]
            have hS : decS c = if tlE (eS c (dT5 c)).2 (180) = 0 then dS4 c else Sg.z := by rw [decS, hE]
            refine EW.leavesA (S := fun w' => Blk w' p (decS c).cs 33 ∧ Blk w' pe [.int .i64 (decE c)] 35 ∧ Below w.heap.size w w') enter40 ((tellS .returning q p pe u c (eS c (dT5 c)).1 (eS c (dT5 c)).2 (dS4 c) (dS4_ok c) (180) _ rd25 bp25 be25 hpe).mono ?_) ?_
            · rintro x u' w' ⟨rfl, rfl, g1, g2, g3⟩
              exact ⟨rfl, rfl, by rw [hS]; exact g1, by rw [hE]; exact g2, bfx2 l25 (by omega) (by omega) g3⟩
            · rintro w' ⟨g1, g2, g3⟩ a ha
              exact ⟨_, res_ci Try.results16 a.tmps w' p pe 33 35 _ _ _ (ha.kn 2 _ rfl) g1 Try.underlying33 rfl (i33 (decS_ok c)) (ha.kn 3 _ rfl) g2, rfl, g3⟩
        · refine EW.region ?_
          first | refine WL.move rfl rfl rfl ?_
          refine WL.done ?_
          refine EW.on ?_
          refine EW.block ?_
          refine EW.seq ?_
          have rd19 : Rd w18 q u c (dT4 c).1 (dT4 c).2 := rd18
          refine EW.region ?_
          refine WL.bin rfl rfl rfl rfl (int_eq_f (by omega) _ _ _) ?_
          first | refine WL.assign rfl rfl rfl ?_
          refine WL.done ?_
          refine EW.on ?_
          refine EW.cond_f rfl ?_
          refine EW.seq ?_
          refine EW.region ?_
          refine WL.bin rfl rfl rfl rfl (int_eq_f (by omega) _ _ _) ?_
          first | refine WL.assign rfl rfl rfl ?_
          refine WL.done ?_
          refine EW.on ?_
          refine EW.cond_f rfl ?_
          refine EW.seq ?_
          refine EW.region ?_
          refine WL.load rfl rfl rfl (Sg.ld bp18 (dS3_ok c)) ?_
          obtain ⟨w20, s20, bp20, f20⟩ := Sg.st (s := (dS3 c)) bp18 (dS3_ok c) (dS3_ok c)
          refine WL.store rfl rfl rfl s20 ?_
          have be20 := be18.fx f20 (fun e => hpe e.symm)
          have rd20 := rd19.fx f20 hqp hov
          have l20 := bfx l18 (by omega) f20
          obtain ⟨w21, s21, be21, f21⟩ := stE0 be20 180
          refine WL.store rfl rfl rfl s21 ?_
          have bp21 := bp20.fx f21 hpe
          have rd21 := rd20.fx f21 (by omega) (fr3.off hpe2)
          have l21 := bfx l20 (by omega) f21
          refine WL.done ?_
          refine EW.on ?_
          refine EW.ret ?_
          refine pr_block ?_
          refine pr_then ?_
          have hE : decE c = tlE (dT4 c).2 180 := by rw [decE, if_pos hv, if_pos (by omega)]
          have hS : decS c = if tlE (dT4 c).2 180 = 0 then dS3 c else Sg.z := by rw [decS, hE, if_neg (tlE_ne (by decide)), if_neg (tlE_ne (by decide))]
          refine EW.leavesA (S := fun w' => Blk w' p (decS c).cs 33 ∧ Blk w' pe [.int .i64 (decE c)] 35 ∧ Below w.heap.size w w') enter40 ((tellS .returning q p pe u c (dT4 c).1 (dT4 c).2 (dS3 c) (dS3_ok c) (180) _ rd21 bp21 be21 hpe).mono ?_) ?_
          · rintro x u' w' ⟨rfl, rfl, g1, g2, g3⟩
            exact ⟨rfl, rfl, by rw [hS]; exact g1, by rw [hE]; exact g2, bfx2 l21 (by omega) (by omega) g3⟩
          · rintro w' ⟨g1, g2, g3⟩ a ha
            exact ⟨_, res_ci Try.results16 a.tmps w' p pe 33 35 _ _ _ (ha.kn 2 _ rfl) g1 Try.underlying33 rfl (i33 (decS_ok c)) (ha.kn 3 _ rfl) g2, rfl, g3⟩
      · refine EW.skip ?_
        refine EW.on ?_
        refine EW.seq ?_
        have bp16 : Blk w14 p (dS3 c).cs 33 := by rw [dS3, if_neg h22]; exact bp15
        have rd16 : Rd w14 q u c (dT3 c).1 (dT3 c).2 := by rw [dT3, if_neg h22]; exact rd15
        refine EW.region ?_
        first | refine WL.move rfl rfl rfl ?_
        refine WL.call [.pointer (some ⟨q, 0, none⟩)] enter41 rfl rfl rfl (rn1_any q u c (dT3 c) _ rd16 hl) ?_
        rintro _ w17 ⟨rfl, rd17, f17⟩
        refine ⟨_, rfl, ?_⟩
        have bp17 := bp16.fx f17 (fun e => hqp e.symm)
        have be17 := be14.fx f17 (fun e => by omega)
        have l17 := bfx l14 (by omega) f17
        first | refine WL.assign rfl rfl rfl ?_
        refine WL.done ?_
        refine EW.on ?_
        refine EW.seq ?_
        refine EW.seq ?_
        have hc : dM c = 0 ∨ dM c = 1 ∨ 1 < dM c := by omega
        have hdm : numB (rB c 1 (dT3 c)) = dM c := rfl
        rcases hc with hc | hc | hc
        · refine EW.region ?_
          first | refine WL.move rfl rfl rfl ?_
          refine WL.done ?_
          refine EW.on ?_
          refine EW.block ?_
          refine EW.seq ?_
          have rd18 : Rd w17 q u c (dT4 c).1 (dT4 c).2 := rd17
          refine EW.region ?_
          refine WL.bin rfl rfl rfl rfl (int_eq_t (by omega) _ _ _) ?_
          first | refine WL.assign rfl rfl rfl ?_
          refine WL.done ?_
          refine EW.on ?_
          refine EW.cond_t rfl ?_
          refine EW.skip ?_
          refine pn_block ?_
          refine EW.on ?_
          refine EW.seq ?_
          have bp19 : Blk w17 p (dS4 c).cs 33 := by rw [dS4, if_neg (show ¬ dM c = 1 by omega)]; exact bp17
          have rd19 : Rd w17 q u c (dT5 c).1 (dT5 c).2 := by rw [dT5, if_neg (show ¬ dM c = 1 by omega)]; exact rd18
          refine EW.region ?_
          first | refine WL.move rfl rfl rfl ?_
          refine WL.call [.pointer (some ⟨q, 0, none⟩)] enter39 rfl rfl rfl (end_any q u c (dT5 c) _ rd19 hl) ?_
          rintro _ w20 ⟨rfl, rd20, f20⟩
          refine ⟨_, rfl, ?_⟩
          have bp20 := bp19.fx f20 (fun e => hqp e.symm)
          have be20 := be17.fx f20 (fun e => by omega)
          have l20 := bfx l17 (by omega) f20
          refine WL.done ?_
          refine EW.on ?_
          refine EW.seq ?_
          refine EW.seq ?_
          by_cases hm : dM c = mkD (dS4 c).hl
          · refine EW.region ?_
            first | refine WL.move rfl rfl rfl ?_
            refine WL.field rfl rfl rfl (f33_12 p _) ?_
            refine WL.load rfl rfl rfl (Sg.ld_hl bp20 (dS4_ok c)) ?_
            refine WL.call [(dS4 c).hl.v] enter29 rfl rfl rfl (mark_any _ (dS4_ok c).hl _) ?_
            rintro _ w21 ⟨rfl, e21⟩
            refine ⟨_, rfl, ?_⟩
            have bp21 := bp20.on e21
            have be21 := be20.on e21
            have rd21 := rd20.below e21
            have l21 := bt l20 e21
            refine WL.bin rfl rfl rfl rfl (int_ne_f (by omega) _ _ _) ?_
            refine WL.done ?_
            refine EW.on ?_
            refine EW.cond_f rfl ?_
            refine EW.skip ?_
            refine EW.on ?_
            refine EW.seq ?_
            refine EW.ordB [(0, 0, 1), (1, 0, 1), (2, 1, 1), (3, 1, 0), (4, 1, 0)] (by kernel_rfl) rfl (by kernel_rfl) ?_
            simp only [opsZ, List.getD_cons_zero, List.getD_cons_succ]
            refine ZE.load rfl rfl rfl rfl sz1 (fun W hW => Sg.ld (bp21.on (sb_of hW)) (dS4_ok c)) ?_
            refine ZE.load rfl rfl rfl rfl sz1 (fun W hW => Sg.ld (bp21.on (sb_of hW)) (dS4_ok c)) ?_
            refine ZE.callB [(dS4 c).v] enter10 rfl rfl rfl (fun W h => .inr h) (fun W hW => check_any _ (dS4_ok c) W) ?_
            refine ZE.store (fun W => Blk W p (dS4 c).cs 33 ∧ Blk W pe [.int .i64 0] 35 ∧ Rd W q u c (eS c (dT5 c)).1 (eS c (dT5 c)).2 ∧ Below w.heap.size w W) rfl rfl rfl (fun _ _ => .inl rfl) (fun W hW => ?_) ?_
            · obtain ⟨w', g1, g2, g3⟩ := Sg.st (s := dS4 c) (bp21.on hW) (dS4_ok c) (dS4_ok c)
              exact ⟨w', g1, g2, (be21.on hW).fx g3 (fun e => hpe e.symm), (rd21.below hW).fx g3 hqp hov, bfx (bt l21 hW) (by omega) g3⟩
            refine ZE.store (fun W => Blk W p (dS4 c).cs 33 ∧ Blk W pe [.int .i64 (chkD (dS4 c))] 35 ∧ Rd W q u c (eS c (dT5 c)).1 (eS c (dT5 c)).2 ∧ Below w.heap.size w W) rfl rfl rfl (fun _ _ => .inl rfl) (fun W hW => ?_) ?_
            · obtain ⟨g1, g2, g3, g4⟩ := hW
              obtain ⟨w', h1, h2, h3⟩ := stE0 g2 (chkD (dS4 c))
              exact ⟨w', h1, g1.fx h3 hpe, h2, g3.fx h3 (by omega) (fr3.off hpe2), bfx g4 (by omega) h3⟩
            rintro w99 ⟨bp99, be99, rd99, l99⟩
            refine EW.on ?_
            refine EW.ret ?_
            have hE : decE c = tlE (eS c (dT5 c)).2 (chkD (dS4 c)) := by rw [decE, if_pos hv, if_neg (by omega), if_pos hm]
            have hS : decS c = if tlE (eS c (dT5 c)).2 (chkD (dS4 c)) = 0 then dS4 c else Sg.z := by rw [decS, hE]
            refine EW.leavesA (S := fun w' => Blk w' p (decS c).cs 33 ∧ Blk w' pe [.int .i64 (decE c)] 35 ∧ Below w.heap.size w w') enter40 ((tellS .returning q p pe u c (eS c (dT5 c)).1 (eS c (dT5 c)).2 (dS4 c) (dS4_ok c) (chkD (dS4 c)) _ rd99 bp99 be99 hpe).mono ?_) ?_
            · rintro x u' w' ⟨rfl, rfl, g1, g2, g3⟩
              exact ⟨rfl, rfl, by rw [hS]; exact g1, by rw [hE]; exact g2, bfx2 l99 (by omega) (by omega) g3⟩
            · rintro w' ⟨g1, g2, g3⟩ a ha
              exact ⟨_, res_ci Try.results16 a.tmps w' p pe 33 35 _ _ _ (ha.kn 2 _ rfl) g1 Try.underlying33 rfl (i33 (decS_ok c)) (ha.kn 3 _ rfl) g2, rfl, g3⟩
          · refine EW.region ?_
            first | refine WL.move rfl rfl rfl ?_
            refine WL.field rfl rfl rfl (f33_12 p _) ?_
            refine WL.load rfl rfl rfl (Sg.ld_hl bp20 (dS4_ok c)) ?_
            refine WL.call [(dS4 c).hl.v] enter29 rfl rfl rfl (mark_any _ (dS4_ok c).hl _) ?_
            rintro _ w21 ⟨rfl, e21⟩
            refine ⟨_, rfl, ?_⟩
            have bp21 := bp20.on e21
            have be21 := be20.on e21
            have rd21 := rd20.below e21
            have l21 := bt l20 e21
            refine WL.bin rfl rfl rfl rfl (int_ne_t (by omega) _ _ _) ?_
            refine WL.done ?_
            refine EW.on ?_
            refine EW.cond_t rfl ?_
            refine EW.seq ?_
            refine EW.region ?_
            refine WL.load rfl rfl rfl (Sg.ld bp21 (dS4_ok c)) ?_
            obtain ⟨w22, s22, bp22, f22⟩ := Sg.st (s := (dS4 c)) bp21 (dS4_ok c) (dS4_ok c)
            refine WL.store rfl rfl rfl s22 ?_
            have be22 := be21.fx f22 (fun e => hpe e.symm)
            have rd22 := rd21.fx f22 hqp hov
            have l22 := bfx l21 (by omega) f22
            obtain ⟨w23, s23, be23, f23⟩ := stE0 be22 180
            refine WL.store rfl rfl rfl s23 ?_
            have bp23 := bp22.fx f23 hpe
            have rd23 := rd22.fx f23 (by omega) (fr3.off hpe2)
            have l23 := bfx l22 (by omega) f23
            refine WL.done ?_
            refine EW.on ?_
            refine EW.ret ?_
            refine pr_then ?_
            have hE : decE c = tlE (eS c (dT5 c)).2 (180) := by rw [decE, if_pos hv, if_neg (by omega), if_neg hm]
            have hS : decS c = if tlE (eS c (dT5 c)).2 (180) = 0 then dS4 c else Sg.z := by rw [decS, hE]
            refine EW.leavesA (S := fun w' => Blk w' p (decS c).cs 33 ∧ Blk w' pe [.int .i64 (decE c)] 35 ∧ Below w.heap.size w w') enter40 ((tellS .returning q p pe u c (eS c (dT5 c)).1 (eS c (dT5 c)).2 (dS4 c) (dS4_ok c) (180) _ rd23 bp23 be23 hpe).mono ?_) ?_
            · rintro x u' w' ⟨rfl, rfl, g1, g2, g3⟩
              exact ⟨rfl, rfl, by rw [hS]; exact g1, by rw [hE]; exact g2, bfx2 l23 (by omega) (by omega) g3⟩
            · rintro w' ⟨g1, g2, g3⟩ a ha
              exact ⟨_, res_ci Try.results16 a.tmps w' p pe 33 35 _ _ _ (ha.kn 2 _ rfl) g1 Try.underlying33 rfl (i33 (decS_ok c)) (ha.kn 3 _ rfl) g2, rfl, g3⟩
        · refine EW.region ?_
          first | refine WL.move rfl rfl rfl ?_
          refine WL.done ?_
          refine EW.on ?_
          refine EW.block ?_
          refine EW.seq ?_
          have rd18 : Rd w17 q u c (dT4 c).1 (dT4 c).2 := rd17
          refine EW.region ?_
          refine WL.bin rfl rfl rfl rfl (int_eq_f (by omega) _ _ _) ?_
          first | refine WL.assign rfl rfl rfl ?_
          refine WL.done ?_
          refine EW.on ?_
          refine EW.cond_f rfl ?_
          refine EW.seq ?_
          refine EW.region ?_
          refine WL.bin rfl rfl rfl rfl (int_eq_t (by omega) _ _ _) ?_
          first | refine WL.assign rfl rfl rfl ?_
          refine WL.done ?_
          refine EW.on ?_
          refine EW.cond_t rfl ?_
          refine EW.region ?_
          first | refine WL.move rfl rfl rfl ?_
          refine WL.call [.pointer (some ⟨q, 0, none⟩), .pointer (some ⟨p, 0, none⟩)] enter45 rfl rfl rfl (rdHello_any q p u c (dT4 c) (dS3 c) (dS3_ok c) _ rd18 bp17 hl hqp hov) ?_
          rintro _ w19 ⟨rfl, bp19', rd19', f19⟩
          refine ⟨_, rfl, ?_⟩
          have be19 := be17.fx f19 (fun e => by rcases e with e | e <;> omega)
          have l19 := bfx2 l17 (by omega) (by omega) f19
          refine WL.done ?_
          refine pn_block ?_
          refine EW.on ?_
          refine EW.seq ?_
          have bp20 : Blk w19 p (dS4 c).cs 33 := by rw [dS4, if_pos (show dM c = 1 by omega)]; exact bp19'
          have rd20 : Rd w19 q u c (dT5 c).1 (dT5 c).2 := by rw [dT5, if_pos (show dM c = 1 by omega)]; exact rd19'
          refine EW.region ?_
          first | refine WL.move rfl rfl rfl ?_
          refine WL.call [.pointer (some ⟨q, 0, none⟩)] enter39 rfl rfl rfl (end_any q u c (dT5 c) _ rd20 hl) ?_
          rintro _ w21 ⟨rfl, rd21, f21⟩
          refine ⟨_, rfl, ?_⟩
          have bp21 := bp20.fx f21 (fun e => hqp e.symm)
          have be21 := be19.fx f21 (fun e => by omega)
          have l21 := bfx l19 (by omega) f21
          refine WL.done ?_
          refine EW.on ?_
          refine EW.seq ?_
          refine EW.seq ?_
          by_cases hm : dM c = mkD (dS4 c).hl
          · refine EW.region ?_
            first | refine WL.move rfl rfl rfl ?_
            refine WL.field rfl rfl rfl (f33_12 p _) ?_
            refine WL.load rfl rfl rfl (Sg.ld_hl bp21 (dS4_ok c)) ?_
            refine WL.call [(dS4 c).hl.v] enter29 rfl rfl rfl (mark_any _ (dS4_ok c).hl _) ?_
            rintro _ w22 ⟨rfl, e22⟩
            refine ⟨_, rfl, ?_⟩
            have bp22 := bp21.on e22
            have be22 := be21.on e22
            have rd22 := rd21.below e22
            have l22 := bt l21 e22
            refine WL.bin rfl rfl rfl rfl (int_ne_f (by omega) _ _ _) ?_
            refine WL.done ?_
            refine EW.on ?_
            refine EW.cond_f rfl ?_
            refine EW.skip ?_
            refine EW.on ?_
            refine EW.seq ?_
            refine EW.ordB [(0, 0, 1), (1, 0, 1), (2, 1, 1), (3, 1, 0), (4, 1, 0)] (by kernel_rfl) rfl (by kernel_rfl) ?_
            simp only [opsZ, List.getD_cons_zero, List.getD_cons_succ]
            refine ZE.load rfl rfl rfl rfl sz1 (fun W hW => Sg.ld (bp22.on (sb_of hW)) (dS4_ok c)) ?_
            refine ZE.load rfl rfl rfl rfl sz1 (fun W hW => Sg.ld (bp22.on (sb_of hW)) (dS4_ok c)) ?_
            refine ZE.callB [(dS4 c).v] enter10 rfl rfl rfl (fun W h => .inr h) (fun W hW => check_any _ (dS4_ok c) W) ?_
            refine ZE.store (fun W => Blk W p (dS4 c).cs 33 ∧ Blk W pe [.int .i64 0] 35 ∧ Rd W q u c (eS c (dT5 c)).1 (eS c (dT5 c)).2 ∧ Below w.heap.size w W) rfl rfl rfl (fun _ _ => .inl rfl) (fun W hW => ?_) ?_
            · obtain ⟨w', g1, g2, g3⟩ := Sg.st (s := dS4 c) (bp22.on hW) (dS4_ok c) (dS4_ok c)
              exact ⟨w', g1, g2, (be22.on hW).fx g3 (fun e => hpe e.symm), (rd22.below hW).fx g3 hqp hov, bfx (bt l22 hW) (by omega) g3⟩
            refine ZE.store (fun W => Blk W p (dS4 c).cs 33 ∧ Blk W pe [.int .i64 (chkD (dS4 c))] 35 ∧ Rd W q u c (eS c (dT5 c)).1 (eS c (dT5 c)).2 ∧ Below w.heap.size w W) rfl rfl rfl (fun _ _ => .inl rfl) (fun W hW => ?_) ?_
            · obtain ⟨g1, g2, g3, g4⟩ := hW
              obtain ⟨w', h1, h2, h3⟩ := stE0 g2 (chkD (dS4 c))
              exact ⟨w', h1, g1.fx h3 hpe, h2, g3.fx h3 (by omega) (fr3.off hpe2), bfx g4 (by omega) h3⟩
            rintro w99 ⟨bp99, be99, rd99, l99⟩
            refine EW.on ?_
            refine EW.ret ?_
            have hE : decE c = tlE (eS c (dT5 c)).2 (chkD (dS4 c)) := by rw [decE, if_pos hv, if_neg (by omega), if_pos hm]
            have hS : decS c = if tlE (eS c (dT5 c)).2 (chkD (dS4 c)) = 0 then dS4 c else Sg.z := by rw [decS, hE]
            refine EW.leavesA (S := fun w' => Blk w' p (decS c).cs 33 ∧ Blk w' pe [.int .i64 (decE c)] 35 ∧ Below w.heap.size w w') enter40 ((tellS .returning q p pe u c (eS c (dT5 c)).1 (eS c (dT5 c)).2 (dS4 c) (dS4_ok c) (chkD (dS4 c)) _ rd99 bp99 be99 hpe).mono ?_) ?_
            · rintro x u' w' ⟨rfl, rfl, g1, g2, g3⟩
              exact ⟨rfl, rfl, by rw [hS]; exact g1, by rw [hE]; exact g2, bfx2 l99 (by omega) (by omega) g3⟩
            · rintro w' ⟨g1, g2, g3⟩ a ha
              exact ⟨_, res_ci Try.results16 a.tmps w' p pe 33 35 _ _ _ (ha.kn 2 _ rfl) g1 Try.underlying33 rfl (i33 (decS_ok c)) (ha.kn 3 _ rfl) g2, rfl, g3⟩
          · refine EW.region ?_
            first | refine WL.move rfl rfl rfl ?_
            refine WL.field rfl rfl rfl (f33_12 p _) ?_
            refine WL.load rfl rfl rfl (Sg.ld_hl bp21 (dS4_ok c)) ?_
            refine WL.call [(dS4 c).hl.v] enter29 rfl rfl rfl (mark_any _ (dS4_ok c).hl _) ?_
            rintro _ w22 ⟨rfl, e22⟩
            refine ⟨_, rfl, ?_⟩
            have bp22 := bp21.on e22
            have be22 := be21.on e22
            have rd22 := rd21.below e22
            have l22 := bt l21 e22
            refine WL.bin rfl rfl rfl rfl (int_ne_t (by omega) _ _ _) ?_
            refine WL.done ?_
            refine EW.on ?_
            refine EW.cond_t rfl ?_
            refine EW.seq ?_
            refine EW.region ?_
            refine WL.load rfl rfl rfl (Sg.ld bp22 (dS4_ok c)) ?_
            obtain ⟨w23, s23, bp23, f23⟩ := Sg.st (s := (dS4 c)) bp22 (dS4_ok c) (dS4_ok c)
            refine WL.store rfl rfl rfl s23 ?_
            have be23 := be22.fx f23 (fun e => hpe e.symm)
            have rd23 := rd22.fx f23 hqp hov
            have l23 := bfx l22 (by omega) f23
            obtain ⟨w24, s24, be24, f24⟩ := stE0 be23 180
            refine WL.store rfl rfl rfl s24 ?_
            have bp24 := bp23.fx f24 hpe
            have rd24 := rd23.fx f24 (by omega) (fr3.off hpe2)
            have l24 := bfx l23 (by omega) f24
            refine WL.done ?_
            refine EW.on ?_
            refine EW.ret ?_
            refine pr_then ?_
            have hE : decE c = tlE (eS c (dT5 c)).2 (180) := by rw [decE, if_pos hv, if_neg (by omega), if_neg hm]
            have hS : decS c = if tlE (eS c (dT5 c)).2 (180) = 0 then dS4 c else Sg.z := by rw [decS, hE]
            refine EW.leavesA (S := fun w' => Blk w' p (decS c).cs 33 ∧ Blk w' pe [.int .i64 (decE c)] 35 ∧ Below w.heap.size w w') enter40 ((tellS .returning q p pe u c (eS c (dT5 c)).1 (eS c (dT5 c)).2 (dS4 c) (dS4_ok c) (180) _ rd24 bp24 be24 hpe).mono ?_) ?_
            · rintro x u' w' ⟨rfl, rfl, g1, g2, g3⟩
              exact ⟨rfl, rfl, by rw [hS]; exact g1, by rw [hE]; exact g2, bfx2 l24 (by omega) (by omega) g3⟩
            · rintro w' ⟨g1, g2, g3⟩ a ha
              exact ⟨_, res_ci Try.results16 a.tmps w' p pe 33 35 _ _ _ (ha.kn 2 _ rfl) g1 Try.underlying33 rfl (i33 (decS_ok c)) (ha.kn 3 _ rfl) g2, rfl, g3⟩
        · refine EW.region ?_
          first | refine WL.move rfl rfl rfl ?_
          refine WL.done ?_
          refine EW.on ?_
          refine EW.block ?_
          refine EW.seq ?_
          have rd18 : Rd w17 q u c (dT4 c).1 (dT4 c).2 := rd17
          refine EW.region ?_
          refine WL.bin rfl rfl rfl rfl (int_eq_f (by omega) _ _ _) ?_
          first | refine WL.assign rfl rfl rfl ?_
          refine WL.done ?_
          refine EW.on ?_
          refine EW.cond_f rfl ?_
          refine EW.seq ?_
          refine EW.region ?_
          refine WL.bin rfl rfl rfl rfl (int_eq_f (by omega) _ _ _) ?_
          first | refine WL.assign rfl rfl rfl ?_
          refine WL.done ?_
          refine EW.on ?_
          refine EW.cond_f rfl ?_
          refine EW.seq ?_
          refine EW.region ?_
          refine WL.load rfl rfl rfl (Sg.ld bp17 (dS3_ok c)) ?_
          obtain ⟨w19, s19, bp19, f19⟩ := Sg.st (s := (dS3 c)) bp17 (dS3_ok c) (dS3_ok c)
          refine WL.store rfl rfl rfl s19 ?_
          have be19 := be17.fx f19 (fun e => hpe e.symm)
          have rd19 := rd18.fx f19 hqp hov
          have l19 := bfx l17 (by omega) f19
          obtain ⟨w20, s20, be20, f20⟩ := stE0 be19 180
          refine WL.store rfl rfl rfl s20 ?_
          have bp20 := bp19.fx f20 hpe
          have rd20 := rd19.fx f20 (by omega) (fr3.off hpe2)
          have l20 := bfx l19 (by omega) f20
          refine WL.done ?_
          refine EW.on ?_
          refine EW.ret ?_
          refine pr_block ?_
          refine pr_then ?_
          have hE : decE c = tlE (dT4 c).2 180 := by rw [decE, if_pos hv, if_pos (by omega)]
          have hS : decS c = if tlE (dT4 c).2 180 = 0 then dS3 c else Sg.z := by rw [decS, hE, if_neg (tlE_ne (by decide)), if_neg (tlE_ne (by decide))]
          refine EW.leavesA (S := fun w' => Blk w' p (decS c).cs 33 ∧ Blk w' pe [.int .i64 (decE c)] 35 ∧ Below w.heap.size w w') enter40 ((tellS .returning q p pe u c (dT4 c).1 (dT4 c).2 (dS3 c) (dS3_ok c) (180) _ rd20 bp20 be20 hpe).mono ?_) ?_
          · rintro x u' w' ⟨rfl, rfl, g1, g2, g3⟩
            exact ⟨rfl, rfl, by rw [hS]; exact g1, by rw [hE]; exact g2, bfx2 l20 (by omega) (by omega) g3⟩
          · rintro w' ⟨g1, g2, g3⟩ a ha
            exact ⟨_, res_ci Try.results16 a.tmps w' p pe 33 35 _ _ _ (ha.kn 2 _ rfl) g1 Try.underlying33 rfl (i33 (decS_ok c)) (ha.kn 3 _ rfl) g2, rfl, g3⟩
    · refine EW.skip ?_
      refine EW.on ?_
      refine EW.seq ?_
      refine EW.seq ?_
      have bp14 : Blk w12 p (dS2 c).cs 33 := by rw [dS2, if_neg h17]; exact bp13
      have rd14 : Rd w12 q u c (dT2 c).1 (dT2 c).2 := by rw [dT2, if_neg h17]; exact rd13
      refine EW.region ?_
      refine WL.field rfl rfl rfl (f33_7 p _) ?_
      refine WL.load rfl rfl rfl (Sg.ld_turns bp14 (dS2_ok c)) ?_
      refine WL.bin rfl rfl rfl rfl (u_gt_d _ 0 _ _ _) ?_
      refine WL.done ?_
      refine EW.on ?_
      refine EW.cond_d rfl (fun h22 => ?_) (fun h22 => ?_)
      · refine EW.region ?_
        first | refine WL.move rfl rfl rfl ?_
        refine WL.call [.pointer (some ⟨q, 0, none⟩), .pointer (some ⟨p, 0, none⟩)] enter44 rfl rfl rfl (rdRecv_any q p u c (dT2 c) (dS2 c) (dS2_ok c) _ rd14 bp14 hl hqp hov) ?_
        rintro _ w15 ⟨rfl, bp15', rd15', f15⟩
        refine ⟨_, rfl, ?_⟩
        have be15 := be12.fx f15 (fun e => by rcases e with e | e <;> omega)
        have l15 := bfx2 l12 (by omega) (by omega) f15
        refine WL.done ?_
        refine EW.on ?_
        refine EW.seq ?_
        have bp16 : Blk w15 p (dS3 c).cs 33 := by rw [dS3, if_pos h22]; exact bp15'
        have rd16 : Rd w15 q u c (dT3 c).1 (dT3 c).2 := by rw [dT3, if_pos h22]; exact rd15'
        refine EW.region ?_
        first | refine WL.move rfl rfl rfl ?_
        refine WL.call [.pointer (some ⟨q, 0, none⟩)] enter41 rfl rfl rfl (rn1_any q u c (dT3 c) _ rd16 hl) ?_
        rintro _ w17 ⟨rfl, rd17, f17⟩
        refine ⟨_, rfl, ?_⟩
        have bp17 := bp16.fx f17 (fun e => hqp e.symm)
        have be17 := be15.fx f17 (fun e => by omega)
        have l17 := bfx l15 (by omega) f17
        first | refine WL.assign rfl rfl rfl ?_
        refine WL.done ?_
        refine EW.on ?_
        refine EW.seq ?_
        refine EW.seq ?_
        have hc : dM c = 0 ∨ dM c = 1 ∨ 1 < dM c := by omega
        have hdm : numB (rB c 1 (dT3 c)) = dM c := rfl
        rcases hc with hc | hc | hc
        · refine EW.region ?_
          first | refine WL.move rfl rfl rfl ?_
          refine WL.done ?_
          refine EW.on ?_
          refine EW.block ?_
          refine EW.seq ?_
          have rd18 : Rd w17 q u c (dT4 c).1 (dT4 c).2 := rd17
          refine EW.region ?_
          refine WL.bin rfl rfl rfl rfl (int_eq_t (by omega) _ _ _) ?_
          first | refine WL.assign rfl rfl rfl ?_
          refine WL.done ?_
          refine EW.on ?_
          refine EW.cond_t rfl ?_
          refine EW.skip ?_
          refine pn_block ?_
          refine EW.on ?_
          refine EW.seq ?_
          have bp19 : Blk w17 p (dS4 c).cs 33 := by rw [dS4, if_neg (show ¬ dM c = 1 by omega)]; exact bp17
          have rd19 : Rd w17 q u c (dT5 c).1 (dT5 c).2 := by rw [dT5, if_neg (show ¬ dM c = 1 by omega)]; exact rd18
          refine EW.region ?_
          first | refine WL.move rfl rfl rfl ?_
          refine WL.call [.pointer (some ⟨q, 0, none⟩)] enter39 rfl rfl rfl (end_any q u c (dT5 c) _ rd19 hl) ?_
          rintro _ w20 ⟨rfl, rd20, f20⟩
          refine ⟨_, rfl, ?_⟩
          have bp20 := bp19.fx f20 (fun e => hqp e.symm)
          have be20 := be17.fx f20 (fun e => by omega)
          have l20 := bfx l17 (by omega) f20
          refine WL.done ?_
          refine EW.on ?_
          refine EW.seq ?_
          refine EW.seq ?_
          by_cases hm : dM c = mkD (dS4 c).hl
          · refine EW.region ?_
            first | refine WL.move rfl rfl rfl ?_
            refine WL.field rfl rfl rfl (f33_12 p _) ?_
            refine WL.load rfl rfl rfl (Sg.ld_hl bp20 (dS4_ok c)) ?_
            refine WL.call [(dS4 c).hl.v] enter29 rfl rfl rfl (mark_any _ (dS4_ok c).hl _) ?_
            rintro _ w21 ⟨rfl, e21⟩
            refine ⟨_, rfl, ?_⟩
            have bp21 := bp20.on e21
            have be21 := be20.on e21
            have rd21 := rd20.below e21
            have l21 := bt l20 e21
            refine WL.bin rfl rfl rfl rfl (int_ne_f (by omega) _ _ _) ?_
            refine WL.done ?_
            refine EW.on ?_
            refine EW.cond_f rfl ?_
            refine EW.skip ?_
            refine EW.on ?_
            refine EW.seq ?_
            refine EW.ordB [(0, 0, 1), (1, 0, 1), (2, 1, 1), (3, 1, 0), (4, 1, 0)] (by kernel_rfl) rfl (by kernel_rfl) ?_
            simp only [opsZ, List.getD_cons_zero, List.getD_cons_succ]
            refine ZE.load rfl rfl rfl rfl sz1 (fun W hW => Sg.ld (bp21.on (sb_of hW)) (dS4_ok c)) ?_
            refine ZE.load rfl rfl rfl rfl sz1 (fun W hW => Sg.ld (bp21.on (sb_of hW)) (dS4_ok c)) ?_
            refine ZE.callB [(dS4 c).v] enter10 rfl rfl rfl (fun W h => .inr h) (fun W hW => check_any _ (dS4_ok c) W) ?_
            refine ZE.store (fun W => Blk W p (dS4 c).cs 33 ∧ Blk W pe [.int .i64 0] 35 ∧ Rd W q u c (eS c (dT5 c)).1 (eS c (dT5 c)).2 ∧ Below w.heap.size w W) rfl rfl rfl (fun _ _ => .inl rfl) (fun W hW => ?_) ?_
            · obtain ⟨w', g1, g2, g3⟩ := Sg.st (s := dS4 c) (bp21.on hW) (dS4_ok c) (dS4_ok c)
              exact ⟨w', g1, g2, (be21.on hW).fx g3 (fun e => hpe e.symm), (rd21.below hW).fx g3 hqp hov, bfx (bt l21 hW) (by omega) g3⟩
            refine ZE.store (fun W => Blk W p (dS4 c).cs 33 ∧ Blk W pe [.int .i64 (chkD (dS4 c))] 35 ∧ Rd W q u c (eS c (dT5 c)).1 (eS c (dT5 c)).2 ∧ Below w.heap.size w W) rfl rfl rfl (fun _ _ => .inl rfl) (fun W hW => ?_) ?_
            · obtain ⟨g1, g2, g3, g4⟩ := hW
              obtain ⟨w', h1, h2, h3⟩ := stE0 g2 (chkD (dS4 c))
              exact ⟨w', h1, g1.fx h3 hpe, h2, g3.fx h3 (by omega) (fr3.off hpe2), bfx g4 (by omega) h3⟩
            rintro w99 ⟨bp99, be99, rd99, l99⟩
            refine EW.on ?_
            refine EW.ret ?_
            have hE : decE c = tlE (eS c (dT5 c)).2 (chkD (dS4 c)) := by rw [decE, if_pos hv, if_neg (by omega), if_pos hm]
            have hS : decS c = if tlE (eS c (dT5 c)).2 (chkD (dS4 c)) = 0 then dS4 c else Sg.z := by rw [decS, hE]
            refine EW.leavesA (S := fun w' => Blk w' p (decS c).cs 33 ∧ Blk w' pe [.int .i64 (decE c)] 35 ∧ Below w.heap.size w w') enter40 ((tellS .returning q p pe u c (eS c (dT5 c)).1 (eS c (dT5 c)).2 (dS4 c) (dS4_ok c) (chkD (dS4 c)) _ rd99 bp99 be99 hpe).mono ?_) ?_
            · rintro x u' w' ⟨rfl, rfl, g1, g2, g3⟩
              exact ⟨rfl, rfl, by rw [hS]; exact g1, by rw [hE]; exact g2, bfx2 l99 (by omega) (by omega) g3⟩
            · rintro w' ⟨g1, g2, g3⟩ a ha
              exact ⟨_, res_ci Try.results16 a.tmps w' p pe 33 35 _ _ _ (ha.kn 2 _ rfl) g1 Try.underlying33 rfl (i33 (decS_ok c)) (ha.kn 3 _ rfl) g2, rfl, g3⟩
          · refine EW.region ?_
            first | refine WL.move rfl rfl rfl ?_
            refine WL.field rfl rfl rfl (f33_12 p _) ?_
            refine WL.load rfl rfl rfl (Sg.ld_hl bp20 (dS4_ok c)) ?_
            refine WL.call [(dS4 c).hl.v] enter29 rfl rfl rfl (mark_any _ (dS4_ok c).hl _) ?_
            rintro _ w21 ⟨rfl, e21⟩
            refine ⟨_, rfl, ?_⟩
            have bp21 := bp20.on e21
            have be21 := be20.on e21
            have rd21 := rd20.below e21
            have l21 := bt l20 e21
            refine WL.bin rfl rfl rfl rfl (int_ne_t (by omega) _ _ _) ?_
            refine WL.done ?_
            refine EW.on ?_
            refine EW.cond_t rfl ?_
            refine EW.seq ?_
            refine EW.region ?_
            refine WL.load rfl rfl rfl (Sg.ld bp21 (dS4_ok c)) ?_
            obtain ⟨w22, s22, bp22, f22⟩ := Sg.st (s := (dS4 c)) bp21 (dS4_ok c) (dS4_ok c)
            refine WL.store rfl rfl rfl s22 ?_
            have be22 := be21.fx f22 (fun e => hpe e.symm)
            have rd22 := rd21.fx f22 hqp hov
            have l22 := bfx l21 (by omega) f22
            obtain ⟨w23, s23, be23, f23⟩ := stE0 be22 180
            refine WL.store rfl rfl rfl s23 ?_
            have bp23 := bp22.fx f23 hpe
            have rd23 := rd22.fx f23 (by omega) (fr3.off hpe2)
            have l23 := bfx l22 (by omega) f23
            refine WL.done ?_
            refine EW.on ?_
            refine EW.ret ?_
            refine pr_then ?_
            have hE : decE c = tlE (eS c (dT5 c)).2 (180) := by rw [decE, if_pos hv, if_neg (by omega), if_neg hm]
            have hS : decS c = if tlE (eS c (dT5 c)).2 (180) = 0 then dS4 c else Sg.z := by rw [decS, hE]
            refine EW.leavesA (S := fun w' => Blk w' p (decS c).cs 33 ∧ Blk w' pe [.int .i64 (decE c)] 35 ∧ Below w.heap.size w w') enter40 ((tellS .returning q p pe u c (eS c (dT5 c)).1 (eS c (dT5 c)).2 (dS4 c) (dS4_ok c) (180) _ rd23 bp23 be23 hpe).mono ?_) ?_
            · rintro x u' w' ⟨rfl, rfl, g1, g2, g3⟩
              exact ⟨rfl, rfl, by rw [hS]; exact g1, by rw [hE]; exact g2, bfx2 l23 (by omega) (by omega) g3⟩
            · rintro w' ⟨g1, g2, g3⟩ a ha
              exact ⟨_, res_ci Try.results16 a.tmps w' p pe 33 35 _ _ _ (ha.kn 2 _ rfl) g1 Try.underlying33 rfl (i33 (decS_ok c)) (ha.kn 3 _ rfl) g2, rfl, g3⟩
        · refine EW.region ?_
          first | refine WL.move rfl rfl rfl ?_
          refine WL.done ?_
          refine EW.on ?_
          refine EW.block ?_
          refine EW.seq ?_
          have rd18 : Rd w17 q u c (dT4 c).1 (dT4 c).2 := rd17
          refine EW.region ?_
          refine WL.bin rfl rfl rfl rfl (int_eq_f (by omega) _ _ _) ?_
          first | refine WL.assign rfl rfl rfl ?_
          refine WL.done ?_
          refine EW.on ?_
          refine EW.cond_f rfl ?_
          refine EW.seq ?_
          refine EW.region ?_
          refine WL.bin rfl rfl rfl rfl (int_eq_t (by omega) _ _ _) ?_
          first | refine WL.assign rfl rfl rfl ?_
          refine WL.done ?_
          refine EW.on ?_
          refine EW.cond_t rfl ?_
          refine EW.region ?_
          first | refine WL.move rfl rfl rfl ?_
          refine WL.call [.pointer (some ⟨q, 0, none⟩), .pointer (some ⟨p, 0, none⟩)] enter45 rfl rfl rfl (rdHello_any q p u c (dT4 c) (dS3 c) (dS3_ok c) _ rd18 bp17 hl hqp hov) ?_
          rintro _ w19 ⟨rfl, bp19', rd19', f19⟩
          refine ⟨_, rfl, ?_⟩
          have be19 := be17.fx f19 (fun e => by rcases e with e | e <;> omega)
          have l19 := bfx2 l17 (by omega) (by omega) f19
          refine WL.done ?_
          refine pn_block ?_
          refine EW.on ?_
          refine EW.seq ?_
          have bp20 : Blk w19 p (dS4 c).cs 33 := by rw [dS4, if_pos (show dM c = 1 by omega)]; exact bp19'
          have rd20 : Rd w19 q u c (dT5 c).1 (dT5 c).2 := by rw [dT5, if_pos (show dM c = 1 by omega)]; exact rd19'
          refine EW.region ?_
          first | refine WL.move rfl rfl rfl ?_
          refine WL.call [.pointer (some ⟨q, 0, none⟩)] enter39 rfl rfl rfl (end_any q u c (dT5 c) _ rd20 hl) ?_
          rintro _ w21 ⟨rfl, rd21, f21⟩
          refine ⟨_, rfl, ?_⟩
          have bp21 := bp20.fx f21 (fun e => hqp e.symm)
          have be21 := be19.fx f21 (fun e => by omega)
          have l21 := bfx l19 (by omega) f21
          refine WL.done ?_
          refine EW.on ?_
          refine EW.seq ?_
          refine EW.seq ?_
          by_cases hm : dM c = mkD (dS4 c).hl
          · refine EW.region ?_
            first | refine WL.move rfl rfl rfl ?_
            refine WL.field rfl rfl rfl (f33_12 p _) ?_
            refine WL.load rfl rfl rfl (Sg.ld_hl bp21 (dS4_ok c)) ?_
            refine WL.call [(dS4 c).hl.v] enter29 rfl rfl rfl (mark_any _ (dS4_ok c).hl _) ?_
            rintro _ w22 ⟨rfl, e22⟩
            refine ⟨_, rfl, ?_⟩
            have bp22 := bp21.on e22
            have be22 := be21.on e22
            have rd22 := rd21.below e22
            have l22 := bt l21 e22
            refine WL.bin rfl rfl rfl rfl (int_ne_f (by omega) _ _ _) ?_
            refine WL.done ?_
            refine EW.on ?_
            refine EW.cond_f rfl ?_
            refine EW.skip ?_
            refine EW.on ?_
            refine EW.seq ?_
            refine EW.ordB [(0, 0, 1), (1, 0, 1), (2, 1, 1), (3, 1, 0), (4, 1, 0)] (by kernel_rfl) rfl (by kernel_rfl) ?_
            simp only [opsZ, List.getD_cons_zero, List.getD_cons_succ]
            refine ZE.load rfl rfl rfl rfl sz1 (fun W hW => Sg.ld (bp22.on (sb_of hW)) (dS4_ok c)) ?_
            refine ZE.load rfl rfl rfl rfl sz1 (fun W hW => Sg.ld (bp22.on (sb_of hW)) (dS4_ok c)) ?_
            refine ZE.callB [(dS4 c).v] enter10 rfl rfl rfl (fun W h => .inr h) (fun W hW => check_any _ (dS4_ok c) W) ?_
            refine ZE.store (fun W => Blk W p (dS4 c).cs 33 ∧ Blk W pe [.int .i64 0] 35 ∧ Rd W q u c (eS c (dT5 c)).1 (eS c (dT5 c)).2 ∧ Below w.heap.size w W) rfl rfl rfl (fun _ _ => .inl rfl) (fun W hW => ?_) ?_
            · obtain ⟨w', g1, g2, g3⟩ := Sg.st (s := dS4 c) (bp22.on hW) (dS4_ok c) (dS4_ok c)
              exact ⟨w', g1, g2, (be22.on hW).fx g3 (fun e => hpe e.symm), (rd22.below hW).fx g3 hqp hov, bfx (bt l22 hW) (by omega) g3⟩
            refine ZE.store (fun W => Blk W p (dS4 c).cs 33 ∧ Blk W pe [.int .i64 (chkD (dS4 c))] 35 ∧ Rd W q u c (eS c (dT5 c)).1 (eS c (dT5 c)).2 ∧ Below w.heap.size w W) rfl rfl rfl (fun _ _ => .inl rfl) (fun W hW => ?_) ?_
            · obtain ⟨g1, g2, g3, g4⟩ := hW
              obtain ⟨w', h1, h2, h3⟩ := stE0 g2 (chkD (dS4 c))
              exact ⟨w', h1, g1.fx h3 hpe, h2, g3.fx h3 (by omega) (fr3.off hpe2), bfx g4 (by omega) h3⟩
            rintro w99 ⟨bp99, be99, rd99, l99⟩
            refine EW.on ?_
            refine EW.ret ?_
            have hE : decE c = tlE (eS c (dT5 c)).2 (chkD (dS4 c)) := by rw [decE, if_pos hv, if_neg (by omega), if_pos hm]
            have hS : decS c = if tlE (eS c (dT5 c)).2 (chkD (dS4 c)) = 0 then dS4 c else Sg.z := by rw [decS, hE]
            refine EW.leavesA (S := fun w' => Blk w' p (decS c).cs 33 ∧ Blk w' pe [.int .i64 (decE c)] 35 ∧ Below w.heap.size w w') enter40 ((tellS .returning q p pe u c (eS c (dT5 c)).1 (eS c (dT5 c)).2 (dS4 c) (dS4_ok c) (chkD (dS4 c)) _ rd99 bp99 be99 hpe).mono ?_) ?_
            · rintro x u' w' ⟨rfl, rfl, g1, g2, g3⟩
              exact ⟨rfl, rfl, by rw [hS]; exact g1, by rw [hE]; exact g2, bfx2 l99 (by omega) (by omega) g3⟩
            · rintro w' ⟨g1, g2, g3⟩ a ha
              exact ⟨_, res_ci Try.results16 a.tmps w' p pe 33 35 _ _ _ (ha.kn 2 _ rfl) g1 Try.underlying33 rfl (i33 (decS_ok c)) (ha.kn 3 _ rfl) g2, rfl, g3⟩
          · refine EW.region ?_
            first | refine WL.move rfl rfl rfl ?_
            refine WL.field rfl rfl rfl (f33_12 p _) ?_
            refine WL.load rfl rfl rfl (Sg.ld_hl bp21 (dS4_ok c)) ?_
            refine WL.call [(dS4 c).hl.v] enter29 rfl rfl rfl (mark_any _ (dS4_ok c).hl _) ?_
            rintro _ w22 ⟨rfl, e22⟩
            refine ⟨_, rfl, ?_⟩
            have bp22 := bp21.on e22
            have be22 := be21.on e22
            have rd22 := rd21.below e22
            have l22 := bt l21 e22
            refine WL.bin rfl rfl rfl rfl (int_ne_t (by omega) _ _ _) ?_
            refine WL.done ?_
            refine EW.on ?_
            refine EW.cond_t rfl ?_
            refine EW.seq ?_
            refine EW.region ?_
            refine WL.load rfl rfl rfl (Sg.ld bp22 (dS4_ok c)) ?_
            obtain ⟨w23, s23, bp23, f23⟩ := Sg.st (s := (dS4 c)) bp22 (dS4_ok c) (dS4_ok c)
            refine WL.store rfl rfl rfl s23 ?_
            have be23 := be22.fx f23 (fun e => hpe e.symm)
            have rd23 := rd22.fx f23 hqp hov
            have l23 := bfx l22 (by omega) f23
            obtain ⟨w24, s24, be24, f24⟩ := stE0 be23 180
            refine WL.store rfl rfl rfl s24 ?_
            have bp24 := bp23.fx f24 hpe
            have rd24 := rd23.fx f24 (by omega) (fr3.off hpe2)
            have l24 := bfx l23 (by omega) f24
            refine WL.done ?_
            refine EW.on ?_
            refine EW.ret ?_
            refine pr_then ?_
            have hE : decE c = tlE (eS c (dT5 c)).2 (180) := by rw [decE, if_pos hv, if_neg (by omega), if_neg hm]
            have hS : decS c = if tlE (eS c (dT5 c)).2 (180) = 0 then dS4 c else Sg.z := by rw [decS, hE]
            refine EW.leavesA (S := fun w' => Blk w' p (decS c).cs 33 ∧ Blk w' pe [.int .i64 (decE c)] 35 ∧ Below w.heap.size w w') enter40 ((tellS .returning q p pe u c (eS c (dT5 c)).1 (eS c (dT5 c)).2 (dS4 c) (dS4_ok c) (180) _ rd24 bp24 be24 hpe).mono ?_) ?_
            · rintro x u' w' ⟨rfl, rfl, g1, g2, g3⟩
              exact ⟨rfl, rfl, by rw [hS]; exact g1, by rw [hE]; exact g2, bfx2 l24 (by omega) (by omega) g3⟩
            · rintro w' ⟨g1, g2, g3⟩ a ha
              exact ⟨_, res_ci Try.results16 a.tmps w' p pe 33 35 _ _ _ (ha.kn 2 _ rfl) g1 Try.underlying33 rfl (i33 (decS_ok c)) (ha.kn 3 _ rfl) g2, rfl, g3⟩
        · refine EW.region ?_
          first | refine WL.move rfl rfl rfl ?_
          refine WL.done ?_
          refine EW.on ?_
          refine EW.block ?_
          refine EW.seq ?_
          have rd18 : Rd w17 q u c (dT4 c).1 (dT4 c).2 := rd17
          refine EW.region ?_
          refine WL.bin rfl rfl rfl rfl (int_eq_f (by omega) _ _ _) ?_
          first | refine WL.assign rfl rfl rfl ?_
          refine WL.done ?_
          refine EW.on ?_
          refine EW.cond_f rfl ?_
          refine EW.seq ?_
          refine EW.region ?_
          refine WL.bin rfl rfl rfl rfl (int_eq_f (by omega) _ _ _) ?_
          first | refine WL.assign rfl rfl rfl ?_
          refine WL.done ?_
          refine EW.on ?_
          refine EW.cond_f rfl ?_
          refine EW.seq ?_
          refine EW.region ?_
          refine WL.load rfl rfl rfl (Sg.ld bp17 (dS3_ok c)) ?_
          obtain ⟨w19, s19, bp19, f19⟩ := Sg.st (s := (dS3 c)) bp17 (dS3_ok c) (dS3_ok c)
          refine WL.store rfl rfl rfl s19 ?_
          have be19 := be17.fx f19 (fun e => hpe e.symm)
          have rd19 := rd18.fx f19 hqp hov
          have l19 := bfx l17 (by omega) f19
          obtain ⟨w20, s20, be20, f20⟩ := stE0 be19 180
          refine WL.store rfl rfl rfl s20 ?_
          have bp20 := bp19.fx f20 hpe
          have rd20 := rd19.fx f20 (by omega) (fr3.off hpe2)
          have l20 := bfx l19 (by omega) f20
          refine WL.done ?_
          refine EW.on ?_
          refine EW.ret ?_
          refine pr_block ?_
          refine pr_then ?_
          have hE : decE c = tlE (dT4 c).2 180 := by rw [decE, if_pos hv, if_pos (by omega)]
          have hS : decS c = if tlE (dT4 c).2 180 = 0 then dS3 c else Sg.z := by rw [decS, hE, if_neg (tlE_ne (by decide)), if_neg (tlE_ne (by decide))]
          refine EW.leavesA (S := fun w' => Blk w' p (decS c).cs 33 ∧ Blk w' pe [.int .i64 (decE c)] 35 ∧ Below w.heap.size w w') enter40 ((tellS .returning q p pe u c (dT4 c).1 (dT4 c).2 (dS3 c) (dS3_ok c) (180) _ rd20 bp20 be20 hpe).mono ?_) ?_
          · rintro x u' w' ⟨rfl, rfl, g1, g2, g3⟩
            exact ⟨rfl, rfl, by rw [hS]; exact g1, by rw [hE]; exact g2, bfx2 l20 (by omega) (by omega) g3⟩
          · rintro w' ⟨g1, g2, g3⟩ a ha
            exact ⟨_, res_ci Try.results16 a.tmps w' p pe 33 35 _ _ _ (ha.kn 2 _ rfl) g1 Try.underlying33 rfl (i33 (decS_ok c)) (ha.kn 3 _ rfl) g2, rfl, g3⟩
      · refine EW.skip ?_
        refine EW.on ?_
        refine EW.seq ?_
        have bp15 : Blk w12 p (dS3 c).cs 33 := by rw [dS3, if_neg h22]; exact bp14
        have rd15 : Rd w12 q u c (dT3 c).1 (dT3 c).2 := by rw [dT3, if_neg h22]; exact rd14
        refine EW.region ?_
        first | refine WL.move rfl rfl rfl ?_
        refine WL.call [.pointer (some ⟨q, 0, none⟩)] enter41 rfl rfl rfl (rn1_any q u c (dT3 c) _ rd15 hl) ?_
        rintro _ w16 ⟨rfl, rd16, f16⟩
        refine ⟨_, rfl, ?_⟩
        have bp16 := bp15.fx f16 (fun e => hqp e.symm)
        have be16 := be12.fx f16 (fun e => by omega)
        have l16 := bfx l12 (by omega) f16
        first | refine WL.assign rfl rfl rfl ?_
        refine WL.done ?_
        refine EW.on ?_
        refine EW.seq ?_
        refine EW.seq ?_
        have hc : dM c = 0 ∨ dM c = 1 ∨ 1 < dM c := by omega
        have hdm : numB (rB c 1 (dT3 c)) = dM c := rfl
        rcases hc with hc | hc | hc
        · refine EW.region ?_
          first | refine WL.move rfl rfl rfl ?_
          refine WL.done ?_
          refine EW.on ?_
          refine EW.block ?_
          refine EW.seq ?_
          have rd17 : Rd w16 q u c (dT4 c).1 (dT4 c).2 := rd16
          refine EW.region ?_
          refine WL.bin rfl rfl rfl rfl (int_eq_t (by omega) _ _ _) ?_
          first | refine WL.assign rfl rfl rfl ?_
          refine WL.done ?_
          refine EW.on ?_
          refine EW.cond_t rfl ?_
          refine EW.skip ?_
          refine pn_block ?_
          refine EW.on ?_
          refine EW.seq ?_
          have bp18 : Blk w16 p (dS4 c).cs 33 := by rw [dS4, if_neg (show ¬ dM c = 1 by omega)]; exact bp16
          have rd18 : Rd w16 q u c (dT5 c).1 (dT5 c).2 := by rw [dT5, if_neg (show ¬ dM c = 1 by omega)]; exact rd17
          refine EW.region ?_
          first | refine WL.move rfl rfl rfl ?_
          refine WL.call [.pointer (some ⟨q, 0, none⟩)] enter39 rfl rfl rfl (end_any q u c (dT5 c) _ rd18 hl) ?_
          rintro _ w19 ⟨rfl, rd19, f19⟩
          refine ⟨_, rfl, ?_⟩
          have bp19 := bp18.fx f19 (fun e => hqp e.symm)
          have be19 := be16.fx f19 (fun e => by omega)
          have l19 := bfx l16 (by omega) f19
          refine WL.done ?_
          refine EW.on ?_
          refine EW.seq ?_
          refine EW.seq ?_
          by_cases hm : dM c = mkD (dS4 c).hl
          · refine EW.region ?_
            first | refine WL.move rfl rfl rfl ?_
            refine WL.field rfl rfl rfl (f33_12 p _) ?_
            refine WL.load rfl rfl rfl (Sg.ld_hl bp19 (dS4_ok c)) ?_
            refine WL.call [(dS4 c).hl.v] enter29 rfl rfl rfl (mark_any _ (dS4_ok c).hl _) ?_
            rintro _ w20 ⟨rfl, e20⟩
            refine ⟨_, rfl, ?_⟩
            have bp20 := bp19.on e20
            have be20 := be19.on e20
            have rd20 := rd19.below e20
            have l20 := bt l19 e20
            refine WL.bin rfl rfl rfl rfl (int_ne_f (by omega) _ _ _) ?_
            refine WL.done ?_
            refine EW.on ?_
            refine EW.cond_f rfl ?_
            refine EW.skip ?_
            refine EW.on ?_
            refine EW.seq ?_
            refine EW.ordB [(0, 0, 1), (1, 0, 1), (2, 1, 1), (3, 1, 0), (4, 1, 0)] (by kernel_rfl) rfl (by kernel_rfl) ?_
            simp only [opsZ, List.getD_cons_zero, List.getD_cons_succ]
            refine ZE.load rfl rfl rfl rfl sz1 (fun W hW => Sg.ld (bp20.on (sb_of hW)) (dS4_ok c)) ?_
            refine ZE.load rfl rfl rfl rfl sz1 (fun W hW => Sg.ld (bp20.on (sb_of hW)) (dS4_ok c)) ?_
            refine ZE.callB [(dS4 c).v] enter10 rfl rfl rfl (fun W h => .inr h) (fun W hW => check_any _ (dS4_ok c) W) ?_
            refine ZE.store (fun W => Blk W p (dS4 c).cs 33 ∧ Blk W pe [.int .i64 0] 35 ∧ Rd W q u c (eS c (dT5 c)).1 (eS c (dT5 c)).2 ∧ Below w.heap.size w W) rfl rfl rfl (fun _ _ => .inl rfl) (fun W hW => ?_) ?_
            · obtain ⟨w', g1, g2, g3⟩ := Sg.st (s := dS4 c) (bp20.on hW) (dS4_ok c) (dS4_ok c)
              exact ⟨w', g1, g2, (be20.on hW).fx g3 (fun e => hpe e.symm), (rd20.below hW).fx g3 hqp hov, bfx (bt l20 hW) (by omega) g3⟩
            refine ZE.store (fun W => Blk W p (dS4 c).cs 33 ∧ Blk W pe [.int .i64 (chkD (dS4 c))] 35 ∧ Rd W q u c (eS c (dT5 c)).1 (eS c (dT5 c)).2 ∧ Below w.heap.size w W) rfl rfl rfl (fun _ _ => .inl rfl) (fun W hW => ?_) ?_
            · obtain ⟨g1, g2, g3, g4⟩ := hW
              obtain ⟨w', h1, h2, h3⟩ := stE0 g2 (chkD (dS4 c))
              exact ⟨w', h1, g1.fx h3 hpe, h2, g3.fx h3 (by omega) (fr3.off hpe2), bfx g4 (by omega) h3⟩
            rintro w99 ⟨bp99, be99, rd99, l99⟩
            refine EW.on ?_
            refine EW.ret ?_
            have hE : decE c = tlE (eS c (dT5 c)).2 (chkD (dS4 c)) := by rw [decE, if_pos hv, if_neg (by omega), if_pos hm]
            have hS : decS c = if tlE (eS c (dT5 c)).2 (chkD (dS4 c)) = 0 then dS4 c else Sg.z := by rw [decS, hE]
            refine EW.leavesA (S := fun w' => Blk w' p (decS c).cs 33 ∧ Blk w' pe [.int .i64 (decE c)] 35 ∧ Below w.heap.size w w') enter40 ((tellS .returning q p pe u c (eS c (dT5 c)).1 (eS c (dT5 c)).2 (dS4 c) (dS4_ok c) (chkD (dS4 c)) _ rd99 bp99 be99 hpe).mono ?_) ?_
            · rintro x u' w' ⟨rfl, rfl, g1, g2, g3⟩
              exact ⟨rfl, rfl, by rw [hS]; exact g1, by rw [hE]; exact g2, bfx2 l99 (by omega) (by omega) g3⟩
            · rintro w' ⟨g1, g2, g3⟩ a ha
              exact ⟨_, res_ci Try.results16 a.tmps w' p pe 33 35 _ _ _ (ha.kn 2 _ rfl) g1 Try.underlying33 rfl (i33 (decS_ok c)) (ha.kn 3 _ rfl) g2, rfl, g3⟩
          · refine EW.region ?_
            first | refine WL.move rfl rfl rfl ?_
            refine WL.field rfl rfl rfl (f33_12 p _) ?_
            refine WL.load rfl rfl rfl (Sg.ld_hl bp19 (dS4_ok c)) ?_
            refine WL.call [(dS4 c).hl.v] enter29 rfl rfl rfl (mark_any _ (dS4_ok c).hl _) ?_
            rintro _ w20 ⟨rfl, e20⟩
            refine ⟨_, rfl, ?_⟩
            have bp20 := bp19.on e20
            have be20 := be19.on e20
            have rd20 := rd19.below e20
            have l20 := bt l19 e20
            refine WL.bin rfl rfl rfl rfl (int_ne_t (by omega) _ _ _) ?_
            refine WL.done ?_
            refine EW.on ?_
            refine EW.cond_t rfl ?_
            refine EW.seq ?_
            refine EW.region ?_
            refine WL.load rfl rfl rfl (Sg.ld bp20 (dS4_ok c)) ?_
            obtain ⟨w21, s21, bp21, f21⟩ := Sg.st (s := (dS4 c)) bp20 (dS4_ok c) (dS4_ok c)
            refine WL.store rfl rfl rfl s21 ?_
            have be21 := be20.fx f21 (fun e => hpe e.symm)
            have rd21 := rd20.fx f21 hqp hov
            have l21 := bfx l20 (by omega) f21
            obtain ⟨w22, s22, be22, f22⟩ := stE0 be21 180
            refine WL.store rfl rfl rfl s22 ?_
            have bp22 := bp21.fx f22 hpe
            have rd22 := rd21.fx f22 (by omega) (fr3.off hpe2)
            have l22 := bfx l21 (by omega) f22
            refine WL.done ?_
            refine EW.on ?_
            refine EW.ret ?_
            refine pr_then ?_
            have hE : decE c = tlE (eS c (dT5 c)).2 (180) := by rw [decE, if_pos hv, if_neg (by omega), if_neg hm]
            have hS : decS c = if tlE (eS c (dT5 c)).2 (180) = 0 then dS4 c else Sg.z := by rw [decS, hE]
            refine EW.leavesA (S := fun w' => Blk w' p (decS c).cs 33 ∧ Blk w' pe [.int .i64 (decE c)] 35 ∧ Below w.heap.size w w') enter40 ((tellS .returning q p pe u c (eS c (dT5 c)).1 (eS c (dT5 c)).2 (dS4 c) (dS4_ok c) (180) _ rd22 bp22 be22 hpe).mono ?_) ?_
            · rintro x u' w' ⟨rfl, rfl, g1, g2, g3⟩
              exact ⟨rfl, rfl, by rw [hS]; exact g1, by rw [hE]; exact g2, bfx2 l22 (by omega) (by omega) g3⟩
            · rintro w' ⟨g1, g2, g3⟩ a ha
              exact ⟨_, res_ci Try.results16 a.tmps w' p pe 33 35 _ _ _ (ha.kn 2 _ rfl) g1 Try.underlying33 rfl (i33 (decS_ok c)) (ha.kn 3 _ rfl) g2, rfl, g3⟩
        · refine EW.region ?_
          first | refine WL.move rfl rfl rfl ?_
          refine WL.done ?_
          refine EW.on ?_
          refine EW.block ?_
          refine EW.seq ?_
          have rd17 : Rd w16 q u c (dT4 c).1 (dT4 c).2 := rd16
          refine EW.region ?_
          refine WL.bin rfl rfl rfl rfl (int_eq_f (by omega) _ _ _) ?_
          first | refine WL.assign rfl rfl rfl ?_
          refine WL.done ?_
          refine EW.on ?_
          refine EW.cond_f rfl ?_
          refine EW.seq ?_
          refine EW.region ?_
          refine WL.bin rfl rfl rfl rfl (int_eq_t (by omega) _ _ _) ?_
          first | refine WL.assign rfl rfl rfl ?_
          refine WL.done ?_
          refine EW.on ?_
          refine EW.cond_t rfl ?_
          refine EW.region ?_
          first | refine WL.move rfl rfl rfl ?_
          refine WL.call [.pointer (some ⟨q, 0, none⟩), .pointer (some ⟨p, 0, none⟩)] enter45 rfl rfl rfl (rdHello_any q p u c (dT4 c) (dS3 c) (dS3_ok c) _ rd17 bp16 hl hqp hov) ?_
          rintro _ w18 ⟨rfl, bp18', rd18', f18⟩
          refine ⟨_, rfl, ?_⟩
          have be18 := be16.fx f18 (fun e => by rcases e with e | e <;> omega)
          have l18 := bfx2 l16 (by omega) (by omega) f18
          refine WL.done ?_
          refine pn_block ?_
          refine EW.on ?_
          refine EW.seq ?_
          have bp19 : Blk w18 p (dS4 c).cs 33 := by rw [dS4, if_pos (show dM c = 1 by omega)]; exact bp18'
          have rd19 : Rd w18 q u c (dT5 c).1 (dT5 c).2 := by rw [dT5, if_pos (show dM c = 1 by omega)]; exact rd18'
          refine EW.region ?_
          first | refine WL.move rfl rfl rfl ?_
          refine WL.call [.pointer (some ⟨q, 0, none⟩)] enter39 rfl rfl rfl (end_any q u c (dT5 c) _ rd19 hl) ?_
          rintro _ w20 ⟨rfl, rd20, f20⟩
          refine ⟨_, rfl, ?_⟩
          have bp20 := bp19.fx f20 (fun e => hqp e.symm)
          have be20 := be18.fx f20 (fun e => by omega)
          have l20 := bfx l18 (by omega) f20
          refine WL.done ?_
          refine EW.on ?_
          refine EW.seq ?_
          refine EW.seq ?_
          by_cases hm : dM c = mkD (dS4 c).hl
          · refine EW.region ?_
            first | refine WL.move rfl rfl rfl ?_
            refine WL.field rfl rfl rfl (f33_12 p _) ?_
            refine WL.load rfl rfl rfl (Sg.ld_hl bp20 (dS4_ok c)) ?_
            refine WL.call [(dS4 c).hl.v] enter29 rfl rfl rfl (mark_any _ (dS4_ok c).hl _) ?_
            rintro _ w21 ⟨rfl, e21⟩
            refine ⟨_, rfl, ?_⟩
            have bp21 := bp20.on e21
            have be21 := be20.on e21
            have rd21 := rd20.below e21
            have l21 := bt l20 e21
            refine WL.bin rfl rfl rfl rfl (int_ne_f (by omega) _ _ _) ?_
            refine WL.done ?_
            refine EW.on ?_
            refine EW.cond_f rfl ?_
            refine EW.skip ?_
            refine EW.on ?_
            refine EW.seq ?_
            refine EW.ordB [(0, 0, 1), (1, 0, 1), (2, 1, 1), (3, 1, 0), (4, 1, 0)] (by kernel_rfl) rfl (by kernel_rfl) ?_
            simp only [opsZ, List.getD_cons_zero, List.getD_cons_succ]
            refine ZE.load rfl rfl rfl rfl sz1 (fun W hW => Sg.ld (bp21.on (sb_of hW)) (dS4_ok c)) ?_
            refine ZE.load rfl rfl rfl rfl sz1 (fun W hW => Sg.ld (bp21.on (sb_of hW)) (dS4_ok c)) ?_
            refine ZE.callB [(dS4 c).v] enter10 rfl rfl rfl (fun W h => .inr h) (fun W hW => check_any _ (dS4_ok c) W) ?_
            refine ZE.store (fun W => Blk W p (dS4 c).cs 33 ∧ Blk W pe [.int .i64 0] 35 ∧ Rd W q u c (eS c (dT5 c)).1 (eS c (dT5 c)).2 ∧ Below w.heap.size w W) rfl rfl rfl (fun _ _ => .inl rfl) (fun W hW => ?_) ?_
            · obtain ⟨w', g1, g2, g3⟩ := Sg.st (s := dS4 c) (bp21.on hW) (dS4_ok c) (dS4_ok c)
              exact ⟨w', g1, g2, (be21.on hW).fx g3 (fun e => hpe e.symm), (rd21.below hW).fx g3 hqp hov, bfx (bt l21 hW) (by omega) g3⟩
            refine ZE.store (fun W => Blk W p (dS4 c).cs 33 ∧ Blk W pe [.int .i64 (chkD (dS4 c))] 35 ∧ Rd W q u c (eS c (dT5 c)).1 (eS c (dT5 c)).2 ∧ Below w.heap.size w W) rfl rfl rfl (fun _ _ => .inl rfl) (fun W hW => ?_) ?_
            · obtain ⟨g1, g2, g3, g4⟩ := hW
              obtain ⟨w', h1, h2, h3⟩ := stE0 g2 (chkD (dS4 c))
              exact ⟨w', h1, g1.fx h3 hpe, h2, g3.fx h3 (by omega) (fr3.off hpe2), bfx g4 (by omega) h3⟩
            rintro w99 ⟨bp99, be99, rd99, l99⟩
            refine EW.on ?_
            refine EW.ret ?_
            have hE : decE c = tlE (eS c (dT5 c)).2 (chkD (dS4 c)) := by rw [decE, if_pos hv, if_neg (by omega), if_pos hm]
            have hS : decS c = if tlE (eS c (dT5 c)).2 (chkD (dS4 c)) = 0 then dS4 c else Sg.z := by rw [decS, hE]
            refine EW.leavesA (S := fun w' => Blk w' p (decS c).cs 33 ∧ Blk w' pe [.int .i64 (decE c)] 35 ∧ Below w.heap.size w w') enter40 ((tellS .returning q p pe u c (eS c (dT5 c)).1 (eS c (dT5 c)).2 (dS4 c) (dS4_ok c) (chkD (dS4 c)) _ rd99 bp99 be99 hpe).mono ?_) ?_
            · rintro x u' w' ⟨rfl, rfl, g1, g2, g3⟩
              exact ⟨rfl, rfl, by rw [hS]; exact g1, by rw [hE]; exact g2, bfx2 l99 (by omega) (by omega) g3⟩
            · rintro w' ⟨g1, g2, g3⟩ a ha
              exact ⟨_, res_ci Try.results16 a.tmps w' p pe 33 35 _ _ _ (ha.kn 2 _ rfl) g1 Try.underlying33 rfl (i33 (decS_ok c)) (ha.kn 3 _ rfl) g2, rfl, g3⟩
          · refine EW.region ?_
            first | refine WL.move rfl rfl rfl ?_
            refine WL.field rfl rfl rfl (f33_12 p _) ?_
            refine WL.load rfl rfl rfl (Sg.ld_hl bp20 (dS4_ok c)) ?_
            refine WL.call [(dS4 c).hl.v] enter29 rfl rfl rfl (mark_any _ (dS4_ok c).hl _) ?_
            rintro _ w21 ⟨rfl, e21⟩
            refine ⟨_, rfl, ?_⟩
            have bp21 := bp20.on e21
            have be21 := be20.on e21
            have rd21 := rd20.below e21
            have l21 := bt l20 e21
            refine WL.bin rfl rfl rfl rfl (int_ne_t (by omega) _ _ _) ?_
            refine WL.done ?_
            refine EW.on ?_
            refine EW.cond_t rfl ?_
            refine EW.seq ?_
            refine EW.region ?_
            refine WL.load rfl rfl rfl (Sg.ld bp21 (dS4_ok c)) ?_
            obtain ⟨w22, s22, bp22, f22⟩ := Sg.st (s := (dS4 c)) bp21 (dS4_ok c) (dS4_ok c)
            refine WL.store rfl rfl rfl s22 ?_
            have be22 := be21.fx f22 (fun e => hpe e.symm)
            have rd22 := rd21.fx f22 hqp hov
            have l22 := bfx l21 (by omega) f22
            obtain ⟨w23, s23, be23, f23⟩ := stE0 be22 180
            refine WL.store rfl rfl rfl s23 ?_
            have bp23 := bp22.fx f23 hpe
            have rd23 := rd22.fx f23 (by omega) (fr3.off hpe2)
            have l23 := bfx l22 (by omega) f23
            refine WL.done ?_
            refine EW.on ?_
            refine EW.ret ?_
            refine pr_then ?_
            have hE : decE c = tlE (eS c (dT5 c)).2 (180) := by rw [decE, if_pos hv, if_neg (by omega), if_neg hm]
            have hS : decS c = if tlE (eS c (dT5 c)).2 (180) = 0 then dS4 c else Sg.z := by rw [decS, hE]
            refine EW.leavesA (S := fun w' => Blk w' p (decS c).cs 33 ∧ Blk w' pe [.int .i64 (decE c)] 35 ∧ Below w.heap.size w w') enter40 ((tellS .returning q p pe u c (eS c (dT5 c)).1 (eS c (dT5 c)).2 (dS4 c) (dS4_ok c) (180) _ rd23 bp23 be23 hpe).mono ?_) ?_
            · rintro x u' w' ⟨rfl, rfl, g1, g2, g3⟩
              exact ⟨rfl, rfl, by rw [hS]; exact g1, by rw [hE]; exact g2, bfx2 l23 (by omega) (by omega) g3⟩
            · rintro w' ⟨g1, g2, g3⟩ a ha
              exact ⟨_, res_ci Try.results16 a.tmps w' p pe 33 35 _ _ _ (ha.kn 2 _ rfl) g1 Try.underlying33 rfl (i33 (decS_ok c)) (ha.kn 3 _ rfl) g2, rfl, g3⟩
        · refine EW.region ?_
          first | refine WL.move rfl rfl rfl ?_
          refine WL.done ?_
          refine EW.on ?_
          refine EW.block ?_
          refine EW.seq ?_
          have rd17 : Rd w16 q u c (dT4 c).1 (dT4 c).2 := rd16
          refine EW.region ?_
          refine WL.bin rfl rfl rfl rfl (int_eq_f (by omega) _ _ _) ?_
          first | refine WL.assign rfl rfl rfl ?_
          refine WL.done ?_
          refine EW.on ?_
          refine EW.cond_f rfl ?_
          refine EW.seq ?_
          refine EW.region ?_
          refine WL.bin rfl rfl rfl rfl (int_eq_f (by omega) _ _ _) ?_
          first | refine WL.assign rfl rfl rfl ?_
          refine WL.done ?_
          refine EW.on ?_
          refine EW.cond_f rfl ?_
          refine EW.seq ?_
          refine EW.region ?_
          refine WL.load rfl rfl rfl (Sg.ld bp16 (dS3_ok c)) ?_
          obtain ⟨w18, s18, bp18, f18⟩ := Sg.st (s := (dS3 c)) bp16 (dS3_ok c) (dS3_ok c)
          refine WL.store rfl rfl rfl s18 ?_
          have be18 := be16.fx f18 (fun e => hpe e.symm)
          have rd18 := rd17.fx f18 hqp hov
          have l18 := bfx l16 (by omega) f18
          obtain ⟨w19, s19, be19, f19⟩ := stE0 be18 180
          refine WL.store rfl rfl rfl s19 ?_
          have bp19 := bp18.fx f19 hpe
          have rd19 := rd18.fx f19 (by omega) (fr3.off hpe2)
          have l19 := bfx l18 (by omega) f19
          refine WL.done ?_
          refine EW.on ?_
          refine EW.ret ?_
          refine pr_block ?_
          refine pr_then ?_
          have hE : decE c = tlE (dT4 c).2 180 := by rw [decE, if_pos hv, if_pos (by omega)]
          have hS : decS c = if tlE (dT4 c).2 180 = 0 then dS3 c else Sg.z := by rw [decS, hE, if_neg (tlE_ne (by decide)), if_neg (tlE_ne (by decide))]
          refine EW.leavesA (S := fun w' => Blk w' p (decS c).cs 33 ∧ Blk w' pe [.int .i64 (decE c)] 35 ∧ Below w.heap.size w w') enter40 ((tellS .returning q p pe u c (dT4 c).1 (dT4 c).2 (dS3 c) (dS3_ok c) (180) _ rd19 bp19 be19 hpe).mono ?_) ?_
          · rintro x u' w' ⟨rfl, rfl, g1, g2, g3⟩
            exact ⟨rfl, rfl, by rw [hS]; exact g1, by rw [hE]; exact g2, bfx2 l19 (by omega) (by omega) g3⟩
          · rintro w' ⟨g1, g2, g3⟩ a ha
            exact ⟨_, res_ci Try.results16 a.tmps w' p pe 33 35 _ _ _ (ha.kn 2 _ rfl) g1 Try.underlying33 rfl (i33 (decS_ok c)) (ha.kn 3 _ rfl) g2, rfl, g3⟩
  · refine EW.region ?_
    first | refine WL.move rfl rfl rfl ?_
    refine WL.call [.pointer (some ⟨q, 0, none⟩)] enter41 rfl rfl rfl (rn1_any q u c (0, 0) _ rd3 hl) ?_
    rintro _ w11 ⟨rfl, rd11, f11⟩
    refine ⟨_, rfl, ?_⟩
    have bp11 := bp3.fx f11 (fun e => hqp e.symm)
    have be11 := be3.fx f11 (fun e => by omega)
    have l11 := bfx l3 (by omega) f11
    refine WL.bin rfl rfl rfl rfl (int_ne_t (by omega) _ _ _) ?_
    refine WL.done ?_
    refine EW.on ?_
    refine EW.cond_t rfl ?_
    refine EW.seq ?_
    refine EW.region ?_
    refine WL.load rfl rfl rfl (Sg.ld bp11 Sg.z_ok) ?_
    obtain ⟨w12, s12, bp12, f12⟩ := Sg.st (s := Sg.z) bp11 Sg.z_ok Sg.z_ok
    refine WL.store rfl rfl rfl s12 ?_
    have be12 := be11.fx f12 (fun e => hpe e.symm)
    have rd12 := rd11.fx f12 hqp hov
    have l12 := bfx l11 (by omega) f12
    obtain ⟨w13, s13, be13, f13⟩ := stE0 be12 140
    refine WL.store rfl rfl rfl s13 ?_
    have bp13 := bp12.fx f13 hpe
    have rd13 := rd12.fx f13 (by omega) (fr3.off hpe2)
    have l13 := bfx l12 (by omega) f13
    refine WL.done ?_
    refine EW.on ?_
    refine EW.ret ?_
    refine pr_then ?_
    have hE : decE c = tlE (rS c 1 (0, 0)).2 140 := by rw [decE, if_neg hv]
    have hS : decS c = if tlE (rS c 1 (0, 0)).2 140 = 0 then Sg.z else Sg.z := by rw [decS, hE, if_neg (tlE_ne (by decide)), ite_self]
    refine EW.leavesA (S := fun w' => Blk w' p (decS c).cs 33 ∧ Blk w' pe [.int .i64 (decE c)] 35 ∧ Below w.heap.size w w') enter40 ((tellS .returning q p pe u c (rS c 1 (0, 0)).1 (rS c 1 (0, 0)).2 Sg.z Sg.z_ok (140) _ rd13 bp13 be13 hpe).mono ?_) ?_
    · rintro x u' w' ⟨rfl, rfl, g1, g2, g3⟩
      exact ⟨rfl, rfl, by rw [hS]; exact g1, by rw [hE]; exact g2, bfx2 l13 (by omega) (by omega) g3⟩
    · rintro w' ⟨g1, g2, g3⟩ a ha
      exact ⟨_, res_ci Try.results16 a.tmps w' p pe 33 35 _ _ _ (ha.kn 2 _ rfl) g1 Try.underlying33 rfl (i33 (decS_ok c)) (ha.kn 3 _ rfl) g2, rfl, g3⟩
end Go.Proofs.Ytacimelcmkhhlaa
