import Derived.Test.YtacimelcmkhhlaaJe
set_option linter.unusedVariables false
set_option linter.unusedSimpArgs false
namespace Go.Proofs.Ytacimelcmkhhlaa
open Go.RowKit

def mkD (h : Hl) : Nat := if h = Hl.z then 0 else 1
theorem mkD_lt (h : Hl) : mkD h < 256 := by unfold mkD; split <;> decide
/-- A state's bytes. -/
def encD (s : Sg) : List UInt8 := [1] ++ (corD s ++ ((if 0 < s.own then sndD s else []) ++ ((if 0 < s.turns then rcvD s else []) ++ ([UInt8.ofNat (mkD s.hl)] ++ (if s.hl = Hl.z then [] else helB s.hl)))))
theorem good_hl {s : Sg} (h : Good s) (h2 : s.own = 0 ∨ 0 < s.turns) : s.hl = Hl.z := by
  have e := congrArg Sg.hl h.2.1
  rw [e]
  simp [cntD, h2]
set_option maxRecDepth 100000 in
set_option maxHeartbeats 1000000 in
theorem mark_any (h : Hl) (k : h.ok) (w : World) : Calls Try.prog 29 #[h.v] w fun e w' => e = .returned (.int .i64 (mkD h : Int)) ∧ Below w.heap.size w w' := by
  obtain ⟨w1, q1, r1, b1, e1, hq1⟩ := box_any 30 h.cs w
  refine calls_of_args [h.v] Try.func29 rfl 6 Try.ntmps29 (by show 1 ≤ 6; decide) ?_
  refine EW.seq ?_
  refine EW.region ?_
  refine WL.box rfl rfl rfl r1 ?_
  first | refine WL.assign rfl rfl rfl ?_
  refine WL.done ?_
  refine EW.on ?_
  refine EW.seq ?_
  refine EW.seq ?_
  refine EW.region ?_
  first | refine WL.load rfl rfl rfl (Hl.ld b1 k) ?_
  first | refine WL.buildN [] rfl rfl rfl (bd30 _) ?_
  refine WL.bin rfl rfl rfl rfl (eql30 _ _ k Hl.z_ok _ _ _) ?_
  refine WL.done ?_
  refine EW.on ?_
  refine EW.cond_d rfl (fun h5 => ?_) (fun h5 => ?_)
  · refine EW.seq ?_
    refine EW.region ?_
    first | refine WL.assign rfl rfl rfl ?_
    refine WL.done ?_
    refine EW.on ?_
    refine EW.ret ?_
    refine pr_then ?_
    first | exact EW.returns Try.results29 rfl ⟨by rw [mkD, if_pos h5]; rfl, e1⟩ | exact EW.returns Try.results29 rfl ⟨by rw [mkD, if_neg h5]; rfl, e1⟩
  · refine EW.skip ?_
    refine EW.on ?_
    refine EW.seq ?_
    refine EW.region ?_
    first | refine WL.assign rfl rfl rfl ?_
    refine WL.done ?_
    refine EW.on ?_
    refine EW.ret ?_
    first | exact EW.returns Try.results29 rfl ⟨by rw [mkD, if_pos h5]; rfl, e1⟩ | exact EW.returns Try.results29 rfl ⟨by rw [mkD, if_neg h5]; rfl, e1⟩
set_option maxRecDepth 100000 in
set_option maxHeartbeats 4000000 in
theorem encode_any (s : Sg) (k : s.ok) (w : World) : Calls Try.prog 12 #[s.v] w fun e w' => ∃ v, e = .returned (.tuple #[v, .int .i64 (chkD s)]) ∧ Ob w' w.heap.size v (if Good s then encD s else []) ∧ Below w.heap.size w w' := by
  obtain ⟨w1, q1, r1, b1, e1, hq1⟩ := box_any 33 s.cs w
  have l1 := e1.size
  refine calls_of_args [s.v] Try.func12 rfl 50 Try.ntmps12 (by show 1 ≤ 50; decide) ?_
  refine EW.seq ?_
  refine EW.region ?_
  refine WL.box rfl rfl rfl r1 ?_
  first | refine WL.assign rfl rfl rfl ?_
  first | refine WL.assign rfl rfl rfl ?_
  refine WL.done ?_
  refine EW.on ?_
  refine EW.seq ?_
  refine EW.seq ?_
  refine EW.region ?_
  first | refine WL.load rfl rfl rfl (Sg.ld b1 k) ?_
  refine WL.call [s.v] enter10 rfl rfl rfl (check_any s k _) ?_
  rintro _ w0 ⟨rfl, e0⟩
  have bx0 := b1.on e0
  have l0 := e0.size
  refine ⟨_, rfl, ?_⟩
  first | refine WL.assign rfl rfl rfl ?_
  refine WL.done ?_
  refine EW.on ?_
  refine EW.seq ?_
  by_cases hG : Good s
  · refine EW.region ?_
    first | refine WL.move rfl rfl rfl ?_
    refine WL.bin rfl rfl rfl rfl (int_ne_f (by simp [chkD, hG]) _ _ _) ?_
    refine WL.done ?_
    refine EW.on ?_
    refine EW.cond_f rfl ?_
    refine EW.skip ?_
    refine EW.on ?_
    refine EW.seq ?_
    refine EW.region ?_
    refine WL.call [.int .i64 330] enter24 rfl rfl rfl (newW_any 330 (by decide) _) ?_
    rintro _ w2 ⟨q, rfl, wr2, be2⟩
    have bx2 := bx0.on be2
    have l2 := be2.size
    have s2 := (bt e1 (bt e0 be2))
    refine ⟨_, rfl, ?_⟩
    first | refine WL.move rfl rfl rfl ?_
    first | refine WL.extract rfl rfl rfl (ext_2 _ _ _).1 ?_
    first | refine WL.extract rfl rfl rfl (ext_2 _ _ _).2 ?_
    first | refine WL.assign rfl rfl rfl ?_
    first | refine WL.assign rfl rfl rfl ?_
    refine WL.done ?_
    refine EW.on ?_
    refine EW.seq ?_
    refine EW.region ?_
    first | refine WL.move rfl rfl rfl ?_
    refine WL.call [.pointer (some ⟨q, 0, none⟩), .int .i64 1] enter25 rfl rfl rfl (u8_any 330 (by decide) _ q _ _ 1 (by decide) w2 wr2 (by omega) (by simp only [List.length_append, List.length_cons, List.length_nil, corD_len k, sndD_len k, rcvD_len k, helB_len k.hl]; first | omega | decide | exact absurd h30 hx)) ?_
    rintro _ w3 ⟨rfl, v3, wr3, f3, n3⟩
    have bx3 := bx2.fx f3 (wr2.apart bx2 (by decide) (by decide))
    have l3 := f3.size
    have s3 := s2.trans ((wr2.stays f3 (by omega)).mono (by omega))
    refine ⟨_, rfl, ?_⟩
    refine WL.done ?_
    refine EW.on ?_
    refine EW.seq ?_
    refine EW.region ?_
    first | refine WL.move rfl rfl rfl ?_
    first | refine WL.load rfl rfl rfl (Sg.ld bx3 k) ?_
    refine WL.call [.pointer (some ⟨q, 0, none⟩), s.v] enter26 rfl rfl rfl (wrCore_any 330 (by decide) _ q _ _ s k w3 wr3 (by omega) (by simp only [List.length_append, List.length_cons, List.length_nil, corD_len k, sndD_len k, rcvD_len k, helB_len k.hl]; first | omega | decide | exact absurd h30 hx)) ?_
    rintro _ w4 ⟨rfl, v4, wr4, f4, n4⟩
    have bx4 := bx3.fx f4 (wr3.apart bx3 (by decide) (by decide))
    have l4 := f4.size
    have s4 := s3.trans ((wr3.stays f4 (by omega)).mono (by omega))
    refine ⟨_, rfl, ?_⟩
    refine WL.done ?_
    refine EW.on ?_
    refine EW.seq ?_
    refine EW.seq ?_
    refine EW.region ?_
    first | refine WL.field rfl rfl rfl (f33_6 q1 _) ?_
    first | refine WL.load rfl rfl rfl (Sg.ld_own bx4 k) ?_
    first | refine WL.bin rfl rfl rfl rfl (u_gt_t (by first | omega | (dsimp only; omega)) _ _ _) ?_ | refine WL.bin rfl rfl rfl rfl (u_gt_f (by first | omega | (dsimp only; omega)) _ _ _) ?_ | refine WL.bin rfl rfl rfl rfl (u_gt_d _ _ _ _ _) ?_
    refine WL.done ?_
    refine EW.on ?_
    refine EW.cond_d rfl (fun h24 => ?_) (fun h24 => ?_)
    · refine EW.region ?_
      first | refine WL.move rfl rfl rfl ?_
      first | refine WL.load rfl rfl rfl (Sg.ld bx4 k) ?_
      refine WL.call [.pointer (some ⟨q, 0, none⟩), s.v] enter27 rfl rfl rfl (wrSend_any 330 (by decide) _ q _ _ s k w4 wr4 (by omega) (by simp only [List.length_append, List.length_cons, List.length_nil, corD_len k, sndD_len k, rcvD_len k, helB_len k.hl]; first | omega | decide | exact absurd h30 hx)) ?_
      rintro _ w5 ⟨rfl, v5, wr5, f5, n5⟩
      have bx5 := bx4.fx f5 (wr4.apart bx4 (by decide) (by decide))
      have l5 := f5.size
      have s5 := s4.trans ((wr4.stays f5 (by omega)).mono (by omega))
      refine ⟨_, rfl, ?_⟩
      refine WL.done ?_
      refine EW.on ?_
      refine EW.seq ?_
      refine EW.seq ?_
      refine EW.region ?_
      first | refine WL.field rfl rfl rfl (f33_7 q1 _) ?_
      first | refine WL.load rfl rfl rfl (Sg.ld_turns bx5 k) ?_
      first | refine WL.bin rfl rfl rfl rfl (u_gt_t (by first | omega | (dsimp only; omega)) _ _ _) ?_ | refine WL.bin rfl rfl rfl rfl (u_gt_f (by first | omega | (dsimp only; omega)) _ _ _) ?_ | refine WL.bin rfl rfl rfl rfl (u_gt_d _ _ _ _ _) ?_
      refine WL.done ?_
      refine EW.on ?_
      refine EW.cond_d rfl (fun h30 => ?_) (fun h30 => ?_)
      · refine EW.region ?_
        first | refine WL.move rfl rfl rfl ?_
        first | refine WL.load rfl rfl rfl (Sg.ld bx5 k) ?_
        refine WL.call [.pointer (some ⟨q, 0, none⟩), s.v] enter28 rfl rfl rfl (wrRecv_any 330 (by decide) _ q _ _ s k w5 wr5 (by omega) (by simp only [List.length_append, List.length_cons, List.length_nil, corD_len k, sndD_len k, rcvD_len k, helB_len k.hl]; first | omega | decide | exact absurd h30 hx)) ?_
        rintro _ w6 ⟨rfl, v6, wr6, f6, n6⟩
        have bx6 := bx5.fx f6 (wr5.apart bx5 (by decide) (by decide))
        have l6 := f6.size
        have s6 := s5.trans ((wr5.stays f6 (by omega)).mono (by omega))
        refine ⟨_, rfl, ?_⟩
        refine WL.done ?_
        refine EW.on ?_
        refine EW.seq ?_
        by_cases hH : s.hl = Hl.z
        · refine EW.region ?_
          first | refine WL.field rfl rfl rfl (f33_12 q1 _) ?_
          first | refine WL.load rfl rfl rfl (Sg.ld_hl bx6 k) ?_
          refine WL.call [s.hl.v] enter29 rfl rfl rfl (mark_any _ k.hl _) ?_
          rintro _ w7 ⟨rfl, em⟩
          have wr7 := wr6.below em
          have bx7 := bx6.on em
          have l7 := em.size
          have s7 := bt s6 em
          refine ⟨_, rfl, ?_⟩
          first | refine WL.assign rfl rfl rfl ?_
          refine WL.done ?_
          refine EW.on ?_
          refine EW.seq ?_
          refine EW.region ?_
          first | refine WL.move rfl rfl rfl ?_
          first | refine WL.move rfl rfl rfl ?_
          refine WL.call [.pointer (some ⟨q, 0, none⟩), .int .i64 (mkD s.hl : Int)] enter25 rfl rfl rfl (u8_any 330 (by decide) _ q _ _ (mkD s.hl) (mkD_lt _) w7 wr7 (by omega) (by simp only [List.length_append, List.length_cons, List.length_nil, corD_len k, sndD_len k, rcvD_len k, helB_len k.hl]; first | omega | decide | exact absurd h30 hx)) ?_
          rintro _ w8 ⟨rfl, v8, wr8, f8, n8⟩
          have bx8 := bx7.fx f8 (wr7.apart bx7 (by decide) (by decide))
          have l8 := f8.size
          have s8 := s7.trans ((wr7.stays f8 (by omega)).mono (by omega))
          refine ⟨_, rfl, ?_⟩
          refine WL.done ?_
          refine EW.on ?_
          refine EW.seq ?_
          refine EW.seq ?_
          refine EW.region ?_
          first | refine WL.move rfl rfl rfl ?_
          refine WL.bin rfl rfl rfl rfl (int_eq_f (by simp [mkD, hH]) _ _ _) ?_
          refine WL.done ?_
          refine EW.on ?_
          refine EW.cond_f rfl ?_
          refine EW.skip ?_
          refine EW.on ?_
          refine EW.seq ?_
          refine EW.region ?_
          first | refine WL.move rfl rfl rfl ?_
          refine WL.call [.pointer (some ⟨q, 0, none⟩)] enter31 rfl rfl rfl (out_any 330 _ q _ _ w8 wr8 (by simp only [List.length_append, List.length_cons, List.length_nil, corD_len k, sndD_len k, rcvD_len k, helB_len k.hl]; first | omega | decide | exact absurd h30 hx)) ?_
          rintro _ w99 ⟨vo, rfl, go, beo⟩
          refine ⟨_, rfl, ?_⟩
          first | refine WL.extract rfl rfl rfl (ext_2 _ _ _).1 ?_
          first | refine WL.extract rfl rfl rfl (ext_2 _ _ _).2 ?_
          first | refine WL.assign rfl rfl rfl ?_
          first | refine WL.assign rfl rfl rfl ?_
          refine WL.done ?_
          refine EW.on ?_
          refine EW.ret ?_
          refine EW.returns2 Try.results12 rfl rfl ⟨vo, by simp [chkD, hG], ?_, bt s8 beo⟩
          rw [if_pos hG]
          refine (show encD s = _ from ?_) ▸ go.lower (by have := s8.size; omega)
          simp [encD, h24, h30, hH]
        · have hx : ¬ 0 < s.turns := fun h => hH (good_hl hG (.inr h))
          refine EW.region ?_
          first | refine WL.field rfl rfl rfl (f33_12 q1 _) ?_
          first | refine WL.load rfl rfl rfl (Sg.ld_hl bx6 k) ?_
          refine WL.call [s.hl.v] enter29 rfl rfl rfl (mark_any _ k.hl _) ?_
          rintro _ w7 ⟨rfl, em⟩
          have wr7 := wr6.below em
          have bx7 := bx6.on em
          have l7 := em.size
          have s7 := bt s6 em
          refine ⟨_, rfl, ?_⟩
          first | refine WL.assign rfl rfl rfl ?_
          refine WL.done ?_
          refine EW.on ?_
          refine EW.seq ?_
          refine EW.region ?_
          first | refine WL.move rfl rfl rfl ?_
          first | refine WL.move rfl rfl rfl ?_
          refine WL.call [.pointer (some ⟨q, 0, none⟩), .int .i64 (mkD s.hl : Int)] enter25 rfl rfl rfl (u8_any 330 (by decide) _ q _ _ (mkD s.hl) (mkD_lt _) w7 wr7 (by omega) (by simp only [List.length_append, List.length_cons, List.length_nil, corD_len k, sndD_len k, rcvD_len k, helB_len k.hl]; first | omega | decide | exact absurd h30 hx)) ?_
          rintro _ w8 ⟨rfl, v8, wr8, f8, n8⟩
          have bx8 := bx7.fx f8 (wr7.apart bx7 (by decide) (by decide))
          have l8 := f8.size
          have s8 := s7.trans ((wr7.stays f8 (by omega)).mono (by omega))
          refine ⟨_, rfl, ?_⟩
          refine WL.done ?_
          refine EW.on ?_
          refine EW.seq ?_
          refine EW.seq ?_
          refine EW.region ?_
          first | refine WL.move rfl rfl rfl ?_
          refine WL.bin rfl rfl rfl rfl (int_eq_t (by simp [mkD, hH]) _ _ _) ?_
          refine WL.done ?_
          refine EW.on ?_
          refine EW.cond_t rfl ?_
          refine EW.region ?_
          first | refine WL.move rfl rfl rfl ?_
          first | refine WL.field rfl rfl rfl (f33_12 q1 _) ?_
          first | refine WL.load rfl rfl rfl (Sg.ld_hl bx8 k) ?_
          refine WL.call [.pointer (some ⟨q, 0, none⟩), s.hl.v] enter30 rfl rfl rfl (wrHello_any 330 (by decide) _ q _ _ s.hl k.hl w8 wr8 (by omega) (by simp only [List.length_append, List.length_cons, List.length_nil, corD_len k, sndD_len k, rcvD_len k, helB_len k.hl]; first | omega | decide | exact absurd h30 hx)) ?_
          rintro _ w9 ⟨rfl, v9, wr9, f9, n9⟩
          have bx9 := bx8.fx f9 (wr8.apart bx8 (by decide) (by decide))
          have l9 := f9.size
          have s9 := s8.trans ((wr8.stays f9 (by omega)).mono (by omega))
          refine ⟨_, rfl, ?_⟩
          refine WL.done ?_
          refine EW.on ?_
          refine EW.seq ?_
          refine EW.region ?_
          first | refine WL.move rfl rfl rfl ?_
          refine WL.call [.pointer (some ⟨q, 0, none⟩)] enter31 rfl rfl rfl (out_any 330 _ q _ _ w9 wr9 (by simp only [List.length_append, List.length_cons, List.length_nil, corD_len k, sndD_len k, rcvD_len k, helB_len k.hl]; first | omega | decide | exact absurd h30 hx)) ?_
          rintro _ w99 ⟨vo, rfl, go, beo⟩
          refine ⟨_, rfl, ?_⟩
          first | refine WL.extract rfl rfl rfl (ext_2 _ _ _).1 ?_
          first | refine WL.extract rfl rfl rfl (ext_2 _ _ _).2 ?_
          first | refine WL.assign rfl rfl rfl ?_
          first | refine WL.assign rfl rfl rfl ?_
          refine WL.done ?_
          refine EW.on ?_
          refine EW.ret ?_
          refine EW.returns2 Try.results12 rfl rfl ⟨vo, by simp [chkD, hG], ?_, bt s9 beo⟩
          rw [if_pos hG]
          refine (show encD s = _ from ?_) ▸ go.lower (by have := s9.size; omega)
          simp [encD, h24, h30, hH]
      · refine EW.skip ?_
        refine EW.on ?_
        refine EW.seq ?_
        by_cases hH : s.hl = Hl.z
        · refine EW.region ?_
          first | refine WL.field rfl rfl rfl (f33_12 q1 _) ?_
          first | refine WL.load rfl rfl rfl (Sg.ld_hl bx5 k) ?_
          refine WL.call [s.hl.v] enter29 rfl rfl rfl (mark_any _ k.hl _) ?_
          rintro _ w6 ⟨rfl, em⟩
          have wr6 := wr5.below em
          have bx6 := bx5.on em
          have l6 := em.size
          have s6 := bt s5 em
          refine ⟨_, rfl, ?_⟩
          first | refine WL.assign rfl rfl rfl ?_
          refine WL.done ?_
          refine EW.on ?_
          refine EW.seq ?_
          refine EW.region ?_
          first | refine WL.move rfl rfl rfl ?_
          first | refine WL.move rfl rfl rfl ?_
          refine WL.call [.pointer (some ⟨q, 0, none⟩), .int .i64 (mkD s.hl : Int)] enter25 rfl rfl rfl (u8_any 330 (by decide) _ q _ _ (mkD s.hl) (mkD_lt _) w6 wr6 (by omega) (by simp only [List.length_append, List.length_cons, List.length_nil, corD_len k, sndD_len k, rcvD_len k, helB_len k.hl]; first | omega | decide | exact absurd h30 hx)) ?_
          rintro _ w7 ⟨rfl, v7, wr7, f7, n7⟩
          have bx7 := bx6.fx f7 (wr6.apart bx6 (by decide) (by decide))
          have l7 := f7.size
          have s7 := s6.trans ((wr6.stays f7 (by omega)).mono (by omega))
          refine ⟨_, rfl, ?_⟩
          refine WL.done ?_
          refine EW.on ?_
          refine EW.seq ?_
          refine EW.seq ?_
          refine EW.region ?_
          first | refine WL.move rfl rfl rfl ?_
          refine WL.bin rfl rfl rfl rfl (int_eq_f (by simp [mkD, hH]) _ _ _) ?_
          refine WL.done ?_
          refine EW.on ?_
          refine EW.cond_f rfl ?_
          refine EW.skip ?_
          refine EW.on ?_
          refine EW.seq ?_
          refine EW.region ?_
          first | refine WL.move rfl rfl rfl ?_
          refine WL.call [.pointer (some ⟨q, 0, none⟩)] enter31 rfl rfl rfl (out_any 330 _ q _ _ w7 wr7 (by simp only [List.length_append, List.length_cons, List.length_nil, corD_len k, sndD_len k, rcvD_len k, helB_len k.hl]; first | omega | decide | exact absurd h30 hx)) ?_
          rintro _ w99 ⟨vo, rfl, go, beo⟩
          refine ⟨_, rfl, ?_⟩
          first | refine WL.extract rfl rfl rfl (ext_2 _ _ _).1 ?_
          first | refine WL.extract rfl rfl rfl (ext_2 _ _ _).2 ?_
          first | refine WL.assign rfl rfl rfl ?_
          first | refine WL.assign rfl rfl rfl ?_
          refine WL.done ?_
          refine EW.on ?_
          refine EW.ret ?_
          refine EW.returns2 Try.results12 rfl rfl ⟨vo, by simp [chkD, hG], ?_, bt s7 beo⟩
          rw [if_pos hG]
          refine (show encD s = _ from ?_) ▸ go.lower (by have := s7.size; omega)
          simp [encD, h24, h30, hH]
        · have hx : ¬ 0 < s.turns := fun h => hH (good_hl hG (.inr h))
          refine EW.region ?_
          first | refine WL.field rfl rfl rfl (f33_12 q1 _) ?_
          first | refine WL.load rfl rfl rfl (Sg.ld_hl bx5 k) ?_
          refine WL.call [s.hl.v] enter29 rfl rfl rfl (mark_any _ k.hl _) ?_
          rintro _ w6 ⟨rfl, em⟩
          have wr6 := wr5.below em
          have bx6 := bx5.on em
          have l6 := em.size
          have s6 := bt s5 em
          refine ⟨_, rfl, ?_⟩
          first | refine WL.assign rfl rfl rfl ?_
          refine WL.done ?_
          refine EW.on ?_
          refine EW.seq ?_
          refine EW.region ?_
          first | refine WL.move rfl rfl rfl ?_
          first | refine WL.move rfl rfl rfl ?_
          refine WL.call [.pointer (some ⟨q, 0, none⟩), .int .i64 (mkD s.hl : Int)] enter25 rfl rfl rfl (u8_any 330 (by decide) _ q _ _ (mkD s.hl) (mkD_lt _) w6 wr6 (by omega) (by simp only [List.length_append, List.length_cons, List.length_nil, corD_len k, sndD_len k, rcvD_len k, helB_len k.hl]; first | omega | decide | exact absurd h30 hx)) ?_
          rintro _ w7 ⟨rfl, v7, wr7, f7, n7⟩
          have bx7 := bx6.fx f7 (wr6.apart bx6 (by decide) (by decide))
          have l7 := f7.size
          have s7 := s6.trans ((wr6.stays f7 (by omega)).mono (by omega))
          refine ⟨_, rfl, ?_⟩
          refine WL.done ?_
          refine EW.on ?_
          refine EW.seq ?_
          refine EW.seq ?_
          refine EW.region ?_
          first | refine WL.move rfl rfl rfl ?_
          refine WL.bin rfl rfl rfl rfl (int_eq_t (by simp [mkD, hH]) _ _ _) ?_
          refine WL.done ?_
          refine EW.on ?_
          refine EW.cond_t rfl ?_
          refine EW.region ?_
          first | refine WL.move rfl rfl rfl ?_
          first | refine WL.field rfl rfl rfl (f33_12 q1 _) ?_
          first | refine WL.load rfl rfl rfl (Sg.ld_hl bx7 k) ?_
          refine WL.call [.pointer (some ⟨q, 0, none⟩), s.hl.v] enter30 rfl rfl rfl (wrHello_any 330 (by decide) _ q _ _ s.hl k.hl w7 wr7 (by omega) (by simp only [List.length_append, List.length_cons, List.length_nil, corD_len k, sndD_len k, rcvD_len k, helB_len k.hl]; first | omega | decide | exact absurd h30 hx)) ?_
          rintro _ w8 ⟨rfl, v8, wr8, f8, n8⟩
          have bx8 := bx7.fx f8 (wr7.apart bx7 (by decide) (by decide))
          have l8 := f8.size
          have s8 := s7.trans ((wr7.stays f8 (by omega)).mono (by omega))
          refine ⟨_, rfl, ?_⟩
          refine WL.done ?_
          refine EW.on ?_
          refine EW.seq ?_
          refine EW.region ?_
          first | refine WL.move rfl rfl rfl ?_
          refine WL.call [.pointer (some ⟨q, 0, none⟩)] enter31 rfl rfl rfl (out_any 330 _ q _ _ w8 wr8 (by simp only [List.length_append, List.length_cons, List.length_nil, corD_len k, sndD_len k, rcvD_len k, helB_len k.hl]; first | omega | decide | exact absurd h30 hx)) ?_
          rintro _ w99 ⟨vo, rfl, go, beo⟩
          refine ⟨_, rfl, ?_⟩
          first | refine WL.extract rfl rfl rfl (ext_2 _ _ _).1 ?_
          first | refine WL.extract rfl rfl rfl (ext_2 _ _ _).2 ?_
          first | refine WL.assign rfl rfl rfl ?_
          first | refine WL.assign rfl rfl rfl ?_
          refine WL.done ?_
          refine EW.on ?_
          refine EW.ret ?_
          refine EW.returns2 Try.results12 rfl rfl ⟨vo, by simp [chkD, hG], ?_, bt s8 beo⟩
          rw [if_pos hG]
          refine (show encD s = _ from ?_) ▸ go.lower (by have := s8.size; omega)
          simp [encD, h24, h30, hH]
    · refine EW.skip ?_
      refine EW.on ?_
      refine EW.seq ?_
      refine EW.seq ?_
      refine EW.region ?_
      first | refine WL.field rfl rfl rfl (f33_7 q1 _) ?_
      first | refine WL.load rfl rfl rfl (Sg.ld_turns bx4 k) ?_
      first | refine WL.bin rfl rfl rfl rfl (u_gt_t (by first | omega | (dsimp only; omega)) _ _ _) ?_ | refine WL.bin rfl rfl rfl rfl (u_gt_f (by first | omega | (dsimp only; omega)) _ _ _) ?_ | refine WL.bin rfl rfl rfl rfl (u_gt_d _ _ _ _ _) ?_
      refine WL.done ?_
      refine EW.on ?_
      refine EW.cond_d rfl (fun h30 => ?_) (fun h30 => ?_)
      · refine EW.region ?_
        first | refine WL.move rfl rfl rfl ?_
        first | refine WL.load rfl rfl rfl (Sg.ld bx4 k) ?_
        refine WL.call [.pointer (some ⟨q, 0, none⟩), s.v] enter28 rfl rfl rfl (wrRecv_any 330 (by decide) _ q _ _ s k w4 wr4 (by omega) (by simp only [List.length_append, List.length_cons, List.length_nil, corD_len k, sndD_len k, rcvD_len k, helB_len k.hl]; first | omega | decide | exact absurd h30 hx)) ?_
        rintro _ w5 ⟨rfl, v5, wr5, f5, n5⟩
        have bx5 := bx4.fx f5 (wr4.apart bx4 (by decide) (by decide))
        have l5 := f5.size
        have s5 := s4.trans ((wr4.stays f5 (by omega)).mono (by omega))
        refine ⟨_, rfl, ?_⟩
        refine WL.done ?_
        refine EW.on ?_
        refine EW.seq ?_
        by_cases hH : s.hl = Hl.z
        · refine EW.region ?_
          first | refine WL.field rfl rfl rfl (f33_12 q1 _) ?_
          first | refine WL.load rfl rfl rfl (Sg.ld_hl bx5 k) ?_
          refine WL.call [s.hl.v] enter29 rfl rfl rfl (mark_any _ k.hl _) ?_
          rintro _ w6 ⟨rfl, em⟩
          have wr6 := wr5.below em
          have bx6 := bx5.on em
          have l6 := em.size
          have s6 := bt s5 em
          refine ⟨_, rfl, ?_⟩
          first | refine WL.assign rfl rfl rfl ?_
          refine WL.done ?_
          refine EW.on ?_
          refine EW.seq ?_
          refine EW.region ?_
          first | refine WL.move rfl rfl rfl ?_
          first | refine WL.move rfl rfl rfl ?_
          refine WL.call [.pointer (some ⟨q, 0, none⟩), .int .i64 (mkD s.hl : Int)] enter25 rfl rfl rfl (u8_any 330 (by decide) _ q _ _ (mkD s.hl) (mkD_lt _) w6 wr6 (by omega) (by simp only [List.length_append, List.length_cons, List.length_nil, corD_len k, sndD_len k, rcvD_len k, helB_len k.hl]; first | omega | decide | exact absurd h30 hx)) ?_
          rintro _ w7 ⟨rfl, v7, wr7, f7, n7⟩
          have bx7 := bx6.fx f7 (wr6.apart bx6 (by decide) (by decide))
          have l7 := f7.size
          have s7 := s6.trans ((wr6.stays f7 (by omega)).mono (by omega))
          refine ⟨_, rfl, ?_⟩
          refine WL.done ?_
          refine EW.on ?_
          refine EW.seq ?_
          refine EW.seq ?_
          refine EW.region ?_
          first | refine WL.move rfl rfl rfl ?_
          refine WL.bin rfl rfl rfl rfl (int_eq_f (by simp [mkD, hH]) _ _ _) ?_
          refine WL.done ?_
          refine EW.on ?_
          refine EW.cond_f rfl ?_
          refine EW.skip ?_
          refine EW.on ?_
          refine EW.seq ?_
          refine EW.region ?_
          first | refine WL.move rfl rfl rfl ?_
          refine WL.call [.pointer (some ⟨q, 0, none⟩)] enter31 rfl rfl rfl (out_any 330 _ q _ _ w7 wr7 (by simp only [List.length_append, List.length_cons, List.length_nil, corD_len k, sndD_len k, rcvD_len k, helB_len k.hl]; first | omega | decide | exact absurd h30 hx)) ?_
          rintro _ w99 ⟨vo, rfl, go, beo⟩
          refine ⟨_, rfl, ?_⟩
          first | refine WL.extract rfl rfl rfl (ext_2 _ _ _).1 ?_
          first | refine WL.extract rfl rfl rfl (ext_2 _ _ _).2 ?_
          first | refine WL.assign rfl rfl rfl ?_
          first | refine WL.assign rfl rfl rfl ?_
          refine WL.done ?_
          refine EW.on ?_
          refine EW.ret ?_
          refine EW.returns2 Try.results12 rfl rfl ⟨vo, by simp [chkD, hG], ?_, bt s7 beo⟩
          rw [if_pos hG]
          refine (show encD s = _ from ?_) ▸ go.lower (by have := s7.size; omega)
          simp [encD, h24, h30, hH]
        · have hx : ¬ 0 < s.turns := fun h => hH (good_hl hG (.inr h))
          refine EW.region ?_
          first | refine WL.field rfl rfl rfl (f33_12 q1 _) ?_
          first | refine WL.load rfl rfl rfl (Sg.ld_hl bx5 k) ?_
          refine WL.call [s.hl.v] enter29 rfl rfl rfl (mark_any _ k.hl _) ?_
          rintro _ w6 ⟨rfl, em⟩
          have wr6 := wr5.below em
          have bx6 := bx5.on em
          have l6 := em.size
          have s6 := bt s5 em
          refine ⟨_, rfl, ?_⟩
          first | refine WL.assign rfl rfl rfl ?_
          refine WL.done ?_
          refine EW.on ?_
          refine EW.seq ?_
          refine EW.region ?_
          first | refine WL.move rfl rfl rfl ?_
          first | refine WL.move rfl rfl rfl ?_
          refine WL.call [.pointer (some ⟨q, 0, none⟩), .int .i64 (mkD s.hl : Int)] enter25 rfl rfl rfl (u8_any 330 (by decide) _ q _ _ (mkD s.hl) (mkD_lt _) w6 wr6 (by omega) (by simp only [List.length_append, List.length_cons, List.length_nil, corD_len k, sndD_len k, rcvD_len k, helB_len k.hl]; first | omega | decide | exact absurd h30 hx)) ?_
          rintro _ w7 ⟨rfl, v7, wr7, f7, n7⟩
          have bx7 := bx6.fx f7 (wr6.apart bx6 (by decide) (by decide))
          have l7 := f7.size
          have s7 := s6.trans ((wr6.stays f7 (by omega)).mono (by omega))
          refine ⟨_, rfl, ?_⟩
          refine WL.done ?_
          refine EW.on ?_
          refine EW.seq ?_
          refine EW.seq ?_
          refine EW.region ?_
          first | refine WL.move rfl rfl rfl ?_
          refine WL.bin rfl rfl rfl rfl (int_eq_t (by simp [mkD, hH]) _ _ _) ?_
          refine WL.done ?_
          refine EW.on ?_
          refine EW.cond_t rfl ?_
          refine EW.region ?_
          first | refine WL.move rfl rfl rfl ?_
          first | refine WL.field rfl rfl rfl (f33_12 q1 _) ?_
          first | refine WL.load rfl rfl rfl (Sg.ld_hl bx7 k) ?_
          refine WL.call [.pointer (some ⟨q, 0, none⟩), s.hl.v] enter30 rfl rfl rfl (wrHello_any 330 (by decide) _ q _ _ s.hl k.hl w7 wr7 (by omega) (by simp only [List.length_append, List.length_cons, List.length_nil, corD_len k, sndD_len k, rcvD_len k, helB_len k.hl]; first | omega | decide | exact absurd h30 hx)) ?_
          rintro _ w8 ⟨rfl, v8, wr8, f8, n8⟩
          have bx8 := bx7.fx f8 (wr7.apart bx7 (by decide) (by decide))
          have l8 := f8.size
          have s8 := s7.trans ((wr7.stays f8 (by omega)).mono (by omega))
          refine ⟨_, rfl, ?_⟩
          refine WL.done ?_
          refine EW.on ?_
          refine EW.seq ?_
          refine EW.region ?_
          first | refine WL.move rfl rfl rfl ?_
          refine WL.call [.pointer (some ⟨q, 0, none⟩)] enter31 rfl rfl rfl (out_any 330 _ q _ _ w8 wr8 (by simp only [List.length_append, List.length_cons, List.length_nil, corD_len k, sndD_len k, rcvD_len k, helB_len k.hl]; first | omega | decide | exact absurd h30 hx)) ?_
          rintro _ w99 ⟨vo, rfl, go, beo⟩
          refine ⟨_, rfl, ?_⟩
          first | refine WL.extract rfl rfl rfl (ext_2 _ _ _).1 ?_
          first | refine WL.extract rfl rfl rfl (ext_2 _ _ _).2 ?_
          first | refine WL.assign rfl rfl rfl ?_
          first | refine WL.assign rfl rfl rfl ?_
          refine WL.done ?_
          refine EW.on ?_
          refine EW.ret ?_
          refine EW.returns2 Try.results12 rfl rfl ⟨vo, by simp [chkD, hG], ?_, bt s8 beo⟩
          rw [if_pos hG]
          refine (show encD s = _ from ?_) ▸ go.lower (by have := s8.size; omega)
          simp [encD, h24, h30, hH]
      · refine EW.skip ?_
        refine EW.on ?_
        refine EW.seq ?_
        by_cases hH : s.hl = Hl.z
        · refine EW.region ?_
          first | refine WL.field rfl rfl rfl (f33_12 q1 _) ?_
          first | refine WL.load rfl rfl rfl (Sg.ld_hl bx4 k) ?_
          refine WL.call [s.hl.v] enter29 rfl rfl rfl (mark_any _ k.hl _) ?_
          rintro _ w5 ⟨rfl, em⟩
          have wr5 := wr4.below em
          have bx5 := bx4.on em
          have l5 := em.size
          have s5 := bt s4 em
          refine ⟨_, rfl, ?_⟩
          first | refine WL.assign rfl rfl rfl ?_
          refine WL.done ?_
          refine EW.on ?_
          refine EW.seq ?_
          refine EW.region ?_
          first | refine WL.move rfl rfl rfl ?_
          first | refine WL.move rfl rfl rfl ?_
          refine WL.call [.pointer (some ⟨q, 0, none⟩), .int .i64 (mkD s.hl : Int)] enter25 rfl rfl rfl (u8_any 330 (by decide) _ q _ _ (mkD s.hl) (mkD_lt _) w5 wr5 (by omega) (by simp only [List.length_append, List.length_cons, List.length_nil, corD_len k, sndD_len k, rcvD_len k, helB_len k.hl]; first | omega | decide | exact absurd h30 hx)) ?_
          rintro _ w6 ⟨rfl, v6, wr6, f6, n6⟩
          have bx6 := bx5.fx f6 (wr5.apart bx5 (by decide) (by decide))
          have l6 := f6.size
          have s6 := s5.trans ((wr5.stays f6 (by omega)).mono (by omega))
          refine ⟨_, rfl, ?_⟩
          refine WL.done ?_
          refine EW.on ?_
          refine EW.seq ?_
          refine EW.seq ?_
          refine EW.region ?_
          first | refine WL.move rfl rfl rfl ?_
          refine WL.bin rfl rfl rfl rfl (int_eq_f (by simp [mkD, hH]) _ _ _) ?_
          refine WL.done ?_
          refine EW.on ?_
          refine EW.cond_f rfl ?_
          refine EW.skip ?_
          refine EW.on ?_
          refine EW.seq ?_
          refine EW.region ?_
          first | refine WL.move rfl rfl rfl ?_
          refine WL.call [.pointer (some ⟨q, 0, none⟩)] enter31 rfl rfl rfl (out_any 330 _ q _ _ w6 wr6 (by simp only [List.length_append, List.length_cons, List.length_nil, corD_len k, sndD_len k, rcvD_len k, helB_len k.hl]; first | omega | decide | exact absurd h30 hx)) ?_
          rintro _ w99 ⟨vo, rfl, go, beo⟩
          refine ⟨_, rfl, ?_⟩
          first | refine WL.extract rfl rfl rfl (ext_2 _ _ _).1 ?_
          first | refine WL.extract rfl rfl rfl (ext_2 _ _ _).2 ?_
          first | refine WL.assign rfl rfl rfl ?_
          first | refine WL.assign rfl rfl rfl ?_
          refine WL.done ?_
          refine EW.on ?_
          refine EW.ret ?_
          refine EW.returns2 Try.results12 rfl rfl ⟨vo, by simp [chkD, hG], ?_, bt s6 beo⟩
          rw [if_pos hG]
          refine (show encD s = _ from ?_) ▸ go.lower (by have := s6.size; omega)
          simp [encD, h24, h30, hH]
        · have hx : ¬ 0 < s.turns := fun h => hH (good_hl hG (.inr h))
          refine EW.region ?_
          first | refine WL.field rfl rfl rfl (f33_12 q1 _) ?_
          first | refine WL.load rfl rfl rfl (Sg.ld_hl bx4 k) ?_
          refine WL.call [s.hl.v] enter29 rfl rfl rfl (mark_any _ k.hl _) ?_
          rintro _ w5 ⟨rfl, em⟩
          have wr5 := wr4.below em
          have bx5 := bx4.on em
          have l5 := em.size
          have s5 := bt s4 em
          refine ⟨_, rfl, ?_⟩
          first | refine WL.assign rfl rfl rfl ?_
          refine WL.done ?_
          refine EW.on ?_
          refine EW.seq ?_
          refine EW.region ?_
          first | refine WL.move rfl rfl rfl ?_
          first | refine WL.move rfl rfl rfl ?_
          refine WL.call [.pointer (some ⟨q, 0, none⟩), .int .i64 (mkD s.hl : Int)] enter25 rfl rfl rfl (u8_any 330 (by decide) _ q _ _ (mkD s.hl) (mkD_lt _) w5 wr5 (by omega) (by simp only [List.length_append, List.length_cons, List.length_nil, corD_len k, sndD_len k, rcvD_len k, helB_len k.hl]; first | omega | decide | exact absurd h30 hx)) ?_
          rintro _ w6 ⟨rfl, v6, wr6, f6, n6⟩
          have bx6 := bx5.fx f6 (wr5.apart bx5 (by decide) (by decide))
          have l6 := f6.size
          have s6 := s5.trans ((wr5.stays f6 (by omega)).mono (by omega))
          refine ⟨_, rfl, ?_⟩
          refine WL.done ?_
          refine EW.on ?_
          refine EW.seq ?_
          refine EW.seq ?_
          refine EW.region ?_
          first | refine WL.move rfl rfl rfl ?_
          refine WL.bin rfl rfl rfl rfl (int_eq_t (by simp [mkD, hH]) _ _ _) ?_
          refine WL.done ?_
          refine EW.on ?_
          refine EW.cond_t rfl ?_
          refine EW.region ?_
          first | refine WL.move rfl rfl rfl ?_
          first | refine WL.field rfl rfl rfl (f33_12 q1 _) ?_
          first | refine WL.load rfl rfl rfl (Sg.ld_hl bx6 k) ?_
          refine WL.call [.pointer (some ⟨q, 0, none⟩), s.hl.v] enter30 rfl rfl rfl (wrHello_any 330 (by decide) _ q _ _ s.hl k.hl w6 wr6 (by omega) (by simp only [List.length_append, List.length_cons, List.length_nil, corD_len k, sndD_len k, rcvD_len k, helB_len k.hl]; first | omega | decide | exact absurd h30 hx)) ?_
          rintro _ w7 ⟨rfl, v7, wr7, f7, n7⟩
          have bx7 := bx6.fx f7 (wr6.apart bx6 (by decide) (by decide))
          have l7 := f7.size
          have s7 := s6.trans ((wr6.stays f7 (by omega)).mono (by omega))
          refine ⟨_, rfl, ?_⟩
          refine WL.done ?_
          refine EW.on ?_
          refine EW.seq ?_
          refine EW.region ?_
          first | refine WL.move rfl rfl rfl ?_
          refine WL.call [.pointer (some ⟨q, 0, none⟩)] enter31 rfl rfl rfl (out_any 330 _ q _ _ w7 wr7 (by simp only [List.length_append, List.length_cons, List.length_nil, corD_len k, sndD_len k, rcvD_len k, helB_len k.hl]; first | omega | decide | exact absurd h30 hx)) ?_
          rintro _ w99 ⟨vo, rfl, go, beo⟩
          refine ⟨_, rfl, ?_⟩
          first | refine WL.extract rfl rfl rfl (ext_2 _ _ _).1 ?_
          first | refine WL.extract rfl rfl rfl (ext_2 _ _ _).2 ?_
          first | refine WL.assign rfl rfl rfl ?_
          first | refine WL.assign rfl rfl rfl ?_
          refine WL.done ?_
          refine EW.on ?_
          refine EW.ret ?_
          refine EW.returns2 Try.results12 rfl rfl ⟨vo, by simp [chkD, hG], ?_, bt s7 beo⟩
          rw [if_pos hG]
          refine (show encD s = _ from ?_) ▸ go.lower (by have := s7.size; omega)
          simp [encD, h24, h30, hH]
  · refine EW.region ?_
    first | refine WL.move rfl rfl rfl ?_
    refine WL.bin rfl rfl rfl rfl (int_ne_t (by simp [chkD, hG]) _ _ _) ?_
    refine WL.done ?_
    refine EW.on ?_
    refine EW.cond_t rfl ?_
    refine EW.seq ?_
    refine EW.region ?_
    first | refine WL.move rfl rfl rfl ?_
    first | refine WL.assign rfl rfl rfl ?_
    first | refine WL.assign rfl rfl rfl ?_
    refine WL.done ?_
    refine EW.on ?_
    refine EW.ret ?_
    refine pr_then ?_
    refine EW.returns2 Try.results12 rfl rfl ⟨.slice none 0 0, rfl, by rw [if_neg hG]; exact Ob.nil _ _, bt e1 e0⟩
end Go.Proofs.Ytacimelcmkhhlaa
