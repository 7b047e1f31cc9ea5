import Derived.Test.YtacimelcmkhhlaaKe
set_option linter.unusedVariables false
set_option linter.unusedSimpArgs false
namespace Go.Proofs.Ytacimelcmkhhlaa
open Go.RowKit

set_option maxRecDepth 100000 in
set_option maxHeartbeats 1000000 in
theorem rcheck_any (s : Sg) (k : s.ok) (w : World) : Calls Try.prog 47 #[s.v] w fun e w' => e = .returned (.int .i64 (chkD s)) ∧ Below w.heap.size w w' := by
  obtain ⟨w1, q1, r1, b1, e1, hq1⟩ := box_any 33 s.cs w
  refine calls_of_args [s.v] Try.func47 rfl 8 Try.ntmps47 (by show 1 ≤ 8; decide) ?_
  refine EW.seq ?_
  refine EW.region ?_
  refine WL.box rfl rfl rfl r1 ?_
  first | refine WL.assign rfl rfl rfl ?_
  refine WL.done ?_
  refine EW.on ?_
  refine EW.seq ?_
  by_cases hG : Good s
  · refine EW.region ?_
    first | refine WL.load rfl rfl rfl (Sg.ld b1 k) ?_
    refine WL.call [s.v] enter64 rfl rfl rfl (rmay_any s k _) ?_
    rintro _ w2 ⟨rfl, e2⟩
    rw [decide_eq_true hG]
    refine ⟨_, rfl, ?_⟩
    first | refine WL.assign rfl rfl rfl ?_
    refine WL.done ?_
    refine EW.on ?_
    refine EW.seq ?_
    refine EW.seq ?_
    refine EW.region ?_
    first | refine WL.move rfl rfl rfl ?_
    refine WL.un rfl rfl rfl (not_t _ _) ?_
    refine WL.done ?_
    refine EW.on ?_
    refine EW.cond_f rfl ?_
    refine EW.skip ?_
    refine EW.on ?_
    refine EW.seq ?_
    refine EW.region ?_
    first | refine WL.assign rfl rfl rfl ?_
    refine WL.done ?_
    refine EW.on ?_
    refine EW.ret ?_
    exact EW.returns Try.results47 rfl ⟨by rw [chkD, if_pos hG], bt e1 e2⟩
  · refine EW.region ?_
    first | refine WL.load rfl rfl rfl (Sg.ld b1 k) ?_
    refine WL.call [s.v] enter64 rfl rfl rfl (rmay_any s k _) ?_
    rintro _ w2 ⟨rfl, e2⟩
    rw [decide_eq_false hG]
    refine ⟨_, rfl, ?_⟩
    first | refine WL.assign rfl rfl rfl ?_
    refine WL.done ?_
    refine EW.on ?_
    refine EW.seq ?_
    refine EW.seq ?_
    refine EW.region ?_
    first | refine WL.move rfl rfl rfl ?_
    refine WL.un rfl rfl rfl (not_t _ _) ?_
    refine WL.done ?_
    refine EW.on ?_
    refine EW.cond_t rfl ?_
    refine EW.seq ?_
    refine EW.region ?_
    first | refine WL.assign rfl rfl rfl ?_
    refine WL.done ?_
    refine EW.on ?_
    refine EW.ret ?_
    refine pr_then ?_
    exact EW.returns Try.results47 rfl ⟨by rw [chkD, if_neg hG], bt e1 e2⟩
theorem Sg.has_honce {w : World} {q : Nat} {s : Sg} {t : TypeId} (hb : Blk w q s.cs t) (k : s.ok) : Has w (.slice (some ⟨q, 246, none⟩) 32 32) s.hl.once := by
  have h := hb.has (K := s.hl.once) (a := s.a_hl ++ s.hl.id.map byt) (b := [u32v s.hl.pre] ++ s.b_hl) (o := 246) (by rw [Sg.c_hid]; simp) (by simp [Sg.l_hl k, k.hl.i]) 32 (by rw [k.hl.o]; exact Nat.le_refl _)
  rw [k.hl.o] at h
  exact h
theorem Sg.ld_hpre {w : World} {q : Nat} {s : Sg} {t : TypeId} (hb : Blk w q s.cs t) (k : s.ok) : (Instr.loadAt 28 (.pointer (some ⟨q, 214 + 64, none⟩))).run Try.prog w = .ok (u32v s.hl.pre) w := hb.ldU (a := s.a_hl ++ (s.hl.id.map byt ++ s.hl.once.map byt)) (b := s.b_hl) (by rw [Sg.c_hid]; simp) (by simp [Sg.l_hl k, k.hl.i, k.hl.o])
set_option maxRecDepth 100000 in
set_option maxHeartbeats 4000000 in
theorem written_any (s : Sg) (k : s.ok) (w : World) : Calls Try.prog 65 #[s.v] w fun e w' => ∃ v, e = .returned v ∧ Ob w' w.heap.size v (encD s) ∧ Below w.heap.size w w' := by
  obtain ⟨w1, q1, r1, b1, e1, hq1⟩ := box_any 33 s.cs w
  have hb1 := b1.lt
  refine calls_of_args [s.v] Try.func65 rfl 105 Try.ntmps65 (by show 1 ≤ 105; decide) ?_
  refine EW.seq ?_
  refine EW.region ?_
  refine WL.box rfl rfl rfl r1 ?_
  first | refine WL.assign rfl rfl rfl ?_
  refine WL.done ?_
  refine EW.on ?_
  refine EW.seq ?_
  refine EW.region ?_
  refine WL.bslN [(0, byt 1)] rfl rfl rfl (bsl22_1 1 _) ?_
  have ob2 := ob_new w1 [1] (by decide) 1 rfl (by decide)
  have e2 := below_new w1 (.cells ([(1 : UInt8)].map byt).toArray 5)
  obtain ⟨w2, hw2⟩ : ∃ W, w1.alloc (.cells ([(1 : UInt8)].map byt).toArray 5) = W := ⟨_, rfl⟩
  rw [hw2] at ob2 e2 ⊢
  have bx2 := b1.on e2
  have l2 : Below w1.heap.size w1 w2 := e2
  first | refine WL.assign rfl rfl rfl ?_
  refine WL.done ?_
  refine EW.on ?_
  refine EW.seq ?_
  refine EW.region ?_
  first | refine WL.move rfl rfl rfl ?_
  first | refine WL.field rfl rfl rfl (f33_0 q1 _) ?_
  refine WL.slice0 rfl rfl rfl (sl23 q1 0 _) ?_
  obtain ⟨v11, w11, ap11, ob11, f11, n11⟩ := ob2.push (by have := l2.size; omega) (.slice (some ⟨q1, 0, none⟩) 16 16) s.sid (Sg.has_sid bx2 k) (by simp only [List.length_append, List.length_cons, List.length_nil, be32_len, k.sid, k.bind, k.root, k.pri, k.pub, k.peer, k.sk, k.rk, k.hl.o]; omega) 38
  refine WL.app rfl rfl rfl rfl ap11 ?_
  have bx11 := bx2.fx f11 (fun e => by have := ob2.base _ e; omega)
  have l11 := l2.trans (f11.below (fun k hk e => by have := ob2.base _ e; omega) (by have := l2.size; omega))
  first | refine WL.assign rfl rfl rfl ?_
  refine WL.done ?_
  refine EW.on ?_
  refine EW.seq ?_
  refine EW.region ?_
  first | refine WL.move rfl rfl rfl ?_
  first | refine WL.field rfl rfl rfl (f33_13 q1 _) ?_
  refine WL.slice0 rfl rfl rfl (sl31 q1 279 _) ?_
  obtain ⟨v12, w12, ap12, ob12, f12, n12⟩ := ob11.push (by have := l11.size; omega) (.slice (some ⟨q1, 279, none⟩) 64 64) s.bind (Sg.has_bind bx11 k) (by simp only [List.length_append, List.length_cons, List.length_nil, be32_len, k.sid, k.bind, k.root, k.pri, k.pub, k.peer, k.sk, k.rk, k.hl.o]; omega) 38
  refine WL.app rfl rfl rfl rfl ap12 ?_
  have bx12 := bx11.fx f12 (fun e => by have := ob11.base _ e; omega)
  have l12 := l11.trans (f12.below (fun k hk e => by have := ob11.base _ e; omega) (by have := l11.size; omega))
  first | refine WL.assign rfl rfl rfl ?_
  refine WL.done ?_
  refine EW.on ?_
  refine EW.seq ?_
  refine EW.region ?_
  first | refine WL.move rfl rfl rfl ?_
  first | refine WL.field rfl rfl rfl (f33_1 q1 _) ?_
  refine WL.slice0 rfl rfl rfl (sl25 q1 16 _) ?_
  obtain ⟨v13, w13, ap13, ob13, f13, n13⟩ := ob12.push (by have := l12.size; omega) (.slice (some ⟨q1, 16, none⟩) 32 32) s.root (Sg.has_root bx12 k) (by simp only [List.length_append, List.length_cons, List.length_nil, be32_len, k.sid, k.bind, k.root, k.pri, k.pub, k.peer, k.sk, k.rk, k.hl.o]; omega) 38
  refine WL.app rfl rfl rfl rfl ap13 ?_
  have bx13 := bx12.fx f13 (fun e => by have := ob12.base _ e; omega)
  have l13 := l12.trans (f13.below (fun k hk e => by have := ob12.base _ e; omega) (by have := l12.size; omega))
  first | refine WL.assign rfl rfl rfl ?_
  refine WL.done ?_
  refine EW.on ?_
  refine EW.seq ?_
  refine EW.region ?_
  first | refine WL.move rfl rfl rfl ?_
  first | refine WL.field rfl rfl rfl (f33_2 q1 _) ?_
  first | refine WL.field rfl rfl rfl (f27_0 q1 48 _) ?_
  refine WL.slice0 rfl rfl rfl (sl25 q1 48 _) ?_
  obtain ⟨v14, w14, ap14, ob14, f14, n14⟩ := ob13.push (by have := l13.size; omega) (.slice (some ⟨q1, 48, none⟩) 32 32) s.pri (Sg.has_pri bx13 k) (by simp only [List.length_append, List.length_cons, List.length_nil, be32_len, k.sid, k.bind, k.root, k.pri, k.pub, k.peer, k.sk, k.rk, k.hl.o]; omega) 38
  refine WL.app rfl rfl rfl rfl ap14 ?_
  have bx14 := bx13.fx f14 (fun e => by have := ob13.base _ e; omega)
  have l14 := l13.trans (f14.below (fun k hk e => by have := ob13.base _ e; omega) (by have := l13.size; omega))
  first | refine WL.assign rfl rfl rfl ?_
  refine WL.done ?_
  refine EW.on ?_
  refine EW.seq ?_
  refine EW.region ?_
  first | refine WL.move rfl rfl rfl ?_
  first | refine WL.field rfl rfl rfl (f33_2 q1 _) ?_
  first | refine WL.field rfl rfl rfl (f27_1 q1 48 _) ?_
  refine WL.slice0 rfl rfl rfl (sl25 q1 80 _) ?_
  obtain ⟨v15, w15, ap15, ob15, f15, n15⟩ := ob14.push (by have := l14.size; omega) (.slice (some ⟨q1, 80, none⟩) 32 32) s.pub (Sg.has_pub bx14 k) (by simp only [List.length_append, List.length_cons, List.length_nil, be32_len, k.sid, k.bind, k.root, k.pri, k.pub, k.peer, k.sk, k.rk, k.hl.o]; omega) 38
  refine WL.app rfl rfl rfl rfl ap15 ?_
  have bx15 := bx14.fx f15 (fun e => by have := ob14.base _ e; omega)
  have l15 := l14.trans (f15.below (fun k hk e => by have := ob14.base _ e; omega) (by have := l14.size; omega))
  first | refine WL.assign rfl rfl rfl ?_
  refine WL.done ?_
  refine EW.on ?_
  refine EW.seq ?_
  refine EW.region ?_
  first | refine WL.move rfl rfl rfl ?_
  first | refine WL.field rfl rfl rfl (f33_3 q1 _) ?_
  refine WL.slice0 rfl rfl rfl (sl25 q1 112 _) ?_
  obtain ⟨v16, w16, ap16, ob16, f16, n16⟩ := ob15.push (by have := l15.size; omega) (.slice (some ⟨q1, 112, none⟩) 32 32) s.peer (Sg.has_peer bx15 k) (by simp only [List.length_append, List.length_cons, List.length_nil, be32_len, k.sid, k.bind, k.root, k.pri, k.pub, k.peer, k.sk, k.rk, k.hl.o]; omega) 38
  refine WL.app rfl rfl rfl rfl ap16 ?_
  have bx16 := bx15.fx f16 (fun e => by have := ob15.base _ e; omega)
  have l16 := l15.trans (f16.below (fun k hk e => by have := ob15.base _ e; omega) (by have := l15.size; omega))
  first | refine WL.assign rfl rfl rfl ?_
  refine WL.done ?_
  refine EW.on ?_
  refine EW.seq ?_
  refine EW.region ?_
  first | refine WL.move rfl rfl rfl ?_
  first | refine WL.field rfl rfl rfl (f33_6 q1 _) ?_
  first | refine WL.load rfl rfl rfl (Sg.ld_own bx16 k) ?_
  refine WL.conv rfl rfl rfl (cvt k.own _) ?_
  refine WL.call [.int .i64 (s.own : Int), .int .i64 4] enter69 rfl rfl rfl (numr_any s.own 4 (by decide) k.own _) ?_
  rintro _ w17 ⟨vn17, rfl, on17, e17⟩
  rw [sfx4] at on17
  refine ⟨_, rfl, ?_⟩
  have ob17 := ob16.below e17
  have bx17 := bx16.on e17
  have l17 := bt l16 e17
  obtain ⟨v18, w18, ap18, ob18, f18, n18⟩ := ob17.push (by have := l17.size; omega) vn17 (be32 s.own) on17.has (by simp only [List.length_append, List.length_cons, List.length_nil, be32_len, k.sid, k.bind, k.root, k.pri, k.pub, k.peer, k.sk, k.rk, k.hl.o]; omega) 38
  refine WL.app rfl rfl rfl rfl ap18 ?_
  have bx18 := bx17.fx f18 (fun e => by have := ob17.base _ e; omega)
  have l18 := l17.trans (f18.below (fun k hk e => by have := ob17.base _ e; omega) (by have := l17.size; omega))
  first | refine WL.assign rfl rfl rfl ?_
  refine WL.done ?_
  refine EW.on ?_
  refine EW.seq ?_
  refine EW.region ?_
  first | refine WL.move rfl rfl rfl ?_
  first | refine WL.field rfl rfl rfl (f33_7 q1 _) ?_
  first | refine WL.load rfl rfl rfl (Sg.ld_turns bx18 k) ?_
  refine WL.conv rfl rfl rfl (cvt k.turns _) ?_
  refine WL.call [.int .i64 (s.turns : Int), .int .i64 4] enter69 rfl rfl rfl (numr_any s.turns 4 (by decide) k.turns _) ?_
  rintro _ w19 ⟨vn19, rfl, on19, e19⟩
  rw [sfx4] at on19
  refine ⟨_, rfl, ?_⟩
  have ob19 := ob18.below e19
  have bx19 := bx18.on e19
  have l19 := bt l18 e19
  obtain ⟨v20, w20, ap20, ob20, f20, n20⟩ := ob19.push (by have := l19.size; omega) vn19 (be32 s.turns) on19.has (by simp only [List.length_append, List.length_cons, List.length_nil, be32_len, k.sid, k.bind, k.root, k.pri, k.pub, k.peer, k.sk, k.rk, k.hl.o]; omega) 38
  refine WL.app rfl rfl rfl rfl ap20 ?_
  have bx20 := bx19.fx f20 (fun e => by have := ob19.base _ e; omega)
  have l20 := l19.trans (f20.below (fun k hk e => by have := ob19.base _ e; omega) (by have := l19.size; omega))
  first | refine WL.assign rfl rfl rfl ?_
  refine WL.done ?_
  refine EW.on ?_
  refine EW.seq ?_
  refine EW.region ?_
  first | refine WL.move rfl rfl rfl ?_
  first | refine WL.field rfl rfl rfl (f33_11 q1 _) ?_
  first | refine WL.load rfl rfl rfl (Sg.ld_ser bx20 k) ?_
  refine WL.conv rfl rfl rfl (cvt k.ser _) ?_
  refine WL.call [.int .i64 (s.ser : Int), .int .i64 4] enter69 rfl rfl rfl (numr_any s.ser 4 (by decide) k.ser _) ?_
  rintro _ w21 ⟨vn21, rfl, on21, e21⟩
  rw [sfx4] at on21
  refine ⟨_, rfl, ?_⟩
  have ob21 := ob20.below e21
  have bx21 := bx20.on e21
  have l21 := bt l20 e21
  obtain ⟨v22, w22, ap22, ob22, f22, n22⟩ := ob21.push (by have := l21.size; omega) vn21 (be32 s.ser) on21.has (by simp only [List.length_append, List.length_cons, List.length_nil, be32_len, k.sid, k.bind, k.root, k.pri, k.pub, k.peer, k.sk, k.rk, k.hl.o]; omega) 38
  refine WL.app rfl rfl rfl rfl ap22 ?_
  have bx22 := bx21.fx f22 (fun e => by have := ob21.base _ e; omega)
  have l22 := l21.trans (f22.below (fun k hk e => by have := ob21.base _ e; omega) (by have := l21.size; omega))
  first | refine WL.assign rfl rfl rfl ?_
  refine WL.done ?_
  refine EW.on ?_
  refine EW.seq ?_
  refine EW.seq ?_
  refine EW.region ?_
  first | refine WL.field rfl rfl rfl (f33_6 q1 _) ?_
  first | refine WL.load rfl rfl rfl (Sg.ld_own bx22 k) ?_
  refine WL.bin rfl rfl rfl rfl (u_gt_d _ 0 _ _ _) ?_
  refine WL.done ?_
  refine EW.on ?_
  refine EW.cond_d rfl (fun h52 => ?_) (fun h52 => ?_)
  · refine EW.seq ?_
    refine EW.region ?_
    first | refine WL.move rfl rfl rfl ?_
    first | refine WL.field rfl rfl rfl (f33_4 q1 _) ?_
    refine WL.slice0 rfl rfl rfl (sl25 q1 144 _) ?_
    obtain ⟨v23, w23, ap23, ob23, f23, n23⟩ := ob22.push (by have := l22.size; omega) (.slice (some ⟨q1, 144, none⟩) 32 32) s.sk (Sg.has_sk bx22 k) (by simp only [List.length_append, List.length_cons, List.length_nil, be32_len, k.sid, k.bind, k.root, k.pri, k.pub, k.peer, k.sk, k.rk, k.hl.o]; omega) 38
    refine WL.app rfl rfl rfl rfl ap23 ?_
    have bx23 := bx22.fx f23 (fun e => by have := ob22.base _ e; omega)
    have l23 := l22.trans (f23.below (fun k hk e => by have := ob22.base _ e; omega) (by have := l22.size; omega))
    first | refine WL.assign rfl rfl rfl ?_
    refine WL.done ?_
    refine EW.on ?_
    refine EW.seq ?_
    refine EW.region ?_
    first | refine WL.move rfl rfl rfl ?_
    first | refine WL.field rfl rfl rfl (f33_8 q1 _) ?_
    first | refine WL.load rfl rfl rfl (Sg.ld_sent bx23 k) ?_
    refine WL.conv rfl rfl rfl (cvt k.sent _) ?_
    refine WL.call [.int .i64 (s.sent : Int), .int .i64 4] enter69 rfl rfl rfl (numr_any s.sent 4 (by decide) k.sent _) ?_
    rintro _ w24 ⟨vn24, rfl, on24, e24⟩
    rw [sfx4] at on24
    refine ⟨_, rfl, ?_⟩
    have ob24 := ob23.below e24
    have bx24 := bx23.on e24
    have l24 := bt l23 e24
    obtain ⟨v25, w25, ap25, ob25, f25, n25⟩ := ob24.push (by have := l24.size; omega) vn24 (be32 s.sent) on24.has (by simp only [List.length_append, List.length_cons, List.length_nil, be32_len, k.sid, k.bind, k.root, k.pri, k.pub, k.peer, k.sk, k.rk, k.hl.o]; omega) 38
    refine WL.app rfl rfl rfl rfl ap25 ?_
    have bx25 := bx24.fx f25 (fun e => by have := ob24.base _ e; omega)
    have l25 := l24.trans (f25.below (fun k hk e => by have := ob24.base _ e; omega) (by have := l24.size; omega))
    first | refine WL.assign rfl rfl rfl ?_
    refine WL.done ?_
    refine EW.on ?_
    refine EW.region ?_
    first | refine WL.move rfl rfl rfl ?_
    first | refine WL.field rfl rfl rfl (f33_10 q1 _) ?_
    first | refine WL.load rfl rfl rfl (Sg.ld_prev bx25 k) ?_
    refine WL.conv rfl rfl rfl (cvt k.prev _) ?_
    refine WL.call [.int .i64 (s.prev : Int), .int .i64 4] enter69 rfl rfl rfl (numr_any s.prev 4 (by decide) k.prev _) ?_
    rintro _ w26 ⟨vn26, rfl, on26, e26⟩
    rw [sfx4] at on26
    refine ⟨_, rfl, ?_⟩
    have ob26 := ob25.below e26
    have bx26 := bx25.on e26
    have l26 := bt l25 e26
    obtain ⟨v27, w27, ap27, ob27, f27, n27⟩ := ob26.push (by have := l26.size; omega) vn26 (be32 s.prev) on26.has (by simp only [List.length_append, List.length_cons, List.length_nil, be32_len, k.sid, k.bind, k.root, k.pri, k.pub, k.peer, k.sk, k.rk, k.hl.o]; omega) 38
    refine WL.app rfl rfl rfl rfl ap27 ?_
    have bx27 := bx26.fx f27 (fun e => by have := ob26.base _ e; omega)
    have l27 := l26.trans (f27.below (fun k hk e => by have := ob26.base _ e; omega) (by have := l26.size; omega))
    first | refine WL.assign rfl rfl rfl ?_
    refine WL.done ?_
    refine EW.on ?_
    refine EW.seq ?_
    refine EW.seq ?_
    refine EW.region ?_
    first | refine WL.field rfl rfl rfl (f33_7 q1 _) ?_
    first | refine WL.load rfl rfl rfl (Sg.ld_turns bx27 k) ?_
    refine WL.bin rfl rfl rfl rfl (u_gt_d _ 0 _ _ _) ?_
    refine WL.done ?_
    refine EW.on ?_
    refine EW.cond_d rfl (fun h71 => ?_) (fun h71 => ?_)
    · refine EW.seq ?_
      refine EW.region ?_
      first | refine WL.move rfl rfl rfl ?_
      first | refine WL.field rfl rfl rfl (f33_5 q1 _) ?_
      refine WL.slice0 rfl rfl rfl (sl25 q1 176 _) ?_
      obtain ⟨v28, w28, ap28, ob28, f28, n28⟩ := ob27.push (by have := l27.size; omega) (.slice (some ⟨q1, 176, none⟩) 32 32) s.rk (Sg.has_rk bx27 k) (by simp only [List.length_append, List.length_cons, List.length_nil, be32_len, k.sid, k.bind, k.root, k.pri, k.pub, k.peer, k.sk, k.rk, k.hl.o]; omega) 38
      refine WL.app rfl rfl rfl rfl ap28 ?_
      have bx28 := bx27.fx f28 (fun e => by have := ob27.base _ e; omega)
      have l28 := l27.trans (f28.below (fun k hk e => by have := ob27.base _ e; omega) (by have := l27.size; omega))
      first | refine WL.assign rfl rfl rfl ?_
      refine WL.done ?_
      refine EW.on ?_
      refine EW.region ?_
      first | refine WL.move rfl rfl rfl ?_
      first | refine WL.field rfl rfl rfl (f33_9 q1 _) ?_
      first | refine WL.load rfl rfl rfl (Sg.ld_got bx28 k) ?_
      refine WL.conv rfl rfl rfl (cvt k.got _) ?_
      refine WL.call [.int .i64 (s.got : Int), .int .i64 4] enter69 rfl rfl rfl (numr_any s.got 4 (by decide) k.got _) ?_
      rintro _ w29 ⟨vn29, rfl, on29, e29⟩
      rw [sfx4] at on29
      refine ⟨_, rfl, ?_⟩
      have ob29 := ob28.below e29
      have bx29 := bx28.on e29
      have l29 := bt l28 e29
      obtain ⟨v30, w30, ap30, ob30, f30, n30⟩ := ob29.push (by have := l29.size; omega) vn29 (be32 s.got) on29.has (by simp only [List.length_append, List.length_cons, List.length_nil, be32_len, k.sid, k.bind, k.root, k.pri, k.pub, k.peer, k.sk, k.rk, k.hl.o]; omega) 38
      refine WL.app rfl rfl rfl rfl ap30 ?_
      have bx30 := bx29.fx f30 (fun e => by have := ob29.base _ e; omega)
      have l30 := l29.trans (f30.below (fun k hk e => by have := ob29.base _ e; omega) (by have := l29.size; omega))
      first | refine WL.assign rfl rfl rfl ?_
      refine WL.done ?_
      refine EW.on ?_
      refine EW.seq ?_
      by_cases hH : s.hl = Hl.z
      · refine EW.region ?_
        first | refine WL.field rfl rfl rfl (f33_12 q1 _) ?_
        first | refine WL.load rfl rfl rfl (Sg.ld_hl bx30 k) ?_
        refine WL.call [s.hl.v] enter70 rfl rfl rfl (greets_any _ k.hl _) ?_
        rintro _ w31 ⟨rfl, e31⟩
        rw [decide_eq_false (show ¬ ¬ s.hl = Hl.z from fun h => h hH)]
        refine ⟨_, rfl, ?_⟩
        have ob31 := ob30.below e31
        have bx31 := bx30.on e31
        have l31 := bt l30 e31
        first | refine WL.assign rfl rfl rfl ?_
        refine WL.done ?_
        refine EW.on ?_
        refine EW.seq ?_
        refine EW.seq ?_
        refine EW.region ?_
        first | refine WL.move rfl rfl rfl ?_
        refine WL.un rfl rfl rfl (not_t _ _) ?_
        refine WL.done ?_
        refine EW.on ?_
        refine EW.cond_t rfl ?_
        refine EW.seq ?_
        refine EW.region ?_
        first | refine WL.move rfl rfl rfl ?_
        refine WL.bslN [(0, byt 0)] rfl rfl rfl (bsl22_1 0 _) ?_
        have e32 := below_new w31 (.cells ([(0 : UInt8)].map byt).toArray 5)
        have bg32 := Blk.new w31 ([(0 : UInt8)].map byt) 5
        obtain ⟨w32, hw32⟩ : ∃ W, w31.alloc (.cells ([(0 : UInt8)].map byt).toArray 5) = W := ⟨_, rfl⟩
        rw [hw32] at e32 bg32 ⊢
        have hg32 := Has.new bg32 1 (Nat.le_refl 1)
        have ob32 := ob31.below e32
        have bx32 := bx31.on e32
        have l32 := bt l31 e32
        obtain ⟨v33, w33, ap33, ob33, f33, n33⟩ := ob32.push (by have := l32.size; omega) _ [0] hg32 (by simp only [List.length_append, List.length_cons, List.length_nil, be32_len, k.sid, k.bind, k.root, k.pri, k.pub, k.peer, k.sk, k.rk, k.hl.o]; omega) 38
        refine WL.app rfl rfl rfl rfl ap33 ?_
        have bx33 := bx32.fx f33 (fun e => by have := ob32.base _ e; omega)
        have l33 := l32.trans (f33.below (fun k hk e => by have := ob32.base _ e; omega) (by have := l32.size; omega))
        first | refine WL.assign rfl rfl rfl ?_
        refine WL.done ?_
        refine EW.on ?_
        refine EW.ret ?_
        refine pr_then ?_
        refine EW.returns Try.results65 rfl ⟨_, rfl, ?_, bt e1 l33⟩
        refine (show encD s = _ from ?_) ▸ ob33.lower (by have := e1.size; omega)
        simp [encD, h52, h71, hH, mkD, corD, sndD, rcvD, helB]
      · refine EW.region ?_
        first | refine WL.field rfl rfl rfl (f33_12 q1 _) ?_
        first | refine WL.load rfl rfl rfl (Sg.ld_hl bx30 k) ?_
        refine WL.call [s.hl.v] enter70 rfl rfl rfl (greets_any _ k.hl _) ?_
        rintro _ w31 ⟨rfl, e31⟩
        rw [decide_eq_true hH]
        refine ⟨_, rfl, ?_⟩
        have ob31 := ob30.below e31
        have bx31 := bx30.on e31
        have l31 := bt l30 e31
        first | refine WL.assign rfl rfl rfl ?_
        refine WL.done ?_
        refine EW.on ?_
        refine EW.seq ?_
        refine EW.seq ?_
        refine EW.region ?_
        first | refine WL.move rfl rfl rfl ?_
        refine WL.un rfl rfl rfl (not_t _ _) ?_
        refine WL.done ?_
        refine EW.on ?_
        refine EW.cond_f rfl ?_
        refine EW.skip ?_
        refine EW.on ?_
        refine EW.seq ?_
        refine EW.region ?_
        first | refine WL.move rfl rfl rfl ?_
        refine WL.bslN [(0, byt 1)] rfl rfl rfl (bsl22_1 1 _) ?_
        have e32 := below_new w31 (.cells ([(1 : UInt8)].map byt).toArray 5)
        have bg32 := Blk.new w31 ([(1 : UInt8)].map byt) 5
        obtain ⟨w32, hw32⟩ : ∃ W, w31.alloc (.cells ([(1 : UInt8)].map byt).toArray 5) = W := ⟨_, rfl⟩
        rw [hw32] at e32 bg32 ⊢
        have hg32 := Has.new bg32 1 (Nat.le_refl 1)
        have ob32 := ob31.below e32
        have bx32 := bx31.on e32
        have l32 := bt l31 e32
        obtain ⟨v33, w33, ap33, ob33, f33, n33⟩ := ob32.push (by have := l32.size; omega) _ [1] hg32 (by simp only [List.length_append, List.length_cons, List.length_nil, be32_len, k.sid, k.bind, k.root, k.pri, k.pub, k.peer, k.sk, k.rk, k.hl.o]; omega) 38
        refine WL.app rfl rfl rfl rfl ap33 ?_
        have bx33 := bx32.fx f33 (fun e => by have := ob32.base _ e; omega)
        have l33 := l32.trans (f33.below (fun k hk e => by have := ob32.base _ e; omega) (by have := l32.size; omega))
        first | refine WL.assign rfl rfl rfl ?_
        refine WL.done ?_
        refine EW.on ?_
        refine EW.seq ?_
        refine EW.region ?_
        first | refine WL.move rfl rfl rfl ?_
        first | refine WL.field rfl rfl rfl (f33_12 q1 _) ?_
        first | refine WL.field rfl rfl rfl (f30_1 q1 214 _) ?_
        refine WL.slice0 rfl rfl rfl (sl25 q1 246 _) ?_
        obtain ⟨v34, w34, ap34, ob34, f34, n34⟩ := ob33.push (by have := l33.size; omega) (.slice (some ⟨q1, 246, none⟩) 32 32) s.hl.once (Sg.has_honce bx33 k) (by simp only [List.length_append, List.length_cons, List.length_nil, be32_len, k.sid, k.bind, k.root, k.pri, k.pub, k.peer, k.sk, k.rk, k.hl.o]; omega) 38
        refine WL.app rfl rfl rfl rfl ap34 ?_
        have bx34 := bx33.fx f34 (fun e => by have := ob33.base _ e; omega)
        have l34 := l33.trans (f34.below (fun k hk e => by have := ob33.base _ e; omega) (by have := l33.size; omega))
        first | refine WL.assign rfl rfl rfl ?_
        refine WL.done ?_
        refine EW.on ?_
        refine EW.seq ?_
        refine EW.region ?_
        first | refine WL.move rfl rfl rfl ?_
        first | refine WL.field rfl rfl rfl (f33_12 q1 _) ?_
        first | refine WL.field rfl rfl rfl (f30_2 q1 214 _) ?_
        refine WL.load rfl rfl rfl (Sg.ld_hpre bx34 k) ?_
        refine WL.conv rfl rfl rfl (cvt k.hl.p _) ?_
        refine WL.call [.int .i64 (s.hl.pre : Int), .int .i64 4] enter69 rfl rfl rfl (numr_any s.hl.pre 4 (by decide) k.hl.p _) ?_
        rintro _ w35 ⟨vn35, rfl, on35, e35⟩
        rw [sfx4] at on35
        refine ⟨_, rfl, ?_⟩
        have ob35 := ob34.below e35
        have bx35 := bx34.on e35
        have l35 := bt l34 e35
        obtain ⟨v36, w36, ap36, ob36, f36, n36⟩ := ob35.push (by have := l35.size; omega) vn35 (be32 s.hl.pre) on35.has (by simp only [List.length_append, List.length_cons, List.length_nil, be32_len, k.sid, k.bind, k.root, k.pri, k.pub, k.peer, k.sk, k.rk, k.hl.o]; omega) 38
        refine WL.app rfl rfl rfl rfl ap36 ?_
        have bx36 := bx35.fx f36 (fun e => by have := ob35.base _ e; omega)
        have l36 := l35.trans (f36.below (fun k hk e => by have := ob35.base _ e; omega) (by have := l35.size; omega))
        first | refine WL.assign rfl rfl rfl ?_
        refine WL.done ?_
        refine EW.on ?_
        refine EW.ret ?_
        refine EW.returns Try.results65 rfl ⟨_, rfl, ?_, bt e1 l36⟩
        refine (show encD s = _ from ?_) ▸ ob36.lower (by have := e1.size; omega)
        simp [encD, h52, h71, hH, mkD, corD, sndD, rcvD, helB]
    · refine EW.skip ?_
      refine EW.on ?_
      refine EW.seq ?_
      by_cases hH : s.hl = Hl.z
      · refine EW.region ?_
        first | refine WL.field rfl rfl rfl (f33_12 q1 _) ?_
        first | refine WL.load rfl rfl rfl (Sg.ld_hl bx27 k) ?_
        refine WL.call [s.hl.v] enter70 rfl rfl rfl (greets_any _ k.hl _) ?_
        rintro _ w28 ⟨rfl, e28⟩
        rw [decide_eq_false (show ¬ ¬ s.hl = Hl.z from fun h => h hH)]
        refine ⟨_, rfl, ?_⟩
        have ob28 := ob27.below e28
        have bx28 := bx27.on e28
        have l28 := bt l27 e28
        first | refine WL.assign rfl rfl rfl ?_
        refine WL.done ?_
        refine EW.on ?_
        refine EW.seq ?_
        refine EW.seq ?_
        refine EW.region ?_
        first | refine WL.move rfl rfl rfl ?_
        refine WL.un rfl rfl rfl (not_t _ _) ?_
        refine WL.done ?_
        refine EW.on ?_
        refine EW.cond_t rfl ?_
        refine EW.seq ?_
        refine EW.region ?_
        first | refine WL.move rfl rfl rfl ?_
        refine WL.bslN [(0, byt 0)] rfl rfl rfl (bsl22_1 0 _) ?_
        have e29 := below_new w28 (.cells ([(0 : UInt8)].map byt).toArray 5)
        have bg29 := Blk.new w28 ([(0 : UInt8)].map byt) 5
        obtain ⟨w29, hw29⟩ : ∃ W, w28.alloc (.cells ([(0 : UInt8)].map byt).toArray 5) = W := ⟨_, rfl⟩
        rw [hw29] at e29 bg29 ⊢
        have hg29 := Has.new bg29 1 (Nat.le_refl 1)
        have ob29 := ob28.below e29
        have bx29 := bx28.on e29
        have l29 := bt l28 e29
        obtain ⟨v30, w30, ap30, ob30, f30, n30⟩ := ob29.push (by have := l29.size; omega) _ [0] hg29 (by simp only [List.length_append, List.length_cons, List.length_nil, be32_len, k.sid, k.bind, k.root, k.pri, k.pub, k.peer, k.sk, k.rk, k.hl.o]; omega) 38
        refine WL.app rfl rfl rfl rfl ap30 ?_
        have bx30 := bx29.fx f30 (fun e => by have := ob29.base _ e; omega)
        have l30 := l29.trans (f30.below (fun k hk e => by have := ob29.base _ e; omega) (by have := l29.size; omega))
        first | refine WL.assign rfl rfl rfl ?_
        refine WL.done ?_
        refine EW.on ?_
        refine EW.ret ?_
        refine pr_then ?_
        refine EW.returns Try.results65 rfl ⟨_, rfl, ?_, bt e1 l30⟩
        refine (show encD s = _ from ?_) ▸ ob30.lower (by have := e1.size; omega)
        simp [encD, h52, h71, hH, mkD, corD, sndD, rcvD, helB]
      · refine EW.region ?_
        first | refine WL.field rfl rfl rfl (f33_12 q1 _) ?_
        first | refine WL.load rfl rfl rfl (Sg.ld_hl bx27 k) ?_
        refine WL.call [s.hl.v] enter70 rfl rfl rfl (greets_any _ k.hl _) ?_
        rintro _ w28 ⟨rfl, e28⟩
        rw [decide_eq_true hH]
        refine ⟨_, rfl, ?_⟩
        have ob28 := ob27.below e28
        have bx28 := bx27.on e28
        have l28 := bt l27 e28
        first | refine WL.assign rfl rfl rfl ?_
        refine WL.done ?_
        refine EW.on ?_
        refine EW.seq ?_
        refine EW.seq ?_
        refine EW.region ?_
        first | refine WL.move rfl rfl rfl ?_
        refine WL.un rfl rfl rfl (not_t _ _) ?_
        refine WL.done ?_
        refine EW.on ?_
        refine EW.cond_f rfl ?_
        refine EW.skip ?_
        refine EW.on ?_
        refine EW.seq ?_
        refine EW.region ?_
        first | refine WL.move rfl rfl rfl ?_
        refine WL.bslN [(0, byt 1)] rfl rfl rfl (bsl22_1 1 _) ?_
        have e29 := below_new w28 (.cells ([(1 : UInt8)].map byt).toArray 5)
        have bg29 := Blk.new w28 ([(1 : UInt8)].map byt) 5
        obtain ⟨w29, hw29⟩ : ∃ W, w28.alloc (.cells ([(1 : UInt8)].map byt).toArray 5) = W := ⟨_, rfl⟩
        rw [hw29] at e29 bg29 ⊢
        have hg29 := Has.new bg29 1 (Nat.le_refl 1)
        have ob29 := ob28.below e29
        have bx29 := bx28.on e29
        have l29 := bt l28 e29
        obtain ⟨v30, w30, ap30, ob30, f30, n30⟩ := ob29.push (by have := l29.size; omega) _ [1] hg29 (by simp only [List.length_append, List.length_cons, List.length_nil, be32_len, k.sid, k.bind, k.root, k.pri, k.pub, k.peer, k.sk, k.rk, k.hl.o]; omega) 38
        refine WL.app rfl rfl rfl rfl ap30 ?_
        have bx30 := bx29.fx f30 (fun e => by have := ob29.base _ e; omega)
        have l30 := l29.trans (f30.below (fun k hk e => by have := ob29.base _ e; omega) (by have := l29.size; omega))
        first | refine WL.assign rfl rfl rfl ?_
        refine WL.done ?_
        refine EW.on ?_
        refine EW.seq ?_
        refine EW.region ?_
        first | refine WL.move rfl rfl rfl ?_
        first | refine WL.field rfl rfl rfl (f33_12 q1 _) ?_
        first | refine WL.field rfl rfl rfl (f30_1 q1 214 _) ?_
        refine WL.slice0 rfl rfl rfl (sl25 q1 246 _) ?_
        obtain ⟨v31, w31, ap31, ob31, f31, n31⟩ := ob30.push (by have := l30.size; omega) (.slice (some ⟨q1, 246, none⟩) 32 32) s.hl.once (Sg.has_honce bx30 k) (by simp only [List.length_append, List.length_cons, List.length_nil, be32_len, k.sid, k.bind, k.root, k.pri, k.pub, k.peer, k.sk, k.rk, k.hl.o]; omega) 38
        refine WL.app rfl rfl rfl rfl ap31 ?_
        have bx31 := bx30.fx f31 (fun e => by have := ob30.base _ e; omega)
        have l31 := l30.trans (f31.below (fun k hk e => by have := ob30.base _ e; omega) (by have := l30.size; omega))
        first | refine WL.assign rfl rfl rfl ?_
        refine WL.done ?_
        refine EW.on ?_
        refine EW.seq ?_
        refine EW.region ?_
        first | refine WL.move rfl rfl rfl ?_
        first | refine WL.field rfl rfl rfl (f33_12 q1 _) ?_
        first | refine WL.field rfl rfl rfl (f30_2 q1 214 _) ?_
        refine WL.load rfl rfl rfl (Sg.ld_hpre bx31 k) ?_
        refine WL.conv rfl rfl rfl (cvt k.hl.p _) ?_
        refine WL.call [.int .i64 (s.hl.pre : Int), .int .i64 4] enter69 rfl rfl rfl (numr_any s.hl.pre 4 (by decide) k.hl.p _) ?_
        rintro _ w32 ⟨vn32, rfl, on32, e32⟩
        rw [sfx4] at on32
        refine ⟨_, rfl, ?_⟩
        have ob32 := ob31.below e32
        have bx32 := bx31.on e32
        have l32 := bt l31 e32
        obtain ⟨v33, w33, ap33, ob33, f33, n33⟩ := ob32.push (by have := l32.size; omega) vn32 (be32 s.hl.pre) on32.has (by simp only [List.length_append, List.length_cons, List.length_nil, be32_len, k.sid, k.bind, k.root, k.pri, k.pub, k.peer, k.sk, k.rk, k.hl.o]; omega) 38
        refine WL.app rfl rfl rfl rfl ap33 ?_
        have bx33 := bx32.fx f33 (fun e => by have := ob32.base _ e; omega)
        have l33 := l32.trans (f33.below (fun k hk e => by have := ob32.base _ e; omega) (by have := l32.size; omega))
        first | refine WL.assign rfl rfl rfl ?_
        refine WL.done ?_
        refine EW.on ?_
        refine EW.ret ?_
        refine EW.returns Try.results65 rfl ⟨_, rfl, ?_, bt e1 l33⟩
        refine (show encD s = _ from ?_) ▸ ob33.lower (by have := e1.size; omega)
        simp [encD, h52, h71, hH, mkD, corD, sndD, rcvD, helB]
  · refine EW.skip ?_
    refine EW.on ?_
    refine EW.seq ?_
    refine EW.seq ?_
    refine EW.region ?_
    first | refine WL.field rfl rfl rfl (f33_7 q1 _) ?_
    first | refine WL.load rfl rfl rfl (Sg.ld_turns bx22 k) ?_
    refine WL.bin rfl rfl rfl rfl (u_gt_d _ 0 _ _ _) ?_
    refine WL.done ?_
    refine EW.on ?_
    refine EW.cond_d rfl (fun h71 => ?_) (fun h71 => ?_)
    · refine EW.seq ?_
      refine EW.region ?_
      first | refine WL.move rfl rfl rfl ?_
      first | refine WL.field rfl rfl rfl (f33_5 q1 _) ?_
      refine WL.slice0 rfl rfl rfl (sl25 q1 176 _) ?_
      obtain ⟨v23, w23, ap23, ob23, f23, n23⟩ := ob22.push (by have := l22.size; omega) (.slice (some ⟨q1, 176, none⟩) 32 32) s.rk (Sg.has_rk bx22 k) (by simp only [List.length_append, List.length_cons, List.length_nil, be32_len, k.sid, k.bind, k.root, k.pri, k.pub, k.peer, k.sk, k.rk, k.hl.o]; omega) 38
      refine WL.app rfl rfl rfl rfl ap23 ?_
      have bx23 := bx22.fx f23 (fun e => by have := ob22.base _ e; omega)
      have l23 := l22.trans (f23.below (fun k hk e => by have := ob22.base _ e; omega) (by have := l22.size; omega))
      first | refine WL.assign rfl rfl rfl ?_
      refine WL.done ?_
      refine EW.on ?_
      refine EW.region ?_
      first | refine WL.move rfl rfl rfl ?_
      first | refine WL.field rfl rfl rfl (f33_9 q1 _) ?_
      first | refine WL.load rfl rfl rfl (Sg.ld_got bx23 k) ?_
      refine WL.conv rfl rfl rfl (cvt k.got _) ?_
      refine WL.call [.int .i64 (s.got : Int), .int .i64 4] enter69 rfl rfl rfl (numr_any s.got 4 (by decide) k.got _) ?_
      rintro _ w24 ⟨vn24, rfl, on24, e24⟩
      rw [sfx4] at on24
      refine ⟨_, rfl, ?_⟩
      have ob24 := ob23.below e24
      have bx24 := bx23.on e24
      have l24 := bt l23 e24
      obtain ⟨v25, w25, ap25, ob25, f25, n25⟩ := ob24.push (by have := l24.size; omega) vn24 (be32 s.got) on24.has (by simp only [List.length_append, List.length_cons, List.length_nil, be32_len, k.sid, k.bind, k.root, k.pri, k.pub, k.peer, k.sk, k.rk, k.hl.o]; omega) 38
      refine WL.app rfl rfl rfl rfl ap25 ?_
      have bx25 := bx24.fx f25 (fun e => by have := ob24.base _ e; omega)
      have l25 := l24.trans (f25.below (fun k hk e => by have := ob24.base _ e; omega) (by have := l24.size; omega))
      first | refine WL.assign rfl rfl rfl ?_
      refine WL.done ?_
      refine EW.on ?_
      refine EW.seq ?_
      by_cases hH : s.hl = Hl.z
      · refine EW.region ?_
        first | refine WL.field rfl rfl rfl (f33_12 q1 _) ?_
        first | refine WL.load rfl rfl rfl (Sg.ld_hl bx25 k) ?_
        refine WL.call [s.hl.v] enter70 rfl rfl rfl (greets_any _ k.hl _) ?_
        rintro _ w26 ⟨rfl, e26⟩
        rw [decide_eq_false (show ¬ ¬ s.hl = Hl.z from fun h => h hH)]
        refine ⟨_, rfl, ?_⟩
        have ob26 := ob25.below e26
        have bx26 := bx25.on e26
        have l26 := bt l25 e26
        first | refine WL.assign rfl rfl rfl ?_
        refine WL.done ?_
        refine EW.on ?_
        refine EW.seq ?_
        refine EW.seq ?_
        refine EW.region ?_
        first | refine WL.move rfl rfl rfl ?_
        refine WL.un rfl rfl rfl (not_t _ _) ?_
        refine WL.done ?_
        refine EW.on ?_
        refine EW.cond_t rfl ?_
        refine EW.seq ?_
        refine EW.region ?_
        first | refine WL.move rfl rfl rfl ?_
        refine WL.bslN [(0, byt 0)] rfl rfl rfl (bsl22_1 0 _) ?_
        have e27 := below_new w26 (.cells ([(0 : UInt8)].map byt).toArray 5)
        have bg27 := Blk.new w26 ([(0 : UInt8)].map byt) 5
        obtain ⟨w27, hw27⟩ : ∃ W, w26.alloc (.cells ([(0 : UInt8)].map byt).toArray 5) = W := ⟨_, rfl⟩
        rw [hw27] at e27 bg27 ⊢
        have hg27 := Has.new bg27 1 (Nat.le_refl 1)
        have ob27 := ob26.below e27
        have bx27 := bx26.on e27
        have l27 := bt l26 e27
        obtain ⟨v28, w28, ap28, ob28, f28, n28⟩ := ob27.push (by have := l27.size; omega) _ [0] hg27 (by simp only [List.length_append, List.length_cons, List.length_nil, be32_len, k.sid, k.bind, k.root, k.pri, k.pub, k.peer, k.sk, k.rk, k.hl.o]; omega) 38
        refine WL.app rfl rfl rfl rfl ap28 ?_
        have bx28 := bx27.fx f28 (fun e => by have := ob27.base _ e; omega)
        have l28 := l27.trans (f28.below (fun k hk e => by have := ob27.base _ e; omega) (by have := l27.size; omega))
        first | refine WL.assign rfl rfl rfl ?_
        refine WL.done ?_
        refine EW.on ?_
        refine EW.ret ?_
        refine pr_then ?_
        refine EW.returns Try.results65 rfl ⟨_, rfl, ?_, bt e1 l28⟩
        refine (show encD s = _ from ?_) ▸ ob28.lower (by have := e1.size; omega)
        simp [encD, h52, h71, hH, mkD, corD, sndD, rcvD, helB]
      · refine EW.region ?_
        first | refine WL.field rfl rfl rfl (f33_12 q1 _) ?_
        first | refine WL.load rfl rfl rfl (Sg.ld_hl bx25 k) ?_
        refine WL.call [s.hl.v] enter70 rfl rfl rfl (greets_any _ k.hl _) ?_
        rintro _ w26 ⟨rfl, e26⟩
        rw [decide_eq_true hH]
        refine ⟨_, rfl, ?_⟩
        have ob26 := ob25.below e26
        have bx26 := bx25.on e26
        have l26 := bt l25 e26
        first | refine WL.assign rfl rfl rfl ?_
        refine WL.done ?_
        refine EW.on ?_
        refine EW.seq ?_
        refine EW.seq ?_
        refine EW.region ?_
        first | refine WL.move rfl rfl rfl ?_
        refine WL.un rfl rfl rfl (not_t _ _) ?_
        refine WL.done ?_
        refine EW.on ?_
        refine EW.cond_f rfl ?_
        refine EW.skip ?_
        refine EW.on ?_
        refine EW.seq ?_
        refine EW.region ?_
        first | refine WL.move rfl rfl rfl ?_
        refine WL.bslN [(0, byt 1)] rfl rfl rfl (bsl22_1 1 _) ?_
        have e27 := below_new w26 (.cells ([(1 : UInt8)].map byt).toArray 5)
        have bg27 := Blk.new w26 ([(1 : UInt8)].map byt) 5
        obtain ⟨w27, hw27⟩ : ∃ W, w26.alloc (.cells ([(1 : UInt8)].map byt).toArray 5) = W := ⟨_, rfl⟩
        rw [hw27] at e27 bg27 ⊢
        have hg27 := Has.new bg27 1 (Nat.le_refl 1)
        have ob27 := ob26.below e27
        have bx27 := bx26.on e27
        have l27 := bt l26 e27
        obtain ⟨v28, w28, ap28, ob28, f28, n28⟩ := ob27.push (by have := l27.size; omega) _ [1] hg27 (by simp only [List.length_append, List.length_cons, List.length_nil, be32_len, k.sid, k.bind, k.root, k.pri, k.pub, k.peer, k.sk, k.rk, k.hl.o]; omega) 38
        refine WL.app rfl rfl rfl rfl ap28 ?_
        have bx28 := bx27.fx f28 (fun e => by have := ob27.base _ e; omega)
        have l28 := l27.trans (f28.below (fun k hk e => by have := ob27.base _ e; omega) (by have := l27.size; omega))
        first | refine WL.assign rfl rfl rfl ?_
        refine WL.done ?_
        refine EW.on ?_
        refine EW.seq ?_
        refine EW.region ?_
        first | refine WL.move rfl rfl rfl ?_
        first | refine WL.field rfl rfl rfl (f33_12 q1 _) ?_
        first | refine WL.field rfl rfl rfl (f30_1 q1 214 _) ?_
        refine WL.slice0 rfl rfl rfl (sl25 q1 246 _) ?_
        obtain ⟨v29, w29, ap29, ob29, f29, n29⟩ := ob28.push (by have := l28.size; omega) (.slice (some ⟨q1, 246, none⟩) 32 32) s.hl.once (Sg.has_honce bx28 k) (by simp only [List.length_append, List.length_cons, List.length_nil, be32_len, k.sid, k.bind, k.root, k.pri, k.pub, k.peer, k.sk, k.rk, k.hl.o]; omega) 38
        refine WL.app rfl rfl rfl rfl ap29 ?_
        have bx29 := bx28.fx f29 (fun e => by have := ob28.base _ e; omega)
        have l29 := l28.trans (f29.below (fun k hk e => by have := ob28.base _ e; omega) (by have := l28.size; omega))
        first | refine WL.assign rfl rfl rfl ?_
        refine WL.done ?_
        refine EW.on ?_
        refine EW.seq ?_
        refine EW.region ?_
        first | refine WL.move rfl rfl rfl ?_
        first | refine WL.field rfl rfl rfl (f33_12 q1 _) ?_
        first | refine WL.field rfl rfl rfl (f30_2 q1 214 _) ?_
        refine WL.load rfl rfl rfl (Sg.ld_hpre bx29 k) ?_
        refine WL.conv rfl rfl rfl (cvt k.hl.p _) ?_
        refine WL.call [.int .i64 (s.hl.pre : Int), .int .i64 4] enter69 rfl rfl rfl (numr_any s.hl.pre 4 (by decide) k.hl.p _) ?_
        rintro _ w30 ⟨vn30, rfl, on30, e30⟩
        rw [sfx4] at on30
        refine ⟨_, rfl, ?_⟩
        have ob30 := ob29.below e30
        have bx30 := bx29.on e30
        have l30 := bt l29 e30
        obtain ⟨v31, w31, ap31, ob31, f31, n31⟩ := ob30.push (by have := l30.size; omega) vn30 (be32 s.hl.pre) on30.has (by simp only [List.length_append, List.length_cons, List.length_nil, be32_len, k.sid, k.bind, k.root, k.pri, k.pub, k.peer, k.sk, k.rk, k.hl.o]; omega) 38
        refine WL.app rfl rfl rfl rfl ap31 ?_
        have bx31 := bx30.fx f31 (fun e => by have := ob30.base _ e; omega)
        have l31 := l30.trans (f31.below (fun k hk e => by have := ob30.base _ e; omega) (by have := l30.size; omega))
        first | refine WL.assign rfl rfl rfl ?_
        refine WL.done ?_
        refine EW.on ?_
        refine EW.ret ?_
        refine EW.returns Try.results65 rfl ⟨_, rfl, ?_, bt e1 l31⟩
        refine (show encD s = _ from ?_) ▸ ob31.lower (by have := e1.size; omega)
        simp [encD, h52, h71, hH, mkD, corD, sndD, rcvD, helB]
    · refine EW.skip ?_
      refine EW.on ?_
      refine EW.seq ?_
      by_cases hH : s.hl = Hl.z
      · refine EW.region ?_
        first | refine WL.field rfl rfl rfl (f33_12 q1 _) ?_
        first | refine WL.load rfl rfl rfl (Sg.ld_hl bx22 k) ?_
        refine WL.call [s.hl.v] enter70 rfl rfl rfl (greets_any _ k.hl _) ?_
        rintro _ w23 ⟨rfl, e23⟩
        rw [decide_eq_false (show ¬ ¬ s.hl = Hl.z from fun h => h hH)]
        refine ⟨_, rfl, ?_⟩
        have ob23 := ob22.below e23
        have bx23 := bx22.on e23
        have l23 := bt l22 e23
        first | refine WL.assign rfl rfl rfl ?_
        refine WL.done ?_
        refine EW.on ?_
        refine EW.seq ?_
        refine EW.seq ?_
        refine EW.region ?_
        first | refine WL.move rfl rfl rfl ?_
        refine WL.un rfl rfl rfl (not_t _ _) ?_
        refine WL.done ?_
        refine EW.on ?_
        refine EW.cond_t rfl ?_
        refine EW.seq ?_
        refine EW.region ?_
        first | refine WL.move rfl rfl rfl ?_
        refine WL.bslN [(0, byt 0)] rfl rfl rfl (bsl22_1 0 _) ?_
        have e24 := below_new w23 (.cells ([(0 : UInt8)].map byt).toArray 5)
        have bg24 := Blk.new w23 ([(0 : UInt8)].map byt) 5
        obtain ⟨w24, hw24⟩ : ∃ W, w23.alloc (.cells ([(0 : UInt8)].map byt).toArray 5) = W := ⟨_, rfl⟩
        rw [hw24] at e24 bg24 ⊢
        have hg24 := Has.new bg24 1 (Nat.le_refl 1)
        have ob24 := ob23.below e24
        have bx24 := bx23.on e24
        have l24 := bt l23 e24
        obtain ⟨v25, w25, ap25, ob25, f25, n25⟩ := ob24.push (by have := l24.size; omega) _ [0] hg24 (by simp only [List.length_append, List.length_cons, List.length_nil, be32_len, k.sid, k.bind, k.root, k.pri, k.pub, k.peer, k.sk, k.rk, k.hl.o]; omega) 38
        refine WL.app rfl rfl rfl rfl ap25 ?_
        have bx25 := bx24.fx f25 (fun e => by have := ob24.base _ e; omega)
        have l25 := l24.trans (f25.below (fun k hk e => by have := ob24.base _ e; omega) (by have := l24.size; omega))
        first | refine WL.assign rfl rfl rfl ?_
        refine WL.done ?_
        refine EW.on ?_
        refine EW.ret ?_
        refine pr_then ?_
        refine EW.returns Try.results65 rfl ⟨_, rfl, ?_, bt e1 l25⟩
        refine (show encD s = _ from ?_) ▸ ob25.lower (by have := e1.size; omega)
        simp [encD, h52, h71, hH, mkD, corD, sndD, rcvD, helB]
      · refine EW.region ?_
        first | refine WL.field rfl rfl rfl (f33_12 q1 _) ?_
        first | refine WL.load rfl rfl rfl (Sg.ld_hl bx22 k) ?_
        refine WL.call [s.hl.v] enter70 rfl rfl rfl (greets_any _ k.hl _) ?_
        rintro _ w23 ⟨rfl, e23⟩
        rw [decide_eq_true hH]
        refine ⟨_, rfl, ?_⟩
        have ob23 := ob22.below e23
        have bx23 := bx22.on e23
        have l23 := bt l22 e23
        first | refine WL.assign rfl rfl rfl ?_
        refine WL.done ?_
        refine EW.on ?_
        refine EW.seq ?_
        refine EW.seq ?_
        refine EW.region ?_
        first | refine WL.move rfl rfl rfl ?_
        refine WL.un rfl rfl rfl (not_t _ _) ?_
        refine WL.done ?_
        refine EW.on ?_
        refine EW.cond_f rfl ?_
        refine EW.skip ?_
        refine EW.on ?_
        refine EW.seq ?_
        refine EW.region ?_
        first | refine WL.move rfl rfl rfl ?_
        refine WL.bslN [(0, byt 1)] rfl rfl rfl (bsl22_1 1 _) ?_
        have e24 := below_new w23 (.cells ([(1 : UInt8)].map byt).toArray 5)
        have bg24 := Blk.new w23 ([(1 : UInt8)].map byt) 5
        obtain ⟨w24, hw24⟩ : ∃ W, w23.alloc (.cells ([(1 : UInt8)].map byt).toArray 5) = W := ⟨_, rfl⟩
        rw [hw24] at e24 bg24 ⊢
        have hg24 := Has.new bg24 1 (Nat.le_refl 1)
        have ob24 := ob23.below e24
        have bx24 := bx23.on e24
        have l24 := bt l23 e24
        obtain ⟨v25, w25, ap25, ob25, f25, n25⟩ := ob24.push (by have := l24.size; omega) _ [1] hg24 (by simp only [List.length_append, List.length_cons, List.length_nil, be32_len, k.sid, k.bind, k.root, k.pri, k.pub, k.peer, k.sk, k.rk, k.hl.o]; omega) 38
        refine WL.app rfl rfl rfl rfl ap25 ?_
        have bx25 := bx24.fx f25 (fun e => by have := ob24.base _ e; omega)
        have l25 := l24.trans (f25.below (fun k hk e => by have := ob24.base _ e; omega) (by have := l24.size; omega))
        first | refine WL.assign rfl rfl rfl ?_
        refine WL.done ?_
        refine EW.on ?_
        refine EW.seq ?_
        refine EW.region ?_
        first | refine WL.move rfl rfl rfl ?_
        first | refine WL.field rfl rfl rfl (f33_12 q1 _) ?_
        first | refine WL.field rfl rfl rfl (f30_1 q1 214 _) ?_
        refine WL.slice0 rfl rfl rfl (sl25 q1 246 _) ?_
        obtain ⟨v26, w26, ap26, ob26, f26, n26⟩ := ob25.push (by have := l25.size; omega) (.slice (some ⟨q1, 246, none⟩) 32 32) s.hl.once (Sg.has_honce bx25 k) (by simp only [List.length_append, List.length_cons, List.length_nil, be32_len, k.sid, k.bind, k.root, k.pri, k.pub, k.peer, k.sk, k.rk, k.hl.o]; omega) 38
        refine WL.app rfl rfl rfl rfl ap26 ?_
        have bx26 := bx25.fx f26 (fun e => by have := ob25.base _ e; omega)
        have l26 := l25.trans (f26.below (fun k hk e => by have := ob25.base _ e; omega) (by have := l25.size; omega))
        first | refine WL.assign rfl rfl rfl ?_
        refine WL.done ?_
        refine EW.on ?_
        refine EW.seq ?_
        refine EW.region ?_
        first | refine WL.move rfl rfl rfl ?_
        first | refine WL.field rfl rfl rfl (f33_12 q1 _) ?_
        first | refine WL.field rfl rfl rfl (f30_2 q1 214 _) ?_
        refine WL.load rfl rfl rfl (Sg.ld_hpre bx26 k) ?_
        refine WL.conv rfl rfl rfl (cvt k.hl.p _) ?_
        refine WL.call [.int .i64 (s.hl.pre : Int), .int .i64 4] enter69 rfl rfl rfl (numr_any s.hl.pre 4 (by decide) k.hl.p _) ?_
        rintro _ w27 ⟨vn27, rfl, on27, e27⟩
        rw [sfx4] at on27
        refine ⟨_, rfl, ?_⟩
        have ob27 := ob26.below e27
        have bx27 := bx26.on e27
        have l27 := bt l26 e27
        obtain ⟨v28, w28, ap28, ob28, f28, n28⟩ := ob27.push (by have := l27.size; omega) vn27 (be32 s.hl.pre) on27.has (by simp only [List.length_append, List.length_cons, List.length_nil, be32_len, k.sid, k.bind, k.root, k.pri, k.pub, k.peer, k.sk, k.rk, k.hl.o]; omega) 38
        refine WL.app rfl rfl rfl rfl ap28 ?_
        have bx28 := bx27.fx f28 (fun e => by have := ob27.base _ e; omega)
        have l28 := l27.trans (f28.below (fun k hk e => by have := ob27.base _ e; omega) (by have := l27.size; omega))
        first | refine WL.assign rfl rfl rfl ?_
        refine WL.done ?_
        refine EW.on ?_
        refine EW.ret ?_
        refine EW.returns Try.results65 rfl ⟨_, rfl, ?_, bt e1 l28⟩
        refine (show encD s = _ from ?_) ▸ ob28.lower (by have := e1.size; omega)
        simp [encD, h52, h71, hH, mkD, corD, sndD, rcvD, helB]
set_option maxRecDepth 100000 in
set_option maxHeartbeats 1000000 in
theorem rencode_any (s : Sg) (k : s.ok) (w : World) : Calls Try.prog 48 #[s.v] w fun e w' => ∃ v, e = .returned (.tuple #[v, .int .i64 (chkD s)]) ∧ Ob w' w.heap.size v (if Good s then encD s else []) ∧ Below w.heap.size w w' := by
  obtain ⟨w1, q1, r1, b1, e1, hq1⟩ := box_any 33 s.cs w
  have l1 := e1.size
  refine calls_of_args [s.v] Try.func48 rfl 12 Try.ntmps48 (by show 1 ≤ 12; decide) ?_
  refine EW.seq ?_
  refine EW.region ?_
  refine WL.box rfl rfl rfl r1 ?_
  first | refine WL.assign rfl rfl rfl ?_
  first | refine WL.assign rfl rfl rfl ?_
  refine WL.done ?_
  refine EW.on ?_
  refine EW.seq ?_
  by_cases hG : Good s
  · refine EW.region ?_
    first | refine WL.load rfl rfl rfl (Sg.ld b1 k) ?_
    refine WL.call [s.v] enter47 rfl rfl rfl (rcheck_any s k _) ?_
    rintro _ w2 ⟨rfl, e2⟩
    rw [chkD, if_pos hG]
    have b2 := b1.on e2
    refine ⟨_, rfl, ?_⟩
    first | refine WL.assign rfl rfl rfl ?_
    refine WL.done ?_
    refine EW.on ?_
    refine EW.seq ?_
    refine EW.seq ?_
    refine EW.region ?_
    first | refine WL.move rfl rfl rfl ?_
    refine WL.bin rfl rfl rfl rfl (int_ne_f rfl _ _ _) ?_
    refine WL.done ?_
    refine EW.on ?_
    refine EW.cond_f rfl ?_
    refine EW.skip ?_
    refine EW.on ?_
    refine EW.seq ?_
    refine EW.region ?_
    first | refine WL.load rfl rfl rfl (Sg.ld b2 k) ?_
    refine WL.call [s.v] enter65 rfl rfl rfl (written_any s k _) ?_
    rintro _ w3 ⟨vo, rfl, o3, e3⟩
    refine ⟨_, rfl, ?_⟩
    first | refine WL.assign rfl rfl rfl ?_
    first | refine WL.assign rfl rfl rfl ?_
    refine WL.done ?_
    refine EW.on ?_
    refine EW.ret ?_
    exact EW.returns2 Try.results48 rfl rfl ⟨vo, rfl, by rw [if_pos hG]; exact o3.lower (by have := e2.size; omega), bt (bt e1 e2) e3⟩
  · refine EW.region ?_
    first | refine WL.load rfl rfl rfl (Sg.ld b1 k) ?_
    refine WL.call [s.v] enter47 rfl rfl rfl (rcheck_any s k _) ?_
    rintro _ w2 ⟨rfl, e2⟩
    rw [chkD, if_neg hG]
    have b2 := b1.on e2
    refine ⟨_, rfl, ?_⟩
    first | refine WL.assign rfl rfl rfl ?_
    refine WL.done ?_
    refine EW.on ?_
    refine EW.seq ?_
    refine EW.seq ?_
    refine EW.region ?_
    first | refine WL.move rfl rfl rfl ?_
    refine WL.bin rfl rfl rfl rfl (int_ne_t (by decide) _ _ _) ?_
    refine WL.done ?_
    refine EW.on ?_
    refine EW.cond_t rfl ?_
    refine EW.seq ?_
    refine EW.region ?_
    first | refine WL.move rfl rfl rfl ?_
    first | refine WL.assign rfl rfl rfl ?_
    first | refine WL.assign rfl rfl rfl ?_
    refine WL.done ?_
    refine EW.on ?_
    refine EW.ret ?_
    refine pr_then ?_
    exact EW.returns2 Try.results48 rfl rfl ⟨.slice none 0 0, rfl, by rw [if_neg hG]; exact Ob.nil _ _, bt e1 e2⟩
end Go.Proofs.Ytacimelcmkhhlaa
