import Derived.Test.YtacimelcmkhhlaaJi
set_option linter.unusedVariables false
set_option linter.unusedSimpArgs false
namespace Go.Proofs.Ytacimelcmkhhlaa
open Go.RowKit

def corR (c : List UInt8) (st : Nat × Int) (s : Sg) : Sg := { s with sid := padR s.sid (rB c 16 st), bind := padR s.bind (rB c 64 (rS c 16 st)), root := keyR c (rS c 64 (rS c 16 st)), pri := keyR c (rS c 32 (rS c 64 (rS c 16 st))), pub := keyR c (rS c 32 (rS c 32 (rS c 64 (rS c 16 st)))), peer := keyR c (rS c 32 (rS c 32 (rS c 32 (rS c 64 (rS c 16 st))))), own := numB (rB c 4 (rS c 32 (rS c 32 (rS c 32 (rS c 32 (rS c 64 (rS c 16 st))))))), turns := numB (rB c 4 (rS c 4 (rS c 32 (rS c 32 (rS c 32 (rS c 32 (rS c 64 (rS c 16 st)))))))), ser := numB (rB c 4 (rS c 4 (rS c 4 (rS c 32 (rS c 32 (rS c 32 (rS c 32 (rS c 64 (rS c 16 st))))))))) }
def corS (c : List UInt8) (st : Nat × Int) : Nat × Int := (rS c 4 (rS c 4 (rS c 4 (rS c 32 (rS c 32 (rS c 32 (rS c 32 (rS c 64 (rS c 16 st)))))))))
def sndR (c : List UInt8) (st : Nat × Int) (s : Sg) : Sg := { s with sk := keyR c st, sent := numB (rB c 4 (rS c 32 st)), prev := numB (rB c 4 (rS c 4 (rS c 32 st))) }
def sndS (c : List UInt8) (st : Nat × Int) : Nat × Int := (rS c 4 (rS c 4 (rS c 32 st)))
def rcvR (c : List UInt8) (st : Nat × Int) (s : Sg) : Sg := { s with rk := keyR c st, got := numB (rB c 4 (rS c 32 st)) }
def rcvS (c : List UInt8) (st : Nat × Int) : Nat × Int := (rS c 4 (rS c 32 st))
def helR (c : List UInt8) (st : Nat × Int) (s : Sg) : Sg := { s with hl := ⟨s.bind.take 32, keyR c st, numB (rB c 4 (rS c 32 st))⟩ }
def helS (c : List UInt8) (st : Nat × Int) : Nat × Int := (rS c 4 (rS c 32 st))
theorem corR_ok {c : List UInt8} {st : Nat × Int} {s : Sg} (k : s.ok) : (corR c st s).ok := { k with sid := by rw [← k.sid]; exact padR_len _ _, bind := by rw [← k.bind]; exact padR_len _ _, root := keyR_len _ _, pri := keyR_len _ _, pub := keyR_len _ _, peer := keyR_len _ _, own := numB_32 _ (rB_len _ _ _), turns := numB_32 _ (rB_len _ _ _), ser := numB_32 _ (rB_len _ _ _) }
theorem sndR_ok {c : List UInt8} {st : Nat × Int} {s : Sg} (k : s.ok) : (sndR c st s).ok := { k with sk := keyR_len _ _, sent := numB_32 _ (rB_len _ _ _), prev := numB_32 _ (rB_len _ _ _) }
theorem rcvR_ok {c : List UInt8} {st : Nat × Int} {s : Sg} (k : s.ok) : (rcvR c st s).ok := { k with rk := keyR_len _ _, got := numB_32 _ (rB_len _ _ _) }
theorem helR_ok {c : List UInt8} {st : Nat × Int} {s : Sg} (k : s.ok) : (helR c st s).ok := { k with hl := ⟨takeB k.bind, keyR_len _ _, numB_32 _ (rB_len _ _ _)⟩ }
set_option maxRecDepth 100000 in
set_option maxHeartbeats 4000000 in
theorem rdCore_any (q p : Nat) (v : Value) (c : List UInt8) (st : Nat × Int) (s : Sg) (k : s.ok) (w : World) (rd_0 : Rd w q v c st.1 st.2) (hp : Blk w p s.cs 33) (hl : c.length ≤ 140737488355328) (hqp : ¬ q = p) (hov : Off v c p) : Calls Try.prog 42 #[.pointer (some ⟨q, 0, none⟩), .pointer (some ⟨p, 0, none⟩)] w fun e w' => e = .returned (.tuple #[]) ∧ Blk w' p (corR c st s).cs 33 ∧ Rd w' q v c (corS c st).1 (corS c st).2 ∧ Fx (fun k => k = q ∨ k = p) w w' := by
  have hpq : ¬ p = q := fun e => hqp e.symm
  have ft_0 : Fx (fun k => k = q ∨ k = p) w w := Fx.refl _ _
  refine calls_of_args [.pointer (some ⟨q, 0, none⟩), .pointer (some ⟨p, 0, none⟩)] Try.func42 rfl 55 Try.ntmps42 (by show 2 ≤ 55; decide) ?_
  refine EW.seq ?_
  refine EW.ordB [(0, 0, 0), (1, 0, 0), (2, 0, 0), (3, 0, 0), (4, 0, 0), (5, 1, 0), (6, 1, 0)] (by kernel_rfl) rfl (by kernel_rfl) ?_
  simp only [opsZ, List.getD_cons_zero, List.getD_cons_succ]
  first | refine ZE.move rfl rfl rfl rfl sz0 ?_
  first | refine ZE.nilc rfl rfl rfl rfl sz0 ?_
  first | refine ZE.field rfl rfl rfl rfl sz0 (fun W => f33_0 p W) ?_
  refine ZE.slice0 rfl rfl rfl rfl sz0 (fun W => sl23 p 0 W) ?_
  first | refine ZE.move rfl rfl rfl rfl sz0 ?_
  refine ZE.callR [.pointer (some ⟨q, 0, none⟩), .int .i64 16] (fun u W => Ob W w.heap.size u (rB c 16 st) ∧ Rd W q v c (rS c 16 st).1 (rS c 16 st).2 ∧ Fx (fun k => k = q) w W) enter61 rfl rfl rfl (fun _ _ _ => .inl rfl) (fun W hW => (rfix_any q 16 v c st W (rd_0.below hW) hl (by decide)).mono fun e w' ⟨u, g1, g2, g3, g4⟩ => ⟨u, g1, g2.lower hW.size, g3, (Fx.of_below hW).and g4⟩) ?_
  rintro vr ⟨_, _⟩
  refine ZE.copy (fun x W => Blk W p (Sg.cs (⟨(padR s.sid (rB c 16 st)), s.root, s.pri, s.pub, s.peer, s.sk, s.rk, s.own, s.turns, s.sent, s.got, s.prev, s.ser, s.hl, s.bind⟩ : Sg)) 33 ∧ Rd W q v c (rS c 16 st).1 (rS c 16 st).2 ∧ Fx (fun k => k = q ∨ k = p) w W) rfl rfl rfl rfl (fun _ _ _ => .inl rfl) ?_ ?_
  · rintro W ⟨g1, g2, g3⟩
    obtain ⟨x, W2, c1, c2, c3⟩ := cpB (Z := s.sid) (hp.fx g3 hpq) Sg.c_sid (Sg.l_sid k) 16 g1.has 3
    rw [k.sid] at c1
    exact ⟨_, W2, c1, by rw [Sg.c_sid]; exact c2, g2.fx c3 hqp hov, (g3.mono (fun k _ e => .inl e)).trans c3 (fun k _ e => .inr e)⟩
  rintro vc ⟨_, _⟩
  rintro wz_1 ⟨bp_1, rd_1, fz_1⟩
  have k_1 : Sg.ok (⟨(padR s.sid (rB c 16 st)), s.root, s.pri, s.pub, s.peer, s.sk, s.rk, s.own, s.turns, s.sent, s.got, s.prev, s.ser, s.hl, s.bind⟩ : Sg) := k.s_sid (by rw [← k.sid]; exact padR_len _ _)
  have ft_1 := ft_0.and fz_1
  refine EW.on ?_
  refine EW.seq ?_
  refine EW.ordB [(0, 0, 0), (1, 0, 0), (2, 0, 0), (3, 0, 0), (4, 0, 0), (5, 1, 0), (6, 1, 0)] (by kernel_rfl) rfl (by kernel_rfl) ?_
  simp only [opsZ, List.getD_cons_zero, List.getD_cons_succ]
  first | refine ZE.move rfl rfl rfl rfl sz0 ?_
  first | refine ZE.nilc rfl rfl rfl rfl sz0 ?_
  first | refine ZE.field rfl rfl rfl rfl sz0 (fun W => f33_13 p W) ?_
  refine ZE.slice0 rfl rfl rfl rfl sz0 (fun W => sl31 p 279 W) ?_
  first | refine ZE.move rfl rfl rfl rfl sz0 ?_
  refine ZE.callR [.pointer (some ⟨q, 0, none⟩), .int .i64 64] (fun u W => Ob W wz_1.heap.size u (rB c 64 (rS c 16 st)) ∧ Rd W q v c (rS c 64 (rS c 16 st)).1 (rS c 64 (rS c 16 st)).2 ∧ Fx (fun k => k = q) wz_1 W) enter61 rfl rfl rfl (fun _ _ _ => .inl rfl) (fun W hW => (rfix_any q 64 v c (rS c 16 st) W (rd_1.below hW) hl (by decide)).mono fun e w' ⟨u, g1, g2, g3, g4⟩ => ⟨u, g1, g2.lower hW.size, g3, (Fx.of_below hW).and g4⟩) ?_
  rintro vr ⟨_, _⟩
  refine ZE.copy (fun x W => Blk W p (Sg.cs (⟨(padR s.sid (rB c 16 st)), s.root, s.pri, s.pub, s.peer, s.sk, s.rk, s.own, s.turns, s.sent, s.got, s.prev, s.ser, s.hl, (padR s.bind (rB c 64 (rS c 16 st)))⟩ : Sg)) 33 ∧ Rd W q v c (rS c 64 (rS c 16 st)).1 (rS c 64 (rS c 16 st)).2 ∧ Fx (fun k => k = q ∨ k = p) wz_1 W) rfl rfl rfl rfl (fun _ _ _ => .inl rfl) ?_ ?_
  · rintro W ⟨g1, g2, g3⟩
    obtain ⟨x, W2, c1, c2, c3⟩ := cpB (Z := s.bind) (bp_1.fx g3 hpq) Sg.c_bind (Sg.l_bind k_1) 64 g1.has 3
    rw [k_1.bind] at c1
    exact ⟨_, W2, c1, by rw [Sg.c_bind]; exact c2, g2.fx c3 hqp hov, (g3.mono (fun k _ e => .inl e)).trans c3 (fun k _ e => .inr e)⟩
  rintro vc ⟨_, _⟩
  rintro wz_2 ⟨bp_2, rd_2, fz_2⟩
  have k_2 : Sg.ok (⟨(padR s.sid (rB c 16 st)), s.root, s.pri, s.pub, s.peer, s.sk, s.rk, s.own, s.turns, s.sent, s.got, s.prev, s.ser, s.hl, (padR s.bind (rB c 64 (rS c 16 st)))⟩ : Sg) := k_1.s_bind (by rw [← k.bind]; exact padR_len _ _)
  have ft_2 := ft_1.and fz_2
  refine EW.on ?_
  refine EW.seq ?_
  refine EW.region ?_
  first | refine WL.move rfl rfl rfl ?_
  first | refine WL.move rfl rfl rfl ?_
  refine WL.call [.pointer (some ⟨q, 0, none⟩)] enter63 rfl rfl rfl (rkey_any q v c (rS c 64 (rS c 16 st)) _ rd_2 hl) ?_
  rintro _ wc3 ⟨rfl, rd_3, fc3⟩
  refine ⟨_, rfl, ?_⟩
  have bp_3 := bp_2.fx fc3 hpq
  have ft_3 := ft_2.trans fc3 (fun k _ e => .inl e)
  first | refine WL.nilc rfl rfl rfl ?_
  first | refine WL.field rfl rfl rfl (f33_1 p _) ?_
  obtain ⟨w_4, s_4, bb_4, fx_4⟩ := Sg.st_root bp_3 k_2 (x := (keyR c (rS c 64 (rS c 16 st)))) (keyR_len _ _)
  have bc_4 : Blk w_4 p (Sg.cs (⟨(padR s.sid (rB c 16 st)), (keyR c (rS c 64 (rS c 16 st))), s.pri, s.pub, s.peer, s.sk, s.rk, s.own, s.turns, s.sent, s.got, s.prev, s.ser, s.hl, (padR s.bind (rB c 64 (rS c 16 st)))⟩ : Sg)) 33 := bb_4
  have k_4 : Sg.ok (⟨(padR s.sid (rB c 16 st)), (keyR c (rS c 64 (rS c 16 st))), s.pri, s.pub, s.peer, s.sk, s.rk, s.own, s.turns, s.sent, s.got, s.prev, s.ser, s.hl, (padR s.bind (rB c 64 (rS c 16 st)))⟩ : Sg) := k_2.s_root (x := (keyR c (rS c 64 (rS c 16 st)))) (keyR_len _ _)
  clear bb_4
  refine WL.store rfl rfl rfl s_4 ?_
  have rd_5 := rd_3.fx fx_4 hqp hov
  have ft_5 := ft_3.trans fx_4 (fun k _ e => .inr e)
  refine WL.done ?_
  refine EW.on ?_
  refine EW.seq ?_
  refine EW.region ?_
  first | refine WL.move rfl rfl rfl ?_
  first | refine WL.move rfl rfl rfl ?_
  refine WL.call [.pointer (some ⟨q, 0, none⟩)] enter63 rfl rfl rfl (rkey_any q v c (rS c 32 (rS c 64 (rS c 16 st))) _ rd_5 hl) ?_
  rintro _ wc6 ⟨rfl, rd_6, fc6⟩
  refine ⟨_, rfl, ?_⟩
  have bp_6 := bc_4.fx fc6 hpq
  have ft_6 := ft_5.trans fc6 (fun k _ e => .inl e)
  first | refine WL.nilc rfl rfl rfl ?_
  first | refine WL.field rfl rfl rfl (f33_2 p _) ?_
  first | refine WL.field rfl rfl rfl (f27_0 p 48 _) ?_
  obtain ⟨w_7, s_7, bb_7, fx_7⟩ := Sg.st_pri bp_6 k_4 (x := (keyR c (rS c 32 (rS c 64 (rS c 16 st))))) (keyR_len _ _)
  have bc_7 : Blk w_7 p (Sg.cs (⟨(padR s.sid (rB c 16 st)), (keyR c (rS c 64 (rS c 16 st))), (keyR c (rS c 32 (rS c 64 (rS c 16 st)))), s.pub, s.peer, s.sk, s.rk, s.own, s.turns, s.sent, s.got, s.prev, s.ser, s.hl, (padR s.bind (rB c 64 (rS c 16 st)))⟩ : Sg)) 33 := bb_7
  have k_7 : Sg.ok (⟨(padR s.sid (rB c 16 st)), (keyR c (rS c 64 (rS c 16 st))), (keyR c (rS c 32 (rS c 64 (rS c 16 st)))), s.pub, s.peer, s.sk, s.rk, s.own, s.turns, s.sent, s.got, s.prev, s.ser, s.hl, (padR s.bind (rB c 64 (rS c 16 st)))⟩ : Sg) := k_4.s_pri (x := (keyR c (rS c 32 (rS c 64 (rS c 16 st))))) (keyR_len _ _)
  clear bb_7
  refine WL.store rfl rfl rfl s_7 ?_
  have rd_8 := rd_6.fx fx_7 hqp hov
  have ft_8 := ft_6.trans fx_7 (fun k _ e => .inr e)
  refine WL.done ?_
  refine EW.on ?_
  refine EW.seq ?_
  refine EW.region ?_
  first | refine WL.move rfl rfl rfl ?_
  first | refine WL.move rfl rfl rfl ?_
  refine WL.call [.pointer (some ⟨q, 0, none⟩)] enter63 rfl rfl rfl (rkey_any q v c (rS c 32 (rS c 32 (rS c 64 (rS c 16 st)))) _ rd_8 hl) ?_
  rintro _ wc9 ⟨rfl, rd_9, fc9⟩
  refine ⟨_, rfl, ?_⟩
  have bp_9 := bc_7.fx fc9 hpq
  have ft_9 := ft_8.trans fc9 (fun k _ e => .inl e)
  first | refine WL.nilc rfl rfl rfl ?_
  first | refine WL.field rfl rfl rfl (f33_2 p _) ?_
  first | refine WL.field rfl rfl rfl (f27_1 p 48 _) ?_
  obtain ⟨w_10, s_10, bb_10, fx_10⟩ := Sg.st_pub bp_9 k_7 (x := (keyR c (rS c 32 (rS c 32 (rS c 64 (rS c 16 st)))))) (keyR_len _ _)
  have bc_10 : Blk w_10 p (Sg.cs (⟨(padR s.sid (rB c 16 st)), (keyR c (rS c 64 (rS c 16 st))), (keyR c (rS c 32 (rS c 64 (rS c 16 st)))), (keyR c (rS c 32 (rS c 32 (rS c 64 (rS c 16 st))))), s.peer, s.sk, s.rk, s.own, s.turns, s.sent, s.got, s.prev, s.ser, s.hl, (padR s.bind (rB c 64 (rS c 16 st)))⟩ : Sg)) 33 := bb_10
  have k_10 : Sg.ok (⟨(padR s.sid (rB c 16 st)), (keyR c (rS c 64 (rS c 16 st))), (keyR c (rS c 32 (rS c 64 (rS c 16 st)))), (keyR c (rS c 32 (rS c 32 (rS c 64 (rS c 16 st))))), s.peer, s.sk, s.rk, s.own, s.turns, s.sent, s.got, s.prev, s.ser, s.hl, (padR s.bind (rB c 64 (rS c 16 st)))⟩ : Sg) := k_7.s_pub (x := (keyR c (rS c 32 (rS c 32 (rS c 64 (rS c 16 st)))))) (keyR_len _ _)
  clear bb_10
  refine WL.store rfl rfl rfl s_10 ?_
  have rd_11 := rd_9.fx fx_10 hqp hov
  have ft_11 := ft_9.trans fx_10 (fun k _ e => .inr e)
  refine WL.done ?_
  refine EW.on ?_
  refine EW.seq ?_
  refine EW.region ?_
  first | refine WL.move rfl rfl rfl ?_
  first | refine WL.move rfl rfl rfl ?_
  refine WL.call [.pointer (some ⟨q, 0, none⟩)] enter63 rfl rfl rfl (rkey_any q v c (rS c 32 (rS c 32 (rS c 32 (rS c 64 (rS c 16 st))))) _ rd_11 hl) ?_
  rintro _ wc12 ⟨rfl, rd_12, fc12⟩
  refine ⟨_, rfl, ?_⟩
  have bp_12 := bc_10.fx fc12 hpq
  have ft_12 := ft_11.trans fc12 (fun k _ e => .inl e)
  first | refine WL.nilc rfl rfl rfl ?_
  first | refine WL.field rfl rfl rfl (f33_3 p _) ?_
  obtain ⟨w_13, s_13, bb_13, fx_13⟩ := Sg.st_peer bp_12 k_10 (x := (keyR c (rS c 32 (rS c 32 (rS c 32 (rS c 64 (rS c 16 st))))))) (keyR_len _ _)
  have bc_13 : Blk w_13 p (Sg.cs (⟨(padR s.sid (rB c 16 st)), (keyR c (rS c 64 (rS c 16 st))), (keyR c (rS c 32 (rS c 64 (rS c 16 st)))), (keyR c (rS c 32 (rS c 32 (rS c 64 (rS c 16 st))))), (keyR c (rS c 32 (rS c 32 (rS c 32 (rS c 64 (rS c 16 st)))))), s.sk, s.rk, s.own, s.turns, s.sent, s.got, s.prev, s.ser, s.hl, (padR s.bind (rB c 64 (rS c 16 st)))⟩ : Sg)) 33 := bb_13
  have k_13 : Sg.ok (⟨(padR s.sid (rB c 16 st)), (keyR c (rS c 64 (rS c 16 st))), (keyR c (rS c 32 (rS c 64 (rS c 16 st)))), (keyR c (rS c 32 (rS c 32 (rS c 64 (rS c 16 st))))), (keyR c (rS c 32 (rS c 32 (rS c 32 (rS c 64 (rS c 16 st)))))), s.sk, s.rk, s.own, s.turns, s.sent, s.got, s.prev, s.ser, s.hl, (padR s.bind (rB c 64 (rS c 16 st)))⟩ : Sg) := k_10.s_peer (x := (keyR c (rS c 32 (rS c 32 (rS c 32 (rS c 64 (rS c 16 st))))))) (keyR_len _ _)
  clear bb_13
  refine WL.store rfl rfl rfl s_13 ?_
  have rd_14 := rd_12.fx fx_13 hqp hov
  have ft_14 := ft_12.trans fx_13 (fun k _ e => .inr e)
  refine WL.done ?_
  refine EW.on ?_
  refine EW.seq ?_
  refine EW.region ?_
  first | refine WL.move rfl rfl rfl ?_
  first | refine WL.move rfl rfl rfl ?_
  refine WL.call [.pointer (some ⟨q, 0, none⟩)] enter38 rfl rfl rfl (rn4_any q v c (rS c 32 (rS c 32 (rS c 32 (rS c 32 (rS c 64 (rS c 16 st)))))) _ rd_14 hl) ?_
  rintro _ wc15 ⟨rfl, rd_15, fc15⟩
  refine ⟨_, rfl, ?_⟩
  have bp_15 := bc_13.fx fc15 hpq
  have ft_15 := ft_14.trans fc15 (fun k _ e => .inl e)
  first | refine WL.nilc rfl rfl rfl ?_
  first | refine WL.field rfl rfl rfl (f33_6 p _) ?_
  obtain ⟨w_16, s_16, bb_16, fx_16⟩ := Sg.st_own bp_15 k_13 ((numB (rB c 4 (rS c 32 (rS c 32 (rS c 32 (rS c 32 (rS c 64 (rS c 16 st)))))))))
  have bc_16 : Blk w_16 p (Sg.cs (⟨(padR s.sid (rB c 16 st)), (keyR c (rS c 64 (rS c 16 st))), (keyR c (rS c 32 (rS c 64 (rS c 16 st)))), (keyR c (rS c 32 (rS c 32 (rS c 64 (rS c 16 st))))), (keyR c (rS c 32 (rS c 32 (rS c 32 (rS c 64 (rS c 16 st)))))), s.sk, s.rk, (numB (rB c 4 (rS c 32 (rS c 32 (rS c 32 (rS c 32 (rS c 64 (rS c 16 st)))))))), s.turns, s.sent, s.got, s.prev, s.ser, s.hl, (padR s.bind (rB c 64 (rS c 16 st)))⟩ : Sg)) 33 := bb_16
  have k_16 : Sg.ok (⟨(padR s.sid (rB c 16 st)), (keyR c (rS c 64 (rS c 16 st))), (keyR c (rS c 32 (rS c 64 (rS c 16 st)))), (keyR c (rS c 32 (rS c 32 (rS c 64 (rS c 16 st))))), (keyR c (rS c 32 (rS c 32 (rS c 32 (rS c 64 (rS c 16 st)))))), s.sk, s.rk, (numB (rB c 4 (rS c 32 (rS c 32 (rS c 32 (rS c 32 (rS c 64 (rS c 16 st)))))))), s.turns, s.sent, s.got, s.prev, s.ser, s.hl, (padR s.bind (rB c 64 (rS c 16 st)))⟩ : Sg) := k_13.s_own (x := (numB (rB c 4 (rS c 32 (rS c 32 (rS c 32 (rS c 32 (rS c 64 (rS c 16 st))))))))) (numB_32 _ (rB_len _ _ _))
  clear bb_16
  refine WL.store rfl rfl rfl s_16 ?_
  have rd_17 := rd_15.fx fx_16 hqp hov
  have ft_17 := ft_15.trans fx_16 (fun k _ e => .inr e)
  refine WL.done ?_
  refine EW.on ?_
  refine EW.seq ?_
  refine EW.region ?_
  first | refine WL.move rfl rfl rfl ?_
  first | refine WL.move rfl rfl rfl ?_
  refine WL.call [.pointer (some ⟨q, 0, none⟩)] enter38 rfl rfl rfl (rn4_any q v c (rS c 4 (rS c 32 (rS c 32 (rS c 32 (rS c 32 (rS c 64 (rS c 16 st))))))) _ rd_17 hl) ?_
  rintro _ wc18 ⟨rfl, rd_18, fc18⟩
  refine ⟨_, rfl, ?_⟩
  have bp_18 := bc_16.fx fc18 hpq
  have ft_18 := ft_17.trans fc18 (fun k _ e => .inl e)
  first | refine WL.nilc rfl rfl rfl ?_
  first | refine WL.field rfl rfl rfl (f33_7 p _) ?_
  obtain ⟨w_19, s_19, bb_19, fx_19⟩ := Sg.st_turns bp_18 k_16 ((numB (rB c 4 (rS c 4 (rS c 32 (rS c 32 (rS c 32 (rS c 32 (rS c 64 (rS c 16 st))))))))))
  have bc_19 : Blk w_19 p (Sg.cs (⟨(padR s.sid (rB c 16 st)), (keyR c (rS c 64 (rS c 16 st))), (keyR c (rS c 32 (rS c 64 (rS c 16 st)))), (keyR c (rS c 32 (rS c 32 (rS c 64 (rS c 16 st))))), (keyR c (rS c 32 (rS c 32 (rS c 32 (rS c 64 (rS c 16 st)))))), s.sk, s.rk, (numB (rB c 4 (rS c 32 (rS c 32 (rS c 32 (rS c 32 (rS c 64 (rS c 16 st)))))))), (numB (rB c 4 (rS c 4 (rS c 32 (rS c 32 (rS c 32 (rS c 32 (rS c 64 (rS c 16 st))))))))), s.sent, s.got, s.prev, s.ser, s.hl, (padR s.bind (rB c 64 (rS c 16 st)))⟩ : Sg)) 33 := bb_19
  have k_19 : Sg.ok (⟨(padR s.sid (rB c 16 st)), (keyR c (rS c 64 (rS c 16 st))), (keyR c (rS c 32 (rS c 64 (rS c 16 st)))), (keyR c (rS c 32 (rS c 32 (rS c 64 (rS c 16 st))))), (keyR c (rS c 32 (rS c 32 (rS c 32 (rS c 64 (rS c 16 st)))))), s.sk, s.rk, (numB (rB c 4 (rS c 32 (rS c 32 (rS c 32 (rS c 32 (rS c 64 (rS c 16 st)))))))), (numB (rB c 4 (rS c 4 (rS c 32 (rS c 32 (rS c 32 (rS c 32 (rS c 64 (rS c 16 st))))))))), s.sent, s.got, s.prev, s.ser, s.hl, (padR s.bind (rB c 64 (rS c 16 st)))⟩ : Sg) := k_16.s_turns (x := (numB (rB c 4 (rS c 4 (rS c 32 (rS c 32 (rS c 32 (rS c 32 (rS c 64 (rS c 16 st)))))))))) (numB_32 _ (rB_len _ _ _))
  clear bb_19
  refine WL.store rfl rfl rfl s_19 ?_
  have rd_20 := rd_18.fx fx_19 hqp hov
  have ft_20 := ft_18.trans fx_19 (fun k _ e => .inr e)
  refine WL.done ?_
  refine EW.on ?_
  refine EW.region ?_
  first | refine WL.move rfl rfl rfl ?_
  first | refine WL.move rfl rfl rfl ?_
  refine WL.call [.pointer (some ⟨q, 0, none⟩)] enter38 rfl rfl rfl (rn4_any q v c (rS c 4 (rS c 4 (rS c 32 (rS c 32 (rS c 32 (rS c 32 (rS c 64 (rS c 16 st)))))))) _ rd_20 hl) ?_
  rintro _ wc21 ⟨rfl, rd_21, fc21⟩
  refine ⟨_, rfl, ?_⟩
  have bp_21 := bc_19.fx fc21 hpq
  have ft_21 := ft_20.trans fc21 (fun k _ e => .inl e)
  first | refine WL.nilc rfl rfl rfl ?_
  first | refine WL.field rfl rfl rfl (f33_11 p _) ?_
  obtain ⟨w_22, s_22, bb_22, fx_22⟩ := Sg.st_ser bp_21 k_19 ((numB (rB c 4 (rS c 4 (rS c 4 (rS c 32 (rS c 32 (rS c 32 (rS c 32 (rS c 64 (rS c 16 st)))))))))))
  have bc_22 : Blk w_22 p (Sg.cs (⟨(padR s.sid (rB c 16 st)), (keyR c (rS c 64 (rS c 16 st))), (keyR c (rS c 32 (rS c 64 (rS c 16 st)))), (keyR c (rS c 32 (rS c 32 (rS c 64 (rS c 16 st))))), (keyR c (rS c 32 (rS c 32 (rS c 32 (rS c 64 (rS c 16 st)))))), s.sk, s.rk, (numB (rB c 4 (rS c 32 (rS c 32 (rS c 32 (rS c 32 (rS c 64 (rS c 16 st)))))))), (numB (rB c 4 (rS c 4 (rS c 32 (rS c 32 (rS c 32 (rS c 32 (rS c 64 (rS c 16 st))))))))), s.sent, s.got, s.prev, (numB (rB c 4 (rS c 4 (rS c 4 (rS c 32 (rS c 32 (rS c 32 (rS c 32 (rS c 64 (rS c 16 st)))))))))), s.hl, (padR s.bind (rB c 64 (rS c 16 st)))⟩ : Sg)) 33 := bb_22
  have k_22 : Sg.ok (⟨(padR s.sid (rB c 16 st)), (keyR c (rS c 64 (rS c 16 st))), (keyR c (rS c 32 (rS c 64 (rS c 16 st)))), (keyR c (rS c 32 (rS c 32 (rS c 64 (rS c 16 st))))), (keyR c (rS c 32 (rS c 32 (rS c 32 (rS c 64 (rS c 16 st)))))), s.sk, s.rk, (numB (rB c 4 (rS c 32 (rS c 32 (rS c 32 (rS c 32 (rS c 64 (rS c 16 st)))))))), (numB (rB c 4 (rS c 4 (rS c 32 (rS c 32 (rS c 32 (rS c 32 (rS c 64 (rS c 16 st))))))))), s.sent, s.got, s.prev, (numB (rB c 4 (rS c 4 (rS c 4 (rS c 32 (rS c 32 (rS c 32 (rS c 32 (rS c 64 (rS c 16 st)))))))))), s.hl, (padR s.bind (rB c 64 (rS c 16 st)))⟩ : Sg) := k_19.s_ser (x := (numB (rB c 4 (rS c 4 (rS c 4 (rS c 32 (rS c 32 (rS c 32 (rS c 32 (rS c 64 (rS c 16 st))))))))))) (numB_32 _ (rB_len _ _ _))
  clear bb_22
  refine WL.store rfl rfl rfl s_22 ?_
  have rd_23 := rd_21.fx fx_22 hqp hov
  have ft_23 := ft_21.trans fx_22 (fun k _ e => .inr e)
  refine WL.done ?_
  exact EW.falls Try.results42 ⟨rfl, bc_22, rd_23, ft_23⟩
set_option maxRecDepth 100000 in
set_option maxHeartbeats 4000000 in
theorem rdSend_any (q p : Nat) (v : Value) (c : List UInt8) (st : Nat × Int) (s : Sg) (k : s.ok) (w : World) (rd_0 : Rd w q v c st.1 st.2) (hp : Blk w p s.cs 33) (hl : c.length ≤ 140737488355328) (hqp : ¬ q = p) (hov : Off v c p) : Calls Try.prog 43 #[.pointer (some ⟨q, 0, none⟩), .pointer (some ⟨p, 0, none⟩)] w fun e w' => e = .returned (.tuple #[]) ∧ Blk w' p (sndR c st s).cs 33 ∧ Rd w' q v c (sndS c st).1 (sndS c st).2 ∧ Fx (fun k => k = q ∨ k = p) w w' := by
  have hpq : ¬ p = q := fun e => hqp e.symm
  have ft_0 : Fx (fun k => k = q ∨ k = p) w w := Fx.refl _ _
  refine calls_of_args [.pointer (some ⟨q, 0, none⟩), .pointer (some ⟨p, 0, none⟩)] Try.func43 rfl 19 Try.ntmps43 (by show 2 ≤ 19; decide) ?_
  refine EW.seq ?_
  refine EW.region ?_
  first | refine WL.move rfl rfl rfl ?_
  first | refine WL.move rfl rfl rfl ?_
  refine WL.call [.pointer (some ⟨q, 0, none⟩)] enter63 rfl rfl rfl (rkey_any q v c st _ rd_0 hl) ?_
  rintro _ wc1 ⟨rfl, rd_1, fc1⟩
  refine ⟨_, rfl, ?_⟩
  have bp_1 := hp.fx fc1 hpq
  have ft_1 := ft_0.trans fc1 (fun k _ e => .inl e)
  first | refine WL.nilc rfl rfl rfl ?_
  first | refine WL.field rfl rfl rfl (f33_4 p _) ?_
  obtain ⟨w_2, s_2, bb_2, fx_2⟩ := Sg.st_sk bp_1 k (x := (keyR c st)) (keyR_len _ _)
  have bc_2 : Blk w_2 p (Sg.cs (⟨s.sid, s.root, s.pri, s.pub, s.peer, (keyR c st), s.rk, s.own, s.turns, s.sent, s.got, s.prev, s.ser, s.hl, s.bind⟩ : Sg)) 33 := bb_2
  have k_2 : Sg.ok (⟨s.sid, s.root, s.pri, s.pub, s.peer, (keyR c st), s.rk, s.own, s.turns, s.sent, s.got, s.prev, s.ser, s.hl, s.bind⟩ : Sg) := k.s_sk (x := (keyR c st)) (keyR_len _ _)
  clear bb_2
  refine WL.store rfl rfl rfl s_2 ?_
  have rd_3 := rd_1.fx fx_2 hqp hov
  have ft_3 := ft_1.trans fx_2 (fun k _ e => .inr e)
  refine WL.done ?_
  refine EW.on ?_
  refine EW.seq ?_
  refine EW.region ?_
  first | refine WL.move rfl rfl rfl ?_
  first | refine WL.move rfl rfl rfl ?_
  refine WL.call [.pointer (some ⟨q, 0, none⟩)] enter38 rfl rfl rfl (rn4_any q v c (rS c 32 st) _ rd_3 hl) ?_
  rintro _ wc4 ⟨rfl, rd_4, fc4⟩
  refine ⟨_, rfl, ?_⟩
  have bp_4 := bc_2.fx fc4 hpq
  have ft_4 := ft_3.trans fc4 (fun k _ e => .inl e)
  first | refine WL.nilc rfl rfl rfl ?_
  first | refine WL.field rfl rfl rfl (f33_8 p _) ?_
  obtain ⟨w_5, s_5, bb_5, fx_5⟩ := Sg.st_sent bp_4 k_2 ((numB (rB c 4 (rS c 32 st))))
  have bc_5 : Blk w_5 p (Sg.cs (⟨s.sid, s.root, s.pri, s.pub, s.peer, (keyR c st), s.rk, s.own, s.turns, (numB (rB c 4 (rS c 32 st))), s.got, s.prev, s.ser, s.hl, s.bind⟩ : Sg)) 33 := bb_5
  have k_5 : Sg.ok (⟨s.sid, s.root, s.pri, s.pub, s.peer, (keyR c st), s.rk, s.own, s.turns, (numB (rB c 4 (rS c 32 st))), s.got, s.prev, s.ser, s.hl, s.bind⟩ : Sg) := k_2.s_sent (x := (numB (rB c 4 (rS c 32 st)))) (numB_32 _ (rB_len _ _ _))
  clear bb_5
  refine WL.store rfl rfl rfl s_5 ?_
  have rd_6 := rd_4.fx fx_5 hqp hov
  have ft_6 := ft_4.trans fx_5 (fun k _ e => .inr e)
  refine WL.done ?_
  refine EW.on ?_
  refine EW.region ?_
  first | refine WL.move rfl rfl rfl ?_
  first | refine WL.move rfl rfl rfl ?_
  refine WL.call [.pointer (some ⟨q, 0, none⟩)] enter38 rfl rfl rfl (rn4_any q v c (rS c 4 (rS c 32 st)) _ rd_6 hl) ?_
  rintro _ wc7 ⟨rfl, rd_7, fc7⟩
  refine ⟨_, rfl, ?_⟩
  have bp_7 := bc_5.fx fc7 hpq
  have ft_7 := ft_6.trans fc7 (fun k _ e => .inl e)
  first | refine WL.nilc rfl rfl rfl ?_
  first | refine WL.field rfl rfl rfl (f33_10 p _) ?_
  obtain ⟨w_8, s_8, bb_8, fx_8⟩ := Sg.st_prev bp_7 k_5 ((numB (rB c 4 (rS c 4 (rS c 32 st)))))
  have bc_8 : Blk w_8 p (Sg.cs (⟨s.sid, s.root, s.pri, s.pub, s.peer, (keyR c st), s.rk, s.own, s.turns, (numB (rB c 4 (rS c 32 st))), s.got, (numB (rB c 4 (rS c 4 (rS c 32 st)))), s.ser, s.hl, s.bind⟩ : Sg)) 33 := bb_8
  have k_8 : Sg.ok (⟨s.sid, s.root, s.pri, s.pub, s.peer, (keyR c st), s.rk, s.own, s.turns, (numB (rB c 4 (rS c 32 st))), s.got, (numB (rB c 4 (rS c 4 (rS c 32 st)))), s.ser, s.hl, s.bind⟩ : Sg) := k_5.s_prev (x := (numB (rB c 4 (rS c 4 (rS c 32 st))))) (numB_32 _ (rB_len _ _ _))
  clear bb_8
  refine WL.store rfl rfl rfl s_8 ?_
  have rd_9 := rd_7.fx fx_8 hqp hov
  have ft_9 := ft_7.trans fx_8 (fun k _ e => .inr e)
  refine WL.done ?_
  exact EW.falls Try.results43 ⟨rfl, bc_8, rd_9, ft_9⟩
set_option maxRecDepth 100000 in
set_option maxHeartbeats 4000000 in
theorem rdRecv_any (q p : Nat) (v : Value) (c : List UInt8) (st : Nat × Int) (s : Sg) (k : s.ok) (w : World) (rd_0 : Rd w q v c st.1 st.2) (hp : Blk w p s.cs 33) (hl : c.length ≤ 140737488355328) (hqp : ¬ q = p) (hov : Off v c p) : Calls Try.prog 44 #[.pointer (some ⟨q, 0, none⟩), .pointer (some ⟨p, 0, none⟩)] w fun e w' => e = .returned (.tuple #[]) ∧ Blk w' p (rcvR c st s).cs 33 ∧ Rd w' q v c (rcvS c st).1 (rcvS c st).2 ∧ Fx (fun k => k = q ∨ k = p) w w' := by
  have hpq : ¬ p = q := fun e => hqp e.symm
  have ft_0 : Fx (fun k => k = q ∨ k = p) w w := Fx.refl _ _
  refine calls_of_args [.pointer (some ⟨q, 0, none⟩), .pointer (some ⟨p, 0, none⟩)] Try.func44 rfl 14 Try.ntmps44 (by show 2 ≤ 14; decide) ?_
  refine EW.seq ?_
  refine EW.region ?_
  first | refine WL.move rfl rfl rfl ?_
  first | refine WL.move rfl rfl rfl ?_
  refine WL.call [.pointer (some ⟨q, 0, none⟩)] enter63 rfl rfl rfl (rkey_any q v c st _ rd_0 hl) ?_
  rintro _ wc1 ⟨rfl, rd_1, fc1⟩
  refine ⟨_, rfl, ?_⟩
  have bp_1 := hp.fx fc1 hpq
  have ft_1 := ft_0.trans fc1 (fun k _ e => .inl e)
  first | refine WL.nilc rfl rfl rfl ?_
  first | refine WL.field rfl rfl rfl (f33_5 p _) ?_
  obtain ⟨w_2, s_2, bb_2, fx_2⟩ := Sg.st_rk bp_1 k (x := (keyR c st)) (keyR_len _ _)
  have bc_2 : Blk w_2 p (Sg.cs (⟨s.sid, s.root, s.pri, s.pub, s.peer, s.sk, (keyR c st), s.own, s.turns, s.sent, s.got, s.prev, s.ser, s.hl, s.bind⟩ : Sg)) 33 := bb_2
  have k_2 : Sg.ok (⟨s.sid, s.root, s.pri, s.pub, s.peer, s.sk, (keyR c st), s.own, s.turns, s.sent, s.got, s.prev, s.ser, s.hl, s.bind⟩ : Sg) := k.s_rk (x := (keyR c st)) (keyR_len _ _)
  clear bb_2
  refine WL.store rfl rfl rfl s_2 ?_
  have rd_3 := rd_1.fx fx_2 hqp hov
  have ft_3 := ft_1.trans fx_2 (fun k _ e => .inr e)
  refine WL.done ?_
  refine EW.on ?_
  refine EW.region ?_
  first | refine WL.move rfl rfl rfl ?_
  first | refine WL.move rfl rfl rfl ?_
  refine WL.call [.pointer (some ⟨q, 0, none⟩)] enter38 rfl rfl rfl (rn4_any q v c (rS c 32 st) _ rd_3 hl) ?_
  rintro _ wc4 ⟨rfl, rd_4, fc4⟩
  refine ⟨_, rfl, ?_⟩
  have bp_4 := bc_2.fx fc4 hpq
  have ft_4 := ft_3.trans fc4 (fun k _ e => .inl e)
  first | refine WL.nilc rfl rfl rfl ?_
  first | refine WL.field rfl rfl rfl (f33_9 p _) ?_
  obtain ⟨w_5, s_5, bb_5, fx_5⟩ := Sg.st_got bp_4 k_2 ((numB (rB c 4 (rS c 32 st))))
  have bc_5 : Blk w_5 p (Sg.cs (⟨s.sid, s.root, s.pri, s.pub, s.peer, s.sk, (keyR c st), s.own, s.turns, s.sent, (numB (rB c 4 (rS c 32 st))), s.prev, s.ser, s.hl, s.bind⟩ : Sg)) 33 := bb_5
  have k_5 : Sg.ok (⟨s.sid, s.root, s.pri, s.pub, s.peer, s.sk, (keyR c st), s.own, s.turns, s.sent, (numB (rB c 4 (rS c 32 st))), s.prev, s.ser, s.hl, s.bind⟩ : Sg) := k_2.s_got (x := (numB (rB c 4 (rS c 32 st)))) (numB_32 _ (rB_len _ _ _))
  clear bb_5
  refine WL.store rfl rfl rfl s_5 ?_
  have rd_6 := rd_4.fx fx_5 hqp hov
  have ft_6 := ft_4.trans fx_5 (fun k _ e => .inr e)
  refine WL.done ?_
  exact EW.falls Try.results44 ⟨rfl, bc_5, rd_6, ft_6⟩
set_option maxRecDepth 100000 in
set_option maxHeartbeats 4000000 in
theorem rdHello_any (q p : Nat) (v : Value) (c : List UInt8) (st : Nat × Int) (s : Sg) (k : s.ok) (w : World) (rd_0 : Rd w q v c st.1 st.2) (hp : Blk w p s.cs 33) (hl : c.length ≤ 140737488355328) (hqp : ¬ q = p) (hov : Off v c p) : Calls Try.prog 45 #[.pointer (some ⟨q, 0, none⟩), .pointer (some ⟨p, 0, none⟩)] w fun e w' => e = .returned (.tuple #[]) ∧ Blk w' p (helR c st s).cs 33 ∧ Rd w' q v c (helS c st).1 (helS c st).2 ∧ Fx (fun k => k = q ∨ k = p) w w' := by
  have hpq : ¬ p = q := fun e => hqp e.symm
  have ft_0 : Fx (fun k => k = q ∨ k = p) w w := Fx.refl _ _
  refine calls_of_args [.pointer (some ⟨q, 0, none⟩), .pointer (some ⟨p, 0, none⟩)] Try.func45 rfl 24 Try.ntmps45 (by show 2 ≤ 24; decide) ?_
  refine EW.seq ?_
  refine EW.region ?_
  first | refine WL.move rfl rfl rfl ?_
  first | refine WL.move rfl rfl rfl ?_
  first | refine WL.nilc rfl rfl rfl ?_
  first | refine WL.load rfl rfl rfl (Sg.ld hp k) ?_
  refine WL.call [Sg.v (⟨s.sid, s.root, s.pri, s.pub, s.peer, s.sk, s.rk, s.own, s.turns, s.sent, s.got, s.prev, s.ser, s.hl, s.bind⟩ : Sg)] enter55 rfl rfl rfl (firstWriter_any _ k _) ?_
  rintro _ wc1 ⟨rfl, ec1⟩
  refine ⟨_, rfl, ?_⟩
  have bp_2 := hp.on ec1
  have rd_2 := rd_0.below ec1
  have ft_2 := ft_0.then_below ec1
  first | refine WL.nilc rfl rfl rfl ?_
  first | refine WL.field rfl rfl rfl (f33_12 p _) ?_
  first | refine WL.field rfl rfl rfl (f30_0 p 214 _) ?_
  obtain ⟨w_3, s_3, bb_3, fx_3⟩ := Sg.st_hid bp_2 k (x := (s.bind.take 32)) (takeB k.bind)
  have bc_3 : Blk w_3 p (Sg.cs (⟨s.sid, s.root, s.pri, s.pub, s.peer, s.sk, s.rk, s.own, s.turns, s.sent, s.got, s.prev, s.ser, (⟨(s.bind.take 32), s.hl.once, s.hl.pre⟩ : Hl), s.bind⟩ : Sg)) 33 := bb_3
  have k_3 : Sg.ok (⟨s.sid, s.root, s.pri, s.pub, s.peer, s.sk, s.rk, s.own, s.turns, s.sent, s.got, s.prev, s.ser, (⟨(s.bind.take 32), s.hl.once, s.hl.pre⟩ : Hl), s.bind⟩ : Sg) := k.s_hl (x := (⟨(s.bind.take 32), s.hl.once, s.hl.pre⟩ : Hl)) ⟨(takeB k.bind), k.hl.o, k.hl.p⟩
  clear bb_3
  refine WL.store rfl rfl rfl s_3 ?_
  have rd_4 := rd_2.fx fx_3 hqp hov
  have ft_4 := ft_2.trans fx_3 (fun k _ e => .inr e)
  refine WL.done ?_
  refine EW.on ?_
  refine EW.seq ?_
  refine EW.region ?_
  first | refine WL.move rfl rfl rfl ?_
  first | refine WL.move rfl rfl rfl ?_
  refine WL.call [.pointer (some ⟨q, 0, none⟩)] enter63 rfl rfl rfl (rkey_any q v c st _ rd_4 hl) ?_
  rintro _ wc5 ⟨rfl, rd_5, fc5⟩
  refine ⟨_, rfl, ?_⟩
  have bp_5 := bc_3.fx fc5 hpq
  have ft_5 := ft_4.trans fc5 (fun k _ e => .inl e)
  first | refine WL.nilc rfl rfl rfl ?_
  first | refine WL.field rfl rfl rfl (f33_12 p _) ?_
  first | refine WL.field rfl rfl rfl (f30_1 p 214 _) ?_
  obtain ⟨w_6, s_6, bb_6, fx_6⟩ := Sg.st_honce bp_5 k_3 (x := (keyR c st)) (keyR_len _ _)
  have bc_6 : Blk w_6 p (Sg.cs (⟨s.sid, s.root, s.pri, s.pub, s.peer, s.sk, s.rk, s.own, s.turns, s.sent, s.got, s.prev, s.ser, (⟨(s.bind.take 32), (keyR c st), s.hl.pre⟩ : Hl), s.bind⟩ : Sg)) 33 := bb_6
  have k_6 : Sg.ok (⟨s.sid, s.root, s.pri, s.pub, s.peer, s.sk, s.rk, s.own, s.turns, s.sent, s.got, s.prev, s.ser, (⟨(s.bind.take 32), (keyR c st), s.hl.pre⟩ : Hl), s.bind⟩ : Sg) := k_3.s_hl (x := (⟨(s.bind.take 32), (keyR c st), s.hl.pre⟩ : Hl)) ⟨k_3.hl.i, (keyR_len _ _), k_3.hl.p⟩
  clear bb_6
  refine WL.store rfl rfl rfl s_6 ?_
  have rd_7 := rd_5.fx fx_6 hqp hov
  have ft_7 := ft_5.trans fx_6 (fun k _ e => .inr e)
  refine WL.done ?_
  refine EW.on ?_
  refine EW.region ?_
  first | refine WL.move rfl rfl rfl ?_
  first | refine WL.move rfl rfl rfl ?_
  refine WL.call [.pointer (some ⟨q, 0, none⟩)] enter38 rfl rfl rfl (rn4_any q v c (rS c 32 st) _ rd_7 hl) ?_
  rintro _ wc8 ⟨rfl, rd_8, fc8⟩
  refine ⟨_, rfl, ?_⟩
  have bp_8 := bc_6.fx fc8 hpq
  have ft_8 := ft_7.trans fc8 (fun k _ e => .inl e)
  first | refine WL.nilc rfl rfl rfl ?_
  first | refine WL.field rfl rfl rfl (f33_12 p _) ?_
  first | refine WL.field rfl rfl rfl (f30_2 p 214 _) ?_
  obtain ⟨w_9, s_9, bb_9, fx_9⟩ := Sg.st_hpre bp_8 k_6 ((numB (rB c 4 (rS c 32 st))))
  have bc_9 : Blk w_9 p (Sg.cs (⟨s.sid, s.root, s.pri, s.pub, s.peer, s.sk, s.rk, s.own, s.turns, s.sent, s.got, s.prev, s.ser, (⟨(s.bind.take 32), (keyR c st), (numB (rB c 4 (rS c 32 st)))⟩ : Hl), s.bind⟩ : Sg)) 33 := bb_9
  have k_9 : Sg.ok (⟨s.sid, s.root, s.pri, s.pub, s.peer, s.sk, s.rk, s.own, s.turns, s.sent, s.got, s.prev, s.ser, (⟨(s.bind.take 32), (keyR c st), (numB (rB c 4 (rS c 32 st)))⟩ : Hl), s.bind⟩ : Sg) := k_6.s_hl (x := (⟨(s.bind.take 32), (keyR c st), (numB (rB c 4 (rS c 32 st)))⟩ : Hl)) ⟨k_6.hl.i, k_6.hl.o, (numB_32 _ (rB_len _ _ _))⟩
  clear bb_9
  refine WL.store rfl rfl rfl s_9 ?_
  have rd_10 := rd_8.fx fx_9 hqp hov
  have ft_10 := ft_8.trans fx_9 (fun k _ e => .inr e)
  refine WL.done ?_
  exact EW.falls Try.results45 ⟨rfl, bc_9, rd_10, ft_10⟩
end Go.Proofs.Ytacimelcmkhhlaa
