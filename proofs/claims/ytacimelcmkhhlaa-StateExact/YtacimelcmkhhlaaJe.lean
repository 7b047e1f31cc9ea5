import Derived.Test.YtacimelcmkhhlaaJd
set_option linter.unusedVariables false
set_option linter.unusedSimpArgs false
namespace Go.Proofs.Ytacimelcmkhhlaa
open Go.RowKit

theorem bsl57_6 (a b c d e f : Value) (ha : ∃ x1 x2 x3, a = .slice x1 x2 x3) (hb : ∃ x1 x2 x3, b = .slice x1 x2 x3) (hc : ∃ x1 x2 x3, c = .slice x1 x2 x3) (hd : ∃ x1 x2 x3, d = .slice x1 x2 x3) (he : ∃ x1 x2 x3, e = .slice x1 x2 x3) (hf : ∃ x1 x2 x3, f = .slice x1 x2 x3) (w : World) : (Instr.buildSlice 57 6 [(0, a), (1, b), (2, c), (3, d), (4, e), (5, f)].toArray).run Try.prog w = .ok (.slice (some ⟨w.heap.size, 0, none⟩) 6 6) (w.alloc (.cells [a, b, c, d, e, f].toArray 38)) := by
  obtain ⟨_, _, _, rfl⟩ := ha
  obtain ⟨_, _, _, rfl⟩ := hb
  obtain ⟨_, _, _, rfl⟩ := hc
  obtain ⟨_, _, _, rfl⟩ := hd
  obtain ⟨_, _, _, rfl⟩ := he
  obtain ⟨_, _, _, rfl⟩ := hf
  go_simp
  try rfl
theorem fixedN (M : Nat) (hM : M ≤ 1048576) (b q : Nat) (v : Value) (bs : List UInt8) (ps : List (Value × List UInt8)) (w : World) (hw : Wr M w b q v bs) (hbw : b ≤ w.heap.size) (hy : ∀ p ∈ ps, Has w p.1 p.2) (hyo : ∀ p ∈ ps, ∀ k, v.ownBlock = some k → Off p.1 p.2 k) (hn : ps.length ≤ 1000) (n : Nat) (hpn : ps.length = n) (ys : List UInt8) (hf : flatB ps = ys) (hl : bs.length + ys.length ≤ M) (w1 : World) (hw1 : w1 = w.alloc (.cells (ps.map (·.1)).toArray 38)) : Calls Try.prog 57 #[.pointer (some ⟨q, 0, none⟩), .slice (some ⟨w.heap.size, 0, none⟩) n n] w1 (WrS M w b q v (bs ++ ys)) := by
  subst hpn
  subst hf
  rw [hw1]
  have b2 := below_new w (.cells (ps.map (·.1)).toArray 38)
  have hBp : Bp (w.alloc (.cells (ps.map (·.1)).toArray 38)) w.heap.size ps := ⟨Blk.new _ _ _, fun p hp => (hy p hp).below b2⟩
  refine (fixed_any M hM b q w.heap.size ps.length v bs ps _ (hw.below b2) hBp (by have := b2.size; omega) (by have := hw.bl.lt; omega) hyo hn hl).mono ?_
  rintro e w3 ⟨rfl, v', g1, g2, g3⟩
  exact ⟨rfl, v', g1, wr_after (b := b) b2 g2 g3⟩
def corD (s : Sg) : List UInt8 := s.sid ++ (s.bind ++ (s.root ++ (s.pri ++ (s.pub ++ (s.peer ++ (be32 s.own ++ (be32 s.turns ++ be32 s.ser)))))))
def sndD (s : Sg) : List UInt8 := s.sk ++ (be32 s.sent ++ be32 s.prev)
def rcvD (s : Sg) : List UInt8 := s.rk ++ be32 s.got
def helB (h : Hl) : List UInt8 := h.once ++ be32 h.pre
theorem corD_len {s : Sg} (k : s.ok) : (corD s).length = 220 := by simp [corD, be32_len, k.sid, k.bind, k.root, k.pri, k.pub, k.peer]
theorem sndD_len {s : Sg} (k : s.ok) : (sndD s).length = 40 := by simp [sndD, be32_len, k.sk]
theorem rcvD_len {s : Sg} (k : s.ok) : (rcvD s).length = 36 := by simp [rcvD, be32_len, k.rk]
theorem helB_len {h : Hl} (k : h.ok) : (helB h).length = 36 := by simp [helB, be32_len, k.o]
theorem Hl.ld {w : World} {q : Nat} {h : Hl} {t : TypeId} (hb : Blk w q h.cs t) (k : h.ok) : (Instr.loadAt 30 (.pointer (some ⟨q, 0, none⟩))).run Try.prog w = .ok h.v w := run_loadR hb Try.underlying30 rfl (i30 k)
theorem Hl.ld_pre {w : World} {q : Nat} {h : Hl} {t : TypeId} (hb : Blk w q h.cs t) (k : h.ok) : (Instr.loadAt 28 (.pointer (some ⟨q, 0 + 64, none⟩))).run Try.prog w = .ok (u32v h.pre) w := hb.ldU (a := h.id.map byt ++ h.once.map byt) (b := []) (by simp [Hl.cs]) (by simp [k.i, k.o])
theorem Hl.has_once {w : World} {q1 : Nat} {h : Hl} {t : TypeId} (bx : Blk w q1 h.cs t) (kh : h.ok) : Has w (.slice (some ⟨q1, 32, none⟩) 32 32) h.once := by
  have := bx.has (a := h.id.map byt) (K := h.once) (b := [u32v h.pre]) (o := 32) rfl (by simp [kh.i]) 32 (by rw [kh.o]; exact Nat.le_refl _)
  rw [kh.o] at this
  exact this
set_option maxRecDepth 100000 in
set_option maxHeartbeats 4000000 in
theorem wrCore_any (M : Nat) (hM : M ≤ 1048576) (b q : Nat) (v : Value) (bs : List UInt8) (s : Sg) (k : s.ok) (w : World) (hw : Wr M w b q v bs) (hbw : b ≤ w.heap.size) (hl : bs.length + 220 ≤ M) : Calls Try.prog 26 #[.pointer (some ⟨q, 0, none⟩), s.v] w (WrS M w b q v (bs ++ corD s)) := by
  obtain ⟨w1, q1, r1, bx1, e1, hq1⟩ := box_any 33 s.cs w
  have l1 := e1.size
  have wr1 := hw.below e1
  have off_x : ∀ o n c ys k, v.ownBlock = some k → Off (.slice (some ⟨q1, o, none⟩) n c) ys k := fun o n c ys k hk => .inr fun e => by
    have := (hw.ob.lt hk).1
    simp only [Value.ownBlock, Option.some.injEq] at e
    omega
  refine calls_of_args [.pointer (some ⟨q, 0, none⟩), s.v] Try.func26 rfl 33 Try.ntmps26 (by show 2 ≤ 33; decide) ?_
  refine EW.seq ?_
  refine EW.region ?_
  refine WL.box rfl rfl rfl r1 ?_
  refine WL.done ?_
  refine EW.on ?_
  refine EW.seq ?_
  refine EW.ordB [(0, 0, 0), (1, 0, 0), (2, 0, 0), (3, 0, 0), (4, 0, 0), (5, 0, 0), (6, 0, 0), (7, 0, 0), (8, 0, 0), (9, 0, 0), (10, 0, 0), (11, 0, 0), (12, 0, 0), (13, 0, 0), (14, 0, 0), (15, 1, 1), (16, 1, 0)] (by kernel_rfl) rfl (by kernel_rfl) ?_
  simp only [opsZ, List.getD_cons_zero, List.getD_cons_succ]
  first | refine ZE.move rfl rfl rfl rfl sz0 ?_
  first | refine ZE.field rfl rfl rfl rfl sz0 (fun W => f33_0 q1 W) ?_
  refine ZE.slice0 rfl rfl rfl rfl sz0 (fun W => sl23 q1 0 W) ?_
  first | refine ZE.field rfl rfl rfl rfl sz0 (fun W => f33_13 q1 W) ?_
  refine ZE.slice0 rfl rfl rfl rfl sz0 (fun W => sl31 q1 279 W) ?_
  first | refine ZE.field rfl rfl rfl rfl sz0 (fun W => f33_1 q1 W) ?_
  refine ZE.slice0 rfl rfl rfl rfl sz0 (fun W => sl25 q1 16 W) ?_
  first | refine ZE.field rfl rfl rfl rfl sz0 (fun W => f33_2 q1 W) ?_
  first | refine ZE.field rfl rfl rfl rfl sz0 (fun W => f27_0 q1 48 W) ?_
  refine ZE.slice0 rfl rfl rfl rfl sz0 (fun W => sl25 q1 48 W) ?_
  first | refine ZE.field rfl rfl rfl rfl sz0 (fun W => f33_2 q1 W) ?_
  first | refine ZE.field rfl rfl rfl rfl sz0 (fun W => f27_1 q1 48 W) ?_
  refine ZE.slice0 rfl rfl rfl rfl sz0 (fun W => sl25 q1 80 W) ?_
  first | refine ZE.field rfl rfl rfl rfl sz0 (fun W => f33_3 q1 W) ?_
  refine ZE.slice0 rfl rfl rfl rfl sz0 (fun W => sl25 q1 112 W) ?_
  refine ZE.bsl [(0, .slice (some ⟨q1, 0, none⟩) 16 16), (1, .slice (some ⟨q1, 279, none⟩) 64 64), (2, .slice (some ⟨q1, 16, none⟩) 32 32), (3, .slice (some ⟨q1, 48, none⟩) 32 32), (4, .slice (some ⟨q1, 80, none⟩) 32 32), (5, .slice (some ⟨q1, 112, none⟩) 32 32)] (fun v W' => ∃ W, Below w1.heap.size w1 W ∧ v = .slice (some ⟨W.heap.size, 0, none⟩) 6 6 ∧ W' = W.alloc (.cells [.slice (some ⟨q1, 0, none⟩) 16 16, .slice (some ⟨q1, 279, none⟩) 64 64, .slice (some ⟨q1, 16, none⟩) 32 32, .slice (some ⟨q1, 48, none⟩) 32 32, .slice (some ⟨q1, 80, none⟩) 32 32, .slice (some ⟨q1, 112, none⟩) 32 32].toArray 38)) rfl rfl rfl (fun v W' ⟨W, h, _, e⟩ => .inr (by rw [e]; exact h.trans ((below_new _ _).mono h.size))) (fun W hW => ⟨_, _, bsl57_6 _ _ _ _ _ _ ⟨_, _, _, rfl⟩ ⟨_, _, _, rfl⟩ ⟨_, _, _, rfl⟩ ⟨_, _, _, rfl⟩ ⟨_, _, _, rfl⟩ ⟨_, _, _, rfl⟩ W, W, hW, rfl, rfl⟩) ?_
  rintro vb ⟨_, Wq, hWq, rfl, _⟩
  refine ZE.callR [.pointer (some ⟨q, 0, none⟩), .slice (some ⟨Wq.heap.size, 0, none⟩) 6 6] (fun u W => u = .tuple #[] ∧ ∃ v', Wr M W b q v' (bs ++ (s.sid ++ (s.bind ++ (s.root ++ (s.pri ++ (s.pub ++ (s.peer))))))) ∧ Fx (fun k => k = q ∨ v.ownBlock = some k) w1 W ∧ Nw w1 v v') enter57 rfl rfl rfl (fun _ _ _ => .inl rfl) ?_ ?_
  · rintro _ ⟨W, hW, hv, rfl⟩
    have hs : W.heap.size = Wq.heap.size := by
      simp only [Value.slice.injEq, Option.some.injEq, Addr.mk.injEq, and_true, true_and] at hv
      exact hv.symm
    have hbW := bx1.on hW
    rw [← hs]
    refine (fixedN M hM b q v bs [(.slice (some ⟨q1, 0, none⟩) 16 16, s.sid), (.slice (some ⟨q1, 279, none⟩) 64 64, s.bind), (.slice (some ⟨q1, 16, none⟩) 32 32, s.root), (.slice (some ⟨q1, 48, none⟩) 32 32, s.pri), (.slice (some ⟨q1, 80, none⟩) 32 32, s.pub), (.slice (some ⟨q1, 112, none⟩) 32 32, s.peer)] W (wr1.below hW) (by have := hW.size; omega) (fun p hp => by
      simp only [List.mem_cons, List.not_mem_nil, or_false] at hp
      rcases hp with rfl | rfl | rfl | rfl | rfl | rfl
      · exact (Sg.has_sid hbW k)
      · exact (Sg.has_bind hbW k)
      · exact (Sg.has_root hbW k)
      · exact (Sg.has_pri hbW k)
      · exact (Sg.has_pub hbW k)
      · exact (Sg.has_peer hbW k)) (fun p hp => by
      simp only [List.mem_cons, List.not_mem_nil, or_false] at hp
      rcases hp with rfl | rfl | rfl | rfl | rfl | rfl <;> exact off_x _ _ _ _) (by show 6 ≤ 1000; decide) 6 rfl (s.sid ++ (s.bind ++ (s.root ++ (s.pri ++ (s.pub ++ (s.peer)))))) (by simp [flatB]) (by simp only [List.length_append, List.length_nil, be32_len, k.sid, k.bind, k.root, k.pri, k.pub, k.peer, k.sk, k.rk]; first | omega | decide) _ rfl).mono ?_
    rintro e W2 ⟨rfl, v', g1, g2, g3⟩
    exact ⟨_, rfl, rfl, v', g1, wr_after (b := b) hW g2 g3⟩
  rintro vr ⟨Wr2, rfl, _⟩
  rintro w2 ⟨_, v2, wr2, f2, n2⟩
  have bx2 := bx1.fx f2 (wr1.apart bx1 (by decide) (by decide))
  have l2 := f2.size
  refine EW.on ?_
  refine EW.seq ?_
  refine EW.region ?_
  first | refine WL.move rfl rfl rfl ?_
  first | refine WL.field rfl rfl rfl (f33_6 q1 _) ?_
  first | refine WL.load rfl rfl rfl (Sg.ld_own bx2 k) ?_
  refine WL.call [.pointer (some ⟨q, 0, none⟩), u32v s.own] enter33 rfl rfl rfl (u32_any M hM b q _ _ s.own w2 wr2 (by omega) (by simp only [List.length_append, List.length_nil, be32_len, k.sid, k.bind, k.root, k.pri, k.pub, k.peer, k.sk, k.rk]; first | omega | decide)) ?_
  rintro _ w3 ⟨rfl, v3, wr3, f3, n3⟩
  have bx3 := bx2.fx f3 (wr2.apart bx2 (by decide) (by decide))
  have l3 := f3.size
  refine ⟨_, rfl, ?_⟩
  refine WL.done ?_
  refine EW.on ?_
  refine EW.seq ?_
  refine EW.region ?_
  first | refine WL.move rfl rfl rfl ?_
  first | refine WL.field rfl rfl rfl (f33_7 q1 _) ?_
  first | refine WL.load rfl rfl rfl (Sg.ld_turns bx3 k) ?_
  refine WL.call [.pointer (some ⟨q, 0, none⟩), u32v s.turns] enter33 rfl rfl rfl (u32_any M hM b q _ _ s.turns w3 wr3 (by omega) (by simp only [List.length_append, List.length_nil, be32_len, k.sid, k.bind, k.root, k.pri, k.pub, k.peer, k.sk, k.rk]; first | omega | decide)) ?_
  rintro _ w4 ⟨rfl, v4, wr4, f4, n4⟩
  have bx4 := bx3.fx f4 (wr3.apart bx3 (by decide) (by decide))
  have l4 := f4.size
  refine ⟨_, rfl, ?_⟩
  refine WL.done ?_
  refine EW.on ?_
  refine EW.region ?_
  first | refine WL.move rfl rfl rfl ?_
  first | refine WL.field rfl rfl rfl (f33_11 q1 _) ?_
  first | refine WL.load rfl rfl rfl (Sg.ld_ser bx4 k) ?_
  refine WL.call [.pointer (some ⟨q, 0, none⟩), u32v s.ser] enter33 rfl rfl rfl (u32_any M hM b q _ _ s.ser w4 wr4 (by omega) (by simp only [List.length_append, List.length_nil, be32_len, k.sid, k.bind, k.root, k.pri, k.pub, k.peer, k.sk, k.rk]; first | omega | decide)) ?_
  rintro _ w5 ⟨rfl, v5, wr5, f5, n5⟩
  have bx5 := bx4.fx f5 (wr4.apart bx4 (by decide) (by decide))
  have l5 := f5.size
  refine ⟨_, rfl, ?_⟩
  refine WL.done ?_
  have fa2 := f2
  have na2 := n2
  obtain ⟨fa3, na3⟩ := wr_trans fa2 na2 f3 n3
  obtain ⟨fa4, na4⟩ := wr_trans fa3 na3 f4 n4
  obtain ⟨fa5, na5⟩ := wr_trans fa4 na4 f5 n5
  exact EW.falls Try.results26 ⟨rfl, v5, by simpa [corD] using wr5, wr_after (b := b) e1 fa5 na5⟩
set_option maxRecDepth 100000 in
set_option maxHeartbeats 4000000 in
theorem wrSend_any (M : Nat) (hM : M ≤ 1048576) (b q : Nat) (v : Value) (bs : List UInt8) (s : Sg) (k : s.ok) (w : World) (hw : Wr M w b q v bs) (hbw : b ≤ w.heap.size) (hl : bs.length + 40 ≤ M) : Calls Try.prog 27 #[.pointer (some ⟨q, 0, none⟩), s.v] w (WrS M w b q v (bs ++ sndD s)) := by
  obtain ⟨w1, q1, r1, bx1, e1, hq1⟩ := box_any 33 s.cs w
  have l1 := e1.size
  have wr1 := hw.below e1
  have off_x : ∀ o n c ys k, v.ownBlock = some k → Off (.slice (some ⟨q1, o, none⟩) n c) ys k := fun o n c ys k hk => .inr fun e => by
    have := (hw.ob.lt hk).1
    simp only [Value.ownBlock, Option.some.injEq] at e
    omega
  refine calls_of_args [.pointer (some ⟨q, 0, none⟩), s.v] Try.func27 rfl 17 Try.ntmps27 (by show 2 ≤ 17; decide) ?_
  refine EW.seq ?_
  refine EW.region ?_
  refine WL.box rfl rfl rfl r1 ?_
  refine WL.done ?_
  refine EW.on ?_
  refine EW.seq ?_
  refine EW.region ?_
  first | refine WL.move rfl rfl rfl ?_
  first | refine WL.field rfl rfl rfl (f33_4 q1 _) ?_
  refine WL.slice0 rfl rfl rfl (sl25 q1 144 _) ?_
  refine WL.bslN [(0, .slice (some ⟨q1, 144, none⟩) 32 32)] rfl rfl rfl (bsl74_1 _ ⟨_, _, _, rfl⟩ _) ?_
  refine WL.call [.pointer (some ⟨q, 0, none⟩), .slice (some ⟨w1.heap.size, 0, none⟩) 1 1] enter57 rfl rfl rfl (fixedN M hM b q _ _ [(.slice (some ⟨q1, 144, none⟩) 32 32, s.sk)] w1 wr1 (by omega) (fun p hp => by rw [List.mem_singleton.1 hp]; exact (Sg.has_sk bx1 k)) (fun p hp => by rw [List.mem_singleton.1 hp]; exact off_x _ _ _ _) (by show 1 ≤ 1000; decide) 1 rfl s.sk (flatB_one _ _) (by simp only [List.length_append, List.length_nil, be32_len, k.sid, k.bind, k.root, k.pri, k.pub, k.peer, k.sk, k.rk]; first | omega | decide) _ rfl) ?_
  rintro _ w2 ⟨rfl, v2, wr2, f2, n2⟩
  have bx2 := bx1.fx f2 (wr1.apart bx1 (by decide) (by decide))
  have l2 := f2.size
  refine ⟨_, rfl, ?_⟩
  refine WL.done ?_
  refine EW.on ?_
  refine EW.seq ?_
  refine EW.region ?_
  first | refine WL.move rfl rfl rfl ?_
  first | refine WL.field rfl rfl rfl (f33_8 q1 _) ?_
  first | refine WL.load rfl rfl rfl (Sg.ld_sent bx2 k) ?_
  refine WL.call [.pointer (some ⟨q, 0, none⟩), u32v s.sent] enter33 rfl rfl rfl (u32_any M hM b q _ _ s.sent w2 wr2 (by omega) (by simp only [List.length_append, List.length_nil, be32_len, k.sid, k.bind, k.root, k.pri, k.pub, k.peer, k.sk, k.rk]; first | omega | decide)) ?_
  rintro _ w3 ⟨rfl, v3, wr3, f3, n3⟩
  have bx3 := bx2.fx f3 (wr2.apart bx2 (by decide) (by decide))
  have l3 := f3.size
  refine ⟨_, rfl, ?_⟩
  refine WL.done ?_
  refine EW.on ?_
  refine EW.region ?_
  first | refine WL.move rfl rfl rfl ?_
  first | refine WL.field rfl rfl rfl (f33_10 q1 _) ?_
  first | refine WL.load rfl rfl rfl (Sg.ld_prev bx3 k) ?_
  refine WL.call [.pointer (some ⟨q, 0, none⟩), u32v s.prev] enter33 rfl rfl rfl (u32_any M hM b q _ _ s.prev w3 wr3 (by omega) (by simp only [List.length_append, List.length_nil, be32_len, k.sid, k.bind, k.root, k.pri, k.pub, k.peer, k.sk, k.rk]; first | omega | decide)) ?_
  rintro _ w4 ⟨rfl, v4, wr4, f4, n4⟩
  have bx4 := bx3.fx f4 (wr3.apart bx3 (by decide) (by decide))
  have l4 := f4.size
  refine ⟨_, rfl, ?_⟩
  refine WL.done ?_
  have fa2 := f2
  have na2 := n2
  obtain ⟨fa3, na3⟩ := wr_trans fa2 na2 f3 n3
  obtain ⟨fa4, na4⟩ := wr_trans fa3 na3 f4 n4
  exact EW.falls Try.results27 ⟨rfl, v4, by simpa [sndD] using wr4, wr_after (b := b) e1 fa4 na4⟩
set_option maxRecDepth 100000 in
set_option maxHeartbeats 4000000 in
theorem wrRecv_any (M : Nat) (hM : M ≤ 1048576) (b q : Nat) (v : Value) (bs : List UInt8) (s : Sg) (k : s.ok) (w : World) (hw : Wr M w b q v bs) (hbw : b ≤ w.heap.size) (hl : bs.length + 36 ≤ M) : Calls Try.prog 28 #[.pointer (some ⟨q, 0, none⟩), s.v] w (WrS M w b q v (bs ++ rcvD s)) := by
  obtain ⟨w1, q1, r1, bx1, e1, hq1⟩ := box_any 33 s.cs w
  have l1 := e1.size
  have wr1 := hw.below e1
  have off_x : ∀ o n c ys k, v.ownBlock = some k → Off (.slice (some ⟨q1, o, none⟩) n c) ys k := fun o n c ys k hk => .inr fun e => by
    have := (hw.ob.lt hk).1
    simp only [Value.ownBlock, Option.some.injEq] at e
    omega
  refine calls_of_args [.pointer (some ⟨q, 0, none⟩), s.v] Try.func28 rfl 13 Try.ntmps28 (by show 2 ≤ 13; decide) ?_
  refine EW.seq ?_
  refine EW.region ?_
  refine WL.box rfl rfl rfl r1 ?_
  refine WL.done ?_
  refine EW.on ?_
  refine EW.seq ?_
  refine EW.region ?_
  first | refine WL.move rfl rfl rfl ?_
  first | refine WL.field rfl rfl rfl (f33_5 q1 _) ?_
  refine WL.slice0 rfl rfl rfl (sl25 q1 176 _) ?_
  refine WL.bslN [(0, .slice (some ⟨q1, 176, none⟩) 32 32)] rfl rfl rfl (bsl74_1 _ ⟨_, _, _, rfl⟩ _) ?_
  refine WL.call [.pointer (some ⟨q, 0, none⟩), .slice (some ⟨w1.heap.size, 0, none⟩) 1 1] enter57 rfl rfl rfl (fixedN M hM b q _ _ [(.slice (some ⟨q1, 176, none⟩) 32 32, s.rk)] w1 wr1 (by omega) (fun p hp => by rw [List.mem_singleton.1 hp]; exact (Sg.has_rk bx1 k)) (fun p hp => by rw [List.mem_singleton.1 hp]; exact off_x _ _ _ _) (by show 1 ≤ 1000; decide) 1 rfl s.rk (flatB_one _ _) (by simp only [List.length_append, List.length_nil, be32_len, k.sid, k.bind, k.root, k.pri, k.pub, k.peer, k.sk, k.rk]; first | omega | decide) _ rfl) ?_
  rintro _ w2 ⟨rfl, v2, wr2, f2, n2⟩
  have bx2 := bx1.fx f2 (wr1.apart bx1 (by decide) (by decide))
  have l2 := f2.size
  refine ⟨_, rfl, ?_⟩
  refine WL.done ?_
  refine EW.on ?_
  refine EW.region ?_
  first | refine WL.move rfl rfl rfl ?_
  first | refine WL.field rfl rfl rfl (f33_9 q1 _) ?_
  first | refine WL.load rfl rfl rfl (Sg.ld_got bx2 k) ?_
  refine WL.call [.pointer (some ⟨q, 0, none⟩), u32v s.got] enter33 rfl rfl rfl (u32_any M hM b q _ _ s.got w2 wr2 (by omega) (by simp only [List.length_append, List.length_nil, be32_len, k.sid, k.bind, k.root, k.pri, k.pub, k.peer, k.sk, k.rk]; first | omega | decide)) ?_
  rintro _ w3 ⟨rfl, v3, wr3, f3, n3⟩
  have bx3 := bx2.fx f3 (wr2.apart bx2 (by decide) (by decide))
  have l3 := f3.size
  refine ⟨_, rfl, ?_⟩
  refine WL.done ?_
  have fa2 := f2
  have na2 := n2
  obtain ⟨fa3, na3⟩ := wr_trans fa2 na2 f3 n3
  exact EW.falls Try.results28 ⟨rfl, v3, by simpa [rcvD] using wr3, wr_after (b := b) e1 fa3 na3⟩
set_option maxRecDepth 100000 in
set_option maxHeartbeats 4000000 in
theorem wrHello_any (M : Nat) (hM : M ≤ 1048576) (b q : Nat) (v : Value) (bs : List UInt8) (h : Hl) (k : h.ok) (w : World) (hw : Wr M w b q v bs) (hbw : b ≤ w.heap.size) (hl : bs.length + 36 ≤ M) : Calls Try.prog 30 #[.pointer (some ⟨q, 0, none⟩), h.v] w (WrS M w b q v (bs ++ helB h)) := by
  obtain ⟨w1, q1, r1, bx1, e1, hq1⟩ := box_any 30 h.cs w
  have l1 := e1.size
  have wr1 := hw.below e1
  have off_x : ∀ o n c ys k, v.ownBlock = some k → Off (.slice (some ⟨q1, o, none⟩) n c) ys k := fun o n c ys k hk => .inr fun e => by
    have := (hw.ob.lt hk).1
    simp only [Value.ownBlock, Option.some.injEq] at e
    omega
  refine calls_of_args [.pointer (some ⟨q, 0, none⟩), h.v] Try.func30 rfl 13 Try.ntmps30 (by show 2 ≤ 13; decide) ?_
  refine EW.seq ?_
  refine EW.region ?_
  refine WL.box rfl rfl rfl r1 ?_
  refine WL.done ?_
  refine EW.on ?_
  refine EW.seq ?_
  refine EW.region ?_
  first | refine WL.move rfl rfl rfl ?_
  first | refine WL.field rfl rfl rfl (f30_1 q1 0 _) ?_
  refine WL.slice0 rfl rfl rfl (sl25 q1 32 _) ?_
  refine WL.bslN [(0, .slice (some ⟨q1, 32, none⟩) 32 32)] rfl rfl rfl (bsl74_1 _ ⟨_, _, _, rfl⟩ _) ?_
  refine WL.call [.pointer (some ⟨q, 0, none⟩), .slice (some ⟨w1.heap.size, 0, none⟩) 1 1] enter57 rfl rfl rfl (fixedN M hM b q _ _ [(.slice (some ⟨q1, 32, none⟩) 32 32, h.once)] w1 wr1 (by omega) (fun p hp => by rw [List.mem_singleton.1 hp]; exact (Hl.has_once bx1 k)) (fun p hp => by rw [List.mem_singleton.1 hp]; exact off_x _ _ _ _) (by show 1 ≤ 1000; decide) 1 rfl h.once (flatB_one _ _) (by simp only [List.length_append, List.length_nil, be32_len, k.i, k.o]; first | omega | decide) _ rfl) ?_
  rintro _ w2 ⟨rfl, v2, wr2, f2, n2⟩
  have bx2 := bx1.fx f2 (wr1.apart bx1 (by decide) (by decide))
  have l2 := f2.size
  refine ⟨_, rfl, ?_⟩
  refine WL.done ?_
  refine EW.on ?_
  refine EW.region ?_
  first | refine WL.move rfl rfl rfl ?_
  first | refine WL.field rfl rfl rfl (f30_2 q1 0 _) ?_
  first | refine WL.load rfl rfl rfl (Hl.ld_pre bx2 k) ?_
  refine WL.call [.pointer (some ⟨q, 0, none⟩), u32v h.pre] enter33 rfl rfl rfl (u32_any M hM b q _ _ h.pre w2 wr2 (by omega) (by simp only [List.length_append, List.length_nil, be32_len, k.i, k.o]; first | omega | decide)) ?_
  rintro _ w3 ⟨rfl, v3, wr3, f3, n3⟩
  have bx3 := bx2.fx f3 (wr2.apart bx2 (by decide) (by decide))
  have l3 := f3.size
  refine ⟨_, rfl, ?_⟩
  refine WL.done ?_
  have fa2 := f2
  have na2 := n2
  obtain ⟨fa3, na3⟩ := wr_trans fa2 na2 f3 n3
  exact EW.falls Try.results30 ⟨rfl, v3, by simpa [helB] using wr3, wr_after (b := b) e1 fa3 na3⟩
end Go.Proofs.Ytacimelcmkhhlaa
