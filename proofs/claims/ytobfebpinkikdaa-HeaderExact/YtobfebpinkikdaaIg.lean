import Derived.Test.YtobfebpinkikdaaIf
set_option linter.unusedVariables false
set_option linter.unusedSimpArgs false
namespace Go.Proofs.Ytobfebpinkikdaa
open Go.RowKit

set_option maxRecDepth 100000 in
set_option maxHeartbeats 4000000 in
theorem offr_any (o : Of) (ko : o.ok) (w : World) : Calls Try.prog 41 #[o.v] w fun e w' => ∃ v, e = .returned v ∧ Ob w' w.heap.size v (offB o) ∧ Below w.heap.size w w' := by
  obtain ⟨w1, q1, r1, bx1, e1, hq1⟩ := box_any 42 o.cs w
  refine calls_of_args [o.v] Try.func41 rfl 14 Try.ntmps41 (by show 1 ≤ 14; decide) ?_
  refine EW.seq ?_
  refine EW.region ?_
  refine WL.box rfl rfl rfl r1 ?_
  first | refine WL.assign rfl rfl rfl ?_
  refine WL.done ?_
  refine EW.on ?_
  refine EW.seq ?_
  refine EW.az (SQ (fun W => Below w1.heap.size w1 W)) (levZ [(0, 1, 1), (6, 1, 1), (9, 1, 1), (10, 1, 1)]) (fun W => Below w1.heap.size w1 W) 12 (by kernel_rfl) rfl (below_drawn w1) ?_
  refine AZ.seg [(1, 0, 0), (2, 0, 0), (3, 0, 0), (4, 0, 1), (5, 0, 1), (7, 0, 0), (8, 0, 0)] 5 rfl (by kernel_rfl) (sq_anti _) (by kernel_rfl) ?_
  simp only [opsZ, List.getD_cons_zero, List.getD_cons_succ]
  refine ZE.field rfl rfl rfl rfl sq0 (fun W => f42_0 q1 0 W) ?_
  refine ZE.slice0 rfl rfl rfl rfl sq0 (fun W => sl23 q1 _ W) ?_
  refine ZE.field rfl rfl rfl rfl sq0 (fun W => f42_1 q1 0 W) ?_
  refine ZE.load rfl rfl rfl rfl (fun W hW => .inr hW) (fun W hW => ldOfP (bx1.on (sq_of hW)) ko) ?_
  refine ZE.conv rfl rfl rfl rfl (fun W hW => .inr hW) (fun W hW => conv_u3 ko.p W) ?_
  refine ZE.field rfl rfl rfl rfl sq0 (fun W => f42_2 q1 0 W) ?_
  refine ZE.slice0 rfl rfl rfl rfl sq0 (fun W => sl23 q1 _ W) ?_
  refine AZ.two 4 0 1 6 1 rfl (by kernel_rfl) ?_ ?_
  · simp only [List.getD_cons_zero, List.getD_cons_succ]
    refine ZE.bsl [(0, byt 1), (1, byt 3)] (fun v W => Has W v [1, 3] ∧ Below w1.heap.size w1 W) rfl rfl rfl (fun _ _ h => .inr h.2) (fun W hW => ⟨_, _, bsl22_2 1 3 W, Has.new (Blk.new _ _ _) 2 (Nat.le_refl _), hW.trans ((below_new _ _).mono hW.size)⟩) ?_
    rintro v0 ⟨_, g0, _⟩
    refine AZ.seg [(6, 1, 1), (9, 1, 1), (10, 1, 1), (11, 0, 0)] 0 rfl (by kernel_rfl) (sq_anti _) (by kernel_rfl) ?_
    simp only [opsZ, List.getD_cons_zero, List.getD_cons_succ]
    refine ZE.callR [.int .i64 (o.pre : Int), .int .i64 4] (fun u W => Has W v0 [1, 3] ∧ Ob W w1.heap.size u (be32 o.pre) ∧ Below w1.heap.size w1 W) enter56 rfl rfl rfl (fun _ _ h => .inr h.2.2) (fun W hW => (be_any o.pre ko.p W).mono fun e w' ⟨u, g1, g2, g3⟩ => ⟨u, g1, hW.1.below g3, g2.lower hW.2.size, hW.2.trans (g3.mono hW.2.size)⟩) ?_
    rintro vn ⟨_, _, gn, _⟩
    refine ZE.bsl [(0, v0), (1, .slice (some ⟨q1, 0, none⟩) 32 32), (2, vn), (3, .slice (some ⟨q1, 33, none⟩) 32 32)] (fun v W' => ∃ W, (Has W v0 [1, 3] ∧ Ob W w1.heap.size vn (be32 o.pre) ∧ Below w1.heap.size w1 W) ∧ v = .slice (some ⟨W.heap.size, 0, none⟩) 4 4 ∧ W' = W.alloc (.cells [v0, .slice (some ⟨q1, 0, none⟩) 32 32, vn, .slice (some ⟨q1, 33, none⟩) 32 32].toArray 31)) rfl rfl rfl (fun v W' ⟨W, h, _, e⟩ => .inr (by rw [e]; exact h.2.2.trans ((below_new _ _).mono h.2.2.size))) (fun W hW => ⟨_, _, bsl55_4 _ _ _ _ g0.sl ⟨_, _, _, rfl⟩ gn.has.sl ⟨_, _, _, rfl⟩ W, W, hW, rfl, rfl⟩) ?_
    rintro vj ⟨_, Wq, hWq, rfl, _⟩
    refine ZE.callR [.slice (some ⟨Wq.heap.size, 0, none⟩) 4 4] (fun u W => Ob W w1.heap.size u (offB o) ∧ Below w1.heap.size w1 W) enter55 rfl rfl rfl (fun _ _ h => .inr h.2) ?_ ?_
    · rintro _ ⟨W, hW, hv, rfl⟩
      have hs : W.heap.size = Wq.heap.size := by
        simp only [Value.slice.injEq, Option.some.injEq, Addr.mk.injEq, and_true, true_and] at hv
        exact hv.symm
      have hbW := bx1.on hW.2.2
      rw [← hs]
      refine (joined_at [(v0, [1, 3]), (.slice (some ⟨q1, 0, none⟩) 32 32, o.id), (vn, be32 o.pre), (.slice (some ⟨q1, 33, none⟩) 32 32, o.key)] W (fun p hp => ?_) (by show 4 ≤ 1000; decide) (by simp [flatB, be32_len, ko.i, ko.k]) 4 rfl _ rfl).mono ?_
      · simp only [List.mem_cons, List.not_mem_nil, or_false] at hp
        rcases hp with rfl | rfl | rfl | rfl
        · exact hW.1
        · exact (ofHas hbW ko).1
        · exact hW.2.1.has
        · exact (ofHas hbW ko).2
      · rintro e W2 ⟨u, rfl, g1, g2⟩
        rw [show flatB [(v0, [1, 3]), (.slice (some ⟨q1, 0, none⟩) 32 32, o.id), (vn, be32 o.pre), (.slice (some ⟨q1, 33, none⟩) 32 32, o.key)] = offB o from by simp [flatB, offB]] at g1
        exact ⟨u, rfl, g1.lower hW.2.2.size, hW.2.2.trans (g2.mono hW.2.2.size)⟩
    rintro vr ⟨_, _⟩
    first | refine ZE.assign rfl rfl rfl rfl sq0 ?_
    refine AZ.done (by kernel_rfl) ?_
    rintro w2 ⟨o2, e2⟩
    refine EW.on ?_
    refine EW.ret ?_
    exact EW.returns Try.results41 rfl ⟨vr, rfl, o2.lower e1.size, e1.trans (e2.mono e1.size)⟩
  · simp only [List.getD_cons_zero, List.getD_cons_succ]
    refine ZE.callR [.int .i64 (o.pre : Int), .int .i64 4] (fun u W => Ob W w1.heap.size u (be32 o.pre) ∧ Below w1.heap.size w1 W) enter56 rfl rfl rfl (fun _ _ h => .inr h.2) (fun W hW => (be_any o.pre ko.p W).mono fun e w' ⟨u, g1, g2, g3⟩ => ⟨u, g1, g2.lower hW.size, hW.trans (g3.mono hW.size)⟩) ?_
    rintro vn ⟨_, _, _⟩
    refine AZ.seg [(0, 1, 1), (9, 1, 1), (10, 1, 1), (11, 0, 0)] 0 rfl (by kernel_rfl) (sq_anti _) (by kernel_rfl) ?_
    simp only [opsZ, List.getD_cons_zero, List.getD_cons_succ]
    refine ZE.bsl [(0, byt 1), (1, byt 3)] (fun v W => Has W v [1, 3] ∧ Ob W w1.heap.size vn (be32 o.pre) ∧ Below w1.heap.size w1 W) rfl rfl rfl (fun _ _ h => .inr h.2.2) (fun W hW => ⟨_, _, bsl22_2 1 3 W, Has.new (Blk.new _ _ _) 2 (Nat.le_refl _), hW.1.below (below_new _ _), hW.2.trans ((below_new _ _).mono hW.2.size)⟩) ?_
    rintro v0 ⟨_, g0, gn, _⟩
    refine ZE.bsl [(0, v0), (1, .slice (some ⟨q1, 0, none⟩) 32 32), (2, vn), (3, .slice (some ⟨q1, 33, none⟩) 32 32)] (fun v W' => ∃ W, (Has W v0 [1, 3] ∧ Ob W w1.heap.size vn (be32 o.pre) ∧ Below w1.heap.size w1 W) ∧ v = .slice (some ⟨W.heap.size, 0, none⟩) 4 4 ∧ W' = W.alloc (.cells [v0, .slice (some ⟨q1, 0, none⟩) 32 32, vn, .slice (some ⟨q1, 33, none⟩) 32 32].toArray 31)) rfl rfl rfl (fun v W' ⟨W, h, _, e⟩ => .inr (by rw [e]; exact h.2.2.trans ((below_new _ _).mono h.2.2.size))) (fun W hW => ⟨_, _, bsl55_4 _ _ _ _ g0.sl ⟨_, _, _, rfl⟩ gn.has.sl ⟨_, _, _, rfl⟩ W, W, hW, rfl, rfl⟩) ?_
    rintro vj ⟨_, Wq, hWq, rfl, _⟩
    refine ZE.callR [.slice (some ⟨Wq.heap.size, 0, none⟩) 4 4] (fun u W => Ob W w1.heap.size u (offB o) ∧ Below w1.heap.size w1 W) enter55 rfl rfl rfl (fun _ _ h => .inr h.2) ?_ ?_
    · rintro _ ⟨W, hW, hv, rfl⟩
      have hs : W.heap.size = Wq.heap.size := by
        simp only [Value.slice.injEq, Option.some.injEq, Addr.mk.injEq, and_true, true_and] at hv
        exact hv.symm
      have hbW := bx1.on hW.2.2
      rw [← hs]
      refine (joined_at [(v0, [1, 3]), (.slice (some ⟨q1, 0, none⟩) 32 32, o.id), (vn, be32 o.pre), (.slice (some ⟨q1, 33, none⟩) 32 32, o.key)] W (fun p hp => ?_) (by show 4 ≤ 1000; decide) (by simp [flatB, be32_len, ko.i, ko.k]) 4 rfl _ rfl).mono ?_
      · simp only [List.mem_cons, List.not_mem_nil, or_false] at hp
        rcases hp with rfl | rfl | rfl | rfl
        · exact hW.1
        · exact (ofHas hbW ko).1
        · exact hW.2.1.has
        · exact (ofHas hbW ko).2
      · rintro e W2 ⟨u, rfl, g1, g2⟩
        rw [show flatB [(v0, [1, 3]), (.slice (some ⟨q1, 0, none⟩) 32 32, o.id), (vn, be32 o.pre), (.slice (some ⟨q1, 33, none⟩) 32 32, o.key)] = offB o from by simp [flatB, offB]] at g1
        exact ⟨u, rfl, g1.lower hW.2.2.size, hW.2.2.trans (g2.mono hW.2.2.size)⟩
    rintro vr ⟨_, _⟩
    first | refine ZE.assign rfl rfl rfl rfl sq0 ?_
    refine AZ.done (by kernel_rfl) ?_
    rintro w2 ⟨o2, e2⟩
    refine EW.on ?_
    refine EW.ret ?_
    exact EW.returns Try.results41 rfl ⟨vr, rfl, o2.lower e1.size, e1.trans (e2.mono e1.size)⟩
theorem pkHas {w : World} {q1 : Nat} {p : Pk} {t : TypeId} (bx : Blk w q1 p.cs t) (kp : p.ok) : Has w (.slice (some ⟨q1, 1, none⟩) 32 32) p.hl.id ∧ Has w (.slice (some ⟨q1, 33, none⟩) 32 32) p.hl.once := by
  constructor
  · have := bx.has (a := [.int .i64 p.k]) (K := p.hl.id) (b := p.hl.once.map byt ++ ([u32v p.hl.pre] ++ (p.hd.cs ++ [p.bv]))) (o := 1) (by simp [Pk.cs, Hl.cs]) rfl 32 (by rw [kp.l.i]; exact Nat.le_refl _)
    rw [kp.l.i] at this
    exact this
  · have := bx.has (a := [.int .i64 p.k] ++ p.hl.id.map byt) (K := p.hl.once) (b := [u32v p.hl.pre] ++ (p.hd.cs ++ [p.bv])) (o := 33) (by simp [Pk.cs, Hl.cs]) (by simp [kp.l.i]) 32 (by rw [kp.l.o]; exact Nat.le_refl _)
    rw [kp.l.o] at this
    exact this
theorem ldPkP {w : World} {q : Nat} {p : Pk} {t : TypeId} (bx : Blk w q p.cs t) (kp : p.ok) : (Instr.loadAt 24 (.pointer (some ⟨q, 65, none⟩))).run Try.prog w = .ok (u32v p.hl.pre) w := bx.ldU (n := p.hl.pre) (a := [.int .i64 p.k] ++ (p.hl.id.map byt ++ p.hl.once.map byt)) (b := p.hd.cs ++ [p.bv]) (by simp [Pk.cs, Hl.cs]) (by simp [kp.l.i, kp.l.o])
theorem ne_dec (a b : Int) : decide (a ≠ b) = decide (¬ a = b) := rfl
set_option maxRecDepth 100000 in
set_option maxHeartbeats 4000000 in
theorem packr_1s (p : Pk) (kp : p.ok) (body : List UInt8) (w : World) (hy : Has w p.bv body) (hk : p.k = 1) (hs : decide (suitD 1 p.hl) = false) : Calls Try.prog 39 #[p.v] w fun e w' => e = .returned (.tuple #[.slice none 0 0, .int .i64 141]) ∧ Below w.heap.size w w' := by
  obtain ⟨w1, q1, r1, bx1, e1, hq1⟩ := box_any 33 p.cs w
  have hy1 := hy.below e1
  refine calls_of_args [p.v] Try.func39 rfl 64 Try.ntmps39 (by show 1 ≤ 64; decide) ?_
  refine EW.seq ?_
  refine EW.region ?_
  refine WL.box rfl rfl rfl r1 ?_
  first | refine WL.assign rfl rfl rfl ?_
  first | refine WL.assign rfl rfl rfl ?_
  refine WL.done ?_
  refine EW.on ?_
  refine EW.seq ?_
  refine EW.block ?_
  refine EW.seq ?_
  refine EW.region ?_
  first | refine WL.field rfl rfl rfl (f33_0 q1 0 _) ?_ | refine WL.skip _ rfl rfl rfl ?_
  first | refine WL.load rfl rfl rfl (ldPkK bx1) ?_ | refine WL.skip _ rfl rfl rfl ?_
  try rw [hk]
  first | refine WL.bin rfl rfl rfl rfl (int_ne_f rfl _ _ _) ?_ | refine WL.bin rfl rfl rfl rfl (int_ne_t (by decide) _ _ _) ?_ | refine WL.skip _ rfl rfl rfl ?_
  first | refine WL.move rfl rfl rfl ?_
  first | refine WL.field rfl rfl rfl (f33_0 q1 0 _) ?_ | refine WL.skip _ rfl rfl rfl ?_
  first | refine WL.load rfl rfl rfl (ldPkK bx1) ?_ | refine WL.skip _ rfl rfl rfl ?_
  try rw [hk]
  first | refine WL.bin rfl rfl rfl rfl (int_ne_f rfl _ _ _) ?_ | refine WL.bin rfl rfl rfl rfl (int_ne_t (by decide) _ _ _) ?_ | refine WL.skip _ rfl rfl rfl ?_
  first | refine WL.pick rfl rfl rfl rfl ?_
  first | refine WL.assign rfl rfl rfl ?_
  refine WL.done ?_
  refine EW.on ?_
  refine EW.cond_f rfl ?_
  refine EW.seq ?_
  refine EW.region ?_
  first | refine WL.field rfl rfl rfl (f33_0 q1 0 _) ?_ | refine WL.skip _ rfl rfl rfl ?_
  first | refine WL.load rfl rfl rfl (ldPkK bx1) ?_ | refine WL.skip _ rfl rfl rfl ?_
  try rw [hk]
  first | refine WL.field rfl rfl rfl (f33_1 q1 0 _) ?_ | refine WL.skip _ rfl rfl rfl ?_
  first | refine WL.load rfl rfl rfl (ldPkL bx1 kp) ?_ | refine WL.skip _ rfl rfl rfl ?_
  refine WL.call [.int .i64 1, p.hl.v] enter57 rfl rfl rfl (hellos_any _ p.hl kp.l _) ?_
  rintro _ w2 ⟨rfl, be2⟩
  rw [hs]
  have bx2 := bx1.on be2
  have hy2 := hy1.below be2
  have sb2 := e1.trans (be2.mono e1.size)
  refine ⟨_, rfl, ?_⟩
  refine WL.un rfl rfl rfl (not_t _ _) ?_
  first | refine WL.assign rfl rfl rfl ?_
  refine WL.done ?_
  refine EW.on ?_
  refine EW.cond_t rfl ?_
  refine EW.seq ?_
  refine EW.region ?_
  first | refine WL.assign rfl rfl rfl ?_
  first | refine WL.assign rfl rfl rfl ?_
  refine WL.done ?_
  refine EW.on ?_
  refine EW.ret ?_
  refine pr_block ?_
  refine pr_then ?_
  exact EW.returns2 Try.results39 rfl rfl ⟨rfl, sb2⟩
set_option maxRecDepth 100000 in
set_option maxHeartbeats 4000000 in
theorem packr_1l (p : Pk) (kp : p.ok) (body : List UInt8) (w : World) (hy : Has w p.bv body) (hk : p.k = 1) (hs : decide (suitD 1 p.hl) = true) (hb : (body.length : Int) < 32) : Calls Try.prog 39 #[p.v] w fun e w' => e = .returned (.tuple #[.slice none 0 0, .int .i64 10]) ∧ Below w.heap.size w w' := by
  obtain ⟨w1, q1, r1, bx1, e1, hq1⟩ := box_any 33 p.cs w
  have hy1 := hy.below e1
  refine calls_of_args [p.v] Try.func39 rfl 64 Try.ntmps39 (by show 1 ≤ 64; decide) ?_
  refine EW.seq ?_
  refine EW.region ?_
  refine WL.box rfl rfl rfl r1 ?_
  first | refine WL.assign rfl rfl rfl ?_
  first | refine WL.assign rfl rfl rfl ?_
  refine WL.done ?_
  refine EW.on ?_
  refine EW.seq ?_
  refine EW.block ?_
  refine EW.seq ?_
  refine EW.region ?_
  first | refine WL.field rfl rfl rfl (f33_0 q1 0 _) ?_ | refine WL.skip _ rfl rfl rfl ?_
  first | refine WL.load rfl rfl rfl (ldPkK bx1) ?_ | refine WL.skip _ rfl rfl rfl ?_
  try rw [hk]
  first | refine WL.bin rfl rfl rfl rfl (int_ne_f rfl _ _ _) ?_ | refine WL.bin rfl rfl rfl rfl (int_ne_t (by decide) _ _ _) ?_ | refine WL.skip _ rfl rfl rfl ?_
  first | refine WL.move rfl rfl rfl ?_
  first | refine WL.field rfl rfl rfl (f33_0 q1 0 _) ?_ | refine WL.skip _ rfl rfl rfl ?_
  first | refine WL.load rfl rfl rfl (ldPkK bx1) ?_ | refine WL.skip _ rfl rfl rfl ?_
  try rw [hk]
  first | refine WL.bin rfl rfl rfl rfl (int_ne_f rfl _ _ _) ?_ | refine WL.bin rfl rfl rfl rfl (int_ne_t (by decide) _ _ _) ?_ | refine WL.skip _ rfl rfl rfl ?_
  first | refine WL.pick rfl rfl rfl rfl ?_
  first | refine WL.assign rfl rfl rfl ?_
  refine WL.done ?_
  refine EW.on ?_
  refine EW.cond_f rfl ?_
  refine EW.seq ?_
  refine EW.region ?_
  first | refine WL.field rfl rfl rfl (f33_0 q1 0 _) ?_ | refine WL.skip _ rfl rfl rfl ?_
  first | refine WL.load rfl rfl rfl (ldPkK bx1) ?_ | refine WL.skip _ rfl rfl rfl ?_
  try rw [hk]
  first | refine WL.field rfl rfl rfl (f33_1 q1 0 _) ?_ | refine WL.skip _ rfl rfl rfl ?_
  first | refine WL.load rfl rfl rfl (ldPkL bx1 kp) ?_ | refine WL.skip _ rfl rfl rfl ?_
  refine WL.call [.int .i64 1, p.hl.v] enter57 rfl rfl rfl (hellos_any _ p.hl kp.l _) ?_
  rintro _ w2 ⟨rfl, be2⟩
  rw [hs]
  have bx2 := bx1.on be2
  have hy2 := hy1.below be2
  have sb2 := e1.trans (be2.mono e1.size)
  refine ⟨_, rfl, ?_⟩
  refine WL.un rfl rfl rfl (not_t _ _) ?_
  first | refine WL.assign rfl rfl rfl ?_
  refine WL.done ?_
  refine EW.on ?_
  refine EW.cond_f rfl ?_
  refine EW.seq ?_
  refine EW.region ?_
  first | refine WL.field rfl rfl rfl (f33_3 q1 0 _) ?_ | refine WL.skip _ rfl rfl rfl ?_
  first | refine WL.load rfl rfl rfl (ldPkB bx2 kp) ?_ | refine WL.skip _ rfl rfl rfl ?_
  refine WL.len rfl rfl rfl (hy.len _ _) ?_
  first | refine WL.bin rfl rfl rfl rfl (int_lt_t ‹_› _ _ _) ?_ | refine WL.bin rfl rfl rfl rfl (int_lt_f ‹_› _ _ _) ?_ | refine WL.bin rfl rfl rfl rfl (int_lt_d _ _ _ _ _) ?_
  first | refine WL.assign rfl rfl rfl ?_
  refine WL.done ?_
  refine EW.on ?_
  refine EW.cond_t rfl ?_
  refine EW.seq ?_
  refine EW.region ?_
  first | refine WL.assign rfl rfl rfl ?_
  first | refine WL.assign rfl rfl rfl ?_
  refine WL.done ?_
  refine EW.on ?_
  refine EW.ret ?_
  refine pr_block ?_
  refine pr_then ?_
  exact EW.returns2 Try.results39 rfl rfl ⟨rfl, sb2⟩
set_option maxRecDepth 100000 in
set_option maxHeartbeats 4000000 in
theorem packr_1h (p : Pk) (kp : p.ok) (body : List UInt8) (w : World) (hy : Has w p.bv body) (hk : p.k = 1) (hs : decide (suitD 1 p.hl) = true) (hb : ¬ (body.length : Int) < 32) (hb2 : (544 : Int) < (body.length : Int)) : Calls Try.prog 39 #[p.v] w fun e w' => e = .returned (.tuple #[.slice none 0 0, .int .i64 5]) ∧ Below w.heap.size w w' := by
  obtain ⟨w1, q1, r1, bx1, e1, hq1⟩ := box_any 33 p.cs w
  have hy1 := hy.below e1
  refine calls_of_args [p.v] Try.func39 rfl 64 Try.ntmps39 (by show 1 ≤ 64; decide) ?_
  refine EW.seq ?_
  refine EW.region ?_
  refine WL.box rfl rfl rfl r1 ?_
  first | refine WL.assign rfl rfl rfl ?_
  first | refine WL.assign rfl rfl rfl ?_
  refine WL.done ?_
  refine EW.on ?_
  refine EW.seq ?_
  refine EW.block ?_
  refine EW.seq ?_
  refine EW.region ?_
  first | refine WL.field rfl rfl rfl (f33_0 q1 0 _) ?_ | refine WL.skip _ rfl rfl rfl ?_
  first | refine WL.load rfl rfl rfl (ldPkK bx1) ?_ | refine WL.skip _ rfl rfl rfl ?_
  try rw [hk]
  first | refine WL.bin rfl rfl rfl rfl (int_ne_f rfl _ _ _) ?_ | refine WL.bin rfl rfl rfl rfl (int_ne_t (by decide) _ _ _) ?_ | refine WL.skip _ rfl rfl rfl ?_
  first | refine WL.move rfl rfl rfl ?_
  first | refine WL.field rfl rfl rfl (f33_0 q1 0 _) ?_ | refine WL.skip _ rfl rfl rfl ?_
  first | refine WL.load rfl rfl rfl (ldPkK bx1) ?_ | refine WL.skip _ rfl rfl rfl ?_
  try rw [hk]
  first | refine WL.bin rfl rfl rfl rfl (int_ne_f rfl _ _ _) ?_ | refine WL.bin rfl rfl rfl rfl (int_ne_t (by decide) _ _ _) ?_ | refine WL.skip _ rfl rfl rfl ?_
  first | refine WL.pick rfl rfl rfl rfl ?_
  first | refine WL.assign rfl rfl rfl ?_
  refine WL.done ?_
  refine EW.on ?_
  refine EW.cond_f rfl ?_
  refine EW.seq ?_
  refine EW.region ?_
  first | refine WL.field rfl rfl rfl (f33_0 q1 0 _) ?_ | refine WL.skip _ rfl rfl rfl ?_
  first | refine WL.load rfl rfl rfl (ldPkK bx1) ?_ | refine WL.skip _ rfl rfl rfl ?_
  try rw [hk]
  first | refine WL.field rfl rfl rfl (f33_1 q1 0 _) ?_ | refine WL.skip _ rfl rfl rfl ?_
  first | refine WL.load rfl rfl rfl (ldPkL bx1 kp) ?_ | refine WL.skip _ rfl rfl rfl ?_
  refine WL.call [.int .i64 1, p.hl.v] enter57 rfl rfl rfl (hellos_any _ p.hl kp.l _) ?_
  rintro _ w2 ⟨rfl, be2⟩
  rw [hs]
  have bx2 := bx1.on be2
  have hy2 := hy1.below be2
  have sb2 := e1.trans (be2.mono e1.size)
  refine ⟨_, rfl, ?_⟩
  refine WL.un rfl rfl rfl (not_t _ _) ?_
  first | refine WL.assign rfl rfl rfl ?_
  refine WL.done ?_
  refine EW.on ?_
  refine EW.cond_f rfl ?_
  refine EW.seq ?_
  refine EW.region ?_
  first | refine WL.field rfl rfl rfl (f33_3 q1 0 _) ?_ | refine WL.skip _ rfl rfl rfl ?_
  first | refine WL.load rfl rfl rfl (ldPkB bx2 kp) ?_ | refine WL.skip _ rfl rfl rfl ?_
  refine WL.len rfl rfl rfl (hy.len _ _) ?_
  first | refine WL.bin rfl rfl rfl rfl (int_lt_t ‹_› _ _ _) ?_ | refine WL.bin rfl rfl rfl rfl (int_lt_f ‹_› _ _ _) ?_ | refine WL.bin rfl rfl rfl rfl (int_lt_d _ _ _ _ _) ?_
  first | refine WL.assign rfl rfl rfl ?_
  refine WL.done ?_
  refine EW.on ?_
  refine EW.cond_f rfl ?_
  refine EW.seq ?_
  refine EW.region ?_
  first | refine WL.field rfl rfl rfl (f33_3 q1 0 _) ?_ | refine WL.skip _ rfl rfl rfl ?_
  first | refine WL.load rfl rfl rfl (ldPkB bx2 kp) ?_ | refine WL.skip _ rfl rfl rfl ?_
  refine WL.len rfl rfl rfl (hy.len _ _) ?_
  first | refine WL.bin rfl rfl rfl rfl (int_gt_t ‹_› _ _ _) ?_ | refine WL.bin rfl rfl rfl rfl (int_gt_f ‹_› _ _ _) ?_ | refine WL.bin rfl rfl rfl rfl (int_gt_d _ _ _ _ _) ?_
  first | refine WL.assign rfl rfl rfl ?_
  refine WL.done ?_
  refine EW.on ?_
  refine EW.cond_t rfl ?_
  refine EW.seq ?_
  refine EW.region ?_
  first | refine WL.assign rfl rfl rfl ?_
  first | refine WL.assign rfl rfl rfl ?_
  refine WL.done ?_
  refine EW.on ?_
  refine EW.ret ?_
  refine pr_block ?_
  refine pr_then ?_
  exact EW.returns2 Try.results39 rfl rfl ⟨rfl, sb2⟩
set_option maxRecDepth 100000 in
set_option maxHeartbeats 4000000 in
theorem packr_1o (p : Pk) (kp : p.ok) (body : List UInt8) (w : World) (hy : Has w p.bv body) (hk : p.k = 1) (hs : decide (suitD 1 p.hl) = true) (hb : ¬ (body.length : Int) < 32) (hb2 : ¬ (544 : Int) < (body.length : Int)) : Calls Try.prog 39 #[p.v] w fun e w' => ∃ v, e = .returned (.tuple #[v, .int .i64 0]) ∧ Ob w' w.heap.size v (packB 1 p.hl p.hd body) ∧ Below w.heap.size w w' := by
  obtain ⟨w1, q1, r1, bx1, e1, hq1⟩ := box_any 33 p.cs w
  have hy1 := hy.below e1
  refine calls_of_args [p.v] Try.func39 rfl 64 Try.ntmps39 (by show 1 ≤ 64; decide) ?_
  refine EW.seq ?_
  refine EW.region ?_
  refine WL.box rfl rfl rfl r1 ?_
  first | refine WL.assign rfl rfl rfl ?_
  first | refine WL.assign rfl rfl rfl ?_
  refine WL.done ?_
  refine EW.on ?_
  refine EW.seq ?_
  refine EW.block ?_
  refine EW.seq ?_
  refine EW.region ?_
  first | refine WL.field rfl rfl rfl (f33_0 q1 0 _) ?_ | refine WL.skip _ rfl rfl rfl ?_
  first | refine WL.load rfl rfl rfl (ldPkK bx1) ?_ | refine WL.skip _ rfl rfl rfl ?_
  try rw [hk]
  first | refine WL.bin rfl rfl rfl rfl (int_ne_f rfl _ _ _) ?_ | refine WL.bin rfl rfl rfl rfl (int_ne_t (by decide) _ _ _) ?_ | refine WL.skip _ rfl rfl rfl ?_
  first | refine WL.move rfl rfl rfl ?_
  first | refine WL.field rfl rfl rfl (f33_0 q1 0 _) ?_ | refine WL.skip _ rfl rfl rfl ?_
  first | refine WL.load rfl rfl rfl (ldPkK bx1) ?_ | refine WL.skip _ rfl rfl rfl ?_
  try rw [hk]
  first | refine WL.bin rfl rfl rfl rfl (int_ne_f rfl _ _ _) ?_ | refine WL.bin rfl rfl rfl rfl (int_ne_t (by decide) _ _ _) ?_ | refine WL.skip _ rfl rfl rfl ?_
  first | refine WL.pick rfl rfl rfl rfl ?_
  first | refine WL.assign rfl rfl rfl ?_
  refine WL.done ?_
  refine EW.on ?_
  refine EW.cond_f rfl ?_
  refine EW.seq ?_
  refine EW.region ?_
  first | refine WL.field rfl rfl rfl (f33_0 q1 0 _) ?_ | refine WL.skip _ rfl rfl rfl ?_
  first | refine WL.load rfl rfl rfl (ldPkK bx1) ?_ | refine WL.skip _ rfl rfl rfl ?_
  try rw [hk]
  first | refine WL.field rfl rfl rfl (f33_1 q1 0 _) ?_ | refine WL.skip _ rfl rfl rfl ?_
  first | refine WL.load rfl rfl rfl (ldPkL bx1 kp) ?_ | refine WL.skip _ rfl rfl rfl ?_
  refine WL.call [.int .i64 1, p.hl.v] enter57 rfl rfl rfl (hellos_any _ p.hl kp.l _) ?_
  rintro _ w2 ⟨rfl, be2⟩
  rw [hs]
  have bx2 := bx1.on be2
  have hy2 := hy1.below be2
  have sb2 := e1.trans (be2.mono e1.size)
  refine ⟨_, rfl, ?_⟩
  refine WL.un rfl rfl rfl (not_t _ _) ?_
  first | refine WL.assign rfl rfl rfl ?_
  refine WL.done ?_
  refine EW.on ?_
  refine EW.cond_f rfl ?_
  refine EW.seq ?_
  refine EW.region ?_
  first | refine WL.field rfl rfl rfl (f33_3 q1 0 _) ?_ | refine WL.skip _ rfl rfl rfl ?_
  first | refine WL.load rfl rfl rfl (ldPkB bx2 kp) ?_ | refine WL.skip _ rfl rfl rfl ?_
  refine WL.len rfl rfl rfl (hy.len _ _) ?_
  first | refine WL.bin rfl rfl rfl rfl (int_lt_t ‹_› _ _ _) ?_ | refine WL.bin rfl rfl rfl rfl (int_lt_f ‹_› _ _ _) ?_ | refine WL.bin rfl rfl rfl rfl (int_lt_d _ _ _ _ _) ?_
  first | refine WL.assign rfl rfl rfl ?_
  refine WL.done ?_
  refine EW.on ?_
  refine EW.cond_f rfl ?_
  refine EW.seq ?_
  refine EW.region ?_
  first | refine WL.field rfl rfl rfl (f33_3 q1 0 _) ?_ | refine WL.skip _ rfl rfl rfl ?_
  first | refine WL.load rfl rfl rfl (ldPkB bx2 kp) ?_ | refine WL.skip _ rfl rfl rfl ?_
  refine WL.len rfl rfl rfl (hy.len _ _) ?_
  first | refine WL.bin rfl rfl rfl rfl (int_gt_t ‹_› _ _ _) ?_ | refine WL.bin rfl rfl rfl rfl (int_gt_f ‹_› _ _ _) ?_ | refine WL.bin rfl rfl rfl rfl (int_gt_d _ _ _ _ _) ?_
  first | refine WL.assign rfl rfl rfl ?_
  refine WL.done ?_
  refine EW.on ?_
  refine EW.cond_f rfl ?_
  refine EW.skip ?_
  refine pn_block ?_
  refine EW.on ?_
  refine EW.seq ?_
  refine EW.region ?_
  first | refine WL.field rfl rfl rfl (f33_0 q1 0 _) ?_ | refine WL.skip _ rfl rfl rfl ?_
  first | refine WL.load rfl rfl rfl (ldPkK bx2) ?_ | refine WL.skip _ rfl rfl rfl ?_
  try rw [hk]
  refine WL.conv rfl rfl rfl (conv_b (x := 1) (by decide) _) ?_
  refine WL.bslN [(0, byt 1), (1, byt (UInt8.ofNat 1))] rfl rfl rfl (bsl22_2 _ _ _) ?_
  have e3 := below_new w2 (.cells ([1, UInt8.ofNat 1].map byt).toArray 5)
  have ht3 : Has (w2.alloc (.cells ([1, UInt8.ofNat 1].map byt).toArray 5)) (.slice (some ⟨w2.heap.size, 0, none⟩) 2 2) [1, UInt8.ofNat 1] := Has.new (Blk.new _ _ _) 2 (Nat.le_refl _)
  obtain ⟨w3, hw3⟩ : ∃ w3, w2.alloc (.cells (([1, UInt8.ofNat 1] : List UInt8).map byt).toArray 5) = w3 := ⟨_, rfl⟩
  rw [hw3] at e3 ht3 ⊢
  have bx3 := bx2.on e3
  have hy3 := hy2.below e3
  have sb3 := sb2.trans (e3.mono sb2.size)
  first | refine WL.assign rfl rfl rfl ?_
  refine WL.done ?_
  refine EW.on ?_
  refine EW.seq ?_
  refine EW.seq ?_
  refine EW.region ?_
  first | refine WL.field rfl rfl rfl (f33_0 q1 0 _) ?_ | refine WL.skip _ rfl rfl rfl ?_
  first | refine WL.load rfl rfl rfl (ldPkK bx3) ?_ | refine WL.skip _ rfl rfl rfl ?_
  try rw [hk]
  first | refine WL.bin rfl rfl rfl rfl (int_eq_t rfl _ _ _) ?_ | refine WL.bin rfl rfl rfl rfl (int_eq_t ‹_› _ _ _) ?_ | refine WL.bin rfl rfl rfl rfl (int_eq_f ‹_› _ _ _) ?_ | refine WL.bin rfl rfl rfl rfl (int_eq_d _ _ _ _ _) ?_
  refine WL.done ?_
  refine EW.on ?_
  refine EW.cond_t rfl ?_
  refine EW.ordB [(0, 0, 0), (1, 0, 0), (2, 0, 0), (3, 0, 0), (4, 0, 0), (5, 0, 0), (6, 0, 0), (7, 0, 0), (8, 0, 0), (9, 0, 1), (10, 0, 1), (11, 1, 1), (12, 1, 1), (13, 1, 1), (14, 0, 0)] (by kernel_rfl) rfl (by kernel_rfl) ?_
  simp only [opsZ, List.getD_cons_zero, List.getD_cons_succ]
  first | refine ZE.move rfl rfl rfl rfl sz0 ?_
  refine ZE.field rfl rfl rfl rfl sz0 (fun W => f33_1 q1 _ W) ?_
  refine ZE.field rfl rfl rfl rfl sz0 (fun W => f26_0 q1 _ W) ?_
  refine ZE.slice0 rfl rfl rfl rfl sz0 (fun W => sl23 q1 _ W) ?_
  refine ZE.field rfl rfl rfl rfl sz0 (fun W => f33_1 q1 _ W) ?_
  refine ZE.field rfl rfl rfl rfl sz0 (fun W => f26_1 q1 _ W) ?_
  refine ZE.slice0 rfl rfl rfl rfl sz0 (fun W => sl23 q1 _ W) ?_
  refine ZE.field rfl rfl rfl rfl sz0 (fun W => f33_1 q1 _ W) ?_
  refine ZE.field rfl rfl rfl rfl sz0 (fun W => f26_2 q1 _ W) ?_
  refine ZE.load rfl rfl rfl rfl sz1 (fun W hW => ldPkP (bx3.on (sb_of hW)) kp) ?_
  refine ZE.conv rfl rfl rfl rfl sz1 (fun W hW => conv_u3 kp.l.p W) ?_
  refine ZE.callR [.int .i64 (p.hl.pre : Int), .int .i64 4] (fun u W => Ob W w3.heap.size u (be32 p.hl.pre) ∧ Below w3.heap.size w3 W) enter56 rfl rfl rfl (fun _ _ h => .inr h.2) (fun W hW => (be_any p.hl.pre kp.l.p W).mono fun e w' ⟨u, g1, g2, g3⟩ => ⟨u, g1, g2.lower hW.size, hW.trans (g3.mono hW.size)⟩) ?_
  rintro vn ⟨_, gn, _⟩
  refine ZE.bsl [(0, (.slice (some ⟨w2.heap.size, 0, none⟩) 2 2)), (1, .slice (some ⟨q1, 1, none⟩) 32 32), (2, .slice (some ⟨q1, 33, none⟩) 32 32), (3, vn)] (fun v W' => ∃ W, (Ob W w3.heap.size vn (be32 p.hl.pre) ∧ Below w3.heap.size w3 W) ∧ v = .slice (some ⟨W.heap.size, 0, none⟩) 4 4 ∧ W' = W.alloc (.cells [(.slice (some ⟨w2.heap.size, 0, none⟩) 2 2), .slice (some ⟨q1, 1, none⟩) 32 32, .slice (some ⟨q1, 33, none⟩) 32 32, vn].toArray 31)) rfl rfl rfl (fun v W' ⟨W, h, _, e⟩ => .inr (by rw [e]; exact h.2.trans ((below_new _ _).mono h.2.size))) (fun W hW => ⟨_, _, bsl55_4 _ _ _ _ ht3.sl ⟨_, _, _, rfl⟩ ⟨_, _, _, rfl⟩ gn.has.sl W, W, hW, rfl, rfl⟩) ?_
  rintro vj ⟨_, Wq, hWq, rfl, _⟩
  refine ZE.callR [.slice (some ⟨Wq.heap.size, 0, none⟩) 4 4] (fun u W => Ob W w3.heap.size u ([1, UInt8.ofNat 1] ++ encL p.hl) ∧ Below w3.heap.size w3 W) enter55 rfl rfl rfl (fun _ _ h => .inr h.2) ?_ ?_
  · rintro _ ⟨W, hW, hv, rfl⟩
    have hs' : W.heap.size = Wq.heap.size := by
      simp only [Value.slice.injEq, Option.some.injEq, Addr.mk.injEq, and_true, true_and] at hv
      exact hv.symm
    have hbW := bx3.on hW.2
    rw [← hs']
    refine (joined_at [((.slice (some ⟨w2.heap.size, 0, none⟩) 2 2), [1, UInt8.ofNat 1]), (.slice (some ⟨q1, 1, none⟩) 32 32, p.hl.id), (.slice (some ⟨q1, 33, none⟩) 32 32, p.hl.once), (vn, be32 p.hl.pre)] W (fun p' hp => ?_) (by show 4 ≤ 1000; decide) (by simp [flatB, be32_len, kp.l.i, kp.l.o]) 4 rfl _ rfl).mono ?_
    · simp only [List.mem_cons, List.not_mem_nil, or_false] at hp
      rcases hp with rfl | rfl | rfl | rfl
      · exact ht3.below hW.2
      · exact (pkHas hbW kp).1
      · exact (pkHas hbW kp).2
      · exact hW.1.has
    · rintro e W2 ⟨u, rfl, g1, g2⟩
      rw [show flatB [((.slice (some ⟨w2.heap.size, 0, none⟩) 2 2), [1, UInt8.ofNat 1]), (.slice (some ⟨q1, 1, none⟩) 32 32, p.hl.id), (.slice (some ⟨q1, 33, none⟩) 32 32, p.hl.once), (vn, be32 p.hl.pre)] = ([1, UInt8.ofNat 1] ++ encL p.hl) from by simp [flatB, encL]] at g1
      exact ⟨u, rfl, g1.lower hW.2.size, hW.2.trans (g2.mono hW.2.size)⟩
  rintro vt ⟨_, _⟩
  first | refine ZE.assign rfl rfl rfl rfl sz0 ?_
  rintro w4 ⟨ot4, e4⟩
  have ht4 := ot4.has
  have bx4 := bx3.on e4
  have hy4 := hy3.below e4
  have sb4 := sb3.trans (e4.mono sb3.size)
  refine EW.on ?_
  refine EW.seq ?_
  refine EW.ordB [(0, 0, 0), (1, 0, 0), (2, 0, 1), (4, 0, 0), (5, 0, 1), (6, 0, 0), (8, 0, 0), (9, 0, 1), (3, 1, 1), (7, 1, 1), (10, 1, 1), (11, 1, 1), (12, 0, 0), (13, 0, 0)] (by kernel_rfl) rfl (by kernel_rfl) ?_
  simp only [opsZ, List.getD_cons_zero, List.getD_cons_succ]
  first | refine ZE.move rfl rfl rfl rfl sz0 ?_
  refine ZE.field rfl rfl rfl rfl sz0 (fun W => f33_2 q1 _ W) ?_
  refine ZE.load rfl rfl rfl rfl sz1 (fun W hW => ldPkH (bx4.on (sb_of hW)) kp) ?_
  refine ZE.field rfl rfl rfl rfl sz0 (fun W => f33_3 q1 _ W) ?_
  refine ZE.load rfl rfl rfl rfl sz1 (fun W hW => ldPkB (bx4.on (sb_of hW)) kp) ?_
  refine ZE.len rfl rfl rfl rfl sz0 (fun W => hy.len W _) ?_
  refine ZE.field rfl rfl rfl rfl sz0 (fun W => f33_3 q1 _ W) ?_
  refine ZE.load rfl rfl rfl rfl sz1 (fun W hW => ldPkB (bx4.on (sb_of hW)) kp) ?_
  refine ZE.callR [p.hd.v] (fun u W => Ob W w4.heap.size u (encH p.hd) ∧ Below w4.heap.size w4 W) enter37 rfl rfl rfl (fun _ _ h => .inr h.2) (fun W hW => (encr_any p.hd kp.d W).mono fun e w' ⟨u, g1, g2, g3⟩ => ⟨u, g1, g2.lower hW.size, hW.trans (g3.mono hW.size)⟩) ?_
  rintro vh ⟨_, _, _⟩
  refine ZE.callR [.int .i64 (body.length : Int), .int .i64 2] (fun u W => Ob W w4.heap.size u (lenB body.length) ∧ Ob W w4.heap.size vh (encH p.hd) ∧ Below w4.heap.size w4 W) enter56 rfl rfl rfl (fun _ _ h => .inr h.2.2) (fun W hW => (numr_any body.length 2 (by decide) (by omega) W).mono fun e w' ⟨u, g1, g2, g3⟩ => ⟨u, g1, (by rw [sfx2 (by omega)] at g2; exact g2.lower hW.2.size), hW.1.below g3, hW.2.trans (g3.mono hW.2.size)⟩) ?_
  rintro vn ⟨_, gn, gh, _⟩
  refine ZE.bsl [(0, vt), (1, vh), (2, vn), (3, p.bv)] (fun v W' => ∃ W, (Ob W w4.heap.size vn (lenB body.length) ∧ Ob W w4.heap.size vh (encH p.hd) ∧ Below w4.heap.size w4 W) ∧ v = .slice (some ⟨W.heap.size, 0, none⟩) 4 4 ∧ W' = W.alloc (.cells [vt, vh, vn, p.bv].toArray 31)) rfl rfl rfl (fun v W' ⟨W, h, _, e⟩ => .inr (by rw [e]; exact h.2.2.trans ((below_new _ _).mono h.2.2.size))) (fun W hW => ⟨_, _, bsl55_4 _ _ _ _ ht4.sl gh.has.sl gn.has.sl hy4.sl W, W, hW, rfl, rfl⟩) ?_
  rintro vj ⟨_, Wq, hWq, rfl, _⟩
  refine ZE.callR [.slice (some ⟨Wq.heap.size, 0, none⟩) 4 4] (fun u W => Ob W w4.heap.size u (packB 1 p.hl p.hd body) ∧ Below w4.heap.size w4 W) enter55 rfl rfl rfl (fun _ _ h => .inr h.2) ?_ ?_
  · rintro _ ⟨W, hW, hv, rfl⟩
    have hs' : W.heap.size = Wq.heap.size := by
      simp only [Value.slice.injEq, Option.some.injEq, Addr.mk.injEq, and_true, true_and] at hv
      exact hv.symm
    have hbW := bx4.on hW.2.2
    rw [← hs']
    refine (joined_at [(vt, ([1, UInt8.ofNat 1] ++ encL p.hl)), (vh, encH p.hd), (vn, lenB body.length), (p.bv, body)] W (fun p' hp => ?_) (by show 4 ≤ 1000; decide) (by simp [flatB, encH_len kp.d, encL_len kp.l, lenB]; omega) 4 rfl _ rfl).mono ?_
    · simp only [List.mem_cons, List.not_mem_nil, or_false] at hp
      rcases hp with rfl | rfl | rfl | rfl
      · exact ht4.below hW.2.2
      · exact hW.2.1.has
      · exact hW.1.has
      · exact hy4.below hW.2.2
    · rintro e W2 ⟨u, rfl, g1, g2⟩
      rw [show flatB [(vt, ([1, UInt8.ofNat 1] ++ encL p.hl)), (vh, encH p.hd), (vn, lenB body.length), (p.bv, body)] = (packB 1 p.hl p.hd body) from by simp [flatB, packB]] at g1
      exact ⟨u, rfl, g1.lower hW.2.2.size, hW.2.2.trans (g2.mono hW.2.2.size)⟩
  rintro vr ⟨_, _⟩
  first | refine ZE.assign rfl rfl rfl rfl sz0 ?_
  first | refine ZE.assign rfl rfl rfl rfl sz0 ?_
  rintro w9 ⟨o9, e9⟩
  refine EW.on ?_
  refine EW.ret ?_
  exact EW.returns2 Try.results39 rfl rfl ⟨vr, rfl, o9.lower sb4.size, sb4.trans (e9.mono sb4.size)⟩
set_option maxRecDepth 100000 in
set_option maxHeartbeats 4000000 in
theorem packr_2s (p : Pk) (kp : p.ok) (body : List UInt8) (w : World) (hy : Has w p.bv body) (hk : p.k = 2) (hs : decide (suitD 2 p.hl) = false) : Calls Try.prog 39 #[p.v] w fun e w' => e = .returned (.tuple #[.slice none 0 0, .int .i64 141]) ∧ Below w.heap.size w w' := by
  obtain ⟨w1, q1, r1, bx1, e1, hq1⟩ := box_any 33 p.cs w
  have hy1 := hy.below e1
  refine calls_of_args [p.v] Try.func39 rfl 64 Try.ntmps39 (by show 1 ≤ 64; decide) ?_
  refine EW.seq ?_
  refine EW.region ?_
  refine WL.box rfl rfl rfl r1 ?_
  first | refine WL.assign rfl rfl rfl ?_
  first | refine WL.assign rfl rfl rfl ?_
  refine WL.done ?_
  refine EW.on ?_
  refine EW.seq ?_
  refine EW.block ?_
  refine EW.seq ?_
  refine EW.region ?_
  first | refine WL.field rfl rfl rfl (f33_0 q1 0 _) ?_ | refine WL.skip _ rfl rfl rfl ?_
  first | refine WL.load rfl rfl rfl (ldPkK bx1) ?_ | refine WL.skip _ rfl rfl rfl ?_
  try rw [hk]
  first | refine WL.bin rfl rfl rfl rfl (int_ne_f rfl _ _ _) ?_ | refine WL.bin rfl rfl rfl rfl (int_ne_t (by decide) _ _ _) ?_ | refine WL.skip _ rfl rfl rfl ?_
  first | refine WL.move rfl rfl rfl ?_
  first | refine WL.field rfl rfl rfl (f33_0 q1 0 _) ?_ | refine WL.skip _ rfl rfl rfl ?_
  first | refine WL.load rfl rfl rfl (ldPkK bx1) ?_ | refine WL.skip _ rfl rfl rfl ?_
  try rw [hk]
  first | refine WL.bin rfl rfl rfl rfl (int_ne_f rfl _ _ _) ?_ | refine WL.bin rfl rfl rfl rfl (int_ne_t (by decide) _ _ _) ?_ | refine WL.skip _ rfl rfl rfl ?_
  first | refine WL.pick rfl rfl rfl rfl ?_
  first | refine WL.assign rfl rfl rfl ?_
  refine WL.done ?_
  refine EW.on ?_
  refine EW.cond_f rfl ?_
  refine EW.seq ?_
  refine EW.region ?_
  first | refine WL.field rfl rfl rfl (f33_0 q1 0 _) ?_ | refine WL.skip _ rfl rfl rfl ?_
  first | refine WL.load rfl rfl rfl (ldPkK bx1) ?_ | refine WL.skip _ rfl rfl rfl ?_
  try rw [hk]
  first | refine WL.field rfl rfl rfl (f33_1 q1 0 _) ?_ | refine WL.skip _ rfl rfl rfl ?_
  first | refine WL.load rfl rfl rfl (ldPkL bx1 kp) ?_ | refine WL.skip _ rfl rfl rfl ?_
  refine WL.call [.int .i64 2, p.hl.v] enter57 rfl rfl rfl (hellos_any _ p.hl kp.l _) ?_
  rintro _ w2 ⟨rfl, be2⟩
  rw [hs]
  have bx2 := bx1.on be2
  have hy2 := hy1.below be2
  have sb2 := e1.trans (be2.mono e1.size)
  refine ⟨_, rfl, ?_⟩
  refine WL.un rfl rfl rfl (not_t _ _) ?_
  first | refine WL.assign rfl rfl rfl ?_
  refine WL.done ?_
  refine EW.on ?_
  refine EW.cond_t rfl ?_
  refine EW.seq ?_
  refine EW.region ?_
  first | refine WL.assign rfl rfl rfl ?_
  first | refine WL.assign rfl rfl rfl ?_
  refine WL.done ?_
  refine EW.on ?_
  refine EW.ret ?_
  refine pr_block ?_
  refine pr_then ?_
  exact EW.returns2 Try.results39 rfl rfl ⟨rfl, sb2⟩
set_option maxRecDepth 100000 in
set_option maxHeartbeats 4000000 in
theorem packr_2l (p : Pk) (kp : p.ok) (body : List UInt8) (w : World) (hy : Has w p.bv body) (hk : p.k = 2) (hs : decide (suitD 2 p.hl) = true) (hb : (body.length : Int) < 32) : Calls Try.prog 39 #[p.v] w fun e w' => e = .returned (.tuple #[.slice none 0 0, .int .i64 10]) ∧ Below w.heap.size w w' := by
  obtain ⟨w1, q1, r1, bx1, e1, hq1⟩ := box_any 33 p.cs w
  have hy1 := hy.below e1
  refine calls_of_args [p.v] Try.func39 rfl 64 Try.ntmps39 (by show 1 ≤ 64; decide) ?_
  refine EW.seq ?_
  refine EW.region ?_
  refine WL.box rfl rfl rfl r1 ?_
  first | refine WL.assign rfl rfl rfl ?_
  first | refine WL.assign rfl rfl rfl ?_
  refine WL.done ?_
  refine EW.on ?_
  refine EW.seq ?_
  refine EW.block ?_
  refine EW.seq ?_
  refine EW.region ?_
  first | refine WL.field rfl rfl rfl (f33_0 q1 0 _) ?_ | refine WL.skip _ rfl rfl rfl ?_
  first | refine WL.load rfl rfl rfl (ldPkK bx1) ?_ | refine WL.skip _ rfl rfl rfl ?_
  try rw [hk]
  first | refine WL.bin rfl rfl rfl rfl (int_ne_f rfl _ _ _) ?_ | refine WL.bin rfl rfl rfl rfl (int_ne_t (by decide) _ _ _) ?_ | refine WL.skip _ rfl rfl rfl ?_
  first | refine WL.move rfl rfl rfl ?_
  first | refine WL.field rfl rfl rfl (f33_0 q1 0 _) ?_ | refine WL.skip _ rfl rfl rfl ?_
  first | refine WL.load rfl rfl rfl (ldPkK bx1) ?_ | refine WL.skip _ rfl rfl rfl ?_
  try rw [hk]
  first | refine WL.bin rfl rfl rfl rfl (int_ne_f rfl _ _ _) ?_ | refine WL.bin rfl rfl rfl rfl (int_ne_t (by decide) _ _ _) ?_ | refine WL.skip _ rfl rfl rfl ?_
  first | refine WL.pick rfl rfl rfl rfl ?_
  first | refine WL.assign rfl rfl rfl ?_
  refine WL.done ?_
  refine EW.on ?_
  refine EW.cond_f rfl ?_
  refine EW.seq ?_
  refine EW.region ?_
  first | refine WL.field rfl rfl rfl (f33_0 q1 0 _) ?_ | refine WL.skip _ rfl rfl rfl ?_
  first | refine WL.load rfl rfl rfl (ldPkK bx1) ?_ | refine WL.skip _ rfl rfl rfl ?_
  try rw [hk]
  first | refine WL.field rfl rfl rfl (f33_1 q1 0 _) ?_ | refine WL.skip _ rfl rfl rfl ?_
  first | refine WL.load rfl rfl rfl (ldPkL bx1 kp) ?_ | refine WL.skip _ rfl rfl rfl ?_
  refine WL.call [.int .i64 2, p.hl.v] enter57 rfl rfl rfl (hellos_any _ p.hl kp.l _) ?_
  rintro _ w2 ⟨rfl, be2⟩
  rw [hs]
  have bx2 := bx1.on be2
  have hy2 := hy1.below be2
  have sb2 := e1.trans (be2.mono e1.size)
  refine ⟨_, rfl, ?_⟩
  refine WL.un rfl rfl rfl (not_t _ _) ?_
  first | refine WL.assign rfl rfl rfl ?_
  refine WL.done ?_
  refine EW.on ?_
  refine EW.cond_f rfl ?_
  refine EW.seq ?_
  refine EW.region ?_
  first | refine WL.field rfl rfl rfl (f33_3 q1 0 _) ?_ | refine WL.skip _ rfl rfl rfl ?_
  first | refine WL.load rfl rfl rfl (ldPkB bx2 kp) ?_ | refine WL.skip _ rfl rfl rfl ?_
  refine WL.len rfl rfl rfl (hy.len _ _) ?_
  first | refine WL.bin rfl rfl rfl rfl (int_lt_t ‹_› _ _ _) ?_ | refine WL.bin rfl rfl rfl rfl (int_lt_f ‹_› _ _ _) ?_ | refine WL.bin rfl rfl rfl rfl (int_lt_d _ _ _ _ _) ?_
  first | refine WL.assign rfl rfl rfl ?_
  refine WL.done ?_
  refine EW.on ?_
  refine EW.cond_t rfl ?_
  refine EW.seq ?_
  refine EW.region ?_
  first | refine WL.assign rfl rfl rfl ?_
  first | refine WL.assign rfl rfl rfl ?_
  refine WL.done ?_
  refine EW.on ?_
  refine EW.ret ?_
  refine pr_block ?_
  refine pr_then ?_
  exact EW.returns2 Try.results39 rfl rfl ⟨rfl, sb2⟩
set_option maxRecDepth 100000 in
set_option maxHeartbeats 4000000 in
theorem packr_2h (p : Pk) (kp : p.ok) (body : List UInt8) (w : World) (hy : Has w p.bv body) (hk : p.k = 2) (hs : decide (suitD 2 p.hl) = true) (hb : ¬ (body.length : Int) < 32) (hb2 : (544 : Int) < (body.length : Int)) : Calls Try.prog 39 #[p.v] w fun e w' => e = .returned (.tuple #[.slice none 0 0, .int .i64 5]) ∧ Below w.heap.size w w' := by
  obtain ⟨w1, q1, r1, bx1, e1, hq1⟩ := box_any 33 p.cs w
  have hy1 := hy.below e1
  refine calls_of_args [p.v] Try.func39 rfl 64 Try.ntmps39 (by show 1 ≤ 64; decide) ?_
  refine EW.seq ?_
  refine EW.region ?_
  refine WL.box rfl rfl rfl r1 ?_
  first | refine WL.assign rfl rfl rfl ?_
  first | refine WL.assign rfl rfl rfl ?_
  refine WL.done ?_
  refine EW.on ?_
  refine EW.seq ?_
  refine EW.block ?_
  refine EW.seq ?_
  refine EW.region ?_
  first | refine WL.field rfl rfl rfl (f33_0 q1 0 _) ?_ | refine WL.skip _ rfl rfl rfl ?_
  first | refine WL.load rfl rfl rfl (ldPkK bx1) ?_ | refine WL.skip _ rfl rfl rfl ?_
  try rw [hk]
  first | refine WL.bin rfl rfl rfl rfl (int_ne_f rfl _ _ _) ?_ | refine WL.bin rfl rfl rfl rfl (int_ne_t (by decide) _ _ _) ?_ | refine WL.skip _ rfl rfl rfl ?_
  first | refine WL.move rfl rfl rfl ?_
  first | refine WL.field rfl rfl rfl (f33_0 q1 0 _) ?_ | refine WL.skip _ rfl rfl rfl ?_
  first | refine WL.load rfl rfl rfl (ldPkK bx1) ?_ | refine WL.skip _ rfl rfl rfl ?_
  try rw [hk]
  first | refine WL.bin rfl rfl rfl rfl (int_ne_f rfl _ _ _) ?_ | refine WL.bin rfl rfl rfl rfl (int_ne_t (by decide) _ _ _) ?_ | refine WL.skip _ rfl rfl rfl ?_
  first | refine WL.pick rfl rfl rfl rfl ?_
  first | refine WL.assign rfl rfl rfl ?_
  refine WL.done ?_
  refine EW.on ?_
  refine EW.cond_f rfl ?_
  refine EW.seq ?_
  refine EW.region ?_
  first | refine WL.field rfl rfl rfl (f33_0 q1 0 _) ?_ | refine WL.skip _ rfl rfl rfl ?_
  first | refine WL.load rfl rfl rfl (ldPkK bx1) ?_ | refine WL.skip _ rfl rfl rfl ?_
  try rw [hk]
  first | refine WL.field rfl rfl rfl (f33_1 q1 0 _) ?_ | refine WL.skip _ rfl rfl rfl ?_
  first | refine WL.load rfl rfl rfl (ldPkL bx1 kp) ?_ | refine WL.skip _ rfl rfl rfl ?_
  refine WL.call [.int .i64 2, p.hl.v] enter57 rfl rfl rfl (hellos_any _ p.hl kp.l _) ?_
  rintro _ w2 ⟨rfl, be2⟩
  rw [hs]
  have bx2 := bx1.on be2
  have hy2 := hy1.below be2
  have sb2 := e1.trans (be2.mono e1.size)
  refine ⟨_, rfl, ?_⟩
  refine WL.un rfl rfl rfl (not_t _ _) ?_
  first | refine WL.assign rfl rfl rfl ?_
  refine WL.done ?_
  refine EW.on ?_
  refine EW.cond_f rfl ?_
  refine EW.seq ?_
  refine EW.region ?_
  first | refine WL.field rfl rfl rfl (f33_3 q1 0 _) ?_ | refine WL.skip _ rfl rfl rfl ?_
  first | refine WL.load rfl rfl rfl (ldPkB bx2 kp) ?_ | refine WL.skip _ rfl rfl rfl ?_
  refine WL.len rfl rfl rfl (hy.len _ _) ?_
  first | refine WL.bin rfl rfl rfl rfl (int_lt_t ‹_› _ _ _) ?_ | refine WL.bin rfl rfl rfl rfl (int_lt_f ‹_› _ _ _) ?_ | refine WL.bin rfl rfl rfl rfl (int_lt_d _ _ _ _ _) ?_
  first | refine WL.assign rfl rfl rfl ?_
  refine WL.done ?_
  refine EW.on ?_
  refine EW.cond_f rfl ?_
  refine EW.seq ?_
  refine EW.region ?_
  first | refine WL.field rfl rfl rfl (f33_3 q1 0 _) ?_ | refine WL.skip _ rfl rfl rfl ?_
  first | refine WL.load rfl rfl rfl (ldPkB bx2 kp) ?_ | refine WL.skip _ rfl rfl rfl ?_
  refine WL.len rfl rfl rfl (hy.len _ _) ?_
  first | refine WL.bin rfl rfl rfl rfl (int_gt_t ‹_› _ _ _) ?_ | refine WL.bin rfl rfl rfl rfl (int_gt_f ‹_› _ _ _) ?_ | refine WL.bin rfl rfl rfl rfl (int_gt_d _ _ _ _ _) ?_
  first | refine WL.assign rfl rfl rfl ?_
  refine WL.done ?_
  refine EW.on ?_
  refine EW.cond_t rfl ?_
  refine EW.seq ?_
  refine EW.region ?_
  first | refine WL.assign rfl rfl rfl ?_
  first | refine WL.assign rfl rfl rfl ?_
  refine WL.done ?_
  refine EW.on ?_
  refine EW.ret ?_
  refine pr_block ?_
  refine pr_then ?_
  exact EW.returns2 Try.results39 rfl rfl ⟨rfl, sb2⟩
set_option maxRecDepth 100000 in
set_option maxHeartbeats 4000000 in
theorem packr_2o (p : Pk) (kp : p.ok) (body : List UInt8) (w : World) (hy : Has w p.bv body) (hk : p.k = 2) (hs : decide (suitD 2 p.hl) = true) (hb : ¬ (body.length : Int) < 32) (hb2 : ¬ (544 : Int) < (body.length : Int)) : Calls Try.prog 39 #[p.v] w fun e w' => ∃ v, e = .returned (.tuple #[v, .int .i64 0]) ∧ Ob w' w.heap.size v (packB 2 p.hl p.hd body) ∧ Below w.heap.size w w' := by
  obtain ⟨w1, q1, r1, bx1, e1, hq1⟩ := box_any 33 p.cs w
  have hy1 := hy.below e1
  refine calls_of_args [p.v] Try.func39 rfl 64 Try.ntmps39 (by show 1 ≤ 64; decide) ?_
  refine EW.seq ?_
  refine EW.region ?_
  refine WL.box rfl rfl rfl r1 ?_
  first | refine WL.assign rfl rfl rfl ?_
  first | refine WL.assign rfl rfl rfl ?_
  refine WL.done ?_
  refine EW.on ?_
  refine EW.seq ?_
  refine EW.block ?_
  refine EW.seq ?_
  refine EW.region ?_
  first | refine WL.field rfl rfl rfl (f33_0 q1 0 _) ?_ | refine WL.skip _ rfl rfl rfl ?_
  first | refine WL.load rfl rfl rfl (ldPkK bx1) ?_ | refine WL.skip _ rfl rfl rfl ?_
  try rw [hk]
  first | refine WL.bin rfl rfl rfl rfl (int_ne_f rfl _ _ _) ?_ | refine WL.bin rfl rfl rfl rfl (int_ne_t (by decide) _ _ _) ?_ | refine WL.skip _ rfl rfl rfl ?_
  first | refine WL.move rfl rfl rfl ?_
  first | refine WL.field rfl rfl rfl (f33_0 q1 0 _) ?_ | refine WL.skip _ rfl rfl rfl ?_
  first | refine WL.load rfl rfl rfl (ldPkK bx1) ?_ | refine WL.skip _ rfl rfl rfl ?_
  try rw [hk]
  first | refine WL.bin rfl rfl rfl rfl (int_ne_f rfl _ _ _) ?_ | refine WL.bin rfl rfl rfl rfl (int_ne_t (by decide) _ _ _) ?_ | refine WL.skip _ rfl rfl rfl ?_
  first | refine WL.pick rfl rfl rfl rfl ?_
  first | refine WL.assign rfl rfl rfl ?_
  refine WL.done ?_
  refine EW.on ?_
  refine EW.cond_f rfl ?_
  refine EW.seq ?_
  refine EW.region ?_
  first | refine WL.field rfl rfl rfl (f33_0 q1 0 _) ?_ | refine WL.skip _ rfl rfl rfl ?_
  first | refine WL.load rfl rfl rfl (ldPkK bx1) ?_ | refine WL.skip _ rfl rfl rfl ?_
  try rw [hk]
  first | refine WL.field rfl rfl rfl (f33_1 q1 0 _) ?_ | refine WL.skip _ rfl rfl rfl ?_
  first | refine WL.load rfl rfl rfl (ldPkL bx1 kp) ?_ | refine WL.skip _ rfl rfl rfl ?_
  refine WL.call [.int .i64 2, p.hl.v] enter57 rfl rfl rfl (hellos_any _ p.hl kp.l _) ?_
  rintro _ w2 ⟨rfl, be2⟩
  rw [hs]
  have bx2 := bx1.on be2
  have hy2 := hy1.below be2
  have sb2 := e1.trans (be2.mono e1.size)
  refine ⟨_, rfl, ?_⟩
  refine WL.un rfl rfl rfl (not_t _ _) ?_
  first | refine WL.assign rfl rfl rfl ?_
  refine WL.done ?_
  refine EW.on ?_
  refine EW.cond_f rfl ?_
  refine EW.seq ?_
  refine EW.region ?_
  first | refine WL.field rfl rfl rfl (f33_3 q1 0 _) ?_ | refine WL.skip _ rfl rfl rfl ?_
  first | refine WL.load rfl rfl rfl (ldPkB bx2 kp) ?_ | refine WL.skip _ rfl rfl rfl ?_
  refine WL.len rfl rfl rfl (hy.len _ _) ?_
  first | refine WL.bin rfl rfl rfl rfl (int_lt_t ‹_› _ _ _) ?_ | refine WL.bin rfl rfl rfl rfl (int_lt_f ‹_› _ _ _) ?_ | refine WL.bin rfl rfl rfl rfl (int_lt_d _ _ _ _ _) ?_
  first | refine WL.assign rfl rfl rfl ?_
  refine WL.done ?_
  refine EW.on ?_
  refine EW.cond_f rfl ?_
  refine EW.seq ?_
  refine EW.region ?_
  first | refine WL.field rfl rfl rfl (f33_3 q1 0 _) ?_ | refine WL.skip _ rfl rfl rfl ?_
  first | refine WL.load rfl rfl rfl (ldPkB bx2 kp) ?_ | refine WL.skip _ rfl rfl rfl ?_
  refine WL.len rfl rfl rfl (hy.len _ _) ?_
  first | refine WL.bin rfl rfl rfl rfl (int_gt_t ‹_› _ _ _) ?_ | refine WL.bin rfl rfl rfl rfl (int_gt_f ‹_› _ _ _) ?_ | refine WL.bin rfl rfl rfl rfl (int_gt_d _ _ _ _ _) ?_
  first | refine WL.assign rfl rfl rfl ?_
  refine WL.done ?_
  refine EW.on ?_
  refine EW.cond_f rfl ?_
  refine EW.skip ?_
  refine pn_block ?_
  refine EW.on ?_
  refine EW.seq ?_
  refine EW.region ?_
  first | refine WL.field rfl rfl rfl (f33_0 q1 0 _) ?_ | refine WL.skip _ rfl rfl rfl ?_
  first | refine WL.load rfl rfl rfl (ldPkK bx2) ?_ | refine WL.skip _ rfl rfl rfl ?_
  try rw [hk]
  refine WL.conv rfl rfl rfl (conv_b (x := 2) (by decide) _) ?_
  refine WL.bslN [(0, byt 1), (1, byt (UInt8.ofNat 2))] rfl rfl rfl (bsl22_2 _ _ _) ?_
  have e3 := below_new w2 (.cells ([1, UInt8.ofNat 2].map byt).toArray 5)
  have ht3 : Has (w2.alloc (.cells ([1, UInt8.ofNat 2].map byt).toArray 5)) (.slice (some ⟨w2.heap.size, 0, none⟩) 2 2) [1, UInt8.ofNat 2] := Has.new (Blk.new _ _ _) 2 (Nat.le_refl _)
  obtain ⟨w3, hw3⟩ : ∃ w3, w2.alloc (.cells (([1, UInt8.ofNat 2] : List UInt8).map byt).toArray 5) = w3 := ⟨_, rfl⟩
  rw [hw3] at e3 ht3 ⊢
  have bx3 := bx2.on e3
  have hy3 := hy2.below e3
  have sb3 := sb2.trans (e3.mono sb2.size)
  first | refine WL.assign rfl rfl rfl ?_
  refine WL.done ?_
  refine EW.on ?_
  refine EW.seq ?_
  refine EW.seq ?_
  refine EW.region ?_
  first | refine WL.field rfl rfl rfl (f33_0 q1 0 _) ?_ | refine WL.skip _ rfl rfl rfl ?_
  first | refine WL.load rfl rfl rfl (ldPkK bx3) ?_ | refine WL.skip _ rfl rfl rfl ?_
  try rw [hk]
  first | refine WL.bin rfl rfl rfl rfl (int_eq_t rfl _ _ _) ?_ | refine WL.bin rfl rfl rfl rfl (int_eq_t ‹_› _ _ _) ?_ | refine WL.bin rfl rfl rfl rfl (int_eq_f ‹_› _ _ _) ?_ | refine WL.bin rfl rfl rfl rfl (int_eq_d _ _ _ _ _) ?_
  refine WL.done ?_
  refine EW.on ?_
  refine EW.cond_f rfl ?_
  refine EW.skip ?_
  refine EW.on ?_
  refine EW.seq ?_
  refine EW.ordB [(0, 0, 0), (1, 0, 0), (2, 0, 1), (4, 0, 0), (5, 0, 1), (6, 0, 0), (8, 0, 0), (9, 0, 1), (3, 1, 1), (7, 1, 1), (10, 1, 1), (11, 1, 1), (12, 0, 0), (13, 0, 0)] (by kernel_rfl) rfl (by kernel_rfl) ?_
  simp only [opsZ, List.getD_cons_zero, List.getD_cons_succ]
  first | refine ZE.move rfl rfl rfl rfl sz0 ?_
  refine ZE.field rfl rfl rfl rfl sz0 (fun W => f33_2 q1 _ W) ?_
  refine ZE.load rfl rfl rfl rfl sz1 (fun W hW => ldPkH (bx3.on (sb_of hW)) kp) ?_
  refine ZE.field rfl rfl rfl rfl sz0 (fun W => f33_3 q1 _ W) ?_
  refine ZE.load rfl rfl rfl rfl sz1 (fun W hW => ldPkB (bx3.on (sb_of hW)) kp) ?_
  refine ZE.len rfl rfl rfl rfl sz0 (fun W => hy.len W _) ?_
  refine ZE.field rfl rfl rfl rfl sz0 (fun W => f33_3 q1 _ W) ?_
  refine ZE.load rfl rfl rfl rfl sz1 (fun W hW => ldPkB (bx3.on (sb_of hW)) kp) ?_
  refine ZE.callR [p.hd.v] (fun u W => Ob W w3.heap.size u (encH p.hd) ∧ Below w3.heap.size w3 W) enter37 rfl rfl rfl (fun _ _ h => .inr h.2) (fun W hW => (encr_any p.hd kp.d W).mono fun e w' ⟨u, g1, g2, g3⟩ => ⟨u, g1, g2.lower hW.size, hW.trans (g3.mono hW.size)⟩) ?_
  rintro vh ⟨_, _, _⟩
  refine ZE.callR [.int .i64 (body.length : Int), .int .i64 2] (fun u W => Ob W w3.heap.size u (lenB body.length) ∧ Ob W w3.heap.size vh (encH p.hd) ∧ Below w3.heap.size w3 W) enter56 rfl rfl rfl (fun _ _ h => .inr h.2.2) (fun W hW => (numr_any body.length 2 (by decide) (by omega) W).mono fun e w' ⟨u, g1, g2, g3⟩ => ⟨u, g1, (by rw [sfx2 (by omega)] at g2; exact g2.lower hW.2.size), hW.1.below g3, hW.2.trans (g3.mono hW.2.size)⟩) ?_
  rintro vn ⟨_, gn, gh, _⟩
  refine ZE.bsl [(0, (.slice (some ⟨w2.heap.size, 0, none⟩) 2 2)), (1, vh), (2, vn), (3, p.bv)] (fun v W' => ∃ W, (Ob W w3.heap.size vn (lenB body.length) ∧ Ob W w3.heap.size vh (encH p.hd) ∧ Below w3.heap.size w3 W) ∧ v = .slice (some ⟨W.heap.size, 0, none⟩) 4 4 ∧ W' = W.alloc (.cells [(.slice (some ⟨w2.heap.size, 0, none⟩) 2 2), vh, vn, p.bv].toArray 31)) rfl rfl rfl (fun v W' ⟨W, h, _, e⟩ => .inr (by rw [e]; exact h.2.2.trans ((below_new _ _).mono h.2.2.size))) (fun W hW => ⟨_, _, bsl55_4 _ _ _ _ ht3.sl gh.has.sl gn.has.sl hy3.sl W, W, hW, rfl, rfl⟩) ?_
  rintro vj ⟨_, Wq, hWq, rfl, _⟩
  refine ZE.callR [.slice (some ⟨Wq.heap.size, 0, none⟩) 4 4] (fun u W => Ob W w3.heap.size u (packB 2 p.hl p.hd body) ∧ Below w3.heap.size w3 W) enter55 rfl rfl rfl (fun _ _ h => .inr h.2) ?_ ?_
  · rintro _ ⟨W, hW, hv, rfl⟩
    have hs' : W.heap.size = Wq.heap.size := by
      simp only [Value.slice.injEq, Option.some.injEq, Addr.mk.injEq, and_true, true_and] at hv
      exact hv.symm
    have hbW := bx3.on hW.2.2
    rw [← hs']
    refine (joined_at [((.slice (some ⟨w2.heap.size, 0, none⟩) 2 2), [1, UInt8.ofNat 2]), (vh, encH p.hd), (vn, lenB body.length), (p.bv, body)] W (fun p' hp => ?_) (by show 4 ≤ 1000; decide) (by simp [flatB, encH_len kp.d, encL_len kp.l, lenB]; omega) 4 rfl _ rfl).mono ?_
    · simp only [List.mem_cons, List.not_mem_nil, or_false] at hp
      rcases hp with rfl | rfl | rfl | rfl
      · exact ht3.below hW.2.2
      · exact hW.2.1.has
      · exact hW.1.has
      · exact hy3.below hW.2.2
    · rintro e W2 ⟨u, rfl, g1, g2⟩
      rw [show flatB [((.slice (some ⟨w2.heap.size, 0, none⟩) 2 2), [1, UInt8.ofNat 2]), (vh, encH p.hd), (vn, lenB body.length), (p.bv, body)] = (packB 2 p.hl p.hd body) from by simp [flatB, packB]] at g1
      exact ⟨u, rfl, g1.lower hW.2.2.size, hW.2.2.trans (g2.mono hW.2.2.size)⟩
  rintro vr ⟨_, _⟩
  first | refine ZE.assign rfl rfl rfl rfl sz0 ?_
  first | refine ZE.assign rfl rfl rfl rfl sz0 ?_
  rintro w9 ⟨o9, e9⟩
  refine EW.on ?_
  refine EW.ret ?_
  exact EW.returns2 Try.results39 rfl rfl ⟨vr, rfl, o9.lower sb3.size, sb3.trans (e9.mono sb3.size)⟩
set_option maxRecDepth 100000 in
set_option maxHeartbeats 4000000 in
theorem packr_k (p : Pk) (kp : p.ok) (body : List UInt8) (w : World) (hy : Has w p.bv body) (hk1 : ¬ p.k = 1) (hk2 : ¬ p.k = 2) : Calls Try.prog 39 #[p.v] w fun e w' => e = .returned (.tuple #[.slice none 0 0, .int .i64 103]) ∧ Below w.heap.size w w' := by
  obtain ⟨w1, q1, r1, bx1, e1, hq1⟩ := box_any 33 p.cs w
  have hy1 := hy.below e1
  refine calls_of_args [p.v] Try.func39 rfl 64 Try.ntmps39 (by show 1 ≤ 64; decide) ?_
  refine EW.seq ?_
  refine EW.region ?_
  refine WL.box rfl rfl rfl r1 ?_
  first | refine WL.assign rfl rfl rfl ?_
  first | refine WL.assign rfl rfl rfl ?_
  refine WL.done ?_
  refine EW.on ?_
  refine EW.seq ?_
  refine EW.block ?_
  refine EW.seq ?_
  refine EW.region ?_
  first | refine WL.field rfl rfl rfl (f33_0 q1 0 _) ?_ | refine WL.skip _ rfl rfl rfl ?_
  first | refine WL.load rfl rfl rfl (ldPkK bx1) ?_ | refine WL.skip _ rfl rfl rfl ?_
  refine WL.bin rfl rfl rfl rfl (int_ne_t hk1 _ _ _) ?_
  first | refine WL.move rfl rfl rfl ?_
  first | refine WL.field rfl rfl rfl (f33_0 q1 0 _) ?_ | refine WL.skip _ rfl rfl rfl ?_
  first | refine WL.load rfl rfl rfl (ldPkK bx1) ?_ | refine WL.skip _ rfl rfl rfl ?_
  refine WL.bin rfl rfl rfl rfl (int_ne_t hk2 _ _ _) ?_
  first | refine WL.pick rfl rfl rfl rfl ?_
  first | refine WL.assign rfl rfl rfl ?_
  refine WL.done ?_
  refine EW.on ?_
  refine EW.cond_t rfl ?_
  refine EW.seq ?_
  refine EW.region ?_
  first | refine WL.assign rfl rfl rfl ?_
  first | refine WL.assign rfl rfl rfl ?_
  refine WL.done ?_
  refine EW.on ?_
  refine EW.ret ?_
  refine pr_block ?_
  refine pr_then ?_
  exact EW.returns2 Try.results39 rfl rfl ⟨rfl, e1⟩
end Go.Proofs.Ytobfebpinkikdaa
