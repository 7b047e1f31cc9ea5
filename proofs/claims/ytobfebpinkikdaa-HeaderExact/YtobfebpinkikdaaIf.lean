import Derived.Test.YtobfebpinkikdaaIe
import Derived.Test.YtobfebpinkikdaaOy
set_option linter.unusedVariables false
set_option linter.unusedSimpArgs false
namespace Go.Proofs.Ytobfebpinkikdaa
open Go.RowKit

def SQ (q : World → Prop) (l : Nat) (W : World) : Prop := l = 0 ∨ q W
theorem sq_anti (q : World → Prop) (m n : Nat) (W : World) (h : m ≤ n) (k : SQ q n W) : SQ q m W := by
  rcases k with k | k
  · exact .inl (by omega)
  · exact .inr k
theorem sq_of {q : World → Prop} {W : World} {l : Nat} {C : World → Prop} (h : SZ (SQ q) 0 (l + 1) C W) : q W := by
  rcases h with h | h
  · cases h
  · exact h
theorem sq0 {q : World → Prop} {C : World → Prop} : ∀ W, C W → SZ (SQ q) 0 0 C W := fun _ _ => .inl rfl
/-- Parts that are joined. -/
theorem joined_at (ps : List (Value × List UInt8)) (W : World) (hs : ∀ p ∈ ps, Has W p.1 p.2) (hn : ps.length ≤ 1000) (hl : (flatB ps).length ≤ 1000000) (n : Nat) (he : ps.length = n) (W' : World) (hW : W' = W.alloc (.cells (ps.map (·.1)).toArray 31)) : Calls Try.prog 55 #[.slice (some ⟨W.heap.size, 0, none⟩) n n] W' fun e w' => ∃ v, e = .returned v ∧ Ob w' W.heap.size v (flatB ps) ∧ Below W.heap.size W w' := by
  subst he hW
  have b2 := below_new W (.cells (ps.map (·.1)).toArray 31)
  exact (joined_any W.heap.size ps.length ps _ ⟨Blk.new _ _ _, fun p hp => (hs p hp).below b2⟩ hn hl).mono fun e w' ⟨v, h1, h2, h3⟩ => ⟨v, h1, h2.lower b2.size, b2.trans (h3.mono b2.size)⟩
theorem bsl55_4 (a b c d : Value) (ha : ∃ ao n c, a = .slice ao n c) (hb : ∃ ao n c, b = .slice ao n c) (hc : ∃ ao n c', c = .slice ao n c') (hd : ∃ ao n c, d = .slice ao n c) (w : World) : (Instr.buildSlice 55 4 [(0, a), (1, b), (2, c), (3, d)].toArray).run Try.prog w = .ok (.slice (some ⟨w.heap.size, 0, none⟩) 4 4) (w.alloc (.cells [a, b, c, d].toArray 31)) := by
  obtain ⟨_, _, _, rfl⟩ := ha
  obtain ⟨_, _, _, rfl⟩ := hb
  obtain ⟨_, _, _, rfl⟩ := hc
  obtain ⟨_, _, _, rfl⟩ := hd
  go_simp
  try rfl
theorem bsl55_5 (a b c d f : Value) (ha : ∃ ao n c, a = .slice ao n c) (hb : ∃ ao n c, b = .slice ao n c) (hc : ∃ ao n c', c = .slice ao n c') (hd : ∃ ao n c, d = .slice ao n c) (hf : ∃ ao n c, f = .slice ao n c) (w : World) : (Instr.buildSlice 55 5 [(0, a), (1, b), (2, c), (3, d), (4, f)].toArray).run Try.prog w = .ok (.slice (some ⟨w.heap.size, 0, none⟩) 5 5) (w.alloc (.cells [a, b, c, d, f].toArray 31)) := by
  obtain ⟨_, _, _, rfl⟩ := ha
  obtain ⟨_, _, _, rfl⟩ := hb
  obtain ⟨_, _, _, rfl⟩ := hc
  obtain ⟨_, _, _, rfl⟩ := hd
  obtain ⟨_, _, _, rfl⟩ := hf
  go_simp
  try rfl
theorem conv_u3 {n : Nat} (h : n < 4294967296) (W : World) : (Go.convert 24 3 (u32v n)).run Try.prog W = .ok (.int .i64 (n : Int)) W := by
  have e : IntKind.i64.wrap (n : Int) = (n : Int) := by rw [IntKind.wrap_i64]; omega
  unfold u32v
  rw [conv_ui3, e]
theorem conv_53 (u : UInt8) (W : World) : (Go.convert 5 3 (byt u)).run Try.prog W = .ok (.int .i64 (u.toNat : Int)) W := by
  have := u.toNat_lt
  have e : IntKind.i64.wrap (u.toNat : Int) = (u.toNat : Int) := by rw [IntKind.wrap_i64]; omega
  unfold byt
  go_simp
theorem be_any (n : Nat) (hn : n < 4294967296) (w : World) : Calls Try.prog 56 #[.int .i64 (n : Int), .int .i64 4] w fun e w' => ∃ v, e = .returned v ∧ Ob w' w.heap.size v (be32 n) ∧ Below w.heap.size w w' := numr_any n 4 (by decide) hn w
theorem hdHas {w : World} {q1 : Nat} {h : Hd} {t : TypeId} (bx : Blk w q1 h.cs t) (kh : h.ok) : Has w (.slice (some ⟨q1, 0, none⟩) 16 16) h.sid ∧ Has w (.slice (some ⟨q1, 17, none⟩) 32 32) h.key := by
  constructor
  · have := bx.has (a := []) (K := h.sid) (b := [u32v h.turn] ++ (h.key.map byt ++ ([u32v h.prev] ++ [u32v h.n]))) (o := 0) rfl rfl 16 (by rw [kh.s]; exact Nat.le_refl _)
    rw [kh.s] at this
    exact this
  · have := bx.has (a := h.sid.map byt ++ [u32v h.turn]) (K := h.key) (b := [u32v h.prev] ++ [u32v h.n]) (o := 17) (by simp [Hd.cs]) (by simp [kh.s]) 32 (by rw [kh.k]; exact Nat.le_refl _)
    rw [kh.k] at this
    exact this
theorem ldHdU {w : World} {q : Nat} {h : Hd} {t : TypeId} (bx : Blk w q h.cs t) (kh : h.ok) : (Instr.loadAt 24 (.pointer (some ⟨q, 16, none⟩))).run Try.prog w = .ok (u32v h.turn) w ∧ (Instr.loadAt 24 (.pointer (some ⟨q, 49, none⟩))).run Try.prog w = .ok (u32v h.prev) w ∧ (Instr.loadAt 24 (.pointer (some ⟨q, 50, none⟩))).run Try.prog w = .ok (u32v h.n) w :=
  ⟨bx.ldU (n := h.turn) (a := h.sid.map byt) (b := h.key.map byt ++ ([u32v h.prev] ++ [u32v h.n])) rfl (by simp [kh.s]), bx.ldU (n := h.prev) (a := h.sid.map byt ++ ([u32v h.turn] ++ h.key.map byt)) (b := [u32v h.n]) (by simp [Hd.cs]) (by simp [kh.s, kh.k]), bx.ldU (n := h.n) (a := h.sid.map byt ++ ([u32v h.turn] ++ (h.key.map byt ++ [u32v h.prev]))) (b := []) (by simp [Hd.cs]) (by simp [kh.s, kh.k])⟩
set_option maxRecDepth 100000 in
set_option maxHeartbeats 4000000 in
theorem encr_any (h : Hd) (kh : h.ok) (w : World) : Calls Try.prog 37 #[h.v] w fun e w' => ∃ v, e = .returned v ∧ Ob w' w.heap.size v (encH h) ∧ Below w.heap.size w w' := by
  obtain ⟨w1, q1, r1, bx1, e1, hq1⟩ := box_any 30 h.cs w
  refine calls_of_args [h.v] Try.func37 rfl 21 Try.ntmps37 (by show 1 ≤ 21; decide) ?_
  refine EW.seq ?_
  refine EW.region ?_
  refine WL.box rfl rfl rfl r1 ?_
  first | refine WL.assign rfl rfl rfl ?_
  refine WL.done ?_
  refine EW.on ?_
  refine EW.seq ?_
  refine EW.ordB [(0, 0, 0), (1, 0, 0), (2, 0, 0), (3, 0, 1), (4, 0, 1), (6, 0, 0), (7, 0, 0), (8, 0, 0), (9, 0, 1), (10, 0, 1), (12, 0, 0), (13, 0, 1), (14, 0, 1), (5, 1, 1), (11, 1, 1), (15, 1, 1), (16, 1, 1), (17, 1, 1), (18, 0, 0)] (by kernel_rfl) rfl (by kernel_rfl) ?_
  simp only [opsZ, List.getD_cons_zero, List.getD_cons_succ]
  refine ZE.field rfl rfl rfl rfl sz0 (fun W => f30_0 q1 0 W) ?_
  refine ZE.slice0 rfl rfl rfl rfl sz0 (fun W => sl28 q1 _ W) ?_
  refine ZE.field rfl rfl rfl rfl sz0 (fun W => f30_1 q1 0 W) ?_
  refine ZE.load rfl rfl rfl rfl sz1 (fun W hW => (ldHdU (bx1.on (sb_of hW)) kh).1) ?_
  refine ZE.conv rfl rfl rfl rfl sz1 (fun W hW => conv_u3 kh.t W) ?_
  refine ZE.field rfl rfl rfl rfl sz0 (fun W => f30_2 q1 0 W) ?_
  refine ZE.slice0 rfl rfl rfl rfl sz0 (fun W => sl23 q1 _ W) ?_
  refine ZE.field rfl rfl rfl rfl sz0 (fun W => f30_3 q1 0 W) ?_
  refine ZE.load rfl rfl rfl rfl sz1 (fun W hW => (ldHdU (bx1.on (sb_of hW)) kh).2.1) ?_
  refine ZE.conv rfl rfl rfl rfl sz1 (fun W hW => conv_u3 kh.p W) ?_
  refine ZE.field rfl rfl rfl rfl sz0 (fun W => f30_4 q1 0 W) ?_
  refine ZE.load rfl rfl rfl rfl sz1 (fun W hW => (ldHdU (bx1.on (sb_of hW)) kh).2.2) ?_
  refine ZE.conv rfl rfl rfl rfl sz1 (fun W hW => conv_u3 kh.n W) ?_
  refine ZE.callR [.int .i64 (h.turn : Int), .int .i64 4] (fun u W => Ob W w1.heap.size u (be32 h.turn) ∧ Below w1.heap.size w1 W) enter56 rfl rfl rfl (fun _ _ h => .inr h.2) (fun W hW => (be_any h.turn kh.t W).mono fun e w' ⟨u, g1, g2, g3⟩ => ⟨u, g1, g2.lower hW.size, hW.trans (g3.mono hW.size)⟩) ?_
  rintro va ⟨Wva, gva⟩
  refine ZE.callR [.int .i64 (h.prev : Int), .int .i64 4] (fun u W => Ob W w1.heap.size u (be32 h.prev) ∧ Ob W w1.heap.size va (be32 h.turn) ∧ Below w1.heap.size w1 W) enter56 rfl rfl rfl (fun _ _ h => .inr h.2.2) (fun W hW => (be_any h.prev kh.p W).mono fun e w' ⟨u, g1, g2, g3⟩ => ⟨u, g1, g2.lower hW.2.size, hW.1.below g3, hW.2.trans (g3.mono hW.2.size)⟩) ?_
  rintro vb ⟨Wvb, gvb⟩
  refine ZE.callR [.int .i64 (h.n : Int), .int .i64 4] (fun u W => Ob W w1.heap.size u (be32 h.n) ∧ Ob W w1.heap.size va (be32 h.turn) ∧ Ob W w1.heap.size vb (be32 h.prev) ∧ Below w1.heap.size w1 W) enter56 rfl rfl rfl (fun _ _ h => .inr h.2.2.2) (fun W hW => (be_any h.n kh.n W).mono fun e w' ⟨u, g1, g2, g3⟩ => ⟨u, g1, g2.lower hW.2.2.size, hW.2.1.below g3, hW.1.below g3, hW.2.2.trans (g3.mono hW.2.2.size)⟩) ?_
  rintro vc ⟨Wvc, gvc⟩
  refine ZE.bsl [(0, .slice (some ⟨q1, 0, none⟩) 16 16), (1, va), (2, .slice (some ⟨q1, 17, none⟩) 32 32), (3, vb), (4, vc)] (fun v W' => ∃ W, (Ob W w1.heap.size vc (be32 h.n) ∧ Ob W w1.heap.size va (be32 h.turn) ∧ Ob W w1.heap.size vb (be32 h.prev) ∧ Below w1.heap.size w1 W) ∧ v = .slice (some ⟨W.heap.size, 0, none⟩) 5 5 ∧ W' = W.alloc (.cells [.slice (some ⟨q1, 0, none⟩) 16 16, va, .slice (some ⟨q1, 17, none⟩) 32 32, vb, vc].toArray 31)) rfl rfl rfl (fun v W' ⟨W, h, _, e⟩ => .inr (by rw [e]; exact h.2.2.2.trans ((below_new _ _).mono h.2.2.2.size))) (fun W hW => ⟨_, _, bsl55_5 _ _ _ _ _ ⟨_, _, _, rfl⟩ gvc.2.1.has.sl ⟨_, _, _, rfl⟩ gvc.2.2.1.has.sl gvc.1.has.sl W, W, hW, rfl, rfl⟩) ?_
  rintro vj ⟨_, Wq, hWq, rfl, _⟩
  refine ZE.callR [.slice (some ⟨Wq.heap.size, 0, none⟩) 5 5] (fun u W => Ob W w1.heap.size u (encH h) ∧ Below w1.heap.size w1 W) enter55 rfl rfl rfl (fun _ _ h => .inr h.2) ?_ ?_
  · rintro _ ⟨W, hW, hv, rfl⟩
    have hs : W.heap.size = Wq.heap.size := by
      simp only [Value.slice.injEq, Option.some.injEq, Addr.mk.injEq, and_true, true_and] at hv
      exact hv.symm
    have hbW := bx1.on hW.2.2.2
    rw [← hs]
    refine (joined_at [(.slice (some ⟨q1, 0, none⟩) 16 16, h.sid), (va, be32 h.turn), (.slice (some ⟨q1, 17, none⟩) 32 32, h.key), (vb, be32 h.prev), (vc, be32 h.n)] W (fun p hp => ?_) (by show 5 ≤ 1000; decide) (by simp [flatB, be32_len, kh.s, kh.k]) 5 rfl _ rfl).mono ?_
    · simp only [List.mem_cons, List.not_mem_nil, or_false] at hp
      rcases hp with rfl | rfl | rfl | rfl | rfl
      · exact (hdHas hbW kh).1
      · exact hW.2.1.has
      · exact (hdHas hbW kh).2
      · exact hW.2.2.1.has
      · exact hW.1.has
    · rintro e W2 ⟨u, rfl, g1, g2⟩
      rw [show flatB [(.slice (some ⟨q1, 0, none⟩) 16 16, h.sid), (va, be32 h.turn), (.slice (some ⟨q1, 17, none⟩) 32 32, h.key), (vb, be32 h.prev), (vc, be32 h.n)] = encH h from by simp [flatB, encH]] at g1
      exact ⟨u, rfl, g1.lower hW.2.2.2.size, hW.2.2.2.trans (g2.mono hW.2.2.2.size)⟩
  rintro vr ⟨_, _⟩
  first | refine ZE.assign rfl rfl rfl rfl sz0 ?_
  rintro w2 ⟨o2, e2⟩
  refine EW.on ?_
  refine EW.ret ?_
  exact EW.returns Try.results37 rfl ⟨vr, rfl, o2.lower e1.size, e1.trans (e2.mono e1.size)⟩
def bgD (c : List UInt8) (lo hi : Nat) : Int := if begE c = 0 then (if lo ≤ kdD c ∧ kdD c ≤ hi then 0 else 103) else begE c
theorem cutAt {c : List UInt8} {j : Nat} {u : UInt8} (h : c[j]? = some u) : cutB c j 1 = [u] := by
  have h1 := (List.getElem?_eq_some_iff.1 h)
  unfold cutB
  rw [List.drop_eq_getElem_cons h1.1, h1.2]
  rfl
theorem num1 (u : UInt8) : numB [u] = u.toNat := by simp [numB]
theorem ne5_1 (v : UInt8) (W : World) (x y : Operand) : (do eqGuard .neq 5 x y (byt v) (.int .u8 1); binOp .neq 5 (byt v) (.int .u8 1) : Sem Value).run Try.prog W = .ok (.bool (decide (¬ v = 1))) W := by
  have e : (v.toNat : Int) = 1 ↔ v = 1 := ⟨fun h => UInt8.toNat_inj.1 (by show v.toNat = 1; omega), fun h => by rw [h]; rfl⟩
  unfold byt
  go_simp
  by_cases h : v = 1
  · subst h; simp
  · have : ¬ (v.toNat : Int) = 1 := fun h' => h (e.1 h')
    simp [h]
    omega
set_option maxRecDepth 100000 in
set_option maxHeartbeats 1000000 in
theorem begun_1 (v : Value) (c : List UInt8) (lo hi : Nat) (w : World) (hb : Has w v c) (h2 : c.length < 2) : Calls Try.prog 58 #[v, .int .i64 (lo : Int), .int .i64 (hi : Int)] w fun e w' => e = .returned (.int .i64 (bgD c lo hi)) ∧ w' = w := by
  rw [show bgD c lo hi = 10 from by unfold bgD; rw [if_neg (by rw [beg_short h2]; decide), beg_short h2]]
  have z1 : (c.length : Int) < 2 := by omega
  refine calls_of_args [v, .int .i64 (lo : Int), .int .i64 (hi : Int)] Try.func58 rfl 31 Try.ntmps58 (by show 3 ≤ 31; decide) ?_
  refine EW.seq ?_
  refine EW.region ?_
  first | refine WL.assign rfl rfl rfl ?_
  refine WL.done ?_
  refine EW.on ?_
  refine EW.seq ?_
  refine EW.block ?_
  refine EW.seq ?_
  refine EW.region ?_
  first | refine WL.move rfl rfl rfl ?_
  refine WL.len rfl rfl rfl (hb.len _ _) ?_
  first | refine WL.bin rfl rfl rfl rfl (int_lt_t ‹_› _ _ _) ?_ | refine WL.bin rfl rfl rfl rfl (int_lt_f ‹_› _ _ _) ?_ | refine WL.bin rfl rfl rfl rfl (int_lt_d _ _ _ _ _) ?_
  first | refine WL.assign rfl rfl rfl ?_
  refine WL.done ?_
  refine EW.on ?_
  refine EW.cond_t rfl ?_
  refine EW.seq ?_
  refine EW.region ?_
  first | refine WL.assign rfl rfl rfl ?_
  refine WL.done ?_
  refine EW.on ?_
  refine EW.ret ?_
  refine pr_block ?_
  refine pr_then ?_
  exact EW.returns Try.results58 rfl ⟨rfl, rfl⟩
set_option maxRecDepth 100000 in
set_option maxHeartbeats 1000000 in
theorem begun_2 (v : Value) (c : List UInt8) (lo hi : Nat) (w : World) (hb : Has w v c) (h2 : 2 ≤ c.length) (a : UInt8) (ha : c[0]? = some a) (da : decide (¬ a = 1) = true) : Calls Try.prog 58 #[v, .int .i64 (lo : Int), .int .i64 (hi : Int)] w fun e w' => e = .returned (.int .i64 (bgD c lo hi)) ∧ w' = w := by
  rw [show bgD c lo hi = 140 from by have e : begE c = 140 := beg_not h2 (cutAt ha) (of_decide_eq_true da); unfold bgD; rw [if_neg (by rw [e]; decide), e]]
  have z1 : ¬ (c.length : Int) < 2 := by omega
  obtain ⟨ada, ia, la⟩ := hb.item ha
  refine calls_of_args [v, .int .i64 (lo : Int), .int .i64 (hi : Int)] Try.func58 rfl 31 Try.ntmps58 (by show 3 ≤ 31; decide) ?_
  refine EW.seq ?_
  refine EW.region ?_
  first | refine WL.assign rfl rfl rfl ?_
  refine WL.done ?_
  refine EW.on ?_
  refine EW.seq ?_
  refine EW.block ?_
  refine EW.seq ?_
  refine EW.region ?_
  first | refine WL.move rfl rfl rfl ?_
  refine WL.len rfl rfl rfl (hb.len _ _) ?_
  first | refine WL.bin rfl rfl rfl rfl (int_lt_t ‹_› _ _ _) ?_ | refine WL.bin rfl rfl rfl rfl (int_lt_f ‹_› _ _ _) ?_ | refine WL.bin rfl rfl rfl rfl (int_lt_d _ _ _ _ _) ?_
  first | refine WL.assign rfl rfl rfl ?_
  refine WL.done ?_
  refine EW.on ?_
  refine EW.cond_f rfl ?_
  refine EW.seq ?_
  refine EW.region ?_
  first | refine WL.move rfl rfl rfl ?_
  first | refine WL.index rfl rfl rfl rfl (ia _) ?_ | refine WL.skip _ rfl rfl rfl ?_
  first | refine WL.load rfl rfl rfl la ?_ | refine WL.skip _ rfl rfl rfl ?_
  refine WL.bin rfl rfl rfl rfl (ne5_1 _ _ _ _) ?_
  rw [da]
  first | refine WL.assign rfl rfl rfl ?_
  refine WL.done ?_
  refine EW.on ?_
  refine EW.cond_t rfl ?_
  refine EW.seq ?_
  refine EW.region ?_
  first | refine WL.assign rfl rfl rfl ?_
  refine WL.done ?_
  refine EW.on ?_
  refine EW.ret ?_
  refine pr_block ?_
  refine pr_then ?_
  exact EW.returns Try.results58 rfl ⟨rfl, rfl⟩
set_option maxRecDepth 100000 in
set_option maxHeartbeats 1000000 in
theorem begun_3 (v : Value) (c : List UInt8) (lo hi : Nat) (w : World) (hb : Has w v c) (h2 : 2 ≤ c.length) (a b : UInt8) (ha : c[0]? = some a) (hb1 : c[1]? = some b) (da : decide (¬ a = 1) = false) (hlo : b.toNat < lo) : Calls Try.prog 58 #[v, .int .i64 (lo : Int), .int .i64 (hi : Int)] w fun e w' => e = .returned (.int .i64 (bgD c lo hi)) ∧ w' = w := by
  rw [show bgD c lo hi = 103 from by unfold bgD; rw [if_pos (beg_of h2 (by rw [cutAt ha, Classical.not_not.1 (of_decide_eq_false da)])), if_neg (by unfold kdD; rw [cutAt hb1, num1]; omega)]]
  have z1 : ¬ (c.length : Int) < 2 := by omega
  obtain ⟨ada, ia, la⟩ := hb.item ha
  obtain ⟨adb, ib, lb⟩ := hb.item hb1
  have z2 : (b.toNat : Int) < (lo : Int) := by omega
  refine calls_of_args [v, .int .i64 (lo : Int), .int .i64 (hi : Int)] Try.func58 rfl 31 Try.ntmps58 (by show 3 ≤ 31; decide) ?_
  refine EW.seq ?_
  refine EW.region ?_
  first | refine WL.assign rfl rfl rfl ?_
  refine WL.done ?_
  refine EW.on ?_
  refine EW.seq ?_
  refine EW.block ?_
  refine EW.seq ?_
  refine EW.region ?_
  first | refine WL.move rfl rfl rfl ?_
  refine WL.len rfl rfl rfl (hb.len _ _) ?_
  first | refine WL.bin rfl rfl rfl rfl (int_lt_t ‹_› _ _ _) ?_ | refine WL.bin rfl rfl rfl rfl (int_lt_f ‹_› _ _ _) ?_ | refine WL.bin rfl rfl rfl rfl (int_lt_d _ _ _ _ _) ?_
  first | refine WL.assign rfl rfl rfl ?_
  refine WL.done ?_
  refine EW.on ?_
  refine EW.cond_f rfl ?_
  refine EW.seq ?_
  refine EW.region ?_
  first | refine WL.move rfl rfl rfl ?_
  first | refine WL.index rfl rfl rfl rfl (ia _) ?_ | refine WL.skip _ rfl rfl rfl ?_
  first | refine WL.load rfl rfl rfl la ?_ | refine WL.skip _ rfl rfl rfl ?_
  refine WL.bin rfl rfl rfl rfl (ne5_1 _ _ _ _) ?_
  rw [da]
  first | refine WL.assign rfl rfl rfl ?_
  refine WL.done ?_
  refine EW.on ?_
  refine EW.cond_f rfl ?_
  refine EW.seq ?_
  refine EW.region ?_
  first | refine WL.move rfl rfl rfl ?_
  first | refine WL.index rfl rfl rfl rfl (ib _) ?_ | refine WL.skip _ rfl rfl rfl ?_
  first | refine WL.load rfl rfl rfl lb ?_ | refine WL.skip _ rfl rfl rfl ?_
  first | refine WL.conv rfl rfl rfl (conv_53 _ _) ?_ | refine WL.skip _ rfl rfl rfl ?_
  first | refine WL.move rfl rfl rfl ?_
  first | refine WL.bin rfl rfl rfl rfl (int_lt_t ‹_› _ _ _) ?_ | refine WL.bin rfl rfl rfl rfl (int_lt_f ‹_› _ _ _) ?_ | refine WL.bin rfl rfl rfl rfl (int_lt_d _ _ _ _ _) ?_
  first | refine WL.move rfl rfl rfl ?_
  first | refine WL.move rfl rfl rfl ?_ | refine WL.skip _ rfl rfl rfl ?_
  first | refine WL.index rfl rfl rfl rfl (ib _) ?_ | refine WL.skip _ rfl rfl rfl ?_
  first | refine WL.load rfl rfl rfl lb ?_ | refine WL.skip _ rfl rfl rfl ?_
  first | refine WL.conv rfl rfl rfl (conv_53 _ _) ?_ | refine WL.skip _ rfl rfl rfl ?_
  first | refine WL.move rfl rfl rfl ?_ | refine WL.skip _ rfl rfl rfl ?_
  first | refine WL.bin rfl rfl rfl rfl (int_gt_t ‹_› _ _ _) ?_ | refine WL.bin rfl rfl rfl rfl (int_gt_f ‹_› _ _ _) ?_ | refine WL.bin rfl rfl rfl rfl (int_gt_d _ _ _ _ _) ?_ | refine WL.skip _ rfl rfl rfl ?_
  first | refine WL.pick rfl rfl rfl rfl ?_
  first | refine WL.assign rfl rfl rfl ?_
  refine WL.done ?_
  refine EW.on ?_
  refine EW.cond_t rfl ?_
  refine EW.seq ?_
  refine EW.region ?_
  first | refine WL.assign rfl rfl rfl ?_
  refine WL.done ?_
  refine EW.on ?_
  refine EW.ret ?_
  refine pr_block ?_
  refine pr_then ?_
  exact EW.returns Try.results58 rfl ⟨rfl, rfl⟩
set_option maxRecDepth 100000 in
set_option maxHeartbeats 1000000 in
theorem begun_4 (v : Value) (c : List UInt8) (lo hi : Nat) (w : World) (hb : Has w v c) (h2 : 2 ≤ c.length) (a b : UInt8) (ha : c[0]? = some a) (hb1 : c[1]? = some b) (da : decide (¬ a = 1) = false) (hlo : lo ≤ b.toNat) (hhi : hi < b.toNat) : Calls Try.prog 58 #[v, .int .i64 (lo : Int), .int .i64 (hi : Int)] w fun e w' => e = .returned (.int .i64 (bgD c lo hi)) ∧ w' = w := by
  rw [show bgD c lo hi = 103 from by unfold bgD; rw [if_pos (beg_of h2 (by rw [cutAt ha, Classical.not_not.1 (of_decide_eq_false da)])), if_neg (by unfold kdD; rw [cutAt hb1, num1]; omega)]]
  have z1 : ¬ (c.length : Int) < 2 := by omega
  obtain ⟨ada, ia, la⟩ := hb.item ha
  obtain ⟨adb, ib, lb⟩ := hb.item hb1
  have z2 : ¬ (b.toNat : Int) < (lo : Int) := by omega
  have z3 : (hi : Int) < (b.toNat : Int) := by omega
  refine calls_of_args [v, .int .i64 (lo : Int), .int .i64 (hi : Int)] Try.func58 rfl 31 Try.ntmps58 (by show 3 ≤ 31; decide) ?_
  refine EW.seq ?_
  refine EW.region ?_
  first | refine WL.assign rfl rfl rfl ?_
  refine WL.done ?_
  refine EW.on ?_
  refine EW.seq ?_
  refine EW.block ?_
  refine EW.seq ?_
  refine EW.region ?_
  first | refine WL.move rfl rfl rfl ?_
  refine WL.len rfl rfl rfl (hb.len _ _) ?_
  first | refine WL.bin rfl rfl rfl rfl (int_lt_t ‹_› _ _ _) ?_ | refine WL.bin rfl rfl rfl rfl (int_lt_f ‹_› _ _ _) ?_ | refine WL.bin rfl rfl rfl rfl (int_lt_d _ _ _ _ _) ?_
  first | refine WL.assign rfl rfl rfl ?_
  refine WL.done ?_
  refine EW.on ?_
  refine EW.cond_f rfl ?_
  refine EW.seq ?_
  refine EW.region ?_
  first | refine WL.move rfl rfl rfl ?_
  first | refine WL.index rfl rfl rfl rfl (ia _) ?_ | refine WL.skip _ rfl rfl rfl ?_
  first | refine WL.load rfl rfl rfl la ?_ | refine WL.skip _ rfl rfl rfl ?_
  refine WL.bin rfl rfl rfl rfl (ne5_1 _ _ _ _) ?_
  rw [da]
  first | refine WL.assign rfl rfl rfl ?_
  refine WL.done ?_
  refine EW.on ?_
  refine EW.cond_f rfl ?_
  refine EW.seq ?_
  refine EW.region ?_
  first | refine WL.move rfl rfl rfl ?_
  first | refine WL.index rfl rfl rfl rfl (ib _) ?_ | refine WL.skip _ rfl rfl rfl ?_
  first | refine WL.load rfl rfl rfl lb ?_ | refine WL.skip _ rfl rfl rfl ?_
  first | refine WL.conv rfl rfl rfl (conv_53 _ _) ?_ | refine WL.skip _ rfl rfl rfl ?_
  first | refine WL.move rfl rfl rfl ?_
  first | refine WL.bin rfl rfl rfl rfl (int_lt_t ‹_› _ _ _) ?_ | refine WL.bin rfl rfl rfl rfl (int_lt_f ‹_› _ _ _) ?_ | refine WL.bin rfl rfl rfl rfl (int_lt_d _ _ _ _ _) ?_
  first | refine WL.move rfl rfl rfl ?_
  first | refine WL.move rfl rfl rfl ?_ | refine WL.skip _ rfl rfl rfl ?_
  first | refine WL.index rfl rfl rfl rfl (ib _) ?_ | refine WL.skip _ rfl rfl rfl ?_
  first | refine WL.load rfl rfl rfl lb ?_ | refine WL.skip _ rfl rfl rfl ?_
  first | refine WL.conv rfl rfl rfl (conv_53 _ _) ?_ | refine WL.skip _ rfl rfl rfl ?_
  first | refine WL.move rfl rfl rfl ?_ | refine WL.skip _ rfl rfl rfl ?_
  first | refine WL.bin rfl rfl rfl rfl (int_gt_t ‹_› _ _ _) ?_ | refine WL.bin rfl rfl rfl rfl (int_gt_f ‹_› _ _ _) ?_ | refine WL.bin rfl rfl rfl rfl (int_gt_d _ _ _ _ _) ?_ | refine WL.skip _ rfl rfl rfl ?_
  first | refine WL.pick rfl rfl rfl rfl ?_
  first | refine WL.assign rfl rfl rfl ?_
  refine WL.done ?_
  refine EW.on ?_
  refine EW.cond_t rfl ?_
  refine EW.seq ?_
  refine EW.region ?_
  first | refine WL.assign rfl rfl rfl ?_
  refine WL.done ?_
  refine EW.on ?_
  refine EW.ret ?_
  refine pr_block ?_
  refine pr_then ?_
  exact EW.returns Try.results58 rfl ⟨rfl, rfl⟩
set_option maxRecDepth 100000 in
set_option maxHeartbeats 1000000 in
theorem begun_5 (v : Value) (c : List UInt8) (lo hi : Nat) (w : World) (hb : Has w v c) (h2 : 2 ≤ c.length) (a b : UInt8) (ha : c[0]? = some a) (hb1 : c[1]? = some b) (da : decide (¬ a = 1) = false) (hlo : lo ≤ b.toNat) (hhi : b.toNat ≤ hi) : Calls Try.prog 58 #[v, .int .i64 (lo : Int), .int .i64 (hi : Int)] w fun e w' => e = .returned (.int .i64 (bgD c lo hi)) ∧ w' = w := by
  rw [show bgD c lo hi = 0 from by unfold bgD; rw [if_pos (beg_of h2 (by rw [cutAt ha, Classical.not_not.1 (of_decide_eq_false da)])), if_pos (by unfold kdD; rw [cutAt hb1, num1]; omega)]]
  have z1 : ¬ (c.length : Int) < 2 := by omega
  obtain ⟨ada, ia, la⟩ := hb.item ha
  obtain ⟨adb, ib, lb⟩ := hb.item hb1
  have z2 : ¬ (b.toNat : Int) < (lo : Int) := by omega
  have z3 : ¬ (hi : Int) < (b.toNat : Int) := by omega
  refine calls_of_args [v, .int .i64 (lo : Int), .int .i64 (hi : Int)] Try.func58 rfl 31 Try.ntmps58 (by show 3 ≤ 31; decide) ?_
  refine EW.seq ?_
  refine EW.region ?_
  first | refine WL.assign rfl rfl rfl ?_
  refine WL.done ?_
  refine EW.on ?_
  refine EW.seq ?_
  refine EW.block ?_
  refine EW.seq ?_
  refine EW.region ?_
  first | refine WL.move rfl rfl rfl ?_
  refine WL.len rfl rfl rfl (hb.len _ _) ?_
  first | refine WL.bin rfl rfl rfl rfl (int_lt_t ‹_› _ _ _) ?_ | refine WL.bin rfl rfl rfl rfl (int_lt_f ‹_› _ _ _) ?_ | refine WL.bin rfl rfl rfl rfl (int_lt_d _ _ _ _ _) ?_
  first | refine WL.assign rfl rfl rfl ?_
  refine WL.done ?_
  refine EW.on ?_
  refine EW.cond_f rfl ?_
  refine EW.seq ?_
  refine EW.region ?_
  first | refine WL.move rfl rfl rfl ?_
  first | refine WL.index rfl rfl rfl rfl (ia _) ?_ | refine WL.skip _ rfl rfl rfl ?_
  first | refine WL.load rfl rfl rfl la ?_ | refine WL.skip _ rfl rfl rfl ?_
  refine WL.bin rfl rfl rfl rfl (ne5_1 _ _ _ _) ?_
  rw [da]
  first | refine WL.assign rfl rfl rfl ?_
  refine WL.done ?_
  refine EW.on ?_
  refine EW.cond_f rfl ?_
  refine EW.seq ?_
  refine EW.region ?_
  first | refine WL.move rfl rfl rfl ?_
  first | refine WL.index rfl rfl rfl rfl (ib _) ?_ | refine WL.skip _ rfl rfl rfl ?_
  first | refine WL.load rfl rfl rfl lb ?_ | refine WL.skip _ rfl rfl rfl ?_
  first | refine WL.conv rfl rfl rfl (conv_53 _ _) ?_ | refine WL.skip _ rfl rfl rfl ?_
  first | refine WL.move rfl rfl rfl ?_
  first | refine WL.bin rfl rfl rfl rfl (int_lt_t ‹_› _ _ _) ?_ | refine WL.bin rfl rfl rfl rfl (int_lt_f ‹_› _ _ _) ?_ | refine WL.bin rfl rfl rfl rfl (int_lt_d _ _ _ _ _) ?_
  first | refine WL.move rfl rfl rfl ?_
  first | refine WL.move rfl rfl rfl ?_ | refine WL.skip _ rfl rfl rfl ?_
  first | refine WL.index rfl rfl rfl rfl (ib _) ?_ | refine WL.skip _ rfl rfl rfl ?_
  first | refine WL.load rfl rfl rfl lb ?_ | refine WL.skip _ rfl rfl rfl ?_
  first | refine WL.conv rfl rfl rfl (conv_53 _ _) ?_ | refine WL.skip _ rfl rfl rfl ?_
  first | refine WL.move rfl rfl rfl ?_ | refine WL.skip _ rfl rfl rfl ?_
  first | refine WL.bin rfl rfl rfl rfl (int_gt_t ‹_› _ _ _) ?_ | refine WL.bin rfl rfl rfl rfl (int_gt_f ‹_› _ _ _) ?_ | refine WL.bin rfl rfl rfl rfl (int_gt_d _ _ _ _ _) ?_ | refine WL.skip _ rfl rfl rfl ?_
  first | refine WL.pick rfl rfl rfl rfl ?_
  first | refine WL.assign rfl rfl rfl ?_
  refine WL.done ?_
  refine EW.on ?_
  refine EW.cond_f rfl ?_
  refine EW.skip ?_
  refine pn_block ?_
  refine EW.on ?_
  refine EW.seq ?_
  refine EW.region ?_
  first | refine WL.assign rfl rfl rfl ?_
  refine WL.done ?_
  refine EW.on ?_
  refine EW.ret ?_
  exact EW.returns Try.results58 rfl ⟨rfl, rfl⟩
theorem begun_any (v : Value) (c : List UInt8) (lo hi : Nat) (w : World) (hb : Has w v c) : Calls Try.prog 58 #[v, .int .i64 (lo : Int), .int .i64 (hi : Int)] w fun e w' => e = .returned (.int .i64 (bgD c lo hi)) ∧ w' = w := by
  by_cases h2 : c.length < 2
  · exact begun_1 v c lo hi w hb h2
  · obtain ⟨a, ha⟩ := ofset (l := c) (j := 0) (by omega)
    obtain ⟨b, hb1⟩ := ofset (l := c) (j := 1) (by omega)
    by_cases h1 : a = 1
    · have da : decide (¬ a = 1) = false := decide_eq_false (fun h => h h1)
      by_cases hlo : b.toNat < lo
      · exact begun_3 v c lo hi w hb (by omega) a b ha hb1 da hlo
      · by_cases hhi : hi < b.toNat
        · exact begun_4 v c lo hi w hb (by omega) a b ha hb1 da (by omega) hhi
        · exact begun_5 v c lo hi w hb (by omega) a b ha hb1 da (by omega) (by omega)
    · exact begun_2 v c lo hi w hb (by omega) a ha (decide_eq_true h1)
end Go.Proofs.Ytobfebpinkikdaa
