import Derived.Test.YtacimelcmkhhlaaKd
set_option linter.unusedVariables false
set_option linter.unusedSimpArgs false
namespace Go.Proofs.Ytacimelcmkhhlaa
open Go.RowKit

theorem cvt {x : Nat} (h : x < 4294967296) (W : World) : (Go.convert 28 3 (u32v x)).run Try.prog W = .ok (.int .i64 (x : Int)) W := by
  have e : IntKind.i64.wrap (x : Int) = (x : Int) := by rw [IntKind.wrap_i64]; omega
  unfold u32v
  rw [conv_ui3 (x := x) W, e]
theorem Hl.ld_id {w : World} {q : Nat} {h : Hl} {t : TypeId} (hb : Blk w q h.cs t) (k : h.ok) : (Instr.loadAt 25 (.pointer (some ⟨q, 0 + 0, none⟩))).run Try.prog w = .ok (kv h.id) w := hb.ldA (a := []) (m := h.id.map byt) (b := h.once.map byt ++ [u32v h.pre]) u25 rfl (i25 k.i) rfl rfl
theorem Hl.ld_once {w : World} {q : Nat} {h : Hl} {t : TypeId} (hb : Blk w q h.cs t) (k : h.ok) : (Instr.loadAt 25 (.pointer (some ⟨q, 0 + 32, none⟩))).run Try.prog w = .ok (kv h.once) w := hb.ldA (a := h.id.map byt) (m := h.once.map byt) (b := [u32v h.pre]) u25 rfl (i25 k.o) rfl (by simp [k.i])
theorem hz_iff (h : Hl) : h = Hl.z ↔ h.id = z32 ∧ h.once = z32 ∧ h.pre = 0 := by
  constructor
  · intro e; rw [e]; exact ⟨rfl, rfl, rfl⟩
  · rintro ⟨a, b, c⟩
    cases h
    simp_all [Hl.z]
set_option maxRecDepth 100000 in
set_option maxHeartbeats 4000000 in
theorem greets_any (h : Hl) (k : h.ok) (w : World) : Calls Try.prog 70 #[h.v] w fun e w' => e = .returned (.bool (decide (¬ h = Hl.z))) ∧ Below w.heap.size w w' := by
  obtain ⟨w1, q1, r1, b1, e1, hq1⟩ := box_any 30 h.cs w
  refine calls_of_args [h.v] Try.func70 rfl 22 Try.ntmps70 (by show 1 ≤ 22; decide) ?_
  refine EW.seq ?_
  refine EW.region ?_
  refine WL.box rfl rfl rfl r1 ?_
  first | refine WL.assign rfl rfl rfl ?_
  refine WL.done ?_
  refine EW.on ?_
  refine EW.seq ?_
  have hc : ((¬ h.id = z32) ∧ (¬ h.once = z32)) ∨ ((¬ h.id = z32) ∧ h.once = z32) ∨ (h.id = z32 ∧ (¬ h.once = z32)) ∨ (h.id = z32 ∧ h.once = z32 ∧ ¬ h.pre = 0) ∨ (h.id = z32 ∧ h.once = z32 ∧ h.pre = 0) := by
    by_cases x1 : h.id = z32 <;> by_cases x2 : h.once = z32 <;> by_cases x3 : h.pre = 0 <;> simp [x1, x2, x3]
  rcases hc with ⟨a1, a2⟩ | ⟨a1, a2⟩ | ⟨a1, a2⟩ | ⟨a1, a2, a3⟩ | ⟨a1, a2, a3⟩
  · refine EW.ordB [(0, 0, 0), (1, 0, 1), (3, 0, 0), (4, 0, 1), (2, 1, 1), (5, 1, 1), (6, 0, 0), (7, 0, 0)] (by kernel_rfl) rfl (by kernel_rfl) ?_
    simp only [opsZ, List.getD_cons_zero, List.getD_cons_succ]
    first | refine ZE.field rfl rfl rfl rfl sz0 (fun W => f30_0 q1 0 W) ?_
    first | refine ZE.load rfl rfl rfl rfl sz1 (fun W hW => Hl.ld_id (b1.on (sb_of hW)) k) ?_
    first | refine ZE.field rfl rfl rfl rfl sz0 (fun W => f30_1 q1 0 W) ?_
    first | refine ZE.load rfl rfl rfl rfl sz1 (fun W hW => Hl.ld_once (b1.on (sb_of hW)) k) ?_
    refine ZE.callB (v := .bool false) [kv h.id] enter71 rfl rfl rfl (fun W h => .inr h) (fun W hW => (decide_eq_false a1) ▸ zero_any h.id k.i W) ?_
    refine ZE.callB (v := .bool false) [kv h.once] enter71 rfl rfl rfl (fun W h => .inr h) (fun W hW => (decide_eq_false a2) ▸ zero_any h.once k.o W) ?_
    first | refine ZE.assign rfl rfl rfl rfl sz0 ?_
    first | refine ZE.assign rfl rfl rfl rfl sz0 ?_
    intro w2 be
    have bz := b1.on be
    refine EW.on ?_
    refine EW.seq ?_
    refine EW.region ?_
    first | refine WL.move rfl rfl rfl ?_
    first | refine WL.un rfl rfl rfl (not_t _ _) ?_ | refine WL.skip _ rfl rfl rfl ?_
    first | refine WL.move rfl rfl rfl ?_
    first | refine WL.move rfl rfl rfl ?_ | refine WL.skip _ rfl rfl rfl ?_
    first | refine WL.un rfl rfl rfl (not_t _ _) ?_ | refine WL.skip _ rfl rfl rfl ?_
    first | refine WL.pick rfl rfl rfl rfl ?_
    first | refine WL.move rfl rfl rfl ?_
    first | refine WL.field rfl rfl rfl (f30_2 q1 0 _) ?_ | refine WL.skip _ rfl rfl rfl ?_
    first | refine WL.load rfl rfl rfl (Hl.ld_pre bz k) ?_ | refine WL.skip _ rfl rfl rfl ?_
    first | refine WL.bin rfl rfl rfl rfl (u_ne_t (n := h.pre) (m := 0) (by omega) _ _ _) ?_ | refine WL.skip _ rfl rfl rfl ?_
    first | refine WL.pick rfl rfl rfl rfl ?_
    first | refine WL.assign rfl rfl rfl ?_
    refine WL.done ?_
    refine EW.on ?_
    refine EW.ret ?_
    exact EW.returns Try.results70 rfl ⟨by rw [decide_eq_true (show ¬ h = Hl.z from fun e => by have hh := (hz_iff h).1 e; simp_all)], bt e1 be⟩
  · refine EW.ordB [(0, 0, 0), (1, 0, 1), (3, 0, 0), (4, 0, 1), (2, 1, 1), (5, 1, 1), (6, 0, 0), (7, 0, 0)] (by kernel_rfl) rfl (by kernel_rfl) ?_
    simp only [opsZ, List.getD_cons_zero, List.getD_cons_succ]
    first | refine ZE.field rfl rfl rfl rfl sz0 (fun W => f30_0 q1 0 W) ?_
    first | refine ZE.load rfl rfl rfl rfl sz1 (fun W hW => Hl.ld_id (b1.on (sb_of hW)) k) ?_
    first | refine ZE.field rfl rfl rfl rfl sz0 (fun W => f30_1 q1 0 W) ?_
    first | refine ZE.load rfl rfl rfl rfl sz1 (fun W hW => Hl.ld_once (b1.on (sb_of hW)) k) ?_
    refine ZE.callB (v := .bool false) [kv h.id] enter71 rfl rfl rfl (fun W h => .inr h) (fun W hW => (decide_eq_false a1) ▸ zero_any h.id k.i W) ?_
    refine ZE.callB (v := .bool true) [kv h.once] enter71 rfl rfl rfl (fun W h => .inr h) (fun W hW => (decide_eq_true a2) ▸ zero_any h.once k.o W) ?_
    first | refine ZE.assign rfl rfl rfl rfl sz0 ?_
    first | refine ZE.assign rfl rfl rfl rfl sz0 ?_
    intro w2 be
    have bz := b1.on be
    refine EW.on ?_
    refine EW.seq ?_
    refine EW.region ?_
    first | refine WL.move rfl rfl rfl ?_
    first | refine WL.un rfl rfl rfl (not_t _ _) ?_ | refine WL.skip _ rfl rfl rfl ?_
    first | refine WL.move rfl rfl rfl ?_
    first | refine WL.move rfl rfl rfl ?_ | refine WL.skip _ rfl rfl rfl ?_
    first | refine WL.un rfl rfl rfl (not_t _ _) ?_ | refine WL.skip _ rfl rfl rfl ?_
    first | refine WL.pick rfl rfl rfl rfl ?_
    first | refine WL.move rfl rfl rfl ?_
    first | refine WL.field rfl rfl rfl (f30_2 q1 0 _) ?_ | refine WL.skip _ rfl rfl rfl ?_
    first | refine WL.load rfl rfl rfl (Hl.ld_pre bz k) ?_ | refine WL.skip _ rfl rfl rfl ?_
    first | refine WL.bin rfl rfl rfl rfl (u_ne_t (n := h.pre) (m := 0) (by omega) _ _ _) ?_ | refine WL.skip _ rfl rfl rfl ?_
    first | refine WL.pick rfl rfl rfl rfl ?_
    first | refine WL.assign rfl rfl rfl ?_
    refine WL.done ?_
    refine EW.on ?_
    refine EW.ret ?_
    exact EW.returns Try.results70 rfl ⟨by rw [decide_eq_true (show ¬ h = Hl.z from fun e => by have hh := (hz_iff h).1 e; simp_all)], bt e1 be⟩
  · refine EW.ordB [(0, 0, 0), (1, 0, 1), (3, 0, 0), (4, 0, 1), (2, 1, 1), (5, 1, 1), (6, 0, 0), (7, 0, 0)] (by kernel_rfl) rfl (by kernel_rfl) ?_
    simp only [opsZ, List.getD_cons_zero, List.getD_cons_succ]
    first | refine ZE.field rfl rfl rfl rfl sz0 (fun W => f30_0 q1 0 W) ?_
    first | refine ZE.load rfl rfl rfl rfl sz1 (fun W hW => Hl.ld_id (b1.on (sb_of hW)) k) ?_
    first | refine ZE.field rfl rfl rfl rfl sz0 (fun W => f30_1 q1 0 W) ?_
    first | refine ZE.load rfl rfl rfl rfl sz1 (fun W hW => Hl.ld_once (b1.on (sb_of hW)) k) ?_
    refine ZE.callB (v := .bool true) [kv h.id] enter71 rfl rfl rfl (fun W h => .inr h) (fun W hW => (decide_eq_true a1) ▸ zero_any h.id k.i W) ?_
    refine ZE.callB (v := .bool false) [kv h.once] enter71 rfl rfl rfl (fun W h => .inr h) (fun W hW => (decide_eq_false a2) ▸ zero_any h.once k.o W) ?_
    first | refine ZE.assign rfl rfl rfl rfl sz0 ?_
    first | refine ZE.assign rfl rfl rfl rfl sz0 ?_
    intro w2 be
    have bz := b1.on be
    refine EW.on ?_
    refine EW.seq ?_
    refine EW.region ?_
    first | refine WL.move rfl rfl rfl ?_
    first | refine WL.un rfl rfl rfl (not_t _ _) ?_ | refine WL.skip _ rfl rfl rfl ?_
    first | refine WL.move rfl rfl rfl ?_
    first | refine WL.move rfl rfl rfl ?_ | refine WL.skip _ rfl rfl rfl ?_
    first | refine WL.un rfl rfl rfl (not_t _ _) ?_ | refine WL.skip _ rfl rfl rfl ?_
    first | refine WL.pick rfl rfl rfl rfl ?_
    first | refine WL.move rfl rfl rfl ?_
    first | refine WL.field rfl rfl rfl (f30_2 q1 0 _) ?_ | refine WL.skip _ rfl rfl rfl ?_
    first | refine WL.load rfl rfl rfl (Hl.ld_pre bz k) ?_ | refine WL.skip _ rfl rfl rfl ?_
    first | refine WL.bin rfl rfl rfl rfl (u_ne_t (n := h.pre) (m := 0) (by omega) _ _ _) ?_ | refine WL.skip _ rfl rfl rfl ?_
    first | refine WL.pick rfl rfl rfl rfl ?_
    first | refine WL.assign rfl rfl rfl ?_
    refine WL.done ?_
    refine EW.on ?_
    refine EW.ret ?_
    exact EW.returns Try.results70 rfl ⟨by rw [decide_eq_true (show ¬ h = Hl.z from fun e => by have hh := (hz_iff h).1 e; simp_all)], bt e1 be⟩
  · refine EW.ordB [(0, 0, 0), (1, 0, 1), (3, 0, 0), (4, 0, 1), (2, 1, 1), (5, 1, 1), (6, 0, 0), (7, 0, 0)] (by kernel_rfl) rfl (by kernel_rfl) ?_
    simp only [opsZ, List.getD_cons_zero, List.getD_cons_succ]
    first | refine ZE.field rfl rfl rfl rfl sz0 (fun W => f30_0 q1 0 W) ?_
    first | refine ZE.load rfl rfl rfl rfl sz1 (fun W hW => Hl.ld_id (b1.on (sb_of hW)) k) ?_
    first | refine ZE.field rfl rfl rfl rfl sz0 (fun W => f30_1 q1 0 W) ?_
    first | refine ZE.load rfl rfl rfl rfl sz1 (fun W hW => Hl.ld_once (b1.on (sb_of hW)) k) ?_
    refine ZE.callB (v := .bool true) [kv h.id] enter71 rfl rfl rfl (fun W h => .inr h) (fun W hW => (decide_eq_true a1) ▸ zero_any h.id k.i W) ?_
    refine ZE.callB (v := .bool true) [kv h.once] enter71 rfl rfl rfl (fun W h => .inr h) (fun W hW => (decide_eq_true a2) ▸ zero_any h.once k.o W) ?_
    first | refine ZE.assign rfl rfl rfl rfl sz0 ?_
    first | refine ZE.assign rfl rfl rfl rfl sz0 ?_
    intro w2 be
    have bz := b1.on be
    refine EW.on ?_
    refine EW.seq ?_
    refine EW.region ?_
    first | refine WL.move rfl rfl rfl ?_
    first | refine WL.un rfl rfl rfl (not_t _ _) ?_ | refine WL.skip _ rfl rfl rfl ?_
    first | refine WL.move rfl rfl rfl ?_
    first | refine WL.move rfl rfl rfl ?_ | refine WL.skip _ rfl rfl rfl ?_
    first | refine WL.un rfl rfl rfl (not_t _ _) ?_ | refine WL.skip _ rfl rfl rfl ?_
    first | refine WL.pick rfl rfl rfl rfl ?_
    first | refine WL.move rfl rfl rfl ?_
    first | refine WL.field rfl rfl rfl (f30_2 q1 0 _) ?_ | refine WL.skip _ rfl rfl rfl ?_
    first | refine WL.load rfl rfl rfl (Hl.ld_pre bz k) ?_ | refine WL.skip _ rfl rfl rfl ?_
    first | refine WL.bin rfl rfl rfl rfl (u_ne_t (n := h.pre) (m := 0) (by omega) _ _ _) ?_ | refine WL.skip _ rfl rfl rfl ?_
    first | refine WL.pick rfl rfl rfl rfl ?_
    first | refine WL.assign rfl rfl rfl ?_
    refine WL.done ?_
    refine EW.on ?_
    refine EW.ret ?_
    exact EW.returns Try.results70 rfl ⟨by rw [decide_eq_true (show ¬ h = Hl.z from fun e => by have hh := (hz_iff h).1 e; simp_all)], bt e1 be⟩
  · refine EW.ordB [(0, 0, 0), (1, 0, 1), (3, 0, 0), (4, 0, 1), (2, 1, 1), (5, 1, 1), (6, 0, 0), (7, 0, 0)] (by kernel_rfl) rfl (by kernel_rfl) ?_
    simp only [opsZ, List.getD_cons_zero, List.getD_cons_succ]
    first | refine ZE.field rfl rfl rfl rfl sz0 (fun W => f30_0 q1 0 W) ?_
    first | refine ZE.load rfl rfl rfl rfl sz1 (fun W hW => Hl.ld_id (b1.on (sb_of hW)) k) ?_
    first | refine ZE.field rfl rfl rfl rfl sz0 (fun W => f30_1 q1 0 W) ?_
    first | refine ZE.load rfl rfl rfl rfl sz1 (fun W hW => Hl.ld_once (b1.on (sb_of hW)) k) ?_
    refine ZE.callB (v := .bool true) [kv h.id] enter71 rfl rfl rfl (fun W h => .inr h) (fun W hW => (decide_eq_true a1) ▸ zero_any h.id k.i W) ?_
    refine ZE.callB (v := .bool true) [kv h.once] enter71 rfl rfl rfl (fun W h => .inr h) (fun W hW => (decide_eq_true a2) ▸ zero_any h.once k.o W) ?_
    first | refine ZE.assign rfl rfl rfl rfl sz0 ?_
    first | refine ZE.assign rfl rfl rfl rfl sz0 ?_
    intro w2 be
    have bz := b1.on be
    refine EW.on ?_
    refine EW.seq ?_
    refine EW.region ?_
    first | refine WL.move rfl rfl rfl ?_
    first | refine WL.un rfl rfl rfl (not_t _ _) ?_ | refine WL.skip _ rfl rfl rfl ?_
    first | refine WL.move rfl rfl rfl ?_
    first | refine WL.move rfl rfl rfl ?_ | refine WL.skip _ rfl rfl rfl ?_
    first | refine WL.un rfl rfl rfl (not_t _ _) ?_ | refine WL.skip _ rfl rfl rfl ?_
    first | refine WL.pick rfl rfl rfl rfl ?_
    first | refine WL.move rfl rfl rfl ?_
    first | refine WL.field rfl rfl rfl (f30_2 q1 0 _) ?_ | refine WL.skip _ rfl rfl rfl ?_
    first | refine WL.load rfl rfl rfl (Hl.ld_pre bz k) ?_ | refine WL.skip _ rfl rfl rfl ?_
    first | refine WL.bin rfl rfl rfl rfl (u_ne_f (n := h.pre) (m := 0) (by omega) _ _ _) ?_ | refine WL.skip _ rfl rfl rfl ?_
    first | refine WL.pick rfl rfl rfl rfl ?_
    first | refine WL.assign rfl rfl rfl ?_
    refine WL.done ?_
    refine EW.on ?_
    refine EW.ret ?_
    exact EW.returns Try.results70 rfl ⟨by rw [decide_eq_false (show ¬ ¬ h = Hl.z from fun x => x ((hz_iff h).2 ⟨a1, a2, a3⟩))], bt e1 be⟩
theorem good_iff (s : Sg) : Good s ↔ (s.own ≤ s.turns + 1 ∧ s.turns ≤ s.own + 1) ∧ (s.own = 0 → s.sk = z32 ∧ s.sent = 0 ∧ s.prev = 0 ∧ s.ser = 0 ∧ s.hl = Hl.z) ∧ (s.turns = 0 → s.rk = z32 ∧ s.got = 0) ∧ (s.own = 1 → s.prev = 0 ∧ s.ser = s.sent) ∧ (0 < s.own → s.sent ≤ s.ser ∧ s.prev ≤ s.ser - s.sent) ∧ (s.hl = Hl.z ∨ (¬ s.hl.id = z32 ∧ s.turns = 0 ∧ s.hl.id = s.bind.take 32)) := by
  constructor
  · intro g
    refine ⟨g.1, good_0 g, good_t g, fun h => ?_, fun h => ?_, ?_⟩
    · have e3 := congrArg Sg.prev g.2.1
      simp only [cntD, if_pos (show s.own ≤ 1 by omega)] at e3
      exact ⟨e3, g.2.2.1.2.1 h⟩
    · refine ⟨g.2.2.1.1, ?_⟩
      by_cases h1 : s.own = 1
      · have e3 := congrArg Sg.prev g.2.1
        simp only [cntD, if_pos (show s.own ≤ 1 by omega)] at e3
        omega
      · exact g.2.2.1.2.2 h1
    · rcases g.2.2.2 with h | ⟨h1, h2⟩
      · exact .inl h
      · by_cases ht : s.turns = 0
        · exact .inr ⟨h1, ht, h2⟩
        · exact .inl (good_hl g (.inr (by omega)))
  · rintro ⟨c1, c2, c3, c4, c5, c6⟩
    have hh : s.own = 0 ∨ 0 < s.turns → s.hl = Hl.z := by
      rintro (h | h)
      · exact (c2 h).2.2.2.2
      · rcases c6 with h' | ⟨_, h', _⟩
        · exact h'
        · omega
    refine ⟨c1, ?_, ?_, ?_⟩
    · have e1 : (if s.own = 0 then z32 else s.sk) = s.sk := by split; exact (c2 ‹_›).1.symm; rfl
      have e2 : (if s.own = 0 then 0 else s.sent) = s.sent := by split; exact (c2 ‹_›).2.1.symm; rfl
      have e3 : (if s.own = 0 then 0 else s.ser) = s.ser := by split; exact (c2 ‹_›).2.2.2.1.symm; rfl
      have e4 : (if s.own ≤ 1 then 0 else s.prev) = s.prev := by
        split
        · rcases Nat.lt_or_ge s.own 1 with h | h
          · exact (c2 (by omega)).2.2.1.symm
          · exact (c4 (by omega)).1.symm
        · rfl
      have e5 : (if s.turns = 0 then z32 else s.rk) = s.rk := by split; exact (c3 ‹_›).1.symm; rfl
      have e6 : (if s.turns = 0 then 0 else s.got) = s.got := by split; exact (c3 ‹_›).2.symm; rfl
      have e7 : (if s.own = 0 ∨ 0 < s.turns then Hl.z else s.hl) = s.hl := by split; exact (hh ‹_›).symm; rfl
      unfold cntD
      rw [e1, e2, e3, e4, e5, e6, e7]
    · refine ⟨?_, fun h => (c4 h).2, fun h => ?_⟩
      · rcases Nat.eq_zero_or_pos s.own with h | h
        · have := c2 h; omega
        · exact (c5 h).1
      · rcases Nat.eq_zero_or_pos s.own with h0 | h0
        · have := c2 h0; omega
        · exact (c5 h0).2
    · rcases c6 with h | ⟨h1, _, h2⟩
      · exact .inl h
      · exact .inr ⟨h1, h2⟩
theorem ne5_dd (u v : UInt8) (W : World) (x y : Operand) : (do eqGuard .neq 5 x y (byt u) (byt v); binOp .neq 5 (byt u) (byt v) : Sem Value).run Try.prog W = .ok (.bool (decide (¬ u = v))) W := by
  by_cases h : u = v
  · subst h
    rw [decide_eq_false (fun h => h rfl)]
    unfold byt
    go_simp
  · have : ¬ (u.toNat : Int) = (v.toNat : Int) := fun e => h (UInt8.toNat_inj.1 (by omega))
    rw [decide_eq_true h]
    unfold byt
    go_simp
def mlE (q t : Nat) : List (Nat × Value) := [(1, .pointer (some ⟨q, 0, none⟩)), (12, .int .i64 (t : Int))]
def MlI (w1 : World) (s : Sg) (t : Nat) (W : World) : Prop := t ≤ 32 ∧ Below w1.heap.size w1 W ∧ ∀ i, i < t → s.hl.id.getD i 0 = s.bind.getD i 0
theorem ids_eq {s : Sg} (k : s.ok) (h : ∀ i, i < 32 → s.hl.id.getD i 0 = s.bind.getD i 0) : s.hl.id = s.bind.take 32 := by
  apply getD_ext k.hl.i (takeB k.bind)
  intro i hi
  rw [h i hi, List.getD_eq_getElem?_getD, List.getD_eq_getElem?_getD, List.getElem?_take_of_lt hi]
theorem ids_ne {s : Sg} {i : Nat} (hi : i < 32) (h : ¬ s.hl.id.getD i 0 = s.bind.getD i 0) : ¬ s.hl.id = s.bind.take 32 := fun e => h (by
  rw [e, List.getD_eq_getElem?_getD, List.getD_eq_getElem?_getD, List.getElem?_take_of_lt hi])
theorem may_cases (s : Sg) : (s.turns + 1 < s.own) ∨ (¬ s.turns + 1 < s.own ∧ s.own + 1 < s.turns) ∨ (¬ s.turns + 1 < s.own ∧ ¬ s.own + 1 < s.turns ∧ s.own = 0 ∧ s.sk = z32 ∧ s.sent = 0 ∧ s.prev = 0 ∧ s.ser = 0 ∧ s.hl = Hl.z ∧ s.turns = 0 ∧ s.rk = z32 ∧ s.got = 0) ∨ (¬ s.turns + 1 < s.own ∧ ¬ s.own + 1 < s.turns ∧ s.own = 0 ∧ s.sk = z32 ∧ s.sent = 0 ∧ s.prev = 0 ∧ s.ser = 0 ∧ s.hl = Hl.z ∧ s.turns = 0 ∧ s.rk = z32 ∧ ¬ s.got = 0) ∨ (¬ s.turns + 1 < s.own ∧ ¬ s.own + 1 < s.turns ∧ s.own = 0 ∧ s.sk = z32 ∧ s.sent = 0 ∧ s.prev = 0 ∧ s.ser = 0 ∧ s.hl = Hl.z ∧ s.turns = 0 ∧ ¬ s.rk = z32) ∨ (¬ s.turns + 1 < s.own ∧ ¬ s.own + 1 < s.turns ∧ s.own = 0 ∧ s.sk = z32 ∧ s.sent = 0 ∧ s.prev = 0 ∧ s.ser = 0 ∧ s.hl = Hl.z ∧ ¬ s.turns = 0) ∨ (¬ s.turns + 1 < s.own ∧ ¬ s.own + 1 < s.turns ∧ s.own = 0 ∧ s.sk = z32 ∧ s.sent = 0 ∧ s.prev = 0 ∧ s.ser = 0 ∧ ¬ s.hl = Hl.z) ∨ (¬ s.turns + 1 < s.own ∧ ¬ s.own + 1 < s.turns ∧ s.own = 0 ∧ s.sk = z32 ∧ s.sent = 0 ∧ s.prev = 0 ∧ ¬ s.ser = 0) ∨ (¬ s.turns + 1 < s.own ∧ ¬ s.own + 1 < s.turns ∧ s.own = 0 ∧ s.sk = z32 ∧ s.sent = 0 ∧ ¬ s.prev = 0) ∨ (¬ s.turns + 1 < s.own ∧ ¬ s.own + 1 < s.turns ∧ s.own = 0 ∧ s.sk = z32 ∧ ¬ s.sent = 0) ∨ (¬ s.turns + 1 < s.own ∧ ¬ s.own + 1 < s.turns ∧ s.own = 0 ∧ ¬ s.sk = z32) ∨ (¬ s.turns + 1 < s.own ∧ ¬ s.own + 1 < s.turns ∧ ¬ s.own = 0 ∧ s.turns = 0 ∧ s.rk = z32 ∧ s.got = 0 ∧ s.prev = 0 ∧ s.ser = s.sent ∧ s.hl = Hl.z) ∨ (¬ s.turns + 1 < s.own ∧ ¬ s.own + 1 < s.turns ∧ ¬ s.own = 0 ∧ s.turns = 0 ∧ s.rk = z32 ∧ s.got = 0 ∧ s.prev = 0 ∧ s.ser = s.sent ∧ ¬ s.hl = Hl.z ∧ s.hl.id = z32) ∨ (¬ s.turns + 1 < s.own ∧ ¬ s.own + 1 < s.turns ∧ ¬ s.own = 0 ∧ s.turns = 0 ∧ s.rk = z32 ∧ s.got = 0 ∧ s.prev = 0 ∧ s.ser = s.sent ∧ ¬ s.hl = Hl.z ∧ ¬ s.hl.id = z32) ∨ (¬ s.turns + 1 < s.own ∧ ¬ s.own + 1 < s.turns ∧ ¬ s.own = 0 ∧ s.turns = 0 ∧ s.rk = z32 ∧ s.got = 0 ∧ s.prev = 0 ∧ ¬ s.ser = s.sent) ∨ (¬ s.turns + 1 < s.own ∧ ¬ s.own + 1 < s.turns ∧ ¬ s.own = 0 ∧ s.turns = 0 ∧ s.rk = z32 ∧ s.got = 0 ∧ ¬ s.prev = 0) ∨ (¬ s.turns + 1 < s.own ∧ ¬ s.own + 1 < s.turns ∧ ¬ s.own = 0 ∧ s.turns = 0 ∧ s.rk = z32 ∧ ¬ s.got = 0) ∨ (¬ s.turns + 1 < s.own ∧ ¬ s.own + 1 < s.turns ∧ ¬ s.own = 0 ∧ s.turns = 0 ∧ ¬ s.rk = z32) ∨ (¬ s.turns + 1 < s.own ∧ ¬ s.own + 1 < s.turns ∧ ¬ s.own = 0 ∧ ¬ s.turns = 0 ∧ s.own = 1 ∧ s.prev = 0 ∧ s.ser = s.sent ∧ s.hl = Hl.z) ∨ (¬ s.turns + 1 < s.own ∧ ¬ s.own + 1 < s.turns ∧ ¬ s.own = 0 ∧ ¬ s.turns = 0 ∧ s.own = 1 ∧ s.prev = 0 ∧ s.ser = s.sent ∧ ¬ s.hl = Hl.z ∧ s.hl.id = z32) ∨ (¬ s.turns + 1 < s.own ∧ ¬ s.own + 1 < s.turns ∧ ¬ s.own = 0 ∧ ¬ s.turns = 0 ∧ s.own = 1 ∧ s.prev = 0 ∧ s.ser = s.sent ∧ ¬ s.hl = Hl.z ∧ ¬ s.hl.id = z32) ∨ (¬ s.turns + 1 < s.own ∧ ¬ s.own + 1 < s.turns ∧ ¬ s.own = 0 ∧ ¬ s.turns = 0 ∧ s.own = 1 ∧ s.prev = 0 ∧ ¬ s.ser = s.sent) ∨ (¬ s.turns + 1 < s.own ∧ ¬ s.own + 1 < s.turns ∧ ¬ s.own = 0 ∧ ¬ s.turns = 0 ∧ s.own = 1 ∧ ¬ s.prev = 0) ∨ (¬ s.turns + 1 < s.own ∧ ¬ s.own + 1 < s.turns ∧ ¬ s.own = 0 ∧ ¬ s.turns = 0 ∧ ¬ s.own = 1 ∧ s.ser < s.sent) ∨ (¬ s.turns + 1 < s.own ∧ ¬ s.own + 1 < s.turns ∧ ¬ s.own = 0 ∧ ¬ s.turns = 0 ∧ ¬ s.own = 1 ∧ ¬ s.ser < s.sent ∧ s.ser - s.sent < s.prev) ∨ (¬ s.turns + 1 < s.own ∧ ¬ s.own + 1 < s.turns ∧ ¬ s.own = 0 ∧ ¬ s.turns = 0 ∧ ¬ s.own = 1 ∧ ¬ s.ser < s.sent ∧ ¬ s.ser - s.sent < s.prev ∧ s.hl = Hl.z) ∨ (¬ s.turns + 1 < s.own ∧ ¬ s.own + 1 < s.turns ∧ ¬ s.own = 0 ∧ ¬ s.turns = 0 ∧ ¬ s.own = 1 ∧ ¬ s.ser < s.sent ∧ ¬ s.ser - s.sent < s.prev ∧ ¬ s.hl = Hl.z ∧ s.hl.id = z32) ∨ (¬ s.turns + 1 < s.own ∧ ¬ s.own + 1 < s.turns ∧ ¬ s.own = 0 ∧ ¬ s.turns = 0 ∧ ¬ s.own = 1 ∧ ¬ s.ser < s.sent ∧ ¬ s.ser - s.sent < s.prev ∧ ¬ s.hl = Hl.z ∧ ¬ s.hl.id = z32) := by
  by_cases hA : s.turns + 1 < s.own
  · exact .inl hA
  · by_cases hB : s.own + 1 < s.turns
    · exact .inr (.inl ⟨hA, hB⟩)
    · by_cases hO : s.own = 0
      · by_cases hsk : s.sk = z32
        · by_cases hsent : s.sent = 0
          · by_cases hprev : s.prev = 0
            · by_cases hser : s.ser = 0
              · by_cases hhz : s.hl = Hl.z
                · by_cases hTn : s.turns = 0
                  · by_cases hrk : s.rk = z32
                    · by_cases hgot : s.got = 0
                      · exact .inr (.inr (.inl ⟨hA, hB, hO, hsk, hsent, hprev, hser, hhz, hTn, hrk, hgot⟩))
                      · exact .inr (.inr (.inr (.inl ⟨hA, hB, hO, hsk, hsent, hprev, hser, hhz, hTn, hrk, hgot⟩)))
                    · exact .inr (.inr (.inr (.inr (.inl ⟨hA, hB, hO, hsk, hsent, hprev, hser, hhz, hTn, hrk⟩))))
                  · exact .inr (.inr (.inr (.inr (.inr (.inl ⟨hA, hB, hO, hsk, hsent, hprev, hser, hhz, hTn⟩)))))
                · exact .inr (.inr (.inr (.inr (.inr (.inr (.inl ⟨hA, hB, hO, hsk, hsent, hprev, hser, hhz⟩))))))
              · exact .inr (.inr (.inr (.inr (.inr (.inr (.inr (.inl ⟨hA, hB, hO, hsk, hsent, hprev, hser⟩)))))))
            · exact .inr (.inr (.inr (.inr (.inr (.inr (.inr (.inr (.inl ⟨hA, hB, hO, hsk, hsent, hprev⟩))))))))
          · exact .inr (.inr (.inr (.inr (.inr (.inr (.inr (.inr (.inr (.inl ⟨hA, hB, hO, hsk, hsent⟩)))))))))
        · exact .inr (.inr (.inr (.inr (.inr (.inr (.inr (.inr (.inr (.inr (.inl ⟨hA, hB, hO, hsk⟩))))))))))
      · by_cases hTn : s.turns = 0
        · by_cases hrk : s.rk = z32
          · by_cases hgot : s.got = 0
            · by_cases hprev : s.prev = 0
              · by_cases heq : s.ser = s.sent
                · by_cases hhz : s.hl = Hl.z
                  · exact .inr (.inr (.inr (.inr (.inr (.inr (.inr (.inr (.inr (.inr (.inr (.inl ⟨hA, hB, hO, hTn, hrk, hgot, hprev, heq, hhz⟩)))))))))))
                  · by_cases hidz : s.hl.id = z32
                    · exact .inr (.inr (.inr (.inr (.inr (.inr (.inr (.inr (.inr (.inr (.inr (.inr (.inl ⟨hA, hB, hO, hTn, hrk, hgot, hprev, heq, hhz, hidz⟩))))))))))))
                    · exact .inr (.inr (.inr (.inr (.inr (.inr (.inr (.inr (.inr (.inr (.inr (.inr (.inr (.inl ⟨hA, hB, hO, hTn, hrk, hgot, hprev, heq, hhz, hidz⟩)))))))))))))
                · exact .inr (.inr (.inr (.inr (.inr (.inr (.inr (.inr (.inr (.inr (.inr (.inr (.inr (.inr (.inl ⟨hA, hB, hO, hTn, hrk, hgot, hprev, heq⟩))))))))))))))
              · exact .inr (.inr (.inr (.inr (.inr (.inr (.inr (.inr (.inr (.inr (.inr (.inr (.inr (.inr (.inr (.inl ⟨hA, hB, hO, hTn, hrk, hgot, hprev⟩)))))))))))))))
            · exact .inr (.inr (.inr (.inr (.inr (.inr (.inr (.inr (.inr (.inr (.inr (.inr (.inr (.inr (.inr (.inr (.inl ⟨hA, hB, hO, hTn, hrk, hgot⟩))))))))))))))))
          · exact .inr (.inr (.inr (.inr (.inr (.inr (.inr (.inr (.inr (.inr (.inr (.inr (.inr (.inr (.inr (.inr (.inr (.inl ⟨hA, hB, hO, hTn, hrk⟩)))))))))))))))))
        · by_cases hO1 : s.own = 1
          · by_cases hprev : s.prev = 0
            · by_cases heq : s.ser = s.sent
              · by_cases hhz : s.hl = Hl.z
                · exact .inr (.inr (.inr (.inr (.inr (.inr (.inr (.inr (.inr (.inr (.inr (.inr (.inr (.inr (.inr (.inr (.inr (.inr (.inl ⟨hA, hB, hO, hTn, hO1, hprev, heq, hhz⟩))))))))))))))))))
                · by_cases hidz : s.hl.id = z32
                  · exact .inr (.inr (.inr (.inr (.inr (.inr (.inr (.inr (.inr (.inr (.inr (.inr (.inr (.inr (.inr (.inr (.inr (.inr (.inr (.inl ⟨hA, hB, hO, hTn, hO1, hprev, heq, hhz, hidz⟩)))))))))))))))))))
                  · exact .inr (.inr (.inr (.inr (.inr (.inr (.inr (.inr (.inr (.inr (.inr (.inr (.inr (.inr (.inr (.inr (.inr (.inr (.inr (.inr (.inl ⟨hA, hB, hO, hTn, hO1, hprev, heq, hhz, hidz⟩))))))))))))))))))))
              · exact .inr (.inr (.inr (.inr (.inr (.inr (.inr (.inr (.inr (.inr (.inr (.inr (.inr (.inr (.inr (.inr (.inr (.inr (.inr (.inr (.inr (.inl ⟨hA, hB, hO, hTn, hO1, hprev, heq⟩)))))))))))))))))))))
            · exact .inr (.inr (.inr (.inr (.inr (.inr (.inr (.inr (.inr (.inr (.inr (.inr (.inr (.inr (.inr (.inr (.inr (.inr (.inr (.inr (.inr (.inr (.inl ⟨hA, hB, hO, hTn, hO1, hprev⟩))))))))))))))))))))))
          · by_cases hlt : s.ser < s.sent
            · exact .inr (.inr (.inr (.inr (.inr (.inr (.inr (.inr (.inr (.inr (.inr (.inr (.inr (.inr (.inr (.inr (.inr (.inr (.inr (.inr (.inr (.inr (.inr (.inl ⟨hA, hB, hO, hTn, hO1, hlt⟩)))))))))))))))))))))))
            · by_cases hlt2 : s.ser - s.sent < s.prev
              · exact .inr (.inr (.inr (.inr (.inr (.inr (.inr (.inr (.inr (.inr (.inr (.inr (.inr (.inr (.inr (.inr (.inr (.inr (.inr (.inr (.inr (.inr (.inr (.inr (.inl ⟨hA, hB, hO, hTn, hO1, hlt, hlt2⟩))))))))))))))))))))))))
              · by_cases hhz : s.hl = Hl.z
                · exact .inr (.inr (.inr (.inr (.inr (.inr (.inr (.inr (.inr (.inr (.inr (.inr (.inr (.inr (.inr (.inr (.inr (.inr (.inr (.inr (.inr (.inr (.inr (.inr (.inr (.inl ⟨hA, hB, hO, hTn, hO1, hlt, hlt2, hhz⟩)))))))))))))))))))))))))
                · by_cases hidz : s.hl.id = z32
                  · exact .inr (.inr (.inr (.inr (.inr (.inr (.inr (.inr (.inr (.inr (.inr (.inr (.inr (.inr (.inr (.inr (.inr (.inr (.inr (.inr (.inr (.inr (.inr (.inr (.inr (.inr (.inl ⟨hA, hB, hO, hTn, hO1, hlt, hlt2, hhz, hidz⟩))))))))))))))))))))))))))
                  · exact .inr (.inr (.inr (.inr (.inr (.inr (.inr (.inr (.inr (.inr (.inr (.inr (.inr (.inr (.inr (.inr (.inr (.inr (.inr (.inr (.inr (.inr (.inr (.inr (.inr (.inr (.inr (⟨hA, hB, hO, hTn, hO1, hlt, hlt2, hhz, hidz⟩)))))))))))))))))))))))))))
set_option maxRecDepth 100000 in
set_option maxHeartbeats 4000000 in
theorem rmay_any (s : Sg) (k : s.ok) (w : World) : Calls Try.prog 64 #[s.v] w fun e w' => e = .returned (.bool (decide (Good s))) ∧ Below w.heap.size w w' := by
  obtain ⟨w1, q1, r1, b1, e1, hq1⟩ := box_any 33 s.cs w
  have z1 := k.own
  have z2 := k.turns
  have z3 := k.sent
  have z4 := k.prev
  have z5 := k.ser
  refine calls_of_args [s.v] Try.func64 rfl 129 Try.ntmps64 (by show 1 ≤ 129; decide) ?_
  refine EW.seq ?_
  refine EW.region ?_
  refine WL.box rfl rfl rfl r1 ?_
  first | refine WL.assign rfl rfl rfl ?_
  refine WL.done ?_
  refine EW.on ?_
  refine EW.seq ?_
  refine EW.ordB [(0, 0, 0), (1, 0, 1), (2, 0, 1), (3, 0, 0), (4, 0, 1), (5, 0, 1), (6, 0, 0), (7, 0, 0)] (by kernel_rfl) rfl (by kernel_rfl) ?_
  simp only [opsZ, List.getD_cons_zero, List.getD_cons_succ]
  first | refine ZE.field rfl rfl rfl rfl sz0 (fun W => f33_6 q1 W) ?_
  first | refine ZE.load rfl rfl rfl rfl sz1 (fun W hW => Sg.ld_own (b1.on (sb_of hW)) k) ?_
  refine ZE.conv rfl rfl rfl rfl sz1 (fun W hW => cvt k.own W) ?_
  first | refine ZE.field rfl rfl rfl rfl sz0 (fun W => f33_7 q1 W) ?_
  first | refine ZE.load rfl rfl rfl rfl sz1 (fun W hW => Sg.ld_turns (b1.on (sb_of hW)) k) ?_
  refine ZE.conv rfl rfl rfl rfl sz1 (fun W hW => cvt k.turns W) ?_
  first | refine ZE.assign rfl rfl rfl rfl sz0 ?_
  first | refine ZE.assign rfl rfl rfl rfl sz0 ?_
  intro w1a e1a
  have bq0 := b1.on e1a
  have l1a := bt e1 e1a
  refine EW.on ?_
  refine EW.seq ?_
  refine EW.ordB [(0, 0, 0), (1, 0, 1), (2, 0, 1), (3, 0, 0), (4, 0, 1), (5, 0, 1), (6, 0, 0), (7, 0, 1), (8, 0, 1), (9, 0, 0), (10, 0, 0), (11, 0, 0)] (by kernel_rfl) rfl (by kernel_rfl) ?_
  simp only [opsZ, List.getD_cons_zero, List.getD_cons_succ]
  first | refine ZE.field rfl rfl rfl rfl sz0 (fun W => f33_8 q1 W) ?_
  first | refine ZE.load rfl rfl rfl rfl sz1 (fun W hW => Sg.ld_sent (bq0.on (sb_of hW)) k) ?_
  refine ZE.conv rfl rfl rfl rfl sz1 (fun W hW => cvt k.sent W) ?_
  first | refine ZE.field rfl rfl rfl rfl sz0 (fun W => f33_10 q1 W) ?_
  first | refine ZE.load rfl rfl rfl rfl sz1 (fun W hW => Sg.ld_prev (bq0.on (sb_of hW)) k) ?_
  refine ZE.conv rfl rfl rfl rfl sz1 (fun W hW => cvt k.prev W) ?_
  first | refine ZE.field rfl rfl rfl rfl sz0 (fun W => f33_11 q1 W) ?_
  first | refine ZE.load rfl rfl rfl rfl sz1 (fun W hW => Sg.ld_ser (bq0.on (sb_of hW)) k) ?_
  refine ZE.conv rfl rfl rfl rfl sz1 (fun W hW => cvt k.ser W) ?_
  first | refine ZE.assign rfl rfl rfl rfl sz0 ?_
  first | refine ZE.assign rfl rfl rfl rfl sz0 ?_
  first | refine ZE.assign rfl rfl rfl rfl sz0 ?_
  intro w1b e1b
  have bq1 := bq0.on e1b
  have l1b := bt l1a e1b
  refine EW.on ?_
  refine EW.seq ?_
  rcases may_cases s with hA | ⟨hA, hB⟩ | ⟨hA, hB, hO, hsk, hsent, hprev, hser, hhz, hTn, hrk, hgot⟩ | ⟨hA, hB, hO, hsk, hsent, hprev, hser, hhz, hTn, hrk, hgot⟩ | ⟨hA, hB, hO, hsk, hsent, hprev, hser, hhz, hTn, hrk⟩ | ⟨hA, hB, hO, hsk, hsent, hprev, hser, hhz, hTn⟩ | ⟨hA, hB, hO, hsk, hsent, hprev, hser, hhz⟩ | ⟨hA, hB, hO, hsk, hsent, hprev, hser⟩ | ⟨hA, hB, hO, hsk, hsent, hprev⟩ | ⟨hA, hB, hO, hsk, hsent⟩ | ⟨hA, hB, hO, hsk⟩ | ⟨hA, hB, hO, hTn, hrk, hgot, hprev, heq, hhz⟩ | ⟨hA, hB, hO, hTn, hrk, hgot, hprev, heq, hhz, hidz⟩ | ⟨hA, hB, hO, hTn, hrk, hgot, hprev, heq, hhz, hidz⟩ | ⟨hA, hB, hO, hTn, hrk, hgot, hprev, heq⟩ | ⟨hA, hB, hO, hTn, hrk, hgot, hprev⟩ | ⟨hA, hB, hO, hTn, hrk, hgot⟩ | ⟨hA, hB, hO, hTn, hrk⟩ | ⟨hA, hB, hO, hTn, hO1, hprev, heq, hhz⟩ | ⟨hA, hB, hO, hTn, hO1, hprev, heq, hhz, hidz⟩ | ⟨hA, hB, hO, hTn, hO1, hprev, heq, hhz, hidz⟩ | ⟨hA, hB, hO, hTn, hO1, hprev, heq⟩ | ⟨hA, hB, hO, hTn, hO1, hprev⟩ | ⟨hA, hB, hO, hTn, hO1, hlt⟩ | ⟨hA, hB, hO, hTn, hO1, hlt, hlt2⟩ | ⟨hA, hB, hO, hTn, hO1, hlt, hlt2, hhz⟩ | ⟨hA, hB, hO, hTn, hO1, hlt, hlt2, hhz, hidz⟩ | ⟨hA, hB, hO, hTn, hO1, hlt, hlt2, hhz, hidz⟩
  · refine EW.region ?_
    first | refine WL.field rfl rfl rfl (f33_12 q1 _) ?_
    first | refine WL.load rfl rfl rfl (Sg.ld_hl bq1 k) ?_
    refine WL.call [s.hl.v] enter70 rfl rfl rfl (greets_any _ k.hl _) ?_
    rintro _ w2 ⟨rfl, e2⟩
    have bq2 := bq1.on e2
    have l2 := bt l1b e2
    refine ⟨_, rfl, ?_⟩
    first | refine WL.assign rfl rfl rfl ?_
    refine WL.done ?_
    refine EW.on ?_
    refine EW.seq ?_
    refine EW.seq ?_
    refine EW.region ?_
    refine WL.move rfl rfl rfl ?_
    refine WL.move rfl rfl rfl ?_
    refine WL.bin rfl rfl rfl rfl (int_sub (c := (s.own : Int) - (s.turns : Int)) (by rw [IntKind.wrap_i64]; omega) _ _ _) ?_
    refine WL.bin rfl rfl rfl rfl (int_gt_t (by omega) _ _ _) ?_
    refine WL.move rfl rfl rfl ?_
    refine WL.skip _ rfl rfl rfl ?_
    refine WL.skip _ rfl rfl rfl ?_
    refine WL.skip _ rfl rfl rfl ?_
    refine WL.skip _ rfl rfl rfl ?_
    refine WL.pick rfl rfl rfl rfl ?_
    refine WL.done ?_
    refine EW.on ?_
    refine EW.cond_t rfl ?_
    refine EW.seq ?_
    refine EW.region ?_
    first | refine WL.assign rfl rfl rfl ?_
    refine WL.done ?_
    refine EW.on ?_
    refine EW.ret ?_
    refine pr_then ?_
    exact EW.returns Try.results64 rfl ⟨by rw [decide_eq_false (fun g => by have g := (good_iff s).1 g; have := g.1; omega)], l2⟩
  · refine EW.region ?_
    first | refine WL.field rfl rfl rfl (f33_12 q1 _) ?_
    first | refine WL.load rfl rfl rfl (Sg.ld_hl bq1 k) ?_
    refine WL.call [s.hl.v] enter70 rfl rfl rfl (greets_any _ k.hl _) ?_
    rintro _ w2 ⟨rfl, e2⟩
    have bq2 := bq1.on e2
    have l2 := bt l1b e2
    refine ⟨_, rfl, ?_⟩
    first | refine WL.assign rfl rfl rfl ?_
    refine WL.done ?_
    refine EW.on ?_
    refine EW.seq ?_
    refine EW.seq ?_
    refine EW.region ?_
    refine WL.move rfl rfl rfl ?_
    refine WL.move rfl rfl rfl ?_
    refine WL.bin rfl rfl rfl rfl (int_sub (c := (s.own : Int) - (s.turns : Int)) (by rw [IntKind.wrap_i64]; omega) _ _ _) ?_
    refine WL.bin rfl rfl rfl rfl (int_gt_f (by omega) _ _ _) ?_
    refine WL.move rfl rfl rfl ?_
    refine WL.move rfl rfl rfl ?_
    refine WL.move rfl rfl rfl ?_
    refine WL.bin rfl rfl rfl rfl (int_sub (c := (s.turns : Int) - (s.own : Int)) (by rw [IntKind.wrap_i64]; omega) _ _ _) ?_
    refine WL.bin rfl rfl rfl rfl (int_gt_t (by omega) _ _ _) ?_
    refine WL.pick rfl rfl rfl rfl ?_
    refine WL.done ?_
    refine EW.on ?_
    refine EW.cond_t rfl ?_
    refine EW.seq ?_
    refine EW.region ?_
    first | refine WL.assign rfl rfl rfl ?_
    refine WL.done ?_
    refine EW.on ?_
    refine EW.ret ?_
    refine pr_then ?_
    exact EW.returns Try.results64 rfl ⟨by rw [decide_eq_false (fun g => by have g := (good_iff s).1 g; have := g.1; omega)], l2⟩
  · refine EW.region ?_
    first | refine WL.field rfl rfl rfl (f33_12 q1 _) ?_
    first | refine WL.load rfl rfl rfl (Sg.ld_hl bq1 k) ?_
    refine WL.call [s.hl.v] enter70 rfl rfl rfl (greets_any _ k.hl _) ?_
    rintro _ w2 ⟨rfl, e2⟩
    have bq2 := bq1.on e2
    have l2 := bt l1b e2
    rw [decide_eq_false (fun h => h hhz)]
    refine ⟨_, rfl, ?_⟩
    first | refine WL.assign rfl rfl rfl ?_
    refine WL.done ?_
    refine EW.on ?_
    refine EW.seq ?_
    refine EW.seq ?_
    refine EW.region ?_
    refine WL.move rfl rfl rfl ?_
    refine WL.move rfl rfl rfl ?_
    refine WL.bin rfl rfl rfl rfl (int_sub (c := (s.own : Int) - (s.turns : Int)) (by rw [IntKind.wrap_i64]; omega) _ _ _) ?_
    refine WL.bin rfl rfl rfl rfl (int_gt_f (by omega) _ _ _) ?_
    refine WL.move rfl rfl rfl ?_
    refine WL.move rfl rfl rfl ?_
    refine WL.move rfl rfl rfl ?_
    refine WL.bin rfl rfl rfl rfl (int_sub (c := (s.turns : Int) - (s.own : Int)) (by rw [IntKind.wrap_i64]; omega) _ _ _) ?_
    refine WL.bin rfl rfl rfl rfl (int_gt_f (by omega) _ _ _) ?_
    refine WL.pick rfl rfl rfl rfl ?_
    refine WL.done ?_
    refine EW.on ?_
    refine EW.cond_f rfl ?_
    refine EW.skip ?_
    refine EW.on ?_
    refine EW.seq ?_
    refine EW.ordB [(0, 0, 0), (1, 0, 1), (3, 0, 0), (4, 0, 1), (2, 1, 1), (5, 1, 1), (6, 0, 0), (7, 0, 0)] (by kernel_rfl) rfl (by kernel_rfl) ?_
    simp only [opsZ, List.getD_cons_zero, List.getD_cons_succ]
    first | refine ZE.field rfl rfl rfl rfl sz0 (fun W => f33_4 q1 W) ?_
    first | refine ZE.load rfl rfl rfl rfl sz1 (fun W hW => Sg.ld_sk (bq2.on (sb_of hW)) k) ?_
    first | refine ZE.field rfl rfl rfl rfl sz0 (fun W => f33_5 q1 W) ?_
    first | refine ZE.load rfl rfl rfl rfl sz1 (fun W hW => Sg.ld_rk (bq2.on (sb_of hW)) k) ?_
    refine ZE.callB (v := .bool true) [kv s.sk] enter71 rfl rfl rfl (fun W h => .inr h) (fun W hW => (decide_eq_true hsk) ▸ zero_any s.sk k.sk W) ?_
    refine ZE.callB (v := .bool true) [kv s.rk] enter71 rfl rfl rfl (fun W h => .inr h) (fun W hW => (decide_eq_true hrk) ▸ zero_any s.rk k.rk W) ?_
    first | refine ZE.assign rfl rfl rfl rfl sz0 ?_
    first | refine ZE.assign rfl rfl rfl rfl sz0 ?_
    intro w3 e3
    have bq3 := bq2.on e3
    have l3 := bt l2 e3
    refine EW.on ?_
    refine EW.seq ?_
    refine EW.seq ?_
    refine EW.region ?_
    refine WL.move rfl rfl rfl ?_
    refine WL.bin rfl rfl rfl rfl (int_eq_t (by omega) _ _ _) ?_
    refine WL.move rfl rfl rfl ?_
    refine WL.move rfl rfl rfl ?_
    refine WL.un rfl rfl rfl (not_t _ _) ?_
    refine WL.move rfl rfl rfl ?_
    refine WL.move rfl rfl rfl ?_
    refine WL.bin rfl rfl rfl rfl (int_ne_f (by omega) _ _ _) ?_
    refine WL.pick rfl rfl rfl rfl ?_
    refine WL.move rfl rfl rfl ?_
    refine WL.move rfl rfl rfl ?_
    refine WL.bin rfl rfl rfl rfl (int_ne_f (by omega) _ _ _) ?_
    refine WL.pick rfl rfl rfl rfl ?_
    refine WL.move rfl rfl rfl ?_
    refine WL.move rfl rfl rfl ?_
    refine WL.bin rfl rfl rfl rfl (int_ne_f (by omega) _ _ _) ?_
    refine WL.pick rfl rfl rfl rfl ?_
    refine WL.move rfl rfl rfl ?_
    refine WL.move rfl rfl rfl ?_
    refine WL.pick rfl rfl rfl rfl ?_
    refine WL.pick rfl rfl rfl rfl ?_
    refine WL.done ?_
    refine EW.on ?_
    refine EW.cond_f rfl ?_
    refine EW.skip ?_
    refine EW.on ?_
    refine EW.seq ?_
    refine EW.seq ?_
    refine EW.region ?_
    refine WL.move rfl rfl rfl ?_
    refine WL.bin rfl rfl rfl rfl (int_eq_t (by omega) _ _ _) ?_
    refine WL.move rfl rfl rfl ?_
    refine WL.move rfl rfl rfl ?_
    refine WL.un rfl rfl rfl (not_t _ _) ?_
    refine WL.move rfl rfl rfl ?_
    refine WL.field rfl rfl rfl (f33_9 q1 _) ?_
    refine WL.load rfl rfl rfl (Sg.ld_got bq3 k) ?_
    refine WL.bin rfl rfl rfl rfl (u_ne_f (n := s.got) (m := 0) (by omega) _ _ _) ?_
    refine WL.pick rfl rfl rfl rfl ?_
    refine WL.pick rfl rfl rfl rfl ?_
    refine WL.done ?_
    refine EW.on ?_
    refine EW.cond_f rfl ?_
    refine EW.skip ?_
    refine EW.on ?_
    refine EW.seq ?_
    refine EW.seq ?_
    refine EW.region ?_
    refine WL.move rfl rfl rfl ?_
    refine WL.bin rfl rfl rfl rfl (int_eq_f (by omega) _ _ _) ?_
    refine WL.move rfl rfl rfl ?_
    refine WL.skip _ rfl rfl rfl ?_
    refine WL.skip _ rfl rfl rfl ?_
    refine WL.skip _ rfl rfl rfl ?_
    refine WL.skip _ rfl rfl rfl ?_
    refine WL.skip _ rfl rfl rfl ?_
    refine WL.skip _ rfl rfl rfl ?_
    refine WL.skip _ rfl rfl rfl ?_
    refine WL.pick rfl rfl rfl rfl ?_
    refine WL.done ?_
    refine EW.on ?_
    refine EW.cond_f rfl ?_
    refine EW.skip ?_
    refine EW.on ?_
    refine EW.seq ?_
    refine EW.seq ?_
    refine EW.region ?_
    refine WL.move rfl rfl rfl ?_
    refine WL.bin rfl rfl rfl rfl (int_gt_f (by omega) _ _ _) ?_
    refine WL.move rfl rfl rfl ?_
    refine WL.skip _ rfl rfl rfl ?_
    refine WL.skip _ rfl rfl rfl ?_
    refine WL.skip _ rfl rfl rfl ?_
    refine WL.skip _ rfl rfl rfl ?_
    refine WL.skip _ rfl rfl rfl ?_
    refine WL.skip _ rfl rfl rfl ?_
    refine WL.skip _ rfl rfl rfl ?_
    refine WL.skip _ rfl rfl rfl ?_
    refine WL.skip _ rfl rfl rfl ?_
    refine WL.skip _ rfl rfl rfl ?_
    refine WL.pick rfl rfl rfl rfl ?_
    refine WL.done ?_
    refine EW.on ?_
    refine EW.cond_f rfl ?_
    refine EW.skip ?_
    refine EW.on ?_
    refine EW.seq ?_
    refine EW.seq ?_
    refine EW.region ?_
    first | refine WL.move rfl rfl rfl ?_
    refine WL.un rfl rfl rfl (not_t _ _) ?_
    refine WL.done ?_
    refine EW.on ?_
    refine EW.cond_t rfl ?_
    refine EW.seq ?_
    refine EW.region ?_
    first | refine WL.assign rfl rfl rfl ?_
    refine WL.done ?_
    refine EW.on ?_
    refine EW.ret ?_
    refine pr_then ?_
    exact EW.returns Try.results64 rfl ⟨by rw [decide_eq_true ((good_iff s).2 ⟨⟨by omega, by omega⟩, fun _ => ⟨hsk, hsent, hprev, hser, hhz⟩, fun _ => ⟨hrk, hgot⟩, fun e => by omega, fun e => ⟨by omega, by omega⟩, .inl hhz⟩)], l3⟩
  · refine EW.region ?_
    first | refine WL.field rfl rfl rfl (f33_12 q1 _) ?_
    first | refine WL.load rfl rfl rfl (Sg.ld_hl bq1 k) ?_
    refine WL.call [s.hl.v] enter70 rfl rfl rfl (greets_any _ k.hl _) ?_
    rintro _ w2 ⟨rfl, e2⟩
    have bq2 := bq1.on e2
    have l2 := bt l1b e2
    rw [decide_eq_false (fun h => h hhz)]
    refine ⟨_, rfl, ?_⟩
    first | refine WL.assign rfl rfl rfl ?_
    refine WL.done ?_
    refine EW.on ?_
    refine EW.seq ?_
    refine EW.seq ?_
    refine EW.region ?_
    refine WL.move rfl rfl rfl ?_
    refine WL.move rfl rfl rfl ?_
    refine WL.bin rfl rfl rfl rfl (int_sub (c := (s.own : Int) - (s.turns : Int)) (by rw [IntKind.wrap_i64]; omega) _ _ _) ?_
    refine WL.bin rfl rfl rfl rfl (int_gt_f (by omega) _ _ _) ?_
    refine WL.move rfl rfl rfl ?_
    refine WL.move rfl rfl rfl ?_
    refine WL.move rfl rfl rfl ?_
    refine WL.bin rfl rfl rfl rfl (int_sub (c := (s.turns : Int) - (s.own : Int)) (by rw [IntKind.wrap_i64]; omega) _ _ _) ?_
    refine WL.bin rfl rfl rfl rfl (int_gt_f (by omega) _ _ _) ?_
    refine WL.pick rfl rfl rfl rfl ?_
    refine WL.done ?_
    refine EW.on ?_
    refine EW.cond_f rfl ?_
    refine EW.skip ?_
    refine EW.on ?_
    refine EW.seq ?_
    refine EW.ordB [(0, 0, 0), (1, 0, 1), (3, 0, 0), (4, 0, 1), (2, 1, 1), (5, 1, 1), (6, 0, 0), (7, 0, 0)] (by kernel_rfl) rfl (by kernel_rfl) ?_
    simp only [opsZ, List.getD_cons_zero, List.getD_cons_succ]
    first | refine ZE.field rfl rfl rfl rfl sz0 (fun W => f33_4 q1 W) ?_
    first | refine ZE.load rfl rfl rfl rfl sz1 (fun W hW => Sg.ld_sk (bq2.on (sb_of hW)) k) ?_
    first | refine ZE.field rfl rfl rfl rfl sz0 (fun W => f33_5 q1 W) ?_
    first | refine ZE.load rfl rfl rfl rfl sz1 (fun W hW => Sg.ld_rk (bq2.on (sb_of hW)) k) ?_
    refine ZE.callB (v := .bool true) [kv s.sk] enter71 rfl rfl rfl (fun W h => .inr h) (fun W hW => (decide_eq_true hsk) ▸ zero_any s.sk k.sk W) ?_
    refine ZE.callB (v := .bool true) [kv s.rk] enter71 rfl rfl rfl (fun W h => .inr h) (fun W hW => (decide_eq_true hrk) ▸ zero_any s.rk k.rk W) ?_
    first | refine ZE.assign rfl rfl rfl rfl sz0 ?_
    first | refine ZE.assign rfl rfl rfl rfl sz0 ?_
    intro w3 e3
    have bq3 := bq2.on e3
    have l3 := bt l2 e3
    refine EW.on ?_
    refine EW.seq ?_
    refine EW.seq ?_
    refine EW.region ?_
    refine WL.move rfl rfl rfl ?_
    refine WL.bin rfl rfl rfl rfl (int_eq_t (by omega) _ _ _) ?_
    refine WL.move rfl rfl rfl ?_
    refine WL.move rfl rfl rfl ?_
    refine WL.un rfl rfl rfl (not_t _ _) ?_
    refine WL.move rfl rfl rfl ?_
    refine WL.move rfl rfl rfl ?_
    refine WL.bin rfl rfl rfl rfl (int_ne_f (by omega) _ _ _) ?_
    refine WL.pick rfl rfl rfl rfl ?_
    refine WL.move rfl rfl rfl ?_
    refine WL.move rfl rfl rfl ?_
    refine WL.bin rfl rfl rfl rfl (int_ne_f (by omega) _ _ _) ?_
    refine WL.pick rfl rfl rfl rfl ?_
    refine WL.move rfl rfl rfl ?_
    refine WL.move rfl rfl rfl ?_
    refine WL.bin rfl rfl rfl rfl (int_ne_f (by omega) _ _ _) ?_
    refine WL.pick rfl rfl rfl rfl ?_
    refine WL.move rfl rfl rfl ?_
    refine WL.move rfl rfl rfl ?_
    refine WL.pick rfl rfl rfl rfl ?_
    refine WL.pick rfl rfl rfl rfl ?_
    refine WL.done ?_
    refine EW.on ?_
    refine EW.cond_f rfl ?_
    refine EW.skip ?_
    refine EW.on ?_
    refine EW.seq ?_
    refine EW.seq ?_
    refine EW.region ?_
    refine WL.move rfl rfl rfl ?_
    refine WL.bin rfl rfl rfl rfl (int_eq_t (by omega) _ _ _) ?_
    refine WL.move rfl rfl rfl ?_
    refine WL.move rfl rfl rfl ?_
    refine WL.un rfl rfl rfl (not_t _ _) ?_
    refine WL.move rfl rfl rfl ?_
    refine WL.field rfl rfl rfl (f33_9 q1 _) ?_
    refine WL.load rfl rfl rfl (Sg.ld_got bq3 k) ?_
    refine WL.bin rfl rfl rfl rfl (u_ne_t (n := s.got) (m := 0) (by omega) _ _ _) ?_
    refine WL.pick rfl rfl rfl rfl ?_
    refine WL.pick rfl rfl rfl rfl ?_
    refine WL.done ?_
    refine EW.on ?_
    refine EW.cond_t rfl ?_
    refine EW.seq ?_
    refine EW.region ?_
    first | refine WL.assign rfl rfl rfl ?_
    refine WL.done ?_
    refine EW.on ?_
    refine EW.ret ?_
    refine pr_then ?_
    exact EW.returns Try.results64 rfl ⟨by rw [decide_eq_false (fun g => by have g := (good_iff s).1 g; exact hgot (g.2.2.1 hTn).2)], l3⟩
  · refine EW.region ?_
    first | refine WL.field rfl rfl rfl (f33_12 q1 _) ?_
    first | refine WL.load rfl rfl rfl (Sg.ld_hl bq1 k) ?_
    refine WL.call [s.hl.v] enter70 rfl rfl rfl (greets_any _ k.hl _) ?_
    rintro _ w2 ⟨rfl, e2⟩
    have bq2 := bq1.on e2
    have l2 := bt l1b e2
    rw [decide_eq_false (fun h => h hhz)]
    refine ⟨_, rfl, ?_⟩
    first | refine WL.assign rfl rfl rfl ?_
    refine WL.done ?_
    refine EW.on ?_
    refine EW.seq ?_
    refine EW.seq ?_
    refine EW.region ?_
    refine WL.move rfl rfl rfl ?_
    refine WL.move rfl rfl rfl ?_
    refine WL.bin rfl rfl rfl rfl (int_sub (c := (s.own : Int) - (s.turns : Int)) (by rw [IntKind.wrap_i64]; omega) _ _ _) ?_
    refine WL.bin rfl rfl rfl rfl (int_gt_f (by omega) _ _ _) ?_
    refine WL.move rfl rfl rfl ?_
    refine WL.move rfl rfl rfl ?_
    refine WL.move rfl rfl rfl ?_
    refine WL.bin rfl rfl rfl rfl (int_sub (c := (s.turns : Int) - (s.own : Int)) (by rw [IntKind.wrap_i64]; omega) _ _ _) ?_
    refine WL.bin rfl rfl rfl rfl (int_gt_f (by omega) _ _ _) ?_
    refine WL.pick rfl rfl rfl rfl ?_
    refine WL.done ?_
    refine EW.on ?_
    refine EW.cond_f rfl ?_
    refine EW.skip ?_
    refine EW.on ?_
    refine EW.seq ?_
    refine EW.ordB [(0, 0, 0), (1, 0, 1), (3, 0, 0), (4, 0, 1), (2, 1, 1), (5, 1, 1), (6, 0, 0), (7, 0, 0)] (by kernel_rfl) rfl (by kernel_rfl) ?_
    simp only [opsZ, List.getD_cons_zero, List.getD_cons_succ]
    first | refine ZE.field rfl rfl rfl rfl sz0 (fun W => f33_4 q1 W) ?_
    first | refine ZE.load rfl rfl rfl rfl sz1 (fun W hW => Sg.ld_sk (bq2.on (sb_of hW)) k) ?_
    first | refine ZE.field rfl rfl rfl rfl sz0 (fun W => f33_5 q1 W) ?_
    first | refine ZE.load rfl rfl rfl rfl sz1 (fun W hW => Sg.ld_rk (bq2.on (sb_of hW)) k) ?_
    refine ZE.callB (v := .bool true) [kv s.sk] enter71 rfl rfl rfl (fun W h => .inr h) (fun W hW => (decide_eq_true hsk) ▸ zero_any s.sk k.sk W) ?_
    refine ZE.callB (v := .bool false) [kv s.rk] enter71 rfl rfl rfl (fun W h => .inr h) (fun W hW => (decide_eq_false hrk) ▸ zero_any s.rk k.rk W) ?_
    first | refine ZE.assign rfl rfl rfl rfl sz0 ?_
    first | refine ZE.assign rfl rfl rfl rfl sz0 ?_
    intro w3 e3
    have bq3 := bq2.on e3
    have l3 := bt l2 e3
    refine EW.on ?_
    refine EW.seq ?_
    refine EW.seq ?_
    refine EW.region ?_
    refine WL.move rfl rfl rfl ?_
    refine WL.bin rfl rfl rfl rfl (int_eq_t (by omega) _ _ _) ?_
    refine WL.move rfl rfl rfl ?_
    refine WL.move rfl rfl rfl ?_
    refine WL.un rfl rfl rfl (not_t _ _) ?_
    refine WL.move rfl rfl rfl ?_
    refine WL.move rfl rfl rfl ?_
    refine WL.bin rfl rfl rfl rfl (int_ne_f (by omega) _ _ _) ?_
    refine WL.pick rfl rfl rfl rfl ?_
    refine WL.move rfl rfl rfl ?_
    refine WL.move rfl rfl rfl ?_
    refine WL.bin rfl rfl rfl rfl (int_ne_f (by omega) _ _ _) ?_
    refine WL.pick rfl rfl rfl rfl ?_
    refine WL.move rfl rfl rfl ?_
    refine WL.move rfl rfl rfl ?_
    refine WL.bin rfl rfl rfl rfl (int_ne_f (by omega) _ _ _) ?_
    refine WL.pick rfl rfl rfl rfl ?_
    refine WL.move rfl rfl rfl ?_
    refine WL.move rfl rfl rfl ?_
    refine WL.pick rfl rfl rfl rfl ?_
    refine WL.pick rfl rfl rfl rfl ?_
    refine WL.done ?_
    refine EW.on ?_
    refine EW.cond_f rfl ?_
    refine EW.skip ?_
    refine EW.on ?_
    refine EW.seq ?_
    refine EW.seq ?_
    refine EW.region ?_
    refine WL.move rfl rfl rfl ?_
    refine WL.bin rfl rfl rfl rfl (int_eq_t (by omega) _ _ _) ?_
    refine WL.move rfl rfl rfl ?_
    refine WL.move rfl rfl rfl ?_
    refine WL.un rfl rfl rfl (not_t _ _) ?_
    refine WL.move rfl rfl rfl ?_
    refine WL.skip _ rfl rfl rfl ?_
    refine WL.skip _ rfl rfl rfl ?_
    refine WL.skip _ rfl rfl rfl ?_
    refine WL.pick rfl rfl rfl rfl ?_
    refine WL.pick rfl rfl rfl rfl ?_
    refine WL.done ?_
    refine EW.on ?_
    refine EW.cond_t rfl ?_
    refine EW.seq ?_
    refine EW.region ?_
    first | refine WL.assign rfl rfl rfl ?_
    refine WL.done ?_
    refine EW.on ?_
    refine EW.ret ?_
    refine pr_then ?_
    exact EW.returns Try.results64 rfl ⟨by rw [decide_eq_false (fun g => by have g := (good_iff s).1 g; exact hrk (g.2.2.1 hTn).1)], l3⟩
  · refine EW.region ?_
    first | refine WL.field rfl rfl rfl (f33_12 q1 _) ?_
    first | refine WL.load rfl rfl rfl (Sg.ld_hl bq1 k) ?_
    refine WL.call [s.hl.v] enter70 rfl rfl rfl (greets_any _ k.hl _) ?_
    rintro _ w2 ⟨rfl, e2⟩
    have bq2 := bq1.on e2
    have l2 := bt l1b e2
    rw [decide_eq_false (fun h => h hhz)]
    refine ⟨_, rfl, ?_⟩
    first | refine WL.assign rfl rfl rfl ?_
    refine WL.done ?_
    refine EW.on ?_
    refine EW.seq ?_
    refine EW.seq ?_
    refine EW.region ?_
    refine WL.move rfl rfl rfl ?_
    refine WL.move rfl rfl rfl ?_
    refine WL.bin rfl rfl rfl rfl (int_sub (c := (s.own : Int) - (s.turns : Int)) (by rw [IntKind.wrap_i64]; omega) _ _ _) ?_
    refine WL.bin rfl rfl rfl rfl (int_gt_f (by omega) _ _ _) ?_
    refine WL.move rfl rfl rfl ?_
    refine WL.move rfl rfl rfl ?_
    refine WL.move rfl rfl rfl ?_
    refine WL.bin rfl rfl rfl rfl (int_sub (c := (s.turns : Int) - (s.own : Int)) (by rw [IntKind.wrap_i64]; omega) _ _ _) ?_
    refine WL.bin rfl rfl rfl rfl (int_gt_f (by omega) _ _ _) ?_
    refine WL.pick rfl rfl rfl rfl ?_
    refine WL.done ?_
    refine EW.on ?_
    refine EW.cond_f rfl ?_
    refine EW.skip ?_
    refine EW.on ?_
    refine EW.seq ?_
    refine EW.ordB [(0, 0, 0), (1, 0, 1), (3, 0, 0), (4, 0, 1), (2, 1, 1), (5, 1, 1), (6, 0, 0), (7, 0, 0)] (by kernel_rfl) rfl (by kernel_rfl) ?_
    simp only [opsZ, List.getD_cons_zero, List.getD_cons_succ]
    first | refine ZE.field rfl rfl rfl rfl sz0 (fun W => f33_4 q1 W) ?_
    first | refine ZE.load rfl rfl rfl rfl sz1 (fun W hW => Sg.ld_sk (bq2.on (sb_of hW)) k) ?_
    first | refine ZE.field rfl rfl rfl rfl sz0 (fun W => f33_5 q1 W) ?_
    first | refine ZE.load rfl rfl rfl rfl sz1 (fun W hW => Sg.ld_rk (bq2.on (sb_of hW)) k) ?_
    refine ZE.callB (v := .bool true) [kv s.sk] enter71 rfl rfl rfl (fun W h => .inr h) (fun W hW => (decide_eq_true hsk) ▸ zero_any s.sk k.sk W) ?_
    refine ZE.callB [kv s.rk] enter71 rfl rfl rfl (fun W h => .inr h) (fun W hW => zero_any s.rk k.rk W) ?_
    first | refine ZE.assign rfl rfl rfl rfl sz0 ?_
    first | refine ZE.assign rfl rfl rfl rfl sz0 ?_
    intro w3 e3
    have bq3 := bq2.on e3
    have l3 := bt l2 e3
    refine EW.on ?_
    refine EW.seq ?_
    refine EW.seq ?_
    refine EW.region ?_
    refine WL.move rfl rfl rfl ?_
    refine WL.bin rfl rfl rfl rfl (int_eq_t (by omega) _ _ _) ?_
    refine WL.move rfl rfl rfl ?_
    refine WL.move rfl rfl rfl ?_
    refine WL.un rfl rfl rfl (not_t _ _) ?_
    refine WL.move rfl rfl rfl ?_
    refine WL.move rfl rfl rfl ?_
    refine WL.bin rfl rfl rfl rfl (int_ne_f (by omega) _ _ _) ?_
    refine WL.pick rfl rfl rfl rfl ?_
    refine WL.move rfl rfl rfl ?_
    refine WL.move rfl rfl rfl ?_
    refine WL.bin rfl rfl rfl rfl (int_ne_f (by omega) _ _ _) ?_
    refine WL.pick rfl rfl rfl rfl ?_
    refine WL.move rfl rfl rfl ?_
    refine WL.move rfl rfl rfl ?_
    refine WL.bin rfl rfl rfl rfl (int_ne_f (by omega) _ _ _) ?_
    refine WL.pick rfl rfl rfl rfl ?_
    refine WL.move rfl rfl rfl ?_
    refine WL.move rfl rfl rfl ?_
    refine WL.pick rfl rfl rfl rfl ?_
    refine WL.pick rfl rfl rfl rfl ?_
    refine WL.done ?_
    refine EW.on ?_
    refine EW.cond_f rfl ?_
    refine EW.skip ?_
    refine EW.on ?_
    refine EW.seq ?_
    refine EW.seq ?_
    refine EW.region ?_
    refine WL.move rfl rfl rfl ?_
    refine WL.bin rfl rfl rfl rfl (int_eq_f (by omega) _ _ _) ?_
    refine WL.move rfl rfl rfl ?_
    refine WL.skip _ rfl rfl rfl ?_
    refine WL.skip _ rfl rfl rfl ?_
    refine WL.skip _ rfl rfl rfl ?_
    refine WL.skip _ rfl rfl rfl ?_
    refine WL.skip _ rfl rfl rfl ?_
    refine WL.skip _ rfl rfl rfl ?_
    refine WL.skip _ rfl rfl rfl ?_
    refine WL.pick rfl rfl rfl rfl ?_
    refine WL.done ?_
    refine EW.on ?_
    refine EW.cond_f rfl ?_
    refine EW.skip ?_
    refine EW.on ?_
    refine EW.seq ?_
    refine EW.seq ?_
    refine EW.region ?_
    refine WL.move rfl rfl rfl ?_
    refine WL.bin rfl rfl rfl rfl (int_eq_f (by omega) _ _ _) ?_
    refine WL.move rfl rfl rfl ?_
    refine WL.skip _ rfl rfl rfl ?_
    refine WL.skip _ rfl rfl rfl ?_
    refine WL.skip _ rfl rfl rfl ?_
    refine WL.skip _ rfl rfl rfl ?_
    refine WL.skip _ rfl rfl rfl ?_
    refine WL.skip _ rfl rfl rfl ?_
    refine WL.skip _ rfl rfl rfl ?_
    refine WL.pick rfl rfl rfl rfl ?_
    refine WL.done ?_
    refine EW.on ?_
    refine EW.cond_f rfl ?_
    refine EW.skip ?_
    refine EW.on ?_
    refine EW.seq ?_
    refine EW.seq ?_
    refine EW.region ?_
    refine WL.move rfl rfl rfl ?_
    refine WL.bin rfl rfl rfl rfl (int_gt_f (by omega) _ _ _) ?_
    refine WL.move rfl rfl rfl ?_
    refine WL.skip _ rfl rfl rfl ?_
    refine WL.skip _ rfl rfl rfl ?_
    refine WL.skip _ rfl rfl rfl ?_
    refine WL.skip _ rfl rfl rfl ?_
    refine WL.skip _ rfl rfl rfl ?_
    refine WL.skip _ rfl rfl rfl ?_
    refine WL.skip _ rfl rfl rfl ?_
    refine WL.skip _ rfl rfl rfl ?_
    refine WL.skip _ rfl rfl rfl ?_
    refine WL.skip _ rfl rfl rfl ?_
    refine WL.pick rfl rfl rfl rfl ?_
    refine WL.done ?_
    refine EW.on ?_
    refine EW.cond_f rfl ?_
    refine EW.skip ?_
    refine EW.on ?_
    refine EW.seq ?_
    refine EW.seq ?_
    refine EW.region ?_
    first | refine WL.move rfl rfl rfl ?_
    refine WL.un rfl rfl rfl (not_t _ _) ?_
    refine WL.done ?_
    refine EW.on ?_
    refine EW.cond_t rfl ?_
    refine EW.seq ?_
    refine EW.region ?_
    first | refine WL.assign rfl rfl rfl ?_
    refine WL.done ?_
    refine EW.on ?_
    refine EW.ret ?_
    refine pr_then ?_
    exact EW.returns Try.results64 rfl ⟨by rw [decide_eq_true ((good_iff s).2 ⟨⟨by omega, by omega⟩, fun _ => ⟨hsk, hsent, hprev, hser, hhz⟩, fun e => absurd e hTn, fun e => by omega, fun e => ⟨by omega, by omega⟩, .inl hhz⟩)], l3⟩
  · refine EW.region ?_
    first | refine WL.field rfl rfl rfl (f33_12 q1 _) ?_
    first | refine WL.load rfl rfl rfl (Sg.ld_hl bq1 k) ?_
    refine WL.call [s.hl.v] enter70 rfl rfl rfl (greets_any _ k.hl _) ?_
    rintro _ w2 ⟨rfl, e2⟩
    have bq2 := bq1.on e2
    have l2 := bt l1b e2
    rw [decide_eq_true hhz]
    refine ⟨_, rfl, ?_⟩
    first | refine WL.assign rfl rfl rfl ?_
    refine WL.done ?_
    refine EW.on ?_
    refine EW.seq ?_
    refine EW.seq ?_
    refine EW.region ?_
    refine WL.move rfl rfl rfl ?_
    refine WL.move rfl rfl rfl ?_
    refine WL.bin rfl rfl rfl rfl (int_sub (c := (s.own : Int) - (s.turns : Int)) (by rw [IntKind.wrap_i64]; omega) _ _ _) ?_
    refine WL.bin rfl rfl rfl rfl (int_gt_f (by omega) _ _ _) ?_
    refine WL.move rfl rfl rfl ?_
    refine WL.move rfl rfl rfl ?_
    refine WL.move rfl rfl rfl ?_
    refine WL.bin rfl rfl rfl rfl (int_sub (c := (s.turns : Int) - (s.own : Int)) (by rw [IntKind.wrap_i64]; omega) _ _ _) ?_
    refine WL.bin rfl rfl rfl rfl (int_gt_f (by omega) _ _ _) ?_
    refine WL.pick rfl rfl rfl rfl ?_
    refine WL.done ?_
    refine EW.on ?_
    refine EW.cond_f rfl ?_
    refine EW.skip ?_
    refine EW.on ?_
    refine EW.seq ?_
    refine EW.ordB [(0, 0, 0), (1, 0, 1), (3, 0, 0), (4, 0, 1), (2, 1, 1), (5, 1, 1), (6, 0, 0), (7, 0, 0)] (by kernel_rfl) rfl (by kernel_rfl) ?_
    simp only [opsZ, List.getD_cons_zero, List.getD_cons_succ]
    first | refine ZE.field rfl rfl rfl rfl sz0 (fun W => f33_4 q1 W) ?_
    first | refine ZE.load rfl rfl rfl rfl sz1 (fun W hW => Sg.ld_sk (bq2.on (sb_of hW)) k) ?_
    first | refine ZE.field rfl rfl rfl rfl sz0 (fun W => f33_5 q1 W) ?_
    first | refine ZE.load rfl rfl rfl rfl sz1 (fun W hW => Sg.ld_rk (bq2.on (sb_of hW)) k) ?_
    refine ZE.callB (v := .bool true) [kv s.sk] enter71 rfl rfl rfl (fun W h => .inr h) (fun W hW => (decide_eq_true hsk) ▸ zero_any s.sk k.sk W) ?_
    refine ZE.callB [kv s.rk] enter71 rfl rfl rfl (fun W h => .inr h) (fun W hW => zero_any s.rk k.rk W) ?_
    first | refine ZE.assign rfl rfl rfl rfl sz0 ?_
    first | refine ZE.assign rfl rfl rfl rfl sz0 ?_
    intro w3 e3
    have bq3 := bq2.on e3
    have l3 := bt l2 e3
    refine EW.on ?_
    refine EW.seq ?_
    refine EW.seq ?_
    refine EW.region ?_
    refine WL.move rfl rfl rfl ?_
    refine WL.bin rfl rfl rfl rfl (int_eq_t (by omega) _ _ _) ?_
    refine WL.move rfl rfl rfl ?_
    refine WL.move rfl rfl rfl ?_
    refine WL.un rfl rfl rfl (not_t _ _) ?_
    refine WL.move rfl rfl rfl ?_
    refine WL.move rfl rfl rfl ?_
    refine WL.bin rfl rfl rfl rfl (int_ne_f (by omega) _ _ _) ?_
    refine WL.pick rfl rfl rfl rfl ?_
    refine WL.move rfl rfl rfl ?_
    refine WL.move rfl rfl rfl ?_
    refine WL.bin rfl rfl rfl rfl (int_ne_f (by omega) _ _ _) ?_
    refine WL.pick rfl rfl rfl rfl ?_
    refine WL.move rfl rfl rfl ?_
    refine WL.move rfl rfl rfl ?_
    refine WL.bin rfl rfl rfl rfl (int_ne_f (by omega) _ _ _) ?_
    refine WL.pick rfl rfl rfl rfl ?_
    refine WL.move rfl rfl rfl ?_
    refine WL.move rfl rfl rfl ?_
    refine WL.pick rfl rfl rfl rfl ?_
    refine WL.pick rfl rfl rfl rfl ?_
    refine WL.done ?_
    refine EW.on ?_
    refine EW.cond_t rfl ?_
    refine EW.seq ?_
    refine EW.region ?_
    first | refine WL.assign rfl rfl rfl ?_
    refine WL.done ?_
    refine EW.on ?_
    refine EW.ret ?_
    refine pr_then ?_
    exact EW.returns Try.results64 rfl ⟨by rw [decide_eq_false (fun g => by have g := (good_iff s).1 g; exact hhz (g.2.1 hO).2.2.2.2)], l3⟩
  · refine EW.region ?_
    first | refine WL.field rfl rfl rfl (f33_12 q1 _) ?_
    first | refine WL.load rfl rfl rfl (Sg.ld_hl bq1 k) ?_
    refine WL.call [s.hl.v] enter70 rfl rfl rfl (greets_any _ k.hl _) ?_
    rintro _ w2 ⟨rfl, e2⟩
    have bq2 := bq1.on e2
    have l2 := bt l1b e2
    refine ⟨_, rfl, ?_⟩
    first | refine WL.assign rfl rfl rfl ?_
    refine WL.done ?_
    refine EW.on ?_
    refine EW.seq ?_
    refine EW.seq ?_
    refine EW.region ?_
    refine WL.move rfl rfl rfl ?_
    refine WL.move rfl rfl rfl ?_
    refine WL.bin rfl rfl rfl rfl (int_sub (c := (s.own : Int) - (s.turns : Int)) (by rw [IntKind.wrap_i64]; omega) _ _ _) ?_
    refine WL.bin rfl rfl rfl rfl (int_gt_f (by omega) _ _ _) ?_
    refine WL.move rfl rfl rfl ?_
    refine WL.move rfl rfl rfl ?_
    refine WL.move rfl rfl rfl ?_
    refine WL.bin rfl rfl rfl rfl (int_sub (c := (s.turns : Int) - (s.own : Int)) (by rw [IntKind.wrap_i64]; omega) _ _ _) ?_
    refine WL.bin rfl rfl rfl rfl (int_gt_f (by omega) _ _ _) ?_
    refine WL.pick rfl rfl rfl rfl ?_
    refine WL.done ?_
    refine EW.on ?_
    refine EW.cond_f rfl ?_
    refine EW.skip ?_
    refine EW.on ?_
    refine EW.seq ?_
    refine EW.ordB [(0, 0, 0), (1, 0, 1), (3, 0, 0), (4, 0, 1), (2, 1, 1), (5, 1, 1), (6, 0, 0), (7, 0, 0)] (by kernel_rfl) rfl (by kernel_rfl) ?_
    simp only [opsZ, List.getD_cons_zero, List.getD_cons_succ]
    first | refine ZE.field rfl rfl rfl rfl sz0 (fun W => f33_4 q1 W) ?_
    first | refine ZE.load rfl rfl rfl rfl sz1 (fun W hW => Sg.ld_sk (bq2.on (sb_of hW)) k) ?_
    first | refine ZE.field rfl rfl rfl rfl sz0 (fun W => f33_5 q1 W) ?_
    first | refine ZE.load rfl rfl rfl rfl sz1 (fun W hW => Sg.ld_rk (bq2.on (sb_of hW)) k) ?_
    refine ZE.callB (v := .bool true) [kv s.sk] enter71 rfl rfl rfl (fun W h => .inr h) (fun W hW => (decide_eq_true hsk) ▸ zero_any s.sk k.sk W) ?_
    refine ZE.callB [kv s.rk] enter71 rfl rfl rfl (fun W h => .inr h) (fun W hW => zero_any s.rk k.rk W) ?_
    first | refine ZE.assign rfl rfl rfl rfl sz0 ?_
    first | refine ZE.assign rfl rfl rfl rfl sz0 ?_
    intro w3 e3
    have bq3 := bq2.on e3
    have l3 := bt l2 e3
    refine EW.on ?_
    refine EW.seq ?_
    refine EW.seq ?_
    refine EW.region ?_
    refine WL.move rfl rfl rfl ?_
    refine WL.bin rfl rfl rfl rfl (int_eq_t (by omega) _ _ _) ?_
    refine WL.move rfl rfl rfl ?_
    refine WL.move rfl rfl rfl ?_
    refine WL.un rfl rfl rfl (not_t _ _) ?_
    refine WL.move rfl rfl rfl ?_
    refine WL.move rfl rfl rfl ?_
    refine WL.bin rfl rfl rfl rfl (int_ne_f (by omega) _ _ _) ?_
    refine WL.pick rfl rfl rfl rfl ?_
    refine WL.move rfl rfl rfl ?_
    refine WL.move rfl rfl rfl ?_
    refine WL.bin rfl rfl rfl rfl (int_ne_f (by omega) _ _ _) ?_
    refine WL.pick rfl rfl rfl rfl ?_
    refine WL.move rfl rfl rfl ?_
    refine WL.move rfl rfl rfl ?_
    refine WL.bin rfl rfl rfl rfl (int_ne_t (by omega) _ _ _) ?_
    refine WL.pick rfl rfl rfl rfl ?_
    refine WL.move rfl rfl rfl ?_
    refine WL.skip _ rfl rfl rfl ?_
    refine WL.pick rfl rfl rfl rfl ?_
    refine WL.pick rfl rfl rfl rfl ?_
    refine WL.done ?_
    refine EW.on ?_
    refine EW.cond_t rfl ?_
    refine EW.seq ?_
    refine EW.region ?_
    first | refine WL.assign rfl rfl rfl ?_
    refine WL.done ?_
    refine EW.on ?_
    refine EW.ret ?_
    refine pr_then ?_
    exact EW.returns Try.results64 rfl ⟨by rw [decide_eq_false (fun g => by have g := (good_iff s).1 g; exact hser (g.2.1 hO).2.2.2.1)], l3⟩
  · refine EW.region ?_
    first | refine WL.field rfl rfl rfl (f33_12 q1 _) ?_
    first | refine WL.load rfl rfl rfl (Sg.ld_hl bq1 k) ?_
    refine WL.call [s.hl.v] enter70 rfl rfl rfl (greets_any _ k.hl _) ?_
    rintro _ w2 ⟨rfl, e2⟩
    have bq2 := bq1.on e2
    have l2 := bt l1b e2
    refine ⟨_, rfl, ?_⟩
    first | refine WL.assign rfl rfl rfl ?_
    refine WL.done ?_
    refine EW.on ?_
    refine EW.seq ?_
    refine EW.seq ?_
    refine EW.region ?_
    refine WL.move rfl rfl rfl ?_
    refine WL.move rfl rfl rfl ?_
    refine WL.bin rfl rfl rfl rfl (int_sub (c := (s.own : Int) - (s.turns : Int)) (by rw [IntKind.wrap_i64]; omega) _ _ _) ?_
    refine WL.bin rfl rfl rfl rfl (int_gt_f (by omega) _ _ _) ?_
    refine WL.move rfl rfl rfl ?_
    refine WL.move rfl rfl rfl ?_
    refine WL.move rfl rfl rfl ?_
    refine WL.bin rfl rfl rfl rfl (int_sub (c := (s.turns : Int) - (s.own : Int)) (by rw [IntKind.wrap_i64]; omega) _ _ _) ?_
    refine WL.bin rfl rfl rfl rfl (int_gt_f (by omega) _ _ _) ?_
    refine WL.pick rfl rfl rfl rfl ?_
    refine WL.done ?_
    refine EW.on ?_
    refine EW.cond_f rfl ?_
    refine EW.skip ?_
    refine EW.on ?_
    refine EW.seq ?_
    refine EW.ordB [(0, 0, 0), (1, 0, 1), (3, 0, 0), (4, 0, 1), (2, 1, 1), (5, 1, 1), (6, 0, 0), (7, 0, 0)] (by kernel_rfl) rfl (by kernel_rfl) ?_
    simp only [opsZ, List.getD_cons_zero, List.getD_cons_succ]
    first | refine ZE.field rfl rfl rfl rfl sz0 (fun W => f33_4 q1 W) ?_
    first | refine ZE.load rfl rfl rfl rfl sz1 (fun W hW => Sg.ld_sk (bq2.on (sb_of hW)) k) ?_
    first | refine ZE.field rfl rfl rfl rfl sz0 (fun W => f33_5 q1 W) ?_
    first | refine ZE.load rfl rfl rfl rfl sz1 (fun W hW => Sg.ld_rk (bq2.on (sb_of hW)) k) ?_
    refine ZE.callB (v := .bool true) [kv s.sk] enter71 rfl rfl rfl (fun W h => .inr h) (fun W hW => (decide_eq_true hsk) ▸ zero_any s.sk k.sk W) ?_
    refine ZE.callB [kv s.rk] enter71 rfl rfl rfl (fun W h => .inr h) (fun W hW => zero_any s.rk k.rk W) ?_
    first | refine ZE.assign rfl rfl rfl rfl sz0 ?_
    first | refine ZE.assign rfl rfl rfl rfl sz0 ?_
    intro w3 e3
    have bq3 := bq2.on e3
    have l3 := bt l2 e3
    refine EW.on ?_
    refine EW.seq ?_
    refine EW.seq ?_
    refine EW.region ?_
    refine WL.move rfl rfl rfl ?_
    refine WL.bin rfl rfl rfl rfl (int_eq_t (by omega) _ _ _) ?_
    refine WL.move rfl rfl rfl ?_
    refine WL.move rfl rfl rfl ?_
    refine WL.un rfl rfl rfl (not_t _ _) ?_
    refine WL.move rfl rfl rfl ?_
    refine WL.move rfl rfl rfl ?_
    refine WL.bin rfl rfl rfl rfl (int_ne_f (by omega) _ _ _) ?_
    refine WL.pick rfl rfl rfl rfl ?_
    refine WL.move rfl rfl rfl ?_
    refine WL.move rfl rfl rfl ?_
    refine WL.bin rfl rfl rfl rfl (int_ne_t (by omega) _ _ _) ?_
    refine WL.pick rfl rfl rfl rfl ?_
    refine WL.move rfl rfl rfl ?_
    refine WL.skip _ rfl rfl rfl ?_
    refine WL.skip _ rfl rfl rfl ?_
    refine WL.pick rfl rfl rfl rfl ?_
    refine WL.move rfl rfl rfl ?_
    refine WL.skip _ rfl rfl rfl ?_
    refine WL.pick rfl rfl rfl rfl ?_
    refine WL.pick rfl rfl rfl rfl ?_
    refine WL.done ?_
    refine EW.on ?_
    refine EW.cond_t rfl ?_
    refine EW.seq ?_
    refine EW.region ?_
    first | refine WL.assign rfl rfl rfl ?_
    refine WL.done ?_
    refine EW.on ?_
    refine EW.ret ?_
    refine pr_then ?_
    exact EW.returns Try.results64 rfl ⟨by rw [decide_eq_false (fun g => by have g := (good_iff s).1 g; exact hprev (g.2.1 hO).2.2.1)], l3⟩
  · refine EW.region ?_
    first | refine WL.field rfl rfl rfl (f33_12 q1 _) ?_
    first | refine WL.load rfl rfl rfl (Sg.ld_hl bq1 k) ?_
    refine WL.call [s.hl.v] enter70 rfl rfl rfl (greets_any _ k.hl _) ?_
    rintro _ w2 ⟨rfl, e2⟩
    have bq2 := bq1.on e2
    have l2 := bt l1b e2
    refine ⟨_, rfl, ?_⟩
    first | refine WL.assign rfl rfl rfl ?_
    refine WL.done ?_
    refine EW.on ?_
    refine EW.seq ?_
    refine EW.seq ?_
    refine EW.region ?_
    refine WL.move rfl rfl rfl ?_
    refine WL.move rfl rfl rfl ?_
    refine WL.bin rfl rfl rfl rfl (int_sub (c := (s.own : Int) - (s.turns : Int)) (by rw [IntKind.wrap_i64]; omega) _ _ _) ?_
    refine WL.bin rfl rfl rfl rfl (int_gt_f (by omega) _ _ _) ?_
    refine WL.move rfl rfl rfl ?_
    refine WL.move rfl rfl rfl ?_
    refine WL.move rfl rfl rfl ?_
    refine WL.bin rfl rfl rfl rfl (int_sub (c := (s.turns : Int) - (s.own : Int)) (by rw [IntKind.wrap_i64]; omega) _ _ _) ?_
    refine WL.bin rfl rfl rfl rfl (int_gt_f (by omega) _ _ _) ?_
    refine WL.pick rfl rfl rfl rfl ?_
    refine WL.done ?_
    refine EW.on ?_
    refine EW.cond_f rfl ?_
    refine EW.skip ?_
    refine EW.on ?_
    refine EW.seq ?_
    refine EW.ordB [(0, 0, 0), (1, 0, 1), (3, 0, 0), (4, 0, 1), (2, 1, 1), (5, 1, 1), (6, 0, 0), (7, 0, 0)] (by kernel_rfl) rfl (by kernel_rfl) ?_
    simp only [opsZ, List.getD_cons_zero, List.getD_cons_succ]
    first | refine ZE.field rfl rfl rfl rfl sz0 (fun W => f33_4 q1 W) ?_
    first | refine ZE.load rfl rfl rfl rfl sz1 (fun W hW => Sg.ld_sk (bq2.on (sb_of hW)) k) ?_
    first | refine ZE.field rfl rfl rfl rfl sz0 (fun W => f33_5 q1 W) ?_
    first | refine ZE.load rfl rfl rfl rfl sz1 (fun W hW => Sg.ld_rk (bq2.on (sb_of hW)) k) ?_
    refine ZE.callB (v := .bool true) [kv s.sk] enter71 rfl rfl rfl (fun W h => .inr h) (fun W hW => (decide_eq_true hsk) ▸ zero_any s.sk k.sk W) ?_
    refine ZE.callB [kv s.rk] enter71 rfl rfl rfl (fun W h => .inr h) (fun W hW => zero_any s.rk k.rk W) ?_
    first | refine ZE.assign rfl rfl rfl rfl sz0 ?_
    first | refine ZE.assign rfl rfl rfl rfl sz0 ?_
    intro w3 e3
    have bq3 := bq2.on e3
    have l3 := bt l2 e3
    refine EW.on ?_
    refine EW.seq ?_
    refine EW.seq ?_
    refine EW.region ?_
    refine WL.move rfl rfl rfl ?_
    refine WL.bin rfl rfl rfl rfl (int_eq_t (by omega) _ _ _) ?_
    refine WL.move rfl rfl rfl ?_
    refine WL.move rfl rfl rfl ?_
    refine WL.un rfl rfl rfl (not_t _ _) ?_
    refine WL.move rfl rfl rfl ?_
    refine WL.move rfl rfl rfl ?_
    refine WL.bin rfl rfl rfl rfl (int_ne_t (by omega) _ _ _) ?_
    refine WL.pick rfl rfl rfl rfl ?_
    refine WL.move rfl rfl rfl ?_
    refine WL.skip _ rfl rfl rfl ?_
    refine WL.skip _ rfl rfl rfl ?_
    refine WL.pick rfl rfl rfl rfl ?_
    refine WL.move rfl rfl rfl ?_
    refine WL.skip _ rfl rfl rfl ?_
    refine WL.skip _ rfl rfl rfl ?_
    refine WL.pick rfl rfl rfl rfl ?_
    refine WL.move rfl rfl rfl ?_
    refine WL.skip _ rfl rfl rfl ?_
    refine WL.pick rfl rfl rfl rfl ?_
    refine WL.pick rfl rfl rfl rfl ?_
    refine WL.done ?_
    refine EW.on ?_
    refine EW.cond_t rfl ?_
    refine EW.seq ?_
    refine EW.region ?_
    first | refine WL.assign rfl rfl rfl ?_
    refine WL.done ?_
    refine EW.on ?_
    refine EW.ret ?_
    refine pr_then ?_
    exact EW.returns Try.results64 rfl ⟨by rw [decide_eq_false (fun g => by have g := (good_iff s).1 g; exact hsent (g.2.1 hO).2.1)], l3⟩
  · refine EW.region ?_
    first | refine WL.field rfl rfl rfl (f33_12 q1 _) ?_
    first | refine WL.load rfl rfl rfl (Sg.ld_hl bq1 k) ?_
    refine WL.call [s.hl.v] enter70 rfl rfl rfl (greets_any _ k.hl _) ?_
    rintro _ w2 ⟨rfl, e2⟩
    have bq2 := bq1.on e2
    have l2 := bt l1b e2
    refine ⟨_, rfl, ?_⟩
    first | refine WL.assign rfl rfl rfl ?_
    refine WL.done ?_
    refine EW.on ?_
    refine EW.seq ?_
    refine EW.seq ?_
    refine EW.region ?_
    refine WL.move rfl rfl rfl ?_
    refine WL.move rfl rfl rfl ?_
    refine WL.bin rfl rfl rfl rfl (int_sub (c := (s.own : Int) - (s.turns : Int)) (by rw [IntKind.wrap_i64]; omega) _ _ _) ?_
    refine WL.bin rfl rfl rfl rfl (int_gt_f (by omega) _ _ _) ?_
    refine WL.move rfl rfl rfl ?_
    refine WL.move rfl rfl rfl ?_
    refine WL.move rfl rfl rfl ?_
    refine WL.bin rfl rfl rfl rfl (int_sub (c := (s.turns : Int) - (s.own : Int)) (by rw [IntKind.wrap_i64]; omega) _ _ _) ?_
    refine WL.bin rfl rfl rfl rfl (int_gt_f (by omega) _ _ _) ?_
    refine WL.pick rfl rfl rfl rfl ?_
    refine WL.done ?_
    refine EW.on ?_
    refine EW.cond_f rfl ?_
    refine EW.skip ?_
    refine EW.on ?_
    refine EW.seq ?_
    refine EW.ordB [(0, 0, 0), (1, 0, 1), (3, 0, 0), (4, 0, 1), (2, 1, 1), (5, 1, 1), (6, 0, 0), (7, 0, 0)] (by kernel_rfl) rfl (by kernel_rfl) ?_
    simp only [opsZ, List.getD_cons_zero, List.getD_cons_succ]
    first | refine ZE.field rfl rfl rfl rfl sz0 (fun W => f33_4 q1 W) ?_
    first | refine ZE.load rfl rfl rfl rfl sz1 (fun W hW => Sg.ld_sk (bq2.on (sb_of hW)) k) ?_
    first | refine ZE.field rfl rfl rfl rfl sz0 (fun W => f33_5 q1 W) ?_
    first | refine ZE.load rfl rfl rfl rfl sz1 (fun W hW => Sg.ld_rk (bq2.on (sb_of hW)) k) ?_
    refine ZE.callB (v := .bool false) [kv s.sk] enter71 rfl rfl rfl (fun W h => .inr h) (fun W hW => (decide_eq_false hsk) ▸ zero_any s.sk k.sk W) ?_
    refine ZE.callB [kv s.rk] enter71 rfl rfl rfl (fun W h => .inr h) (fun W hW => zero_any s.rk k.rk W) ?_
    first | refine ZE.assign rfl rfl rfl rfl sz0 ?_
    first | refine ZE.assign rfl rfl rfl rfl sz0 ?_
    intro w3 e3
    have bq3 := bq2.on e3
    have l3 := bt l2 e3
    refine EW.on ?_
    refine EW.seq ?_
    refine EW.seq ?_
    refine EW.region ?_
    refine WL.move rfl rfl rfl ?_
    refine WL.bin rfl rfl rfl rfl (int_eq_t (by omega) _ _ _) ?_
    refine WL.move rfl rfl rfl ?_
    refine WL.move rfl rfl rfl ?_
    refine WL.un rfl rfl rfl (not_t _ _) ?_
    refine WL.move rfl rfl rfl ?_
    refine WL.skip _ rfl rfl rfl ?_
    refine WL.skip _ rfl rfl rfl ?_
    refine WL.pick rfl rfl rfl rfl ?_
    refine WL.move rfl rfl rfl ?_
    refine WL.skip _ rfl rfl rfl ?_
    refine WL.skip _ rfl rfl rfl ?_
    refine WL.pick rfl rfl rfl rfl ?_
    refine WL.move rfl rfl rfl ?_
    refine WL.skip _ rfl rfl rfl ?_
    refine WL.skip _ rfl rfl rfl ?_
    refine WL.pick rfl rfl rfl rfl ?_
    refine WL.move rfl rfl rfl ?_
    refine WL.skip _ rfl rfl rfl ?_
    refine WL.pick rfl rfl rfl rfl ?_
    refine WL.pick rfl rfl rfl rfl ?_
    refine WL.done ?_
    refine EW.on ?_
    refine EW.cond_t rfl ?_
    refine EW.seq ?_
    refine EW.region ?_
    first | refine WL.assign rfl rfl rfl ?_
    refine WL.done ?_
    refine EW.on ?_
    refine EW.ret ?_
    refine pr_then ?_
    exact EW.returns Try.results64 rfl ⟨by rw [decide_eq_false (fun g => by have g := (good_iff s).1 g; exact hsk (g.2.1 hO).1)], l3⟩
  · refine EW.region ?_
    first | refine WL.field rfl rfl rfl (f33_12 q1 _) ?_
    first | refine WL.load rfl rfl rfl (Sg.ld_hl bq1 k) ?_
    refine WL.call [s.hl.v] enter70 rfl rfl rfl (greets_any _ k.hl _) ?_
    rintro _ w2 ⟨rfl, e2⟩
    have bq2 := bq1.on e2
    have l2 := bt l1b e2
    rw [decide_eq_false (fun h => h hhz)]
    refine ⟨_, rfl, ?_⟩
    first | refine WL.assign rfl rfl rfl ?_
    refine WL.done ?_
    refine EW.on ?_
    refine EW.seq ?_
    refine EW.seq ?_
    refine EW.region ?_
    refine WL.move rfl rfl rfl ?_
    refine WL.move rfl rfl rfl ?_
    refine WL.bin rfl rfl rfl rfl (int_sub (c := (s.own : Int) - (s.turns : Int)) (by rw [IntKind.wrap_i64]; omega) _ _ _) ?_
    refine WL.bin rfl rfl rfl rfl (int_gt_f (by omega) _ _ _) ?_
    refine WL.move rfl rfl rfl ?_
    refine WL.move rfl rfl rfl ?_
    refine WL.move rfl rfl rfl ?_
    refine WL.bin rfl rfl rfl rfl (int_sub (c := (s.turns : Int) - (s.own : Int)) (by rw [IntKind.wrap_i64]; omega) _ _ _) ?_
    refine WL.bin rfl rfl rfl rfl (int_gt_f (by omega) _ _ _) ?_
    refine WL.pick rfl rfl rfl rfl ?_
    refine WL.done ?_
    refine EW.on ?_
    refine EW.cond_f rfl ?_
    refine EW.skip ?_
    refine EW.on ?_
    refine EW.seq ?_
    refine EW.ordB [(0, 0, 0), (1, 0, 1), (3, 0, 0), (4, 0, 1), (2, 1, 1), (5, 1, 1), (6, 0, 0), (7, 0, 0)] (by kernel_rfl) rfl (by kernel_rfl) ?_
    simp only [opsZ, List.getD_cons_zero, List.getD_cons_succ]
    first | refine ZE.field rfl rfl rfl rfl sz0 (fun W => f33_4 q1 W) ?_
    first | refine ZE.load rfl rfl rfl rfl sz1 (fun W hW => Sg.ld_sk (bq2.on (sb_of hW)) k) ?_
    first | refine ZE.field rfl rfl rfl rfl sz0 (fun W => f33_5 q1 W) ?_
    first | refine ZE.load rfl rfl rfl rfl sz1 (fun W hW => Sg.ld_rk (bq2.on (sb_of hW)) k) ?_
    refine ZE.callB [kv s.sk] enter71 rfl rfl rfl (fun W h => .inr h) (fun W hW => zero_any s.sk k.sk W) ?_
    refine ZE.callB (v := .bool true) [kv s.rk] enter71 rfl rfl rfl (fun W h => .inr h) (fun W hW => (decide_eq_true hrk) ▸ zero_any s.rk k.rk W) ?_
    first | refine ZE.assign rfl rfl rfl rfl sz0 ?_
    first | refine ZE.assign rfl rfl rfl rfl sz0 ?_
    intro w3 e3
    have bq3 := bq2.on e3
    have l3 := bt l2 e3
    refine EW.on ?_
    refine EW.seq ?_
    refine EW.seq ?_
    refine EW.region ?_
    refine WL.move rfl rfl rfl ?_
    refine WL.bin rfl rfl rfl rfl (int_eq_f (by omega) _ _ _) ?_
    refine WL.move rfl rfl rfl ?_
    refine WL.skip _ rfl rfl rfl ?_
    refine WL.skip _ rfl rfl rfl ?_
    refine WL.skip _ rfl rfl rfl ?_
    refine WL.skip _ rfl rfl rfl ?_
    refine WL.skip _ rfl rfl rfl ?_
    refine WL.skip _ rfl rfl rfl ?_
    refine WL.skip _ rfl rfl rfl ?_
    refine WL.skip _ rfl rfl rfl ?_
    refine WL.skip _ rfl rfl rfl ?_
    refine WL.skip _ rfl rfl rfl ?_
    refine WL.skip _ rfl rfl rfl ?_
    refine WL.skip _ rfl rfl rfl ?_
    refine WL.skip _ rfl rfl rfl ?_
    refine WL.skip _ rfl rfl rfl ?_
    refine WL.skip _ rfl rfl rfl ?_
    refine WL.skip _ rfl rfl rfl ?_
    refine WL.skip _ rfl rfl rfl ?_
    refine WL.pick rfl rfl rfl rfl ?_
    refine WL.done ?_
    refine EW.on ?_
    refine EW.cond_f rfl ?_
    refine EW.skip ?_
    refine EW.on ?_
    refine EW.seq ?_
    refine EW.seq ?_
    refine EW.region ?_
    refine WL.move rfl rfl rfl ?_
    refine WL.bin rfl rfl rfl rfl (int_eq_t (by omega) _ _ _) ?_
    refine WL.move rfl rfl rfl ?_
    refine WL.move rfl rfl rfl ?_
    refine WL.un rfl rfl rfl (not_t _ _) ?_
    refine WL.move rfl rfl rfl ?_
    refine WL.field rfl rfl rfl (f33_9 q1 _) ?_
    refine WL.load rfl rfl rfl (Sg.ld_got bq3 k) ?_
    refine WL.bin rfl rfl rfl rfl (u_ne_f (n := s.got) (m := 0) (by omega) _ _ _) ?_
    refine WL.pick rfl rfl rfl rfl ?_
    refine WL.pick rfl rfl rfl rfl ?_
    refine WL.done ?_
    refine EW.on ?_
    refine EW.cond_f rfl ?_
    refine EW.skip ?_
    refine EW.on ?_
    refine EW.seq ?_
    refine EW.seq ?_
    refine EW.region ?_
    refine WL.move rfl rfl rfl ?_
    refine WL.bin rfl rfl rfl rfl (int_eq_t (by omega) _ _ _) ?_
    refine WL.move rfl rfl rfl ?_
    refine WL.move rfl rfl rfl ?_
    refine WL.bin rfl rfl rfl rfl (int_ne_f (by omega) _ _ _) ?_
    refine WL.move rfl rfl rfl ?_
    refine WL.move rfl rfl rfl ?_
    refine WL.move rfl rfl rfl ?_
    refine WL.bin rfl rfl rfl rfl (int_ne_f (by omega) _ _ _) ?_
    refine WL.pick rfl rfl rfl rfl ?_
    refine WL.pick rfl rfl rfl rfl ?_
    refine WL.done ?_
    refine EW.on ?_
    refine EW.cond_f rfl ?_
    refine EW.skip ?_
    refine EW.on ?_
    refine EW.seq ?_
    refine EW.seq ?_
    refine EW.region ?_
    refine WL.move rfl rfl rfl ?_
    refine WL.bin rfl rfl rfl rfl (int_gt_t (by omega) _ _ _) ?_
    refine WL.move rfl rfl rfl ?_
    refine WL.move rfl rfl rfl ?_
    refine WL.move rfl rfl rfl ?_
    refine WL.bin rfl rfl rfl rfl (int_lt_f (by omega) _ _ _) ?_
    refine WL.move rfl rfl rfl ?_
    refine WL.move rfl rfl rfl ?_
    refine WL.move rfl rfl rfl ?_
    refine WL.bin rfl rfl rfl rfl (int_sub (c := (s.ser : Int) - (s.sent : Int)) (by rw [IntKind.wrap_i64]; omega) _ _ _) ?_
    refine WL.move rfl rfl rfl ?_
    refine WL.bin rfl rfl rfl rfl (int_lt_f (by omega) _ _ _) ?_
    refine WL.pick rfl rfl rfl rfl ?_
    refine WL.pick rfl rfl rfl rfl ?_
    refine WL.done ?_
    refine EW.on ?_
    refine EW.cond_f rfl ?_
    refine EW.skip ?_
    refine EW.on ?_
    refine EW.seq ?_
    refine EW.seq ?_
    refine EW.region ?_
    first | refine WL.move rfl rfl rfl ?_
    refine WL.un rfl rfl rfl (not_t _ _) ?_
    refine WL.done ?_
    refine EW.on ?_
    refine EW.cond_t rfl ?_
    refine EW.seq ?_
    refine EW.region ?_
    first | refine WL.assign rfl rfl rfl ?_
    refine WL.done ?_
    refine EW.on ?_
    refine EW.ret ?_
    refine pr_then ?_
    exact EW.returns Try.results64 rfl ⟨by rw [decide_eq_true ((good_iff s).2 ⟨⟨by omega, by omega⟩, fun e => absurd e hO, fun _ => ⟨hrk, hgot⟩, fun _ => ⟨hprev, heq⟩, fun e => ⟨by omega, by omega⟩, .inl hhz⟩)], l3⟩
  · refine EW.region ?_
    first | refine WL.field rfl rfl rfl (f33_12 q1 _) ?_
    first | refine WL.load rfl rfl rfl (Sg.ld_hl bq1 k) ?_
    refine WL.call [s.hl.v] enter70 rfl rfl rfl (greets_any _ k.hl _) ?_
    rintro _ w2 ⟨rfl, e2⟩
    have bq2 := bq1.on e2
    have l2 := bt l1b e2
    rw [decide_eq_true hhz]
    refine ⟨_, rfl, ?_⟩
    first | refine WL.assign rfl rfl rfl ?_
    refine WL.done ?_
    refine EW.on ?_
    refine EW.seq ?_
    refine EW.seq ?_
    refine EW.region ?_
    refine WL.move rfl rfl rfl ?_
    refine WL.move rfl rfl rfl ?_
    refine WL.bin rfl rfl rfl rfl (int_sub (c := (s.own : Int) - (s.turns : Int)) (by rw [IntKind.wrap_i64]; omega) _ _ _) ?_
    refine WL.bin rfl rfl rfl rfl (int_gt_f (by omega) _ _ _) ?_
    refine WL.move rfl rfl rfl ?_
    refine WL.move rfl rfl rfl ?_
    refine WL.move rfl rfl rfl ?_
    refine WL.bin rfl rfl rfl rfl (int_sub (c := (s.turns : Int) - (s.own : Int)) (by rw [IntKind.wrap_i64]; omega) _ _ _) ?_
    refine WL.bin rfl rfl rfl rfl (int_gt_f (by omega) _ _ _) ?_
    refine WL.pick rfl rfl rfl rfl ?_
    refine WL.done ?_
    refine EW.on ?_
    refine EW.cond_f rfl ?_
    refine EW.skip ?_
    refine EW.on ?_
    refine EW.seq ?_
    refine EW.ordB [(0, 0, 0), (1, 0, 1), (3, 0, 0), (4, 0, 1), (2, 1, 1), (5, 1, 1), (6, 0, 0), (7, 0, 0)] (by kernel_rfl) rfl (by kernel_rfl) ?_
    simp only [opsZ, List.getD_cons_zero, List.getD_cons_succ]
    first | refine ZE.field rfl rfl rfl rfl sz0 (fun W => f33_4 q1 W) ?_
    first | refine ZE.load rfl rfl rfl rfl sz1 (fun W hW => Sg.ld_sk (bq2.on (sb_of hW)) k) ?_
    first | refine ZE.field rfl rfl rfl rfl sz0 (fun W => f33_5 q1 W) ?_
    first | refine ZE.load rfl rfl rfl rfl sz1 (fun W hW => Sg.ld_rk (bq2.on (sb_of hW)) k) ?_
    refine ZE.callB [kv s.sk] enter71 rfl rfl rfl (fun W h => .inr h) (fun W hW => zero_any s.sk k.sk W) ?_
    refine ZE.callB (v := .bool true) [kv s.rk] enter71 rfl rfl rfl (fun W h => .inr h) (fun W hW => (decide_eq_true hrk) ▸ zero_any s.rk k.rk W) ?_
    first | refine ZE.assign rfl rfl rfl rfl sz0 ?_
    first | refine ZE.assign rfl rfl rfl rfl sz0 ?_
    intro w3 e3
    have bq3 := bq2.on e3
    have l3 := bt l2 e3
    refine EW.on ?_
    refine EW.seq ?_
    refine EW.seq ?_
    refine EW.region ?_
    refine WL.move rfl rfl rfl ?_
    refine WL.bin rfl rfl rfl rfl (int_eq_f (by omega) _ _ _) ?_
    refine WL.move rfl rfl rfl ?_
    refine WL.skip _ rfl rfl rfl ?_
    refine WL.skip _ rfl rfl rfl ?_
    refine WL.skip _ rfl rfl rfl ?_
    refine WL.skip _ rfl rfl rfl ?_
    refine WL.skip _ rfl rfl rfl ?_
    refine WL.skip _ rfl rfl rfl ?_
    refine WL.skip _ rfl rfl rfl ?_
    refine WL.skip _ rfl rfl rfl ?_
    refine WL.skip _ rfl rfl rfl ?_
    refine WL.skip _ rfl rfl rfl ?_
    refine WL.skip _ rfl rfl rfl ?_
    refine WL.skip _ rfl rfl rfl ?_
    refine WL.skip _ rfl rfl rfl ?_
    refine WL.skip _ rfl rfl rfl ?_
    refine WL.skip _ rfl rfl rfl ?_
    refine WL.skip _ rfl rfl rfl ?_
    refine WL.skip _ rfl rfl rfl ?_
    refine WL.pick rfl rfl rfl rfl ?_
    refine WL.done ?_
    refine EW.on ?_
    refine EW.cond_f rfl ?_
    refine EW.skip ?_
    refine EW.on ?_
    refine EW.seq ?_
    refine EW.seq ?_
    refine EW.region ?_
    refine WL.move rfl rfl rfl ?_
    refine WL.bin rfl rfl rfl rfl (int_eq_t (by omega) _ _ _) ?_
    refine WL.move rfl rfl rfl ?_
    refine WL.move rfl rfl rfl ?_
    refine WL.un rfl rfl rfl (not_t _ _) ?_
    refine WL.move rfl rfl rfl ?_
    refine WL.field rfl rfl rfl (f33_9 q1 _) ?_
    refine WL.load rfl rfl rfl (Sg.ld_got bq3 k) ?_
    refine WL.bin rfl rfl rfl rfl (u_ne_f (n := s.got) (m := 0) (by omega) _ _ _) ?_
    refine WL.pick rfl rfl rfl rfl ?_
    refine WL.pick rfl rfl rfl rfl ?_
    refine WL.done ?_
    refine EW.on ?_
    refine EW.cond_f rfl ?_
    refine EW.skip ?_
    refine EW.on ?_
    refine EW.seq ?_
    refine EW.seq ?_
    refine EW.region ?_
    refine WL.move rfl rfl rfl ?_
    refine WL.bin rfl rfl rfl rfl (int_eq_t (by omega) _ _ _) ?_
    refine WL.move rfl rfl rfl ?_
    refine WL.move rfl rfl rfl ?_
    refine WL.bin rfl rfl rfl rfl (int_ne_f (by omega) _ _ _) ?_
    refine WL.move rfl rfl rfl ?_
    refine WL.move rfl rfl rfl ?_
    refine WL.move rfl rfl rfl ?_
    refine WL.bin rfl rfl rfl rfl (int_ne_f (by omega) _ _ _) ?_
    refine WL.pick rfl rfl rfl rfl ?_
    refine WL.pick rfl rfl rfl rfl ?_
    refine WL.done ?_
    refine EW.on ?_
    refine EW.cond_f rfl ?_
    refine EW.skip ?_
    refine EW.on ?_
    refine EW.seq ?_
    refine EW.seq ?_
    refine EW.region ?_
    refine WL.move rfl rfl rfl ?_
    refine WL.bin rfl rfl rfl rfl (int_gt_t (by omega) _ _ _) ?_
    refine WL.move rfl rfl rfl ?_
    refine WL.move rfl rfl rfl ?_
    refine WL.move rfl rfl rfl ?_
    refine WL.bin rfl rfl rfl rfl (int_lt_f (by omega) _ _ _) ?_
    refine WL.move rfl rfl rfl ?_
    refine WL.move rfl rfl rfl ?_
    refine WL.move rfl rfl rfl ?_
    refine WL.bin rfl rfl rfl rfl (int_sub (c := (s.ser : Int) - (s.sent : Int)) (by rw [IntKind.wrap_i64]; omega) _ _ _) ?_
    refine WL.move rfl rfl rfl ?_
    refine WL.bin rfl rfl rfl rfl (int_lt_f (by omega) _ _ _) ?_
    refine WL.pick rfl rfl rfl rfl ?_
    refine WL.pick rfl rfl rfl rfl ?_
    refine WL.done ?_
    refine EW.on ?_
    refine EW.cond_f rfl ?_
    refine EW.skip ?_
    refine EW.on ?_
    refine EW.seq ?_
    refine EW.seq ?_
    refine EW.region ?_
    first | refine WL.move rfl rfl rfl ?_
    refine WL.un rfl rfl rfl (not_t _ _) ?_
    refine WL.done ?_
    refine EW.on ?_
    refine EW.cond_f rfl ?_
    refine EW.skip ?_
    refine EW.on ?_
    refine EW.seq ?_
    refine EW.region ?_
    first | refine WL.field rfl rfl rfl (f33_12 q1 _) ?_
    first | refine WL.field rfl rfl rfl (f30_0 q1 214 _) ?_
    first | refine WL.load rfl rfl rfl (Sg.ld_hid bq3 k) ?_
    refine WL.call [kv s.hl.id] enter71 rfl rfl rfl (zero_any _ k.hl.i _) ?_
    rintro _ w4 ⟨rfl, e4⟩
    rw [decide_eq_true hidz]
    have bq4 := bq3.on e4
    have l4 := bt l3 e4
    refine ⟨_, rfl, ?_⟩
    first | refine WL.assign rfl rfl rfl ?_
    refine WL.done ?_
    refine EW.on ?_
    refine EW.seq ?_
    refine EW.seq ?_
    refine EW.region ?_
    refine WL.move rfl rfl rfl ?_
    refine WL.move rfl rfl rfl ?_
    refine WL.skip _ rfl rfl rfl ?_
    refine WL.skip _ rfl rfl rfl ?_
    refine WL.pick rfl rfl rfl rfl ?_
    refine WL.done ?_
    refine EW.on ?_
    refine EW.cond_t rfl ?_
    refine EW.seq ?_
    refine EW.region ?_
    first | refine WL.assign rfl rfl rfl ?_
    refine WL.done ?_
    refine EW.on ?_
    refine EW.ret ?_
    refine pr_then ?_
    exact EW.returns Try.results64 rfl ⟨by rw [decide_eq_false (fun g => by have g := (good_iff s).1 g; rcases g.2.2.2.2.2 with e | e; exact hhz e; exact e.1 hidz)], l4⟩
  · refine EW.region ?_
    first | refine WL.field rfl rfl rfl (f33_12 q1 _) ?_
    first | refine WL.load rfl rfl rfl (Sg.ld_hl bq1 k) ?_
    refine WL.call [s.hl.v] enter70 rfl rfl rfl (greets_any _ k.hl _) ?_
    rintro _ w2 ⟨rfl, e2⟩
    have bq2 := bq1.on e2
    have l2 := bt l1b e2
    rw [decide_eq_true hhz]
    refine ⟨_, rfl, ?_⟩
    first | refine WL.assign rfl rfl rfl ?_
    refine WL.done ?_
    refine EW.on ?_
    refine EW.seq ?_
    refine EW.seq ?_
    refine EW.region ?_
    refine WL.move rfl rfl rfl ?_
    refine WL.move rfl rfl rfl ?_
    refine WL.bin rfl rfl rfl rfl (int_sub (c := (s.own : Int) - (s.turns : Int)) (by rw [IntKind.wrap_i64]; omega) _ _ _) ?_
    refine WL.bin rfl rfl rfl rfl (int_gt_f (by omega) _ _ _) ?_
    refine WL.move rfl rfl rfl ?_
    refine WL.move rfl rfl rfl ?_
    refine WL.move rfl rfl rfl ?_
    refine WL.bin rfl rfl rfl rfl (int_sub (c := (s.turns : Int) - (s.own : Int)) (by rw [IntKind.wrap_i64]; omega) _ _ _) ?_
    refine WL.bin rfl rfl rfl rfl (int_gt_f (by omega) _ _ _) ?_
    refine WL.pick rfl rfl rfl rfl ?_
    refine WL.done ?_
    refine EW.on ?_
    refine EW.cond_f rfl ?_
    refine EW.skip ?_
    refine EW.on ?_
    refine EW.seq ?_
    refine EW.ordB [(0, 0, 0), (1, 0, 1), (3, 0, 0), (4, 0, 1), (2, 1, 1), (5, 1, 1), (6, 0, 0), (7, 0, 0)] (by kernel_rfl) rfl (by kernel_rfl) ?_
    simp only [opsZ, List.getD_cons_zero, List.getD_cons_succ]
    first | refine ZE.field rfl rfl rfl rfl sz0 (fun W => f33_4 q1 W) ?_
    first | refine ZE.load rfl rfl rfl rfl sz1 (fun W hW => Sg.ld_sk (bq2.on (sb_of hW)) k) ?_
    first | refine ZE.field rfl rfl rfl rfl sz0 (fun W => f33_5 q1 W) ?_
    first | refine ZE.load rfl rfl rfl rfl sz1 (fun W hW => Sg.ld_rk (bq2.on (sb_of hW)) k) ?_
    refine ZE.callB [kv s.sk] enter71 rfl rfl rfl (fun W h => .inr h) (fun W hW => zero_any s.sk k.sk W) ?_
    refine ZE.callB (v := .bool true) [kv s.rk] enter71 rfl rfl rfl (fun W h => .inr h) (fun W hW => (decide_eq_true hrk) ▸ zero_any s.rk k.rk W) ?_
    first | refine ZE.assign rfl rfl rfl rfl sz0 ?_
    first | refine ZE.assign rfl rfl rfl rfl sz0 ?_
    intro w3 e3
    have bq3 := bq2.on e3
    have l3 := bt l2 e3
    refine EW.on ?_
    refine EW.seq ?_
    refine EW.seq ?_
    refine EW.region ?_
    refine WL.move rfl rfl rfl ?_
    refine WL.bin rfl rfl rfl rfl (int_eq_f (by omega) _ _ _) ?_
    refine WL.move rfl rfl rfl ?_
    refine WL.skip _ rfl rfl rfl ?_
    refine WL.skip _ rfl rfl rfl ?_
    refine WL.skip _ rfl rfl rfl ?_
    refine WL.skip _ rfl rfl rfl ?_
    refine WL.skip _ rfl rfl rfl ?_
    refine WL.skip _ rfl rfl rfl ?_
    refine WL.skip _ rfl rfl rfl ?_
    refine WL.skip _ rfl rfl rfl ?_
    refine WL.skip _ rfl rfl rfl ?_
    refine WL.skip _ rfl rfl rfl ?_
    refine WL.skip _ rfl rfl rfl ?_
    refine WL.skip _ rfl rfl rfl ?_
    refine WL.skip _ rfl rfl rfl ?_
    refine WL.skip _ rfl rfl rfl ?_
    refine WL.skip _ rfl rfl rfl ?_
    refine WL.skip _ rfl rfl rfl ?_
    refine WL.skip _ rfl rfl rfl ?_
    refine WL.pick rfl rfl rfl rfl ?_
    refine WL.done ?_
    refine EW.on ?_
    refine EW.cond_f rfl ?_
    refine EW.skip ?_
    refine EW.on ?_
    refine EW.seq ?_
    refine EW.seq ?_
    refine EW.region ?_
    refine WL.move rfl rfl rfl ?_
    refine WL.bin rfl rfl rfl rfl (int_eq_t (by omega) _ _ _) ?_
    refine WL.move rfl rfl rfl ?_
    refine WL.move rfl rfl rfl ?_
    refine WL.un rfl rfl rfl (not_t _ _) ?_
    refine WL.move rfl rfl rfl ?_
    refine WL.field rfl rfl rfl (f33_9 q1 _) ?_
    refine WL.load rfl rfl rfl (Sg.ld_got bq3 k) ?_
    refine WL.bin rfl rfl rfl rfl (u_ne_f (n := s.got) (m := 0) (by omega) _ _ _) ?_
    refine WL.pick rfl rfl rfl rfl ?_
    refine WL.pick rfl rfl rfl rfl ?_
    refine WL.done ?_
    refine EW.on ?_
    refine EW.cond_f rfl ?_
    refine EW.skip ?_
    refine EW.on ?_
    refine EW.seq ?_
    refine EW.seq ?_
    refine EW.region ?_
    refine WL.move rfl rfl rfl ?_
    refine WL.bin rfl rfl rfl rfl (int_eq_t (by omega) _ _ _) ?_
    refine WL.move rfl rfl rfl ?_
    refine WL.move rfl rfl rfl ?_
    refine WL.bin rfl rfl rfl rfl (int_ne_f (by omega) _ _ _) ?_
    refine WL.move rfl rfl rfl ?_
    refine WL.move rfl rfl rfl ?_
    refine WL.move rfl rfl rfl ?_
    refine WL.bin rfl rfl rfl rfl (int_ne_f (by omega) _ _ _) ?_
    refine WL.pick rfl rfl rfl rfl ?_
    refine WL.pick rfl rfl rfl rfl ?_
    refine WL.done ?_
    refine EW.on ?_
    refine EW.cond_f rfl ?_
    refine EW.skip ?_
    refine EW.on ?_
    refine EW.seq ?_
    refine EW.seq ?_
    refine EW.region ?_
    refine WL.move rfl rfl rfl ?_
    refine WL.bin rfl rfl rfl rfl (int_gt_t (by omega) _ _ _) ?_
    refine WL.move rfl rfl rfl ?_
    refine WL.move rfl rfl rfl ?_
    refine WL.move rfl rfl rfl ?_
    refine WL.bin rfl rfl rfl rfl (int_lt_f (by omega) _ _ _) ?_
    refine WL.move rfl rfl rfl ?_
    refine WL.move rfl rfl rfl ?_
    refine WL.move rfl rfl rfl ?_
    refine WL.bin rfl rfl rfl rfl (int_sub (c := (s.ser : Int) - (s.sent : Int)) (by rw [IntKind.wrap_i64]; omega) _ _ _) ?_
    refine WL.move rfl rfl rfl ?_
    refine WL.bin rfl rfl rfl rfl (int_lt_f (by omega) _ _ _) ?_
    refine WL.pick rfl rfl rfl rfl ?_
    refine WL.pick rfl rfl rfl rfl ?_
    refine WL.done ?_
    refine EW.on ?_
    refine EW.cond_f rfl ?_
    refine EW.skip ?_
    refine EW.on ?_
    refine EW.seq ?_
    refine EW.seq ?_
    refine EW.region ?_
    first | refine WL.move rfl rfl rfl ?_
    refine WL.un rfl rfl rfl (not_t _ _) ?_
    refine WL.done ?_
    refine EW.on ?_
    refine EW.cond_f rfl ?_
    refine EW.skip ?_
    refine EW.on ?_
    refine EW.seq ?_
    refine EW.region ?_
    first | refine WL.field rfl rfl rfl (f33_12 q1 _) ?_
    first | refine WL.field rfl rfl rfl (f30_0 q1 214 _) ?_
    first | refine WL.load rfl rfl rfl (Sg.ld_hid bq3 k) ?_
    refine WL.call [kv s.hl.id] enter71 rfl rfl rfl (zero_any _ k.hl.i _) ?_
    rintro _ w4 ⟨rfl, e4⟩
    rw [decide_eq_false hidz]
    have bq4 := bq3.on e4
    have l4 := bt l3 e4
    refine ⟨_, rfl, ?_⟩
    first | refine WL.assign rfl rfl rfl ?_
    refine WL.done ?_
    refine EW.on ?_
    refine EW.seq ?_
    refine EW.seq ?_
    refine EW.region ?_
    refine WL.move rfl rfl rfl ?_
    refine WL.move rfl rfl rfl ?_
    refine WL.move rfl rfl rfl ?_
    refine WL.bin rfl rfl rfl rfl (int_ne_f (by omega) _ _ _) ?_
    refine WL.pick rfl rfl rfl rfl ?_
    refine WL.done ?_
    refine EW.on ?_
    refine EW.cond_f rfl ?_
    refine EW.skip ?_
    refine EW.on ?_
    refine EW.seq ?_
    refine EW.seq ?_
    refine EW.region ?_
    first | refine WL.assign rfl rfl rfl ?_
    refine WL.done ?_
    refine EW.on ?_
    refine EW.block ?_
    refine EW.loop (mlE q1) (MlI w4 s) (fun t => 32 - t) 0 [1, 12] rfl ⟨Nat.zero_le _, Below.refl _ _, fun i h => absurd h (by omega)⟩ ?_
    rintro t wi ⟨htl, be, hz⟩
    have bqi := bq4.on be
    show EW _ _ _ _ [(1, .pointer (some ⟨q1, 0, none⟩)), (12, .int .i64 (t : Int))] _
    refine EW.seq ?_
    refine EW.seq ?_
    refine EW.region ?_
    first | refine WL.move rfl rfl rfl ?_
    refine WL.bin rfl rfl rfl rfl (int_lt_d _ _ _ _ _) ?_
    refine WL.done ?_
    refine EW.on ?_
    refine EW.cond_d rfl (fun h116 => ?_) (fun h116 => ?_)
    · refine EW.skip ?_
      refine EW.on ?_
      refine EW.seq ?_
      refine EW.block ?_
      refine EW.seq ?_
      have hlt : t < 32 := by omega
      refine EW.ordB [(0, 0, 0), (1, 0, 0), (2, 0, 0), (3, 0, 0), (4, 0, 1), (5, 0, 0), (6, 0, 0), (7, 0, 0), (8, 0, 1), (9, 0, 0)] (by kernel_rfl) rfl (by kernel_rfl) ?_
      simp only [opsZ, List.getD_cons_zero, List.getD_cons_succ]
      first | refine ZE.move rfl rfl rfl rfl sz0 ?_
      first | refine ZE.field rfl rfl rfl rfl sz0 (fun W => f33_12 q1 W) ?_
      first | refine ZE.field rfl rfl rfl rfl sz0 (fun W => f30_0 q1 214 W) ?_
      refine ZE.index rfl rfl rfl rfl rfl sz0 (fun W => ix25 q1 (214 + 0) t hlt W) ?_
      refine ZE.load rfl rfl rfl rfl sz1 (fun W hW => Sg.ldI_hid (i := t) (bqi.on (sb_of hW)) k hlt) ?_
      first | refine ZE.move rfl rfl rfl rfl sz0 ?_
      first | refine ZE.field rfl rfl rfl rfl sz0 (fun W => f33_13 q1 W) ?_
      refine ZE.index rfl rfl rfl rfl rfl sz0 (fun W => ix31 q1 279 t (by omega) W) ?_
      refine ZE.load rfl rfl rfl rfl sz1 (fun W hW => Sg.ldI_bind (i := t) (bqi.on (sb_of hW)) k (by omega)) ?_
      refine ZE.bin rfl rfl rfl rfl rfl sz0 (fun W => ne5_dd _ _ W _ _) ?_
      intro w23 be23
      refine EW.on ?_
      refine EW.cond_d rfl (fun h128 => ?_) (fun h128 => ?_)
      · refine EW.seq ?_
        refine EW.region ?_
        first | refine WL.assign rfl rfl rfl ?_
        refine WL.done ?_
        refine EW.on ?_
        refine EW.ret ?_
        refine pr_block ?_
        refine pr_then ?_
        refine pr_then ?_
        refine pr_block ?_
        refine pr_then ?_
        first
          | exact EW.returns Try.results64 rfl ⟨by rw [decide_eq_false (fun g => by have g := (good_iff s).1 g; rcases g.2.2.2.2.2 with e | e; exact hhz e; exact ids_ne hlt h128 e.2.2)], bt l4 (bt be be23)⟩
          | exact EW.returns Try.results64 rfl ⟨by rw [decide_eq_true ((good_iff s).2 ⟨⟨by omega, by omega⟩, fun e => absurd e hO, fun _ => ⟨hrk, hgot⟩, fun _ => ⟨hprev, heq⟩, fun e => ⟨by omega, by omega⟩, .inr ⟨hidz, hTn, ids_eq k (fun i hi => hz i (by omega))⟩⟩)], bt l4 be⟩
      · refine EW.skip ?_
        refine pn_block ?_
        refine EW.on ?_
        refine EW.region ?_
        first | refine WL.move rfl rfl rfl ?_
        refine WL.bin rfl rfl rfl rfl (int_add (c := ((t + 1 : Nat) : Int)) (by rw [IntKind.wrap_i64]; omega) _ _ _) ?_
        first | refine WL.assign rfl rfl rfl ?_
        refine WL.done ?_
        refine EW.again (E := mlE q1) (R := MlI w4 s) (m := fun t => 32 - t) (x := t) (t + 1) [1, 12] rfl ⟨by omega, bt be be23, fun i hi => ?_⟩ (by show 32 - (t + 1) < 32 - t; omega)
        rcases Nat.lt_or_ge i t with h | h
        · exact hz i h
        · obtain rfl : i = t := by omega
          exact Classical.not_not.1 h128
    · refine EW.exit ?_
      refine px_then ?_
      refine px_then ?_
      refine px_block ?_
      refine EW.on ?_
      refine EW.seq ?_
      refine EW.region ?_
      first | refine WL.assign rfl rfl rfl ?_
      refine WL.done ?_
      refine EW.on ?_
      refine EW.ret ?_
      first
        | exact EW.returns Try.results64 rfl ⟨by rw [decide_eq_false (fun g => by have g := (good_iff s).1 g; rcases g.2.2.2.2.2 with e | e; exact hhz e; exact ids_ne hlt h128 e.2.2)], bt l4 (bt be be23)⟩
        | exact EW.returns Try.results64 rfl ⟨by rw [decide_eq_true ((good_iff s).2 ⟨⟨by omega, by omega⟩, fun e => absurd e hO, fun _ => ⟨hrk, hgot⟩, fun _ => ⟨hprev, heq⟩, fun e => ⟨by omega, by omega⟩, .inr ⟨hidz, hTn, ids_eq k (fun i hi => hz i (by omega))⟩⟩)], bt l4 be⟩
  · refine EW.region ?_
    first | refine WL.field rfl rfl rfl (f33_12 q1 _) ?_
    first | refine WL.load rfl rfl rfl (Sg.ld_hl bq1 k) ?_
    refine WL.call [s.hl.v] enter70 rfl rfl rfl (greets_any _ k.hl _) ?_
    rintro _ w2 ⟨rfl, e2⟩
    have bq2 := bq1.on e2
    have l2 := bt l1b e2
    refine ⟨_, rfl, ?_⟩
    first | refine WL.assign rfl rfl rfl ?_
    refine WL.done ?_
    refine EW.on ?_
    refine EW.seq ?_
    refine EW.seq ?_
    refine EW.region ?_
    refine WL.move rfl rfl rfl ?_
    refine WL.move rfl rfl rfl ?_
    refine WL.bin rfl rfl rfl rfl (int_sub (c := (s.own : Int) - (s.turns : Int)) (by rw [IntKind.wrap_i64]; omega) _ _ _) ?_
    refine WL.bin rfl rfl rfl rfl (int_gt_f (by omega) _ _ _) ?_
    refine WL.move rfl rfl rfl ?_
    refine WL.move rfl rfl rfl ?_
    refine WL.move rfl rfl rfl ?_
    refine WL.bin rfl rfl rfl rfl (int_sub (c := (s.turns : Int) - (s.own : Int)) (by rw [IntKind.wrap_i64]; omega) _ _ _) ?_
    refine WL.bin rfl rfl rfl rfl (int_gt_f (by omega) _ _ _) ?_
    refine WL.pick rfl rfl rfl rfl ?_
    refine WL.done ?_
    refine EW.on ?_
    refine EW.cond_f rfl ?_
    refine EW.skip ?_
    refine EW.on ?_
    refine EW.seq ?_
    refine EW.ordB [(0, 0, 0), (1, 0, 1), (3, 0, 0), (4, 0, 1), (2, 1, 1), (5, 1, 1), (6, 0, 0), (7, 0, 0)] (by kernel_rfl) rfl (by kernel_rfl) ?_
    simp only [opsZ, List.getD_cons_zero, List.getD_cons_succ]
    first | refine ZE.field rfl rfl rfl rfl sz0 (fun W => f33_4 q1 W) ?_
    first | refine ZE.load rfl rfl rfl rfl sz1 (fun W hW => Sg.ld_sk (bq2.on (sb_of hW)) k) ?_
    first | refine ZE.field rfl rfl rfl rfl sz0 (fun W => f33_5 q1 W) ?_
    first | refine ZE.load rfl rfl rfl rfl sz1 (fun W hW => Sg.ld_rk (bq2.on (sb_of hW)) k) ?_
    refine ZE.callB [kv s.sk] enter71 rfl rfl rfl (fun W h => .inr h) (fun W hW => zero_any s.sk k.sk W) ?_
    refine ZE.callB (v := .bool true) [kv s.rk] enter71 rfl rfl rfl (fun W h => .inr h) (fun W hW => (decide_eq_true hrk) ▸ zero_any s.rk k.rk W) ?_
    first | refine ZE.assign rfl rfl rfl rfl sz0 ?_
    first | refine ZE.assign rfl rfl rfl rfl sz0 ?_
    intro w3 e3
    have bq3 := bq2.on e3
    have l3 := bt l2 e3
    refine EW.on ?_
    refine EW.seq ?_
    refine EW.seq ?_
    refine EW.region ?_
    refine WL.move rfl rfl rfl ?_
    refine WL.bin rfl rfl rfl rfl (int_eq_f (by omega) _ _ _) ?_
    refine WL.move rfl rfl rfl ?_
    refine WL.skip _ rfl rfl rfl ?_
    refine WL.skip _ rfl rfl rfl ?_
    refine WL.skip _ rfl rfl rfl ?_
    refine WL.skip _ rfl rfl rfl ?_
    refine WL.skip _ rfl rfl rfl ?_
    refine WL.skip _ rfl rfl rfl ?_
    refine WL.skip _ rfl rfl rfl ?_
    refine WL.skip _ rfl rfl rfl ?_
    refine WL.skip _ rfl rfl rfl ?_
    refine WL.skip _ rfl rfl rfl ?_
    refine WL.skip _ rfl rfl rfl ?_
    refine WL.skip _ rfl rfl rfl ?_
    refine WL.skip _ rfl rfl rfl ?_
    refine WL.skip _ rfl rfl rfl ?_
    refine WL.skip _ rfl rfl rfl ?_
    refine WL.skip _ rfl rfl rfl ?_
    refine WL.skip _ rfl rfl rfl ?_
    refine WL.pick rfl rfl rfl rfl ?_
    refine WL.done ?_
    refine EW.on ?_
    refine EW.cond_f rfl ?_
    refine EW.skip ?_
    refine EW.on ?_
    refine EW.seq ?_
    refine EW.seq ?_
    refine EW.region ?_
    refine WL.move rfl rfl rfl ?_
    refine WL.bin rfl rfl rfl rfl (int_eq_t (by omega) _ _ _) ?_
    refine WL.move rfl rfl rfl ?_
    refine WL.move rfl rfl rfl ?_
    refine WL.un rfl rfl rfl (not_t _ _) ?_
    refine WL.move rfl rfl rfl ?_
    refine WL.field rfl rfl rfl (f33_9 q1 _) ?_
    refine WL.load rfl rfl rfl (Sg.ld_got bq3 k) ?_
    refine WL.bin rfl rfl rfl rfl (u_ne_f (n := s.got) (m := 0) (by omega) _ _ _) ?_
    refine WL.pick rfl rfl rfl rfl ?_
    refine WL.pick rfl rfl rfl rfl ?_
    refine WL.done ?_
    refine EW.on ?_
    refine EW.cond_f rfl ?_
    refine EW.skip ?_
    refine EW.on ?_
    refine EW.seq ?_
    refine EW.seq ?_
    refine EW.region ?_
    refine WL.move rfl rfl rfl ?_
    refine WL.bin rfl rfl rfl rfl (int_eq_t (by omega) _ _ _) ?_
    refine WL.move rfl rfl rfl ?_
    refine WL.move rfl rfl rfl ?_
    refine WL.bin rfl rfl rfl rfl (int_ne_f (by omega) _ _ _) ?_
    refine WL.move rfl rfl rfl ?_
    refine WL.move rfl rfl rfl ?_
    refine WL.move rfl rfl rfl ?_
    refine WL.bin rfl rfl rfl rfl (int_ne_t (by omega) _ _ _) ?_
    refine WL.pick rfl rfl rfl rfl ?_
    refine WL.pick rfl rfl rfl rfl ?_
    refine WL.done ?_
    refine EW.on ?_
    refine EW.cond_t rfl ?_
    refine EW.seq ?_
    refine EW.region ?_
    first | refine WL.assign rfl rfl rfl ?_
    refine WL.done ?_
    refine EW.on ?_
    refine EW.ret ?_
    refine pr_then ?_
    exact EW.returns Try.results64 rfl ⟨by rw [decide_eq_false (fun g => by have g := (good_iff s).1 g; exact heq (g.2.2.2.1 (by omega)).2)], l3⟩
  · refine EW.region ?_
    first | refine WL.field rfl rfl rfl (f33_12 q1 _) ?_
    first | refine WL.load rfl rfl rfl (Sg.ld_hl bq1 k) ?_
    refine WL.call [s.hl.v] enter70 rfl rfl rfl (greets_any _ k.hl _) ?_
    rintro _ w2 ⟨rfl, e2⟩
    have bq2 := bq1.on e2
    have l2 := bt l1b e2
    refine ⟨_, rfl, ?_⟩
    first | refine WL.assign rfl rfl rfl ?_
    refine WL.done ?_
    refine EW.on ?_
    refine EW.seq ?_
    refine EW.seq ?_
    refine EW.region ?_
    refine WL.move rfl rfl rfl ?_
    refine WL.move rfl rfl rfl ?_
    refine WL.bin rfl rfl rfl rfl (int_sub (c := (s.own : Int) - (s.turns : Int)) (by rw [IntKind.wrap_i64]; omega) _ _ _) ?_
    refine WL.bin rfl rfl rfl rfl (int_gt_f (by omega) _ _ _) ?_
    refine WL.move rfl rfl rfl ?_
    refine WL.move rfl rfl rfl ?_
    refine WL.move rfl rfl rfl ?_
    refine WL.bin rfl rfl rfl rfl (int_sub (c := (s.turns : Int) - (s.own : Int)) (by rw [IntKind.wrap_i64]; omega) _ _ _) ?_
    refine WL.bin rfl rfl rfl rfl (int_gt_f (by omega) _ _ _) ?_
    refine WL.pick rfl rfl rfl rfl ?_
    refine WL.done ?_
    refine EW.on ?_
    refine EW.cond_f rfl ?_
    refine EW.skip ?_
    refine EW.on ?_
    refine EW.seq ?_
    refine EW.ordB [(0, 0, 0), (1, 0, 1), (3, 0, 0), (4, 0, 1), (2, 1, 1), (5, 1, 1), (6, 0, 0), (7, 0, 0)] (by kernel_rfl) rfl (by kernel_rfl) ?_
    simp only [opsZ, List.getD_cons_zero, List.getD_cons_succ]
    first | refine ZE.field rfl rfl rfl rfl sz0 (fun W => f33_4 q1 W) ?_
    first | refine ZE.load rfl rfl rfl rfl sz1 (fun W hW => Sg.ld_sk (bq2.on (sb_of hW)) k) ?_
    first | refine ZE.field rfl rfl rfl rfl sz0 (fun W => f33_5 q1 W) ?_
    first | refine ZE.load rfl rfl rfl rfl sz1 (fun W hW => Sg.ld_rk (bq2.on (sb_of hW)) k) ?_
    refine ZE.callB [kv s.sk] enter71 rfl rfl rfl (fun W h => .inr h) (fun W hW => zero_any s.sk k.sk W) ?_
    refine ZE.callB (v := .bool true) [kv s.rk] enter71 rfl rfl rfl (fun W h => .inr h) (fun W hW => (decide_eq_true hrk) ▸ zero_any s.rk k.rk W) ?_
    first | refine ZE.assign rfl rfl rfl rfl sz0 ?_
    first | refine ZE.assign rfl rfl rfl rfl sz0 ?_
    intro w3 e3
    have bq3 := bq2.on e3
    have l3 := bt l2 e3
    refine EW.on ?_
    refine EW.seq ?_
    refine EW.seq ?_
    refine EW.region ?_
    refine WL.move rfl rfl rfl ?_
    refine WL.bin rfl rfl rfl rfl (int_eq_f (by omega) _ _ _) ?_
    refine WL.move rfl rfl rfl ?_
    refine WL.skip _ rfl rfl rfl ?_
    refine WL.skip _ rfl rfl rfl ?_
    refine WL.skip _ rfl rfl rfl ?_
    refine WL.skip _ rfl rfl rfl ?_
    refine WL.skip _ rfl rfl rfl ?_
    refine WL.skip _ rfl rfl rfl ?_
    refine WL.skip _ rfl rfl rfl ?_
    refine WL.skip _ rfl rfl rfl ?_
    refine WL.skip _ rfl rfl rfl ?_
    refine WL.skip _ rfl rfl rfl ?_
    refine WL.skip _ rfl rfl rfl ?_
    refine WL.skip _ rfl rfl rfl ?_
    refine WL.skip _ rfl rfl rfl ?_
    refine WL.skip _ rfl rfl rfl ?_
    refine WL.skip _ rfl rfl rfl ?_
    refine WL.skip _ rfl rfl rfl ?_
    refine WL.skip _ rfl rfl rfl ?_
    refine WL.pick rfl rfl rfl rfl ?_
    refine WL.done ?_
    refine EW.on ?_
    refine EW.cond_f rfl ?_
    refine EW.skip ?_
    refine EW.on ?_
    refine EW.seq ?_
    refine EW.seq ?_
    refine EW.region ?_
    refine WL.move rfl rfl rfl ?_
    refine WL.bin rfl rfl rfl rfl (int_eq_t (by omega) _ _ _) ?_
    refine WL.move rfl rfl rfl ?_
    refine WL.move rfl rfl rfl ?_
    refine WL.un rfl rfl rfl (not_t _ _) ?_
    refine WL.move rfl rfl rfl ?_
    refine WL.field rfl rfl rfl (f33_9 q1 _) ?_
    refine WL.load rfl rfl rfl (Sg.ld_got bq3 k) ?_
    refine WL.bin rfl rfl rfl rfl (u_ne_f (n := s.got) (m := 0) (by omega) _ _ _) ?_
    refine WL.pick rfl rfl rfl rfl ?_
    refine WL.pick rfl rfl rfl rfl ?_
    refine WL.done ?_
    refine EW.on ?_
    refine EW.cond_f rfl ?_
    refine EW.skip ?_
    refine EW.on ?_
    refine EW.seq ?_
    refine EW.seq ?_
    refine EW.region ?_
    refine WL.move rfl rfl rfl ?_
    refine WL.bin rfl rfl rfl rfl (int_eq_t (by omega) _ _ _) ?_
    refine WL.move rfl rfl rfl ?_
    refine WL.move rfl rfl rfl ?_
    refine WL.bin rfl rfl rfl rfl (int_ne_t (by omega) _ _ _) ?_
    refine WL.move rfl rfl rfl ?_
    refine WL.skip _ rfl rfl rfl ?_
    refine WL.skip _ rfl rfl rfl ?_
    refine WL.skip _ rfl rfl rfl ?_
    refine WL.pick rfl rfl rfl rfl ?_
    refine WL.pick rfl rfl rfl rfl ?_
    refine WL.done ?_
    refine EW.on ?_
    refine EW.cond_t rfl ?_
    refine EW.seq ?_
    refine EW.region ?_
    first | refine WL.assign rfl rfl rfl ?_
    refine WL.done ?_
    refine EW.on ?_
    refine EW.ret ?_
    refine pr_then ?_
    exact EW.returns Try.results64 rfl ⟨by rw [decide_eq_false (fun g => by have g := (good_iff s).1 g; exact hprev (g.2.2.2.1 (by omega)).1)], l3⟩
  · refine EW.region ?_
    first | refine WL.field rfl rfl rfl (f33_12 q1 _) ?_
    first | refine WL.load rfl rfl rfl (Sg.ld_hl bq1 k) ?_
    refine WL.call [s.hl.v] enter70 rfl rfl rfl (greets_any _ k.hl _) ?_
    rintro _ w2 ⟨rfl, e2⟩
    have bq2 := bq1.on e2
    have l2 := bt l1b e2
    refine ⟨_, rfl, ?_⟩
    first | refine WL.assign rfl rfl rfl ?_
    refine WL.done ?_
    refine EW.on ?_
    refine EW.seq ?_
    refine EW.seq ?_
    refine EW.region ?_
    refine WL.move rfl rfl rfl ?_
    refine WL.move rfl rfl rfl ?_
    refine WL.bin rfl rfl rfl rfl (int_sub (c := (s.own : Int) - (s.turns : Int)) (by rw [IntKind.wrap_i64]; omega) _ _ _) ?_
    refine WL.bin rfl rfl rfl rfl (int_gt_f (by omega) _ _ _) ?_
    refine WL.move rfl rfl rfl ?_
    refine WL.move rfl rfl rfl ?_
    refine WL.move rfl rfl rfl ?_
    refine WL.bin rfl rfl rfl rfl (int_sub (c := (s.turns : Int) - (s.own : Int)) (by rw [IntKind.wrap_i64]; omega) _ _ _) ?_
    refine WL.bin rfl rfl rfl rfl (int_gt_f (by omega) _ _ _) ?_
    refine WL.pick rfl rfl rfl rfl ?_
    refine WL.done ?_
    refine EW.on ?_
    refine EW.cond_f rfl ?_
    refine EW.skip ?_
    refine EW.on ?_
    refine EW.seq ?_
    refine EW.ordB [(0, 0, 0), (1, 0, 1), (3, 0, 0), (4, 0, 1), (2, 1, 1), (5, 1, 1), (6, 0, 0), (7, 0, 0)] (by kernel_rfl) rfl (by kernel_rfl) ?_
    simp only [opsZ, List.getD_cons_zero, List.getD_cons_succ]
    first | refine ZE.field rfl rfl rfl rfl sz0 (fun W => f33_4 q1 W) ?_
    first | refine ZE.load rfl rfl rfl rfl sz1 (fun W hW => Sg.ld_sk (bq2.on (sb_of hW)) k) ?_
    first | refine ZE.field rfl rfl rfl rfl sz0 (fun W => f33_5 q1 W) ?_
    first | refine ZE.load rfl rfl rfl rfl sz1 (fun W hW => Sg.ld_rk (bq2.on (sb_of hW)) k) ?_
    refine ZE.callB [kv s.sk] enter71 rfl rfl rfl (fun W h => .inr h) (fun W hW => zero_any s.sk k.sk W) ?_
    refine ZE.callB (v := .bool true) [kv s.rk] enter71 rfl rfl rfl (fun W h => .inr h) (fun W hW => (decide_eq_true hrk) ▸ zero_any s.rk k.rk W) ?_
    first | refine ZE.assign rfl rfl rfl rfl sz0 ?_
    first | refine ZE.assign rfl rfl rfl rfl sz0 ?_
    intro w3 e3
    have bq3 := bq2.on e3
    have l3 := bt l2 e3
    refine EW.on ?_
    refine EW.seq ?_
    refine EW.seq ?_
    refine EW.region ?_
    refine WL.move rfl rfl rfl ?_
    refine WL.bin rfl rfl rfl rfl (int_eq_f (by omega) _ _ _) ?_
    refine WL.move rfl rfl rfl ?_
    refine WL.skip _ rfl rfl rfl ?_
    refine WL.skip _ rfl rfl rfl ?_
    refine WL.skip _ rfl rfl rfl ?_
    refine WL.skip _ rfl rfl rfl ?_
    refine WL.skip _ rfl rfl rfl ?_
    refine WL.skip _ rfl rfl rfl ?_
    refine WL.skip _ rfl rfl rfl ?_
    refine WL.skip _ rfl rfl rfl ?_
    refine WL.skip _ rfl rfl rfl ?_
    refine WL.skip _ rfl rfl rfl ?_
    refine WL.skip _ rfl rfl rfl ?_
    refine WL.skip _ rfl rfl rfl ?_
    refine WL.skip _ rfl rfl rfl ?_
    refine WL.skip _ rfl rfl rfl ?_
    refine WL.skip _ rfl rfl rfl ?_
    refine WL.skip _ rfl rfl rfl ?_
    refine WL.skip _ rfl rfl rfl ?_
    refine WL.pick rfl rfl rfl rfl ?_
    refine WL.done ?_
    refine EW.on ?_
    refine EW.cond_f rfl ?_
    refine EW.skip ?_
    refine EW.on ?_
    refine EW.seq ?_
    refine EW.seq ?_
    refine EW.region ?_
    refine WL.move rfl rfl rfl ?_
    refine WL.bin rfl rfl rfl rfl (int_eq_t (by omega) _ _ _) ?_
    refine WL.move rfl rfl rfl ?_
    refine WL.move rfl rfl rfl ?_
    refine WL.un rfl rfl rfl (not_t _ _) ?_
    refine WL.move rfl rfl rfl ?_
    refine WL.field rfl rfl rfl (f33_9 q1 _) ?_
    refine WL.load rfl rfl rfl (Sg.ld_got bq3 k) ?_
    refine WL.bin rfl rfl rfl rfl (u_ne_t (n := s.got) (m := 0) (by omega) _ _ _) ?_
    refine WL.pick rfl rfl rfl rfl ?_
    refine WL.pick rfl rfl rfl rfl ?_
    refine WL.done ?_
    refine EW.on ?_
    refine EW.cond_t rfl ?_
    refine EW.seq ?_
    refine EW.region ?_
    first | refine WL.assign rfl rfl rfl ?_
    refine WL.done ?_
    refine EW.on ?_
    refine EW.ret ?_
    refine pr_then ?_
    exact EW.returns Try.results64 rfl ⟨by rw [decide_eq_false (fun g => by have g := (good_iff s).1 g; exact hgot (g.2.2.1 hTn).2)], l3⟩
  · refine EW.region ?_
    first | refine WL.field rfl rfl rfl (f33_12 q1 _) ?_
    first | refine WL.load rfl rfl rfl (Sg.ld_hl bq1 k) ?_
    refine WL.call [s.hl.v] enter70 rfl rfl rfl (greets_any _ k.hl _) ?_
    rintro _ w2 ⟨rfl, e2⟩
    have bq2 := bq1.on e2
    have l2 := bt l1b e2
    refine ⟨_, rfl, ?_⟩
    first | refine WL.assign rfl rfl rfl ?_
    refine WL.done ?_
    refine EW.on ?_
    refine EW.seq ?_
    refine EW.seq ?_
    refine EW.region ?_
    refine WL.move rfl rfl rfl ?_
    refine WL.move rfl rfl rfl ?_
    refine WL.bin rfl rfl rfl rfl (int_sub (c := (s.own : Int) - (s.turns : Int)) (by rw [IntKind.wrap_i64]; omega) _ _ _) ?_
    refine WL.bin rfl rfl rfl rfl (int_gt_f (by omega) _ _ _) ?_
    refine WL.move rfl rfl rfl ?_
    refine WL.move rfl rfl rfl ?_
    refine WL.move rfl rfl rfl ?_
    refine WL.bin rfl rfl rfl rfl (int_sub (c := (s.turns : Int) - (s.own : Int)) (by rw [IntKind.wrap_i64]; omega) _ _ _) ?_
    refine WL.bin rfl rfl rfl rfl (int_gt_f (by omega) _ _ _) ?_
    refine WL.pick rfl rfl rfl rfl ?_
    refine WL.done ?_
    refine EW.on ?_
    refine EW.cond_f rfl ?_
    refine EW.skip ?_
    refine EW.on ?_
    refine EW.seq ?_
    refine EW.ordB [(0, 0, 0), (1, 0, 1), (3, 0, 0), (4, 0, 1), (2, 1, 1), (5, 1, 1), (6, 0, 0), (7, 0, 0)] (by kernel_rfl) rfl (by kernel_rfl) ?_
    simp only [opsZ, List.getD_cons_zero, List.getD_cons_succ]
    first | refine ZE.field rfl rfl rfl rfl sz0 (fun W => f33_4 q1 W) ?_
    first | refine ZE.load rfl rfl rfl rfl sz1 (fun W hW => Sg.ld_sk (bq2.on (sb_of hW)) k) ?_
    first | refine ZE.field rfl rfl rfl rfl sz0 (fun W => f33_5 q1 W) ?_
    first | refine ZE.load rfl rfl rfl rfl sz1 (fun W hW => Sg.ld_rk (bq2.on (sb_of hW)) k) ?_
    refine ZE.callB [kv s.sk] enter71 rfl rfl rfl (fun W h => .inr h) (fun W hW => zero_any s.sk k.sk W) ?_
    refine ZE.callB (v := .bool false) [kv s.rk] enter71 rfl rfl rfl (fun W h => .inr h) (fun W hW => (decide_eq_false hrk) ▸ zero_any s.rk k.rk W) ?_
    first | refine ZE.assign rfl rfl rfl rfl sz0 ?_
    first | refine ZE.assign rfl rfl rfl rfl sz0 ?_
    intro w3 e3
    have bq3 := bq2.on e3
    have l3 := bt l2 e3
    refine EW.on ?_
    refine EW.seq ?_
    refine EW.seq ?_
    refine EW.region ?_
    refine WL.move rfl rfl rfl ?_
    refine WL.bin rfl rfl rfl rfl (int_eq_f (by omega) _ _ _) ?_
    refine WL.move rfl rfl rfl ?_
    refine WL.skip _ rfl rfl rfl ?_
    refine WL.skip _ rfl rfl rfl ?_
    refine WL.skip _ rfl rfl rfl ?_
    refine WL.skip _ rfl rfl rfl ?_
    refine WL.skip _ rfl rfl rfl ?_
    refine WL.skip _ rfl rfl rfl ?_
    refine WL.skip _ rfl rfl rfl ?_
    refine WL.skip _ rfl rfl rfl ?_
    refine WL.skip _ rfl rfl rfl ?_
    refine WL.skip _ rfl rfl rfl ?_
    refine WL.skip _ rfl rfl rfl ?_
    refine WL.skip _ rfl rfl rfl ?_
    refine WL.skip _ rfl rfl rfl ?_
    refine WL.skip _ rfl rfl rfl ?_
    refine WL.skip _ rfl rfl rfl ?_
    refine WL.skip _ rfl rfl rfl ?_
    refine WL.skip _ rfl rfl rfl ?_
    refine WL.pick rfl rfl rfl rfl ?_
    refine WL.done ?_
    refine EW.on ?_
    refine EW.cond_f rfl ?_
    refine EW.skip ?_
    refine EW.on ?_
    refine EW.seq ?_
    refine EW.seq ?_
    refine EW.region ?_
    refine WL.move rfl rfl rfl ?_
    refine WL.bin rfl rfl rfl rfl (int_eq_t (by omega) _ _ _) ?_
    refine WL.move rfl rfl rfl ?_
    refine WL.move rfl rfl rfl ?_
    refine WL.un rfl rfl rfl (not_t _ _) ?_
    refine WL.move rfl rfl rfl ?_
    refine WL.skip _ rfl rfl rfl ?_
    refine WL.skip _ rfl rfl rfl ?_
    refine WL.skip _ rfl rfl rfl ?_
    refine WL.pick rfl rfl rfl rfl ?_
    refine WL.pick rfl rfl rfl rfl ?_
    refine WL.done ?_
    refine EW.on ?_
    refine EW.cond_t rfl ?_
    refine EW.seq ?_
    refine EW.region ?_
    first | refine WL.assign rfl rfl rfl ?_
    refine WL.done ?_
    refine EW.on ?_
    refine EW.ret ?_
    refine pr_then ?_
    exact EW.returns Try.results64 rfl ⟨by rw [decide_eq_false (fun g => by have g := (good_iff s).1 g; exact hrk (g.2.2.1 hTn).1)], l3⟩
  · refine EW.region ?_
    first | refine WL.field rfl rfl rfl (f33_12 q1 _) ?_
    first | refine WL.load rfl rfl rfl (Sg.ld_hl bq1 k) ?_
    refine WL.call [s.hl.v] enter70 rfl rfl rfl (greets_any _ k.hl _) ?_
    rintro _ w2 ⟨rfl, e2⟩
    have bq2 := bq1.on e2
    have l2 := bt l1b e2
    rw [decide_eq_false (fun h => h hhz)]
    refine ⟨_, rfl, ?_⟩
    first | refine WL.assign rfl rfl rfl ?_
    refine WL.done ?_
    refine EW.on ?_
    refine EW.seq ?_
    refine EW.seq ?_
    refine EW.region ?_
    refine WL.move rfl rfl rfl ?_
    refine WL.move rfl rfl rfl ?_
    refine WL.bin rfl rfl rfl rfl (int_sub (c := (s.own : Int) - (s.turns : Int)) (by rw [IntKind.wrap_i64]; omega) _ _ _) ?_
    refine WL.bin rfl rfl rfl rfl (int_gt_f (by omega) _ _ _) ?_
    refine WL.move rfl rfl rfl ?_
    refine WL.move rfl rfl rfl ?_
    refine WL.move rfl rfl rfl ?_
    refine WL.bin rfl rfl rfl rfl (int_sub (c := (s.turns : Int) - (s.own : Int)) (by rw [IntKind.wrap_i64]; omega) _ _ _) ?_
    refine WL.bin rfl rfl rfl rfl (int_gt_f (by omega) _ _ _) ?_
    refine WL.pick rfl rfl rfl rfl ?_
    refine WL.done ?_
    refine EW.on ?_
    refine EW.cond_f rfl ?_
    refine EW.skip ?_
    refine EW.on ?_
    refine EW.seq ?_
    refine EW.ordB [(0, 0, 0), (1, 0, 1), (3, 0, 0), (4, 0, 1), (2, 1, 1), (5, 1, 1), (6, 0, 0), (7, 0, 0)] (by kernel_rfl) rfl (by kernel_rfl) ?_
    simp only [opsZ, List.getD_cons_zero, List.getD_cons_succ]
    first | refine ZE.field rfl rfl rfl rfl sz0 (fun W => f33_4 q1 W) ?_
    first | refine ZE.load rfl rfl rfl rfl sz1 (fun W hW => Sg.ld_sk (bq2.on (sb_of hW)) k) ?_
    first | refine ZE.field rfl rfl rfl rfl sz0 (fun W => f33_5 q1 W) ?_
    first | refine ZE.load rfl rfl rfl rfl sz1 (fun W hW => Sg.ld_rk (bq2.on (sb_of hW)) k) ?_
    refine ZE.callB [kv s.sk] enter71 rfl rfl rfl (fun W h => .inr h) (fun W hW => zero_any s.sk k.sk W) ?_
    refine ZE.callB [kv s.rk] enter71 rfl rfl rfl (fun W h => .inr h) (fun W hW => zero_any s.rk k.rk W) ?_
    first | refine ZE.assign rfl rfl rfl rfl sz0 ?_
    first | refine ZE.assign rfl rfl rfl rfl sz0 ?_
    intro w3 e3
    have bq3 := bq2.on e3
    have l3 := bt l2 e3
    refine EW.on ?_
    refine EW.seq ?_
    refine EW.seq ?_
    refine EW.region ?_
    refine WL.move rfl rfl rfl ?_
    refine WL.bin rfl rfl rfl rfl (int_eq_f (by omega) _ _ _) ?_
    refine WL.move rfl rfl rfl ?_
    refine WL.skip _ rfl rfl rfl ?_
    refine WL.skip _ rfl rfl rfl ?_
    refine WL.skip _ rfl rfl rfl ?_
    refine WL.skip _ rfl rfl rfl ?_
    refine WL.skip _ rfl rfl rfl ?_
    refine WL.skip _ rfl rfl rfl ?_
    refine WL.skip _ rfl rfl rfl ?_
    refine WL.skip _ rfl rfl rfl ?_
    refine WL.skip _ rfl rfl rfl ?_
    refine WL.skip _ rfl rfl rfl ?_
    refine WL.skip _ rfl rfl rfl ?_
    refine WL.skip _ rfl rfl rfl ?_
    refine WL.skip _ rfl rfl rfl ?_
    refine WL.skip _ rfl rfl rfl ?_
    refine WL.skip _ rfl rfl rfl ?_
    refine WL.skip _ rfl rfl rfl ?_
    refine WL.skip _ rfl rfl rfl ?_
    refine WL.pick rfl rfl rfl rfl ?_
    refine WL.done ?_
    refine EW.on ?_
    refine EW.cond_f rfl ?_
    refine EW.skip ?_
    refine EW.on ?_
    refine EW.seq ?_
    refine EW.seq ?_
    refine EW.region ?_
    refine WL.move rfl rfl rfl ?_
    refine WL.bin rfl rfl rfl rfl (int_eq_f (by omega) _ _ _) ?_
    refine WL.move rfl rfl rfl ?_
    refine WL.skip _ rfl rfl rfl ?_
    refine WL.skip _ rfl rfl rfl ?_
    refine WL.skip _ rfl rfl rfl ?_
    refine WL.skip _ rfl rfl rfl ?_
    refine WL.skip _ rfl rfl rfl ?_
    refine WL.skip _ rfl rfl rfl ?_
    refine WL.skip _ rfl rfl rfl ?_
    refine WL.pick rfl rfl rfl rfl ?_
    refine WL.done ?_
    refine EW.on ?_
    refine EW.cond_f rfl ?_
    refine EW.skip ?_
    refine EW.on ?_
    refine EW.seq ?_
    refine EW.seq ?_
    refine EW.region ?_
    refine WL.move rfl rfl rfl ?_
    refine WL.bin rfl rfl rfl rfl (int_eq_t (by omega) _ _ _) ?_
    refine WL.move rfl rfl rfl ?_
    refine WL.move rfl rfl rfl ?_
    refine WL.bin rfl rfl rfl rfl (int_ne_f (by omega) _ _ _) ?_
    refine WL.move rfl rfl rfl ?_
    refine WL.move rfl rfl rfl ?_
    refine WL.move rfl rfl rfl ?_
    refine WL.bin rfl rfl rfl rfl (int_ne_f (by omega) _ _ _) ?_
    refine WL.pick rfl rfl rfl rfl ?_
    refine WL.pick rfl rfl rfl rfl ?_
    refine WL.done ?_
    refine EW.on ?_
    refine EW.cond_f rfl ?_
    refine EW.skip ?_
    refine EW.on ?_
    refine EW.seq ?_
    refine EW.seq ?_
    refine EW.region ?_
    refine WL.move rfl rfl rfl ?_
    refine WL.bin rfl rfl rfl rfl (int_gt_t (by omega) _ _ _) ?_
    refine WL.move rfl rfl rfl ?_
    refine WL.move rfl rfl rfl ?_
    refine WL.move rfl rfl rfl ?_
    refine WL.bin rfl rfl rfl rfl (int_lt_f (by omega) _ _ _) ?_
    refine WL.move rfl rfl rfl ?_
    refine WL.move rfl rfl rfl ?_
    refine WL.move rfl rfl rfl ?_
    refine WL.bin rfl rfl rfl rfl (int_sub (c := (s.ser : Int) - (s.sent : Int)) (by rw [IntKind.wrap_i64]; omega) _ _ _) ?_
    refine WL.move rfl rfl rfl ?_
    refine WL.bin rfl rfl rfl rfl (int_lt_f (by omega) _ _ _) ?_
    refine WL.pick rfl rfl rfl rfl ?_
    refine WL.pick rfl rfl rfl rfl ?_
    refine WL.done ?_
    refine EW.on ?_
    refine EW.cond_f rfl ?_
    refine EW.skip ?_
    refine EW.on ?_
    refine EW.seq ?_
    refine EW.seq ?_
    refine EW.region ?_
    first | refine WL.move rfl rfl rfl ?_
    refine WL.un rfl rfl rfl (not_t _ _) ?_
    refine WL.done ?_
    refine EW.on ?_
    refine EW.cond_t rfl ?_
    refine EW.seq ?_
    refine EW.region ?_
    first | refine WL.assign rfl rfl rfl ?_
    refine WL.done ?_
    refine EW.on ?_
    refine EW.ret ?_
    refine pr_then ?_
    exact EW.returns Try.results64 rfl ⟨by rw [decide_eq_true ((good_iff s).2 ⟨⟨by omega, by omega⟩, fun e => absurd e hO, fun e => absurd e hTn, fun _ => ⟨hprev, heq⟩, fun e => ⟨by omega, by omega⟩, .inl hhz⟩)], l3⟩
  · refine EW.region ?_
    first | refine WL.field rfl rfl rfl (f33_12 q1 _) ?_
    first | refine WL.load rfl rfl rfl (Sg.ld_hl bq1 k) ?_
    refine WL.call [s.hl.v] enter70 rfl rfl rfl (greets_any _ k.hl _) ?_
    rintro _ w2 ⟨rfl, e2⟩
    have bq2 := bq1.on e2
    have l2 := bt l1b e2
    rw [decide_eq_true hhz]
    refine ⟨_, rfl, ?_⟩
    first | refine WL.assign rfl rfl rfl ?_
    refine WL.done ?_
    refine EW.on ?_
    refine EW.seq ?_
    refine EW.seq ?_
    refine EW.region ?_
    refine WL.move rfl rfl rfl ?_
    refine WL.move rfl rfl rfl ?_
    refine WL.bin rfl rfl rfl rfl (int_sub (c := (s.own : Int) - (s.turns : Int)) (by rw [IntKind.wrap_i64]; omega) _ _ _) ?_
    refine WL.bin rfl rfl rfl rfl (int_gt_f (by omega) _ _ _) ?_
    refine WL.move rfl rfl rfl ?_
    refine WL.move rfl rfl rfl ?_
    refine WL.move rfl rfl rfl ?_
    refine WL.bin rfl rfl rfl rfl (int_sub (c := (s.turns : Int) - (s.own : Int)) (by rw [IntKind.wrap_i64]; omega) _ _ _) ?_
    refine WL.bin rfl rfl rfl rfl (int_gt_f (by omega) _ _ _) ?_
    refine WL.pick rfl rfl rfl rfl ?_
    refine WL.done ?_
    refine EW.on ?_
    refine EW.cond_f rfl ?_
    refine EW.skip ?_
    refine EW.on ?_
    refine EW.seq ?_
    refine EW.ordB [(0, 0, 0), (1, 0, 1), (3, 0, 0), (4, 0, 1), (2, 1, 1), (5, 1, 1), (6, 0, 0), (7, 0, 0)] (by kernel_rfl) rfl (by kernel_rfl) ?_
    simp only [opsZ, List.getD_cons_zero, List.getD_cons_succ]
    first | refine ZE.field rfl rfl rfl rfl sz0 (fun W => f33_4 q1 W) ?_
    first | refine ZE.load rfl rfl rfl rfl sz1 (fun W hW => Sg.ld_sk (bq2.on (sb_of hW)) k) ?_
    first | refine ZE.field rfl rfl rfl rfl sz0 (fun W => f33_5 q1 W) ?_
    first | refine ZE.load rfl rfl rfl rfl sz1 (fun W hW => Sg.ld_rk (bq2.on (sb_of hW)) k) ?_
    refine ZE.callB [kv s.sk] enter71 rfl rfl rfl (fun W h => .inr h) (fun W hW => zero_any s.sk k.sk W) ?_
    refine ZE.callB [kv s.rk] enter71 rfl rfl rfl (fun W h => .inr h) (fun W hW => zero_any s.rk k.rk W) ?_
    first | refine ZE.assign rfl rfl rfl rfl sz0 ?_
    first | refine ZE.assign rfl rfl rfl rfl sz0 ?_
    intro w3 e3
    have bq3 := bq2.on e3
    have l3 := bt l2 e3
    refine EW.on ?_
    refine EW.seq ?_
    refine EW.seq ?_
    refine EW.region ?_
    refine WL.move rfl rfl rfl ?_
    refine WL.bin rfl rfl rfl rfl (int_eq_f (by omega) _ _ _) ?_
    refine WL.move rfl rfl rfl ?_
    refine WL.skip _ rfl rfl rfl ?_
    refine WL.skip _ rfl rfl rfl ?_
    refine WL.skip _ rfl rfl rfl ?_
    refine WL.skip _ rfl rfl rfl ?_
    refine WL.skip _ rfl rfl rfl ?_
    refine WL.skip _ rfl rfl rfl ?_
    refine WL.skip _ rfl rfl rfl ?_
    refine WL.skip _ rfl rfl rfl ?_
    refine WL.skip _ rfl rfl rfl ?_
    refine WL.skip _ rfl rfl rfl ?_
    refine WL.skip _ rfl rfl rfl ?_
    refine WL.skip _ rfl rfl rfl ?_
    refine WL.skip _ rfl rfl rfl ?_
    refine WL.skip _ rfl rfl rfl ?_
    refine WL.skip _ rfl rfl rfl ?_
    refine WL.skip _ rfl rfl rfl ?_
    refine WL.skip _ rfl rfl rfl ?_
    refine WL.pick rfl rfl rfl rfl ?_
    refine WL.done ?_
    refine EW.on ?_
    refine EW.cond_f rfl ?_
    refine EW.skip ?_
    refine EW.on ?_
    refine EW.seq ?_
    refine EW.seq ?_
    refine EW.region ?_
    refine WL.move rfl rfl rfl ?_
    refine WL.bin rfl rfl rfl rfl (int_eq_f (by omega) _ _ _) ?_
    refine WL.move rfl rfl rfl ?_
    refine WL.skip _ rfl rfl rfl ?_
    refine WL.skip _ rfl rfl rfl ?_
    refine WL.skip _ rfl rfl rfl ?_
    refine WL.skip _ rfl rfl rfl ?_
    refine WL.skip _ rfl rfl rfl ?_
    refine WL.skip _ rfl rfl rfl ?_
    refine WL.skip _ rfl rfl rfl ?_
    refine WL.pick rfl rfl rfl rfl ?_
    refine WL.done ?_
    refine EW.on ?_
    refine EW.cond_f rfl ?_
    refine EW.skip ?_
    refine EW.on ?_
    refine EW.seq ?_
    refine EW.seq ?_
    refine EW.region ?_
    refine WL.move rfl rfl rfl ?_
    refine WL.bin rfl rfl rfl rfl (int_eq_t (by omega) _ _ _) ?_
    refine WL.move rfl rfl rfl ?_
    refine WL.move rfl rfl rfl ?_
    refine WL.bin rfl rfl rfl rfl (int_ne_f (by omega) _ _ _) ?_
    refine WL.move rfl rfl rfl ?_
    refine WL.move rfl rfl rfl ?_
    refine WL.move rfl rfl rfl ?_
    refine WL.bin rfl rfl rfl rfl (int_ne_f (by omega) _ _ _) ?_
    refine WL.pick rfl rfl rfl rfl ?_
    refine WL.pick rfl rfl rfl rfl ?_
    refine WL.done ?_
    refine EW.on ?_
    refine EW.cond_f rfl ?_
    refine EW.skip ?_
    refine EW.on ?_
    refine EW.seq ?_
    refine EW.seq ?_
    refine EW.region ?_
    refine WL.move rfl rfl rfl ?_
    refine WL.bin rfl rfl rfl rfl (int_gt_t (by omega) _ _ _) ?_
    refine WL.move rfl rfl rfl ?_
    refine WL.move rfl rfl rfl ?_
    refine WL.move rfl rfl rfl ?_
    refine WL.bin rfl rfl rfl rfl (int_lt_f (by omega) _ _ _) ?_
    refine WL.move rfl rfl rfl ?_
    refine WL.move rfl rfl rfl ?_
    refine WL.move rfl rfl rfl ?_
    refine WL.bin rfl rfl rfl rfl (int_sub (c := (s.ser : Int) - (s.sent : Int)) (by rw [IntKind.wrap_i64]; omega) _ _ _) ?_
    refine WL.move rfl rfl rfl ?_
    refine WL.bin rfl rfl rfl rfl (int_lt_f (by omega) _ _ _) ?_
    refine WL.pick rfl rfl rfl rfl ?_
    refine WL.pick rfl rfl rfl rfl ?_
    refine WL.done ?_
    refine EW.on ?_
    refine EW.cond_f rfl ?_
    refine EW.skip ?_
    refine EW.on ?_
    refine EW.seq ?_
    refine EW.seq ?_
    refine EW.region ?_
    first | refine WL.move rfl rfl rfl ?_
    refine WL.un rfl rfl rfl (not_t _ _) ?_
    refine WL.done ?_
    refine EW.on ?_
    refine EW.cond_f rfl ?_
    refine EW.skip ?_
    refine EW.on ?_
    refine EW.seq ?_
    refine EW.region ?_
    first | refine WL.field rfl rfl rfl (f33_12 q1 _) ?_
    first | refine WL.field rfl rfl rfl (f30_0 q1 214 _) ?_
    first | refine WL.load rfl rfl rfl (Sg.ld_hid bq3 k) ?_
    refine WL.call [kv s.hl.id] enter71 rfl rfl rfl (zero_any _ k.hl.i _) ?_
    rintro _ w4 ⟨rfl, e4⟩
    rw [decide_eq_true hidz]
    have bq4 := bq3.on e4
    have l4 := bt l3 e4
    refine ⟨_, rfl, ?_⟩
    first | refine WL.assign rfl rfl rfl ?_
    refine WL.done ?_
    refine EW.on ?_
    refine EW.seq ?_
    refine EW.seq ?_
    refine EW.region ?_
    refine WL.move rfl rfl rfl ?_
    refine WL.move rfl rfl rfl ?_
    refine WL.skip _ rfl rfl rfl ?_
    refine WL.skip _ rfl rfl rfl ?_
    refine WL.pick rfl rfl rfl rfl ?_
    refine WL.done ?_
    refine EW.on ?_
    refine EW.cond_t rfl ?_
    refine EW.seq ?_
    refine EW.region ?_
    first | refine WL.assign rfl rfl rfl ?_
    refine WL.done ?_
    refine EW.on ?_
    refine EW.ret ?_
    refine pr_then ?_
    exact EW.returns Try.results64 rfl ⟨by rw [decide_eq_false (fun g => by have g := (good_iff s).1 g; rcases g.2.2.2.2.2 with e | e; exact hhz e; exact e.1 hidz)], l4⟩
  · refine EW.region ?_
    first | refine WL.field rfl rfl rfl (f33_12 q1 _) ?_
    first | refine WL.load rfl rfl rfl (Sg.ld_hl bq1 k) ?_
    refine WL.call [s.hl.v] enter70 rfl rfl rfl (greets_any _ k.hl _) ?_
    rintro _ w2 ⟨rfl, e2⟩
    have bq2 := bq1.on e2
    have l2 := bt l1b e2
    rw [decide_eq_true hhz]
    refine ⟨_, rfl, ?_⟩
    first | refine WL.assign rfl rfl rfl ?_
    refine WL.done ?_
    refine EW.on ?_
    refine EW.seq ?_
    refine EW.seq ?_
    refine EW.region ?_
    refine WL.move rfl rfl rfl ?_
    refine WL.move rfl rfl rfl ?_
    refine WL.bin rfl rfl rfl rfl (int_sub (c := (s.own : Int) - (s.turns : Int)) (by rw [IntKind.wrap_i64]; omega) _ _ _) ?_
    refine WL.bin rfl rfl rfl rfl (int_gt_f (by omega) _ _ _) ?_
    refine WL.move rfl rfl rfl ?_
    refine WL.move rfl rfl rfl ?_
    refine WL.move rfl rfl rfl ?_
    refine WL.bin rfl rfl rfl rfl (int_sub (c := (s.turns : Int) - (s.own : Int)) (by rw [IntKind.wrap_i64]; omega) _ _ _) ?_
    refine WL.bin rfl rfl rfl rfl (int_gt_f (by omega) _ _ _) ?_
    refine WL.pick rfl rfl rfl rfl ?_
    refine WL.done ?_
    refine EW.on ?_
    refine EW.cond_f rfl ?_
    refine EW.skip ?_
    refine EW.on ?_
    refine EW.seq ?_
    refine EW.ordB [(0, 0, 0), (1, 0, 1), (3, 0, 0), (4, 0, 1), (2, 1, 1), (5, 1, 1), (6, 0, 0), (7, 0, 0)] (by kernel_rfl) rfl (by kernel_rfl) ?_
    simp only [opsZ, List.getD_cons_zero, List.getD_cons_succ]
    first | refine ZE.field rfl rfl rfl rfl sz0 (fun W => f33_4 q1 W) ?_
    first | refine ZE.load rfl rfl rfl rfl sz1 (fun W hW => Sg.ld_sk (bq2.on (sb_of hW)) k) ?_
    first | refine ZE.field rfl rfl rfl rfl sz0 (fun W => f33_5 q1 W) ?_
    first | refine ZE.load rfl rfl rfl rfl sz1 (fun W hW => Sg.ld_rk (bq2.on (sb_of hW)) k) ?_
    refine ZE.callB [kv s.sk] enter71 rfl rfl rfl (fun W h => .inr h) (fun W hW => zero_any s.sk k.sk W) ?_
    refine ZE.callB [kv s.rk] enter71 rfl rfl rfl (fun W h => .inr h) (fun W hW => zero_any s.rk k.rk W) ?_
    first | refine ZE.assign rfl rfl rfl rfl sz0 ?_
    first | refine ZE.assign rfl rfl rfl rfl sz0 ?_
    intro w3 e3
    have bq3 := bq2.on e3
    have l3 := bt l2 e3
    refine EW.on ?_
    refine EW.seq ?_
    refine EW.seq ?_
    refine EW.region ?_
    refine WL.move rfl rfl rfl ?_
    refine WL.bin rfl rfl rfl rfl (int_eq_f (by omega) _ _ _) ?_
    refine WL.move rfl rfl rfl ?_
    refine WL.skip _ rfl rfl rfl ?_
    refine WL.skip _ rfl rfl rfl ?_
    refine WL.skip _ rfl rfl rfl ?_
    refine WL.skip _ rfl rfl rfl ?_
    refine WL.skip _ rfl rfl rfl ?_
    refine WL.skip _ rfl rfl rfl ?_
    refine WL.skip _ rfl rfl rfl ?_
    refine WL.skip _ rfl rfl rfl ?_
    refine WL.skip _ rfl rfl rfl ?_
    refine WL.skip _ rfl rfl rfl ?_
    refine WL.skip _ rfl rfl rfl ?_
    refine WL.skip _ rfl rfl rfl ?_
    refine WL.skip _ rfl rfl rfl ?_
    refine WL.skip _ rfl rfl rfl ?_
    refine WL.skip _ rfl rfl rfl ?_
    refine WL.skip _ rfl rfl rfl ?_
    refine WL.skip _ rfl rfl rfl ?_
    refine WL.pick rfl rfl rfl rfl ?_
    refine WL.done ?_
    refine EW.on ?_
    refine EW.cond_f rfl ?_
    refine EW.skip ?_
    refine EW.on ?_
    refine EW.seq ?_
    refine EW.seq ?_
    refine EW.region ?_
    refine WL.move rfl rfl rfl ?_
    refine WL.bin rfl rfl rfl rfl (int_eq_f (by omega) _ _ _) ?_
    refine WL.move rfl rfl rfl ?_
    refine WL.skip _ rfl rfl rfl ?_
    refine WL.skip _ rfl rfl rfl ?_
    refine WL.skip _ rfl rfl rfl ?_
    refine WL.skip _ rfl rfl rfl ?_
    refine WL.skip _ rfl rfl rfl ?_
    refine WL.skip _ rfl rfl rfl ?_
    refine WL.skip _ rfl rfl rfl ?_
    refine WL.pick rfl rfl rfl rfl ?_
    refine WL.done ?_
    refine EW.on ?_
    refine EW.cond_f rfl ?_
    refine EW.skip ?_
    refine EW.on ?_
    refine EW.seq ?_
    refine EW.seq ?_
    refine EW.region ?_
    refine WL.move rfl rfl rfl ?_
    refine WL.bin rfl rfl rfl rfl (int_eq_t (by omega) _ _ _) ?_
    refine WL.move rfl rfl rfl ?_
    refine WL.move rfl rfl rfl ?_
    refine WL.bin rfl rfl rfl rfl (int_ne_f (by omega) _ _ _) ?_
    refine WL.move rfl rfl rfl ?_
    refine WL.move rfl rfl rfl ?_
    refine WL.move rfl rfl rfl ?_
    refine WL.bin rfl rfl rfl rfl (int_ne_f (by omega) _ _ _) ?_
    refine WL.pick rfl rfl rfl rfl ?_
    refine WL.pick rfl rfl rfl rfl ?_
    refine WL.done ?_
    refine EW.on ?_
    refine EW.cond_f rfl ?_
    refine EW.skip ?_
    refine EW.on ?_
    refine EW.seq ?_
    refine EW.seq ?_
    refine EW.region ?_
    refine WL.move rfl rfl rfl ?_
    refine WL.bin rfl rfl rfl rfl (int_gt_t (by omega) _ _ _) ?_
    refine WL.move rfl rfl rfl ?_
    refine WL.move rfl rfl rfl ?_
    refine WL.move rfl rfl rfl ?_
    refine WL.bin rfl rfl rfl rfl (int_lt_f (by omega) _ _ _) ?_
    refine WL.move rfl rfl rfl ?_
    refine WL.move rfl rfl rfl ?_
    refine WL.move rfl rfl rfl ?_
    refine WL.bin rfl rfl rfl rfl (int_sub (c := (s.ser : Int) - (s.sent : Int)) (by rw [IntKind.wrap_i64]; omega) _ _ _) ?_
    refine WL.move rfl rfl rfl ?_
    refine WL.bin rfl rfl rfl rfl (int_lt_f (by omega) _ _ _) ?_
    refine WL.pick rfl rfl rfl rfl ?_
    refine WL.pick rfl rfl rfl rfl ?_
    refine WL.done ?_
    refine EW.on ?_
    refine EW.cond_f rfl ?_
    refine EW.skip ?_
    refine EW.on ?_
    refine EW.seq ?_
    refine EW.seq ?_
    refine EW.region ?_
    first | refine WL.move rfl rfl rfl ?_
    refine WL.un rfl rfl rfl (not_t _ _) ?_
    refine WL.done ?_
    refine EW.on ?_
    refine EW.cond_f rfl ?_
    refine EW.skip ?_
    refine EW.on ?_
    refine EW.seq ?_
    refine EW.region ?_
    first | refine WL.field rfl rfl rfl (f33_12 q1 _) ?_
    first | refine WL.field rfl rfl rfl (f30_0 q1 214 _) ?_
    first | refine WL.load rfl rfl rfl (Sg.ld_hid bq3 k) ?_
    refine WL.call [kv s.hl.id] enter71 rfl rfl rfl (zero_any _ k.hl.i _) ?_
    rintro _ w4 ⟨rfl, e4⟩
    rw [decide_eq_false hidz]
    have bq4 := bq3.on e4
    have l4 := bt l3 e4
    refine ⟨_, rfl, ?_⟩
    first | refine WL.assign rfl rfl rfl ?_
    refine WL.done ?_
    refine EW.on ?_
    refine EW.seq ?_
    refine EW.seq ?_
    refine EW.region ?_
    refine WL.move rfl rfl rfl ?_
    refine WL.move rfl rfl rfl ?_
    refine WL.move rfl rfl rfl ?_
    refine WL.bin rfl rfl rfl rfl (int_ne_t (by omega) _ _ _) ?_
    refine WL.pick rfl rfl rfl rfl ?_
    refine WL.done ?_
    refine EW.on ?_
    refine EW.cond_t rfl ?_
    refine EW.seq ?_
    refine EW.region ?_
    first | refine WL.assign rfl rfl rfl ?_
    refine WL.done ?_
    refine EW.on ?_
    refine EW.ret ?_
    refine pr_then ?_
    exact EW.returns Try.results64 rfl ⟨by rw [decide_eq_false (fun g => by have g := (good_iff s).1 g; rcases g.2.2.2.2.2 with e | e; exact hhz e; exact hTn e.2.1)], l4⟩
  · refine EW.region ?_
    first | refine WL.field rfl rfl rfl (f33_12 q1 _) ?_
    first | refine WL.load rfl rfl rfl (Sg.ld_hl bq1 k) ?_
    refine WL.call [s.hl.v] enter70 rfl rfl rfl (greets_any _ k.hl _) ?_
    rintro _ w2 ⟨rfl, e2⟩
    have bq2 := bq1.on e2
    have l2 := bt l1b e2
    refine ⟨_, rfl, ?_⟩
    first | refine WL.assign rfl rfl rfl ?_
    refine WL.done ?_
    refine EW.on ?_
    refine EW.seq ?_
    refine EW.seq ?_
    refine EW.region ?_
    refine WL.move rfl rfl rfl ?_
    refine WL.move rfl rfl rfl ?_
    refine WL.bin rfl rfl rfl rfl (int_sub (c := (s.own : Int) - (s.turns : Int)) (by rw [IntKind.wrap_i64]; omega) _ _ _) ?_
    refine WL.bin rfl rfl rfl rfl (int_gt_f (by omega) _ _ _) ?_
    refine WL.move rfl rfl rfl ?_
    refine WL.move rfl rfl rfl ?_
    refine WL.move rfl rfl rfl ?_
    refine WL.bin rfl rfl rfl rfl (int_sub (c := (s.turns : Int) - (s.own : Int)) (by rw [IntKind.wrap_i64]; omega) _ _ _) ?_
    refine WL.bin rfl rfl rfl rfl (int_gt_f (by omega) _ _ _) ?_
    refine WL.pick rfl rfl rfl rfl ?_
    refine WL.done ?_
    refine EW.on ?_
    refine EW.cond_f rfl ?_
    refine EW.skip ?_
    refine EW.on ?_
    refine EW.seq ?_
    refine EW.ordB [(0, 0, 0), (1, 0, 1), (3, 0, 0), (4, 0, 1), (2, 1, 1), (5, 1, 1), (6, 0, 0), (7, 0, 0)] (by kernel_rfl) rfl (by kernel_rfl) ?_
    simp only [opsZ, List.getD_cons_zero, List.getD_cons_succ]
    first | refine ZE.field rfl rfl rfl rfl sz0 (fun W => f33_4 q1 W) ?_
    first | refine ZE.load rfl rfl rfl rfl sz1 (fun W hW => Sg.ld_sk (bq2.on (sb_of hW)) k) ?_
    first | refine ZE.field rfl rfl rfl rfl sz0 (fun W => f33_5 q1 W) ?_
    first | refine ZE.load rfl rfl rfl rfl sz1 (fun W hW => Sg.ld_rk (bq2.on (sb_of hW)) k) ?_
    refine ZE.callB [kv s.sk] enter71 rfl rfl rfl (fun W h => .inr h) (fun W hW => zero_any s.sk k.sk W) ?_
    refine ZE.callB [kv s.rk] enter71 rfl rfl rfl (fun W h => .inr h) (fun W hW => zero_any s.rk k.rk W) ?_
    first | refine ZE.assign rfl rfl rfl rfl sz0 ?_
    first | refine ZE.assign rfl rfl rfl rfl sz0 ?_
    intro w3 e3
    have bq3 := bq2.on e3
    have l3 := bt l2 e3
    refine EW.on ?_
    refine EW.seq ?_
    refine EW.seq ?_
    refine EW.region ?_
    refine WL.move rfl rfl rfl ?_
    refine WL.bin rfl rfl rfl rfl (int_eq_f (by omega) _ _ _) ?_
    refine WL.move rfl rfl rfl ?_
    refine WL.skip _ rfl rfl rfl ?_
    refine WL.skip _ rfl rfl rfl ?_
    refine WL.skip _ rfl rfl rfl ?_
    refine WL.skip _ rfl rfl rfl ?_
    refine WL.skip _ rfl rfl rfl ?_
    refine WL.skip _ rfl rfl rfl ?_
    refine WL.skip _ rfl rfl rfl ?_
    refine WL.skip _ rfl rfl rfl ?_
    refine WL.skip _ rfl rfl rfl ?_
    refine WL.skip _ rfl rfl rfl ?_
    refine WL.skip _ rfl rfl rfl ?_
    refine WL.skip _ rfl rfl rfl ?_
    refine WL.skip _ rfl rfl rfl ?_
    refine WL.skip _ rfl rfl rfl ?_
    refine WL.skip _ rfl rfl rfl ?_
    refine WL.skip _ rfl rfl rfl ?_
    refine WL.skip _ rfl rfl rfl ?_
    refine WL.pick rfl rfl rfl rfl ?_
    refine WL.done ?_
    refine EW.on ?_
    refine EW.cond_f rfl ?_
    refine EW.skip ?_
    refine EW.on ?_
    refine EW.seq ?_
    refine EW.seq ?_
    refine EW.region ?_
    refine WL.move rfl rfl rfl ?_
    refine WL.bin rfl rfl rfl rfl (int_eq_f (by omega) _ _ _) ?_
    refine WL.move rfl rfl rfl ?_
    refine WL.skip _ rfl rfl rfl ?_
    refine WL.skip _ rfl rfl rfl ?_
    refine WL.skip _ rfl rfl rfl ?_
    refine WL.skip _ rfl rfl rfl ?_
    refine WL.skip _ rfl rfl rfl ?_
    refine WL.skip _ rfl rfl rfl ?_
    refine WL.skip _ rfl rfl rfl ?_
    refine WL.pick rfl rfl rfl rfl ?_
    refine WL.done ?_
    refine EW.on ?_
    refine EW.cond_f rfl ?_
    refine EW.skip ?_
    refine EW.on ?_
    refine EW.seq ?_
    refine EW.seq ?_
    refine EW.region ?_
    refine WL.move rfl rfl rfl ?_
    refine WL.bin rfl rfl rfl rfl (int_eq_t (by omega) _ _ _) ?_
    refine WL.move rfl rfl rfl ?_
    refine WL.move rfl rfl rfl ?_
    refine WL.bin rfl rfl rfl rfl (int_ne_f (by omega) _ _ _) ?_
    refine WL.move rfl rfl rfl ?_
    refine WL.move rfl rfl rfl ?_
    refine WL.move rfl rfl rfl ?_
    refine WL.bin rfl rfl rfl rfl (int_ne_t (by omega) _ _ _) ?_
    refine WL.pick rfl rfl rfl rfl ?_
    refine WL.pick rfl rfl rfl rfl ?_
    refine WL.done ?_
    refine EW.on ?_
    refine EW.cond_t rfl ?_
    refine EW.seq ?_
    refine EW.region ?_
    first | refine WL.assign rfl rfl rfl ?_
    refine WL.done ?_
    refine EW.on ?_
    refine EW.ret ?_
    refine pr_then ?_
    exact EW.returns Try.results64 rfl ⟨by rw [decide_eq_false (fun g => by have g := (good_iff s).1 g; exact heq (g.2.2.2.1 hO1).2)], l3⟩
  · refine EW.region ?_
    first | refine WL.field rfl rfl rfl (f33_12 q1 _) ?_
    first | refine WL.load rfl rfl rfl (Sg.ld_hl bq1 k) ?_
    refine WL.call [s.hl.v] enter70 rfl rfl rfl (greets_any _ k.hl _) ?_
    rintro _ w2 ⟨rfl, e2⟩
    have bq2 := bq1.on e2
    have l2 := bt l1b e2
    refine ⟨_, rfl, ?_⟩
    first | refine WL.assign rfl rfl rfl ?_
    refine WL.done ?_
    refine EW.on ?_
    refine EW.seq ?_
    refine EW.seq ?_
    refine EW.region ?_
    refine WL.move rfl rfl rfl ?_
    refine WL.move rfl rfl rfl ?_
    refine WL.bin rfl rfl rfl rfl (int_sub (c := (s.own : Int) - (s.turns : Int)) (by rw [IntKind.wrap_i64]; omega) _ _ _) ?_
    refine WL.bin rfl rfl rfl rfl (int_gt_f (by omega) _ _ _) ?_
    refine WL.move rfl rfl rfl ?_
    refine WL.move rfl rfl rfl ?_
    refine WL.move rfl rfl rfl ?_
    refine WL.bin rfl rfl rfl rfl (int_sub (c := (s.turns : Int) - (s.own : Int)) (by rw [IntKind.wrap_i64]; omega) _ _ _) ?_
    refine WL.bin rfl rfl rfl rfl (int_gt_f (by omega) _ _ _) ?_
    refine WL.pick rfl rfl rfl rfl ?_
    refine WL.done ?_
    refine EW.on ?_
    refine EW.cond_f rfl ?_
    refine EW.skip ?_
    refine EW.on ?_
    refine EW.seq ?_
    refine EW.ordB [(0, 0, 0), (1, 0, 1), (3, 0, 0), (4, 0, 1), (2, 1, 1), (5, 1, 1), (6, 0, 0), (7, 0, 0)] (by kernel_rfl) rfl (by kernel_rfl) ?_
    simp only [opsZ, List.getD_cons_zero, List.getD_cons_succ]
    first | refine ZE.field rfl rfl rfl rfl sz0 (fun W => f33_4 q1 W) ?_
    first | refine ZE.load rfl rfl rfl rfl sz1 (fun W hW => Sg.ld_sk (bq2.on (sb_of hW)) k) ?_
    first | refine ZE.field rfl rfl rfl rfl sz0 (fun W => f33_5 q1 W) ?_
    first | refine ZE.load rfl rfl rfl rfl sz1 (fun W hW => Sg.ld_rk (bq2.on (sb_of hW)) k) ?_
    refine ZE.callB [kv s.sk] enter71 rfl rfl rfl (fun W h => .inr h) (fun W hW => zero_any s.sk k.sk W) ?_
    refine ZE.callB [kv s.rk] enter71 rfl rfl rfl (fun W h => .inr h) (fun W hW => zero_any s.rk k.rk W) ?_
    first | refine ZE.assign rfl rfl rfl rfl sz0 ?_
    first | refine ZE.assign rfl rfl rfl rfl sz0 ?_
    intro w3 e3
    have bq3 := bq2.on e3
    have l3 := bt l2 e3
    refine EW.on ?_
    refine EW.seq ?_
    refine EW.seq ?_
    refine EW.region ?_
    refine WL.move rfl rfl rfl ?_
    refine WL.bin rfl rfl rfl rfl (int_eq_f (by omega) _ _ _) ?_
    refine WL.move rfl rfl rfl ?_
    refine WL.skip _ rfl rfl rfl ?_
    refine WL.skip _ rfl rfl rfl ?_
    refine WL.skip _ rfl rfl rfl ?_
    refine WL.skip _ rfl rfl rfl ?_
    refine WL.skip _ rfl rfl rfl ?_
    refine WL.skip _ rfl rfl rfl ?_
    refine WL.skip _ rfl rfl rfl ?_
    refine WL.skip _ rfl rfl rfl ?_
    refine WL.skip _ rfl rfl rfl ?_
    refine WL.skip _ rfl rfl rfl ?_
    refine WL.skip _ rfl rfl rfl ?_
    refine WL.skip _ rfl rfl rfl ?_
    refine WL.skip _ rfl rfl rfl ?_
    refine WL.skip _ rfl rfl rfl ?_
    refine WL.skip _ rfl rfl rfl ?_
    refine WL.skip _ rfl rfl rfl ?_
    refine WL.skip _ rfl rfl rfl ?_
    refine WL.pick rfl rfl rfl rfl ?_
    refine WL.done ?_
    refine EW.on ?_
    refine EW.cond_f rfl ?_
    refine EW.skip ?_
    refine EW.on ?_
    refine EW.seq ?_
    refine EW.seq ?_
    refine EW.region ?_
    refine WL.move rfl rfl rfl ?_
    refine WL.bin rfl rfl rfl rfl (int_eq_f (by omega) _ _ _) ?_
    refine WL.move rfl rfl rfl ?_
    refine WL.skip _ rfl rfl rfl ?_
    refine WL.skip _ rfl rfl rfl ?_
    refine WL.skip _ rfl rfl rfl ?_
    refine WL.skip _ rfl rfl rfl ?_
    refine WL.skip _ rfl rfl rfl ?_
    refine WL.skip _ rfl rfl rfl ?_
    refine WL.skip _ rfl rfl rfl ?_
    refine WL.pick rfl rfl rfl rfl ?_
    refine WL.done ?_
    refine EW.on ?_
    refine EW.cond_f rfl ?_
    refine EW.skip ?_
    refine EW.on ?_
    refine EW.seq ?_
    refine EW.seq ?_
    refine EW.region ?_
    refine WL.move rfl rfl rfl ?_
    refine WL.bin rfl rfl rfl rfl (int_eq_t (by omega) _ _ _) ?_
    refine WL.move rfl rfl rfl ?_
    refine WL.move rfl rfl rfl ?_
    refine WL.bin rfl rfl rfl rfl (int_ne_t (by omega) _ _ _) ?_
    refine WL.move rfl rfl rfl ?_
    refine WL.skip _ rfl rfl rfl ?_
    refine WL.skip _ rfl rfl rfl ?_
    refine WL.skip _ rfl rfl rfl ?_
    refine WL.pick rfl rfl rfl rfl ?_
    refine WL.pick rfl rfl rfl rfl ?_
    refine WL.done ?_
    refine EW.on ?_
    refine EW.cond_t rfl ?_
    refine EW.seq ?_
    refine EW.region ?_
    first | refine WL.assign rfl rfl rfl ?_
    refine WL.done ?_
    refine EW.on ?_
    refine EW.ret ?_
    refine pr_then ?_
    exact EW.returns Try.results64 rfl ⟨by rw [decide_eq_false (fun g => by have g := (good_iff s).1 g; exact hprev (g.2.2.2.1 hO1).1)], l3⟩
  · refine EW.region ?_
    first | refine WL.field rfl rfl rfl (f33_12 q1 _) ?_
    first | refine WL.load rfl rfl rfl (Sg.ld_hl bq1 k) ?_
    refine WL.call [s.hl.v] enter70 rfl rfl rfl (greets_any _ k.hl _) ?_
    rintro _ w2 ⟨rfl, e2⟩
    have bq2 := bq1.on e2
    have l2 := bt l1b e2
    refine ⟨_, rfl, ?_⟩
    first | refine WL.assign rfl rfl rfl ?_
    refine WL.done ?_
    refine EW.on ?_
    refine EW.seq ?_
    refine EW.seq ?_
    refine EW.region ?_
    refine WL.move rfl rfl rfl ?_
    refine WL.move rfl rfl rfl ?_
    refine WL.bin rfl rfl rfl rfl (int_sub (c := (s.own : Int) - (s.turns : Int)) (by rw [IntKind.wrap_i64]; omega) _ _ _) ?_
    refine WL.bin rfl rfl rfl rfl (int_gt_f (by omega) _ _ _) ?_
    refine WL.move rfl rfl rfl ?_
    refine WL.move rfl rfl rfl ?_
    refine WL.move rfl rfl rfl ?_
    refine WL.bin rfl rfl rfl rfl (int_sub (c := (s.turns : Int) - (s.own : Int)) (by rw [IntKind.wrap_i64]; omega) _ _ _) ?_
    refine WL.bin rfl rfl rfl rfl (int_gt_f (by omega) _ _ _) ?_
    refine WL.pick rfl rfl rfl rfl ?_
    refine WL.done ?_
    refine EW.on ?_
    refine EW.cond_f rfl ?_
    refine EW.skip ?_
    refine EW.on ?_
    refine EW.seq ?_
    refine EW.ordB [(0, 0, 0), (1, 0, 1), (3, 0, 0), (4, 0, 1), (2, 1, 1), (5, 1, 1), (6, 0, 0), (7, 0, 0)] (by kernel_rfl) rfl (by kernel_rfl) ?_
    simp only [opsZ, List.getD_cons_zero, List.getD_cons_succ]
    first | refine ZE.field rfl rfl rfl rfl sz0 (fun W => f33_4 q1 W) ?_
    first | refine ZE.load rfl rfl rfl rfl sz1 (fun W hW => Sg.ld_sk (bq2.on (sb_of hW)) k) ?_
    first | refine ZE.field rfl rfl rfl rfl sz0 (fun W => f33_5 q1 W) ?_
    first | refine ZE.load rfl rfl rfl rfl sz1 (fun W hW => Sg.ld_rk (bq2.on (sb_of hW)) k) ?_
    refine ZE.callB [kv s.sk] enter71 rfl rfl rfl (fun W h => .inr h) (fun W hW => zero_any s.sk k.sk W) ?_
    refine ZE.callB [kv s.rk] enter71 rfl rfl rfl (fun W h => .inr h) (fun W hW => zero_any s.rk k.rk W) ?_
    first | refine ZE.assign rfl rfl rfl rfl sz0 ?_
    first | refine ZE.assign rfl rfl rfl rfl sz0 ?_
    intro w3 e3
    have bq3 := bq2.on e3
    have l3 := bt l2 e3
    refine EW.on ?_
    refine EW.seq ?_
    refine EW.seq ?_
    refine EW.region ?_
    refine WL.move rfl rfl rfl ?_
    refine WL.bin rfl rfl rfl rfl (int_eq_f (by omega) _ _ _) ?_
    refine WL.move rfl rfl rfl ?_
    refine WL.skip _ rfl rfl rfl ?_
    refine WL.skip _ rfl rfl rfl ?_
    refine WL.skip _ rfl rfl rfl ?_
    refine WL.skip _ rfl rfl rfl ?_
    refine WL.skip _ rfl rfl rfl ?_
    refine WL.skip _ rfl rfl rfl ?_
    refine WL.skip _ rfl rfl rfl ?_
    refine WL.skip _ rfl rfl rfl ?_
    refine WL.skip _ rfl rfl rfl ?_
    refine WL.skip _ rfl rfl rfl ?_
    refine WL.skip _ rfl rfl rfl ?_
    refine WL.skip _ rfl rfl rfl ?_
    refine WL.skip _ rfl rfl rfl ?_
    refine WL.skip _ rfl rfl rfl ?_
    refine WL.skip _ rfl rfl rfl ?_
    refine WL.skip _ rfl rfl rfl ?_
    refine WL.skip _ rfl rfl rfl ?_
    refine WL.pick rfl rfl rfl rfl ?_
    refine WL.done ?_
    refine EW.on ?_
    refine EW.cond_f rfl ?_
    refine EW.skip ?_
    refine EW.on ?_
    refine EW.seq ?_
    refine EW.seq ?_
    refine EW.region ?_
    refine WL.move rfl rfl rfl ?_
    refine WL.bin rfl rfl rfl rfl (int_eq_f (by omega) _ _ _) ?_
    refine WL.move rfl rfl rfl ?_
    refine WL.skip _ rfl rfl rfl ?_
    refine WL.skip _ rfl rfl rfl ?_
    refine WL.skip _ rfl rfl rfl ?_
    refine WL.skip _ rfl rfl rfl ?_
    refine WL.skip _ rfl rfl rfl ?_
    refine WL.skip _ rfl rfl rfl ?_
    refine WL.skip _ rfl rfl rfl ?_
    refine WL.pick rfl rfl rfl rfl ?_
    refine WL.done ?_
    refine EW.on ?_
    refine EW.cond_f rfl ?_
    refine EW.skip ?_
    refine EW.on ?_
    refine EW.seq ?_
    refine EW.seq ?_
    refine EW.region ?_
    refine WL.move rfl rfl rfl ?_
    refine WL.bin rfl rfl rfl rfl (int_eq_f (by omega) _ _ _) ?_
    refine WL.move rfl rfl rfl ?_
    refine WL.skip _ rfl rfl rfl ?_
    refine WL.skip _ rfl rfl rfl ?_
    refine WL.skip _ rfl rfl rfl ?_
    refine WL.skip _ rfl rfl rfl ?_
    refine WL.skip _ rfl rfl rfl ?_
    refine WL.skip _ rfl rfl rfl ?_
    refine WL.skip _ rfl rfl rfl ?_
    refine WL.pick rfl rfl rfl rfl ?_
    refine WL.done ?_
    refine EW.on ?_
    refine EW.cond_f rfl ?_
    refine EW.skip ?_
    refine EW.on ?_
    refine EW.seq ?_
    refine EW.seq ?_
    refine EW.region ?_
    refine WL.move rfl rfl rfl ?_
    refine WL.bin rfl rfl rfl rfl (int_gt_t (by omega) _ _ _) ?_
    refine WL.move rfl rfl rfl ?_
    refine WL.move rfl rfl rfl ?_
    refine WL.move rfl rfl rfl ?_
    refine WL.bin rfl rfl rfl rfl (int_lt_t (by omega) _ _ _) ?_
    refine WL.move rfl rfl rfl ?_
    refine WL.skip _ rfl rfl rfl ?_
    refine WL.skip _ rfl rfl rfl ?_
    refine WL.skip _ rfl rfl rfl ?_
    refine WL.skip _ rfl rfl rfl ?_
    refine WL.skip _ rfl rfl rfl ?_
    refine WL.pick rfl rfl rfl rfl ?_
    refine WL.pick rfl rfl rfl rfl ?_
    refine WL.done ?_
    refine EW.on ?_
    refine EW.cond_t rfl ?_
    refine EW.seq ?_
    refine EW.region ?_
    first | refine WL.assign rfl rfl rfl ?_
    refine WL.done ?_
    refine EW.on ?_
    refine EW.ret ?_
    refine pr_then ?_
    exact EW.returns Try.results64 rfl ⟨by rw [decide_eq_false (fun g => by have g := (good_iff s).1 g; have := (g.2.2.2.2.1 (by omega)).1; omega)], l3⟩
  · refine EW.region ?_
    first | refine WL.field rfl rfl rfl (f33_12 q1 _) ?_
    first | refine WL.load rfl rfl rfl (Sg.ld_hl bq1 k) ?_
    refine WL.call [s.hl.v] enter70 rfl rfl rfl (greets_any _ k.hl _) ?_
    rintro _ w2 ⟨rfl, e2⟩
    have bq2 := bq1.on e2
    have l2 := bt l1b e2
    refine ⟨_, rfl, ?_⟩
    first | refine WL.assign rfl rfl rfl ?_
    refine WL.done ?_
    refine EW.on ?_
    refine EW.seq ?_
    refine EW.seq ?_
    refine EW.region ?_
    refine WL.move rfl rfl rfl ?_
    refine WL.move rfl rfl rfl ?_
    refine WL.bin rfl rfl rfl rfl (int_sub (c := (s.own : Int) - (s.turns : Int)) (by rw [IntKind.wrap_i64]; omega) _ _ _) ?_
    refine WL.bin rfl rfl rfl rfl (int_gt_f (by omega) _ _ _) ?_
    refine WL.move rfl rfl rfl ?_
    refine WL.move rfl rfl rfl ?_
    refine WL.move rfl rfl rfl ?_
    refine WL.bin rfl rfl rfl rfl (int_sub (c := (s.turns : Int) - (s.own : Int)) (by rw [IntKind.wrap_i64]; omega) _ _ _) ?_
    refine WL.bin rfl rfl rfl rfl (int_gt_f (by omega) _ _ _) ?_
    refine WL.pick rfl rfl rfl rfl ?_
    refine WL.done ?_
    refine EW.on ?_
    refine EW.cond_f rfl ?_
    refine EW.skip ?_
    refine EW.on ?_
    refine EW.seq ?_
    refine EW.ordB [(0, 0, 0), (1, 0, 1), (3, 0, 0), (4, 0, 1), (2, 1, 1), (5, 1, 1), (6, 0, 0), (7, 0, 0)] (by kernel_rfl) rfl (by kernel_rfl) ?_
    simp only [opsZ, List.getD_cons_zero, List.getD_cons_succ]
    first | refine ZE.field rfl rfl rfl rfl sz0 (fun W => f33_4 q1 W) ?_
    first | refine ZE.load rfl rfl rfl rfl sz1 (fun W hW => Sg.ld_sk (bq2.on (sb_of hW)) k) ?_
    first | refine ZE.field rfl rfl rfl rfl sz0 (fun W => f33_5 q1 W) ?_
    first | refine ZE.load rfl rfl rfl rfl sz1 (fun W hW => Sg.ld_rk (bq2.on (sb_of hW)) k) ?_
    refine ZE.callB [kv s.sk] enter71 rfl rfl rfl (fun W h => .inr h) (fun W hW => zero_any s.sk k.sk W) ?_
    refine ZE.callB [kv s.rk] enter71 rfl rfl rfl (fun W h => .inr h) (fun W hW => zero_any s.rk k.rk W) ?_
    first | refine ZE.assign rfl rfl rfl rfl sz0 ?_
    first | refine ZE.assign rfl rfl rfl rfl sz0 ?_
    intro w3 e3
    have bq3 := bq2.on e3
    have l3 := bt l2 e3
    refine EW.on ?_
    refine EW.seq ?_
    refine EW.seq ?_
    refine EW.region ?_
    refine WL.move rfl rfl rfl ?_
    refine WL.bin rfl rfl rfl rfl (int_eq_f (by omega) _ _ _) ?_
    refine WL.move rfl rfl rfl ?_
    refine WL.skip _ rfl rfl rfl ?_
    refine WL.skip _ rfl rfl rfl ?_
    refine WL.skip _ rfl rfl rfl ?_
    refine WL.skip _ rfl rfl rfl ?_
    refine WL.skip _ rfl rfl rfl ?_
    refine WL.skip _ rfl rfl rfl ?_
    refine WL.skip _ rfl rfl rfl ?_
    refine WL.skip _ rfl rfl rfl ?_
    refine WL.skip _ rfl rfl rfl ?_
    refine WL.skip _ rfl rfl rfl ?_
    refine WL.skip _ rfl rfl rfl ?_
    refine WL.skip _ rfl rfl rfl ?_
    refine WL.skip _ rfl rfl rfl ?_
    refine WL.skip _ rfl rfl rfl ?_
    refine WL.skip _ rfl rfl rfl ?_
    refine WL.skip _ rfl rfl rfl ?_
    refine WL.skip _ rfl rfl rfl ?_
    refine WL.pick rfl rfl rfl rfl ?_
    refine WL.done ?_
    refine EW.on ?_
    refine EW.cond_f rfl ?_
    refine EW.skip ?_
    refine EW.on ?_
    refine EW.seq ?_
    refine EW.seq ?_
    refine EW.region ?_
    refine WL.move rfl rfl rfl ?_
    refine WL.bin rfl rfl rfl rfl (int_eq_f (by omega) _ _ _) ?_
    refine WL.move rfl rfl rfl ?_
    refine WL.skip _ rfl rfl rfl ?_
    refine WL.skip _ rfl rfl rfl ?_
    refine WL.skip _ rfl rfl rfl ?_
    refine WL.skip _ rfl rfl rfl ?_
    refine WL.skip _ rfl rfl rfl ?_
    refine WL.skip _ rfl rfl rfl ?_
    refine WL.skip _ rfl rfl rfl ?_
    refine WL.pick rfl rfl rfl rfl ?_
    refine WL.done ?_
    refine EW.on ?_
    refine EW.cond_f rfl ?_
    refine EW.skip ?_
    refine EW.on ?_
    refine EW.seq ?_
    refine EW.seq ?_
    refine EW.region ?_
    refine WL.move rfl rfl rfl ?_
    refine WL.bin rfl rfl rfl rfl (int_eq_f (by omega) _ _ _) ?_
    refine WL.move rfl rfl rfl ?_
    refine WL.skip _ rfl rfl rfl ?_
    refine WL.skip _ rfl rfl rfl ?_
    refine WL.skip _ rfl rfl rfl ?_
    refine WL.skip _ rfl rfl rfl ?_
    refine WL.skip _ rfl rfl rfl ?_
    refine WL.skip _ rfl rfl rfl ?_
    refine WL.skip _ rfl rfl rfl ?_
    refine WL.pick rfl rfl rfl rfl ?_
    refine WL.done ?_
    refine EW.on ?_
    refine EW.cond_f rfl ?_
    refine EW.skip ?_
    refine EW.on ?_
    refine EW.seq ?_
    refine EW.seq ?_
    refine EW.region ?_
    refine WL.move rfl rfl rfl ?_
    refine WL.bin rfl rfl rfl rfl (int_gt_t (by omega) _ _ _) ?_
    refine WL.move rfl rfl rfl ?_
    refine WL.move rfl rfl rfl ?_
    refine WL.move rfl rfl rfl ?_
    refine WL.bin rfl rfl rfl rfl (int_lt_f (by omega) _ _ _) ?_
    refine WL.move rfl rfl rfl ?_
    refine WL.move rfl rfl rfl ?_
    refine WL.move rfl rfl rfl ?_
    refine WL.bin rfl rfl rfl rfl (int_sub (c := (s.ser : Int) - (s.sent : Int)) (by rw [IntKind.wrap_i64]; omega) _ _ _) ?_
    refine WL.move rfl rfl rfl ?_
    refine WL.bin rfl rfl rfl rfl (int_lt_t (by omega) _ _ _) ?_
    refine WL.pick rfl rfl rfl rfl ?_
    refine WL.pick rfl rfl rfl rfl ?_
    refine WL.done ?_
    refine EW.on ?_
    refine EW.cond_t rfl ?_
    refine EW.seq ?_
    refine EW.region ?_
    first | refine WL.assign rfl rfl rfl ?_
    refine WL.done ?_
    refine EW.on ?_
    refine EW.ret ?_
    refine pr_then ?_
    exact EW.returns Try.results64 rfl ⟨by rw [decide_eq_false (fun g => by have g := (good_iff s).1 g; have := (g.2.2.2.2.1 (by omega)).2; omega)], l3⟩
  · refine EW.region ?_
    first | refine WL.field rfl rfl rfl (f33_12 q1 _) ?_
    first | refine WL.load rfl rfl rfl (Sg.ld_hl bq1 k) ?_
    refine WL.call [s.hl.v] enter70 rfl rfl rfl (greets_any _ k.hl _) ?_
    rintro _ w2 ⟨rfl, e2⟩
    have bq2 := bq1.on e2
    have l2 := bt l1b e2
    rw [decide_eq_false (fun h => h hhz)]
    refine ⟨_, rfl, ?_⟩
    first | refine WL.assign rfl rfl rfl ?_
    refine WL.done ?_
    refine EW.on ?_
    refine EW.seq ?_
    refine EW.seq ?_
    refine EW.region ?_
    refine WL.move rfl rfl rfl ?_
    refine WL.move rfl rfl rfl ?_
    refine WL.bin rfl rfl rfl rfl (int_sub (c := (s.own : Int) - (s.turns : Int)) (by rw [IntKind.wrap_i64]; omega) _ _ _) ?_
    refine WL.bin rfl rfl rfl rfl (int_gt_f (by omega) _ _ _) ?_
    refine WL.move rfl rfl rfl ?_
    refine WL.move rfl rfl rfl ?_
    refine WL.move rfl rfl rfl ?_
    refine WL.bin rfl rfl rfl rfl (int_sub (c := (s.turns : Int) - (s.own : Int)) (by rw [IntKind.wrap_i64]; omega) _ _ _) ?_
    refine WL.bin rfl rfl rfl rfl (int_gt_f (by omega) _ _ _) ?_
    refine WL.pick rfl rfl rfl rfl ?_
    refine WL.done ?_
    refine EW.on ?_
    refine EW.cond_f rfl ?_
    refine EW.skip ?_
    refine EW.on ?_
    refine EW.seq ?_
    refine EW.ordB [(0, 0, 0), (1, 0, 1), (3, 0, 0), (4, 0, 1), (2, 1, 1), (5, 1, 1), (6, 0, 0), (7, 0, 0)] (by kernel_rfl) rfl (by kernel_rfl) ?_
    simp only [opsZ, List.getD_cons_zero, List.getD_cons_succ]
    first | refine ZE.field rfl rfl rfl rfl sz0 (fun W => f33_4 q1 W) ?_
    first | refine ZE.load rfl rfl rfl rfl sz1 (fun W hW => Sg.ld_sk (bq2.on (sb_of hW)) k) ?_
    first | refine ZE.field rfl rfl rfl rfl sz0 (fun W => f33_5 q1 W) ?_
    first | refine ZE.load rfl rfl rfl rfl sz1 (fun W hW => Sg.ld_rk (bq2.on (sb_of hW)) k) ?_
    refine ZE.callB [kv s.sk] enter71 rfl rfl rfl (fun W h => .inr h) (fun W hW => zero_any s.sk k.sk W) ?_
    refine ZE.callB [kv s.rk] enter71 rfl rfl rfl (fun W h => .inr h) (fun W hW => zero_any s.rk k.rk W) ?_
    first | refine ZE.assign rfl rfl rfl rfl sz0 ?_
    first | refine ZE.assign rfl rfl rfl rfl sz0 ?_
    intro w3 e3
    have bq3 := bq2.on e3
    have l3 := bt l2 e3
    refine EW.on ?_
    refine EW.seq ?_
    refine EW.seq ?_
    refine EW.region ?_
    refine WL.move rfl rfl rfl ?_
    refine WL.bin rfl rfl rfl rfl (int_eq_f (by omega) _ _ _) ?_
    refine WL.move rfl rfl rfl ?_
    refine WL.skip _ rfl rfl rfl ?_
    refine WL.skip _ rfl rfl rfl ?_
    refine WL.skip _ rfl rfl rfl ?_
    refine WL.skip _ rfl rfl rfl ?_
    refine WL.skip _ rfl rfl rfl ?_
    refine WL.skip _ rfl rfl rfl ?_
    refine WL.skip _ rfl rfl rfl ?_
    refine WL.skip _ rfl rfl rfl ?_
    refine WL.skip _ rfl rfl rfl ?_
    refine WL.skip _ rfl rfl rfl ?_
    refine WL.skip _ rfl rfl rfl ?_
    refine WL.skip _ rfl rfl rfl ?_
    refine WL.skip _ rfl rfl rfl ?_
    refine WL.skip _ rfl rfl rfl ?_
    refine WL.skip _ rfl rfl rfl ?_
    refine WL.skip _ rfl rfl rfl ?_
    refine WL.skip _ rfl rfl rfl ?_
    refine WL.pick rfl rfl rfl rfl ?_
    refine WL.done ?_
    refine EW.on ?_
    refine EW.cond_f rfl ?_
    refine EW.skip ?_
    refine EW.on ?_
    refine EW.seq ?_
    refine EW.seq ?_
    refine EW.region ?_
    refine WL.move rfl rfl rfl ?_
    refine WL.bin rfl rfl rfl rfl (int_eq_f (by omega) _ _ _) ?_
    refine WL.move rfl rfl rfl ?_
    refine WL.skip _ rfl rfl rfl ?_
    refine WL.skip _ rfl rfl rfl ?_
    refine WL.skip _ rfl rfl rfl ?_
    refine WL.skip _ rfl rfl rfl ?_
    refine WL.skip _ rfl rfl rfl ?_
    refine WL.skip _ rfl rfl rfl ?_
    refine WL.skip _ rfl rfl rfl ?_
    refine WL.pick rfl rfl rfl rfl ?_
    refine WL.done ?_
    refine EW.on ?_
    refine EW.cond_f rfl ?_
    refine EW.skip ?_
    refine EW.on ?_
    refine EW.seq ?_
    refine EW.seq ?_
    refine EW.region ?_
    refine WL.move rfl rfl rfl ?_
    refine WL.bin rfl rfl rfl rfl (int_eq_f (by omega) _ _ _) ?_
    refine WL.move rfl rfl rfl ?_
    refine WL.skip _ rfl rfl rfl ?_
    refine WL.skip _ rfl rfl rfl ?_
    refine WL.skip _ rfl rfl rfl ?_
    refine WL.skip _ rfl rfl rfl ?_
    refine WL.skip _ rfl rfl rfl ?_
    refine WL.skip _ rfl rfl rfl ?_
    refine WL.skip _ rfl rfl rfl ?_
    refine WL.pick rfl rfl rfl rfl ?_
    refine WL.done ?_
    refine EW.on ?_
    refine EW.cond_f rfl ?_
    refine EW.skip ?_
    refine EW.on ?_
    refine EW.seq ?_
    refine EW.seq ?_
    refine EW.region ?_
    refine WL.move rfl rfl rfl ?_
    refine WL.bin rfl rfl rfl rfl (int_gt_t (by omega) _ _ _) ?_
    refine WL.move rfl rfl rfl ?_
    refine WL.move rfl rfl rfl ?_
    refine WL.move rfl rfl rfl ?_
    refine WL.bin rfl rfl rfl rfl (int_lt_f (by omega) _ _ _) ?_
    refine WL.move rfl rfl rfl ?_
    refine WL.move rfl rfl rfl ?_
    refine WL.move rfl rfl rfl ?_
    refine WL.bin rfl rfl rfl rfl (int_sub (c := (s.ser : Int) - (s.sent : Int)) (by rw [IntKind.wrap_i64]; omega) _ _ _) ?_
    refine WL.move rfl rfl rfl ?_
    refine WL.bin rfl rfl rfl rfl (int_lt_f (by omega) _ _ _) ?_
    refine WL.pick rfl rfl rfl rfl ?_
    refine WL.pick rfl rfl rfl rfl ?_
    refine WL.done ?_
    refine EW.on ?_
    refine EW.cond_f rfl ?_
    refine EW.skip ?_
    refine EW.on ?_
    refine EW.seq ?_
    refine EW.seq ?_
    refine EW.region ?_
    first | refine WL.move rfl rfl rfl ?_
    refine WL.un rfl rfl rfl (not_t _ _) ?_
    refine WL.done ?_
    refine EW.on ?_
    refine EW.cond_t rfl ?_
    refine EW.seq ?_
    refine EW.region ?_
    first | refine WL.assign rfl rfl rfl ?_
    refine WL.done ?_
    refine EW.on ?_
    refine EW.ret ?_
    refine pr_then ?_
    exact EW.returns Try.results64 rfl ⟨by rw [decide_eq_true ((good_iff s).2 ⟨⟨by omega, by omega⟩, fun e => absurd e hO, fun e => absurd e hTn, fun e => by omega, fun e => ⟨by omega, by omega⟩, .inl hhz⟩)], l3⟩
  · refine EW.region ?_
    first | refine WL.field rfl rfl rfl (f33_12 q1 _) ?_
    first | refine WL.load rfl rfl rfl (Sg.ld_hl bq1 k) ?_
    refine WL.call [s.hl.v] enter70 rfl rfl rfl (greets_any _ k.hl _) ?_
    rintro _ w2 ⟨rfl, e2⟩
    have bq2 := bq1.on e2
    have l2 := bt l1b e2
    rw [decide_eq_true hhz]
    refine ⟨_, rfl, ?_⟩
    first | refine WL.assign rfl rfl rfl ?_
    refine WL.done ?_
    refine EW.on ?_
    refine EW.seq ?_
    refine EW.seq ?_
    refine EW.region ?_
    refine WL.move rfl rfl rfl ?_
    refine WL.move rfl rfl rfl ?_
    refine WL.bin rfl rfl rfl rfl (int_sub (c := (s.own : Int) - (s.turns : Int)) (by rw [IntKind.wrap_i64]; omega) _ _ _) ?_
    refine WL.bin rfl rfl rfl rfl (int_gt_f (by omega) _ _ _) ?_
    refine WL.move rfl rfl rfl ?_
    refine WL.move rfl rfl rfl ?_
    refine WL.move rfl rfl rfl ?_
    refine WL.bin rfl rfl rfl rfl (int_sub (c := (s.turns : Int) - (s.own : Int)) (by rw [IntKind.wrap_i64]; omega) _ _ _) ?_
    refine WL.bin rfl rfl rfl rfl (int_gt_f (by omega) _ _ _) ?_
    refine WL.pick rfl rfl rfl rfl ?_
    refine WL.done ?_
    refine EW.on ?_
    refine EW.cond_f rfl ?_
    refine EW.skip ?_
    refine EW.on ?_
    refine EW.seq ?_
    refine EW.ordB [(0, 0, 0), (1, 0, 1), (3, 0, 0), (4, 0, 1), (2, 1, 1), (5, 1, 1), (6, 0, 0), (7, 0, 0)] (by kernel_rfl) rfl (by kernel_rfl) ?_
    simp only [opsZ, List.getD_cons_zero, List.getD_cons_succ]
    first | refine ZE.field rfl rfl rfl rfl sz0 (fun W => f33_4 q1 W) ?_
    first | refine ZE.load rfl rfl rfl rfl sz1 (fun W hW => Sg.ld_sk (bq2.on (sb_of hW)) k) ?_
    first | refine ZE.field rfl rfl rfl rfl sz0 (fun W => f33_5 q1 W) ?_
    first | refine ZE.load rfl rfl rfl rfl sz1 (fun W hW => Sg.ld_rk (bq2.on (sb_of hW)) k) ?_
    refine ZE.callB [kv s.sk] enter71 rfl rfl rfl (fun W h => .inr h) (fun W hW => zero_any s.sk k.sk W) ?_
    refine ZE.callB [kv s.rk] enter71 rfl rfl rfl (fun W h => .inr h) (fun W hW => zero_any s.rk k.rk W) ?_
    first | refine ZE.assign rfl rfl rfl rfl sz0 ?_
    first | refine ZE.assign rfl rfl rfl rfl sz0 ?_
    intro w3 e3
    have bq3 := bq2.on e3
    have l3 := bt l2 e3
    refine EW.on ?_
    refine EW.seq ?_
    refine EW.seq ?_
    refine EW.region ?_
    refine WL.move rfl rfl rfl ?_
    refine WL.bin rfl rfl rfl rfl (int_eq_f (by omega) _ _ _) ?_
    refine WL.move rfl rfl rfl ?_
    refine WL.skip _ rfl rfl rfl ?_
    refine WL.skip _ rfl rfl rfl ?_
    refine WL.skip _ rfl rfl rfl ?_
    refine WL.skip _ rfl rfl rfl ?_
    refine WL.skip _ rfl rfl rfl ?_
    refine WL.skip _ rfl rfl rfl ?_
    refine WL.skip _ rfl rfl rfl ?_
    refine WL.skip _ rfl rfl rfl ?_
    refine WL.skip _ rfl rfl rfl ?_
    refine WL.skip _ rfl rfl rfl ?_
    refine WL.skip _ rfl rfl rfl ?_
    refine WL.skip _ rfl rfl rfl ?_
    refine WL.skip _ rfl rfl rfl ?_
    refine WL.skip _ rfl rfl rfl ?_
    refine WL.skip _ rfl rfl rfl ?_
    refine WL.skip _ rfl rfl rfl ?_
    refine WL.skip _ rfl rfl rfl ?_
    refine WL.pick rfl rfl rfl rfl ?_
    refine WL.done ?_
    refine EW.on ?_
    refine EW.cond_f rfl ?_
    refine EW.skip ?_
    refine EW.on ?_
    refine EW.seq ?_
    refine EW.seq ?_
    refine EW.region ?_
    refine WL.move rfl rfl rfl ?_
    refine WL.bin rfl rfl rfl rfl (int_eq_f (by omega) _ _ _) ?_
    refine WL.move rfl rfl rfl ?_
    refine WL.skip _ rfl rfl rfl ?_
    refine WL.skip _ rfl rfl rfl ?_
    refine WL.skip _ rfl rfl rfl ?_
    refine WL.skip _ rfl rfl rfl ?_
    refine WL.skip _ rfl rfl rfl ?_
    refine WL.skip _ rfl rfl rfl ?_
    refine WL.skip _ rfl rfl rfl ?_
    refine WL.pick rfl rfl rfl rfl ?_
    refine WL.done ?_
    refine EW.on ?_
    refine EW.cond_f rfl ?_
    refine EW.skip ?_
    refine EW.on ?_
    refine EW.seq ?_
    refine EW.seq ?_
    refine EW.region ?_
    refine WL.move rfl rfl rfl ?_
    refine WL.bin rfl rfl rfl rfl (int_eq_f (by omega) _ _ _) ?_
    refine WL.move rfl rfl rfl ?_
    refine WL.skip _ rfl rfl rfl ?_
    refine WL.skip _ rfl rfl rfl ?_
    refine WL.skip _ rfl rfl rfl ?_
    refine WL.skip _ rfl rfl rfl ?_
    refine WL.skip _ rfl rfl rfl ?_
    refine WL.skip _ rfl rfl rfl ?_
    refine WL.skip _ rfl rfl rfl ?_
    refine WL.pick rfl rfl rfl rfl ?_
    refine WL.done ?_
    refine EW.on ?_
    refine EW.cond_f rfl ?_
    refine EW.skip ?_
    refine EW.on ?_
    refine EW.seq ?_
    refine EW.seq ?_
    refine EW.region ?_
    refine WL.move rfl rfl rfl ?_
    refine WL.bin rfl rfl rfl rfl (int_gt_t (by omega) _ _ _) ?_
    refine WL.move rfl rfl rfl ?_
    refine WL.move rfl rfl rfl ?_
    refine WL.move rfl rfl rfl ?_
    refine WL.bin rfl rfl rfl rfl (int_lt_f (by omega) _ _ _) ?_
    refine WL.move rfl rfl rfl ?_
    refine WL.move rfl rfl rfl ?_
    refine WL.move rfl rfl rfl ?_
    refine WL.bin rfl rfl rfl rfl (int_sub (c := (s.ser : Int) - (s.sent : Int)) (by rw [IntKind.wrap_i64]; omega) _ _ _) ?_
    refine WL.move rfl rfl rfl ?_
    refine WL.bin rfl rfl rfl rfl (int_lt_f (by omega) _ _ _) ?_
    refine WL.pick rfl rfl rfl rfl ?_
    refine WL.pick rfl rfl rfl rfl ?_
    refine WL.done ?_
    refine EW.on ?_
    refine EW.cond_f rfl ?_
    refine EW.skip ?_
    refine EW.on ?_
    refine EW.seq ?_
    refine EW.seq ?_
    refine EW.region ?_
    first | refine WL.move rfl rfl rfl ?_
    refine WL.un rfl rfl rfl (not_t _ _) ?_
    refine WL.done ?_
    refine EW.on ?_
    refine EW.cond_f rfl ?_
    refine EW.skip ?_
    refine EW.on ?_
    refine EW.seq ?_
    refine EW.region ?_
    first | refine WL.field rfl rfl rfl (f33_12 q1 _) ?_
    first | refine WL.field rfl rfl rfl (f30_0 q1 214 _) ?_
    first | refine WL.load rfl rfl rfl (Sg.ld_hid bq3 k) ?_
    refine WL.call [kv s.hl.id] enter71 rfl rfl rfl (zero_any _ k.hl.i _) ?_
    rintro _ w4 ⟨rfl, e4⟩
    rw [decide_eq_true hidz]
    have bq4 := bq3.on e4
    have l4 := bt l3 e4
    refine ⟨_, rfl, ?_⟩
    first | refine WL.assign rfl rfl rfl ?_
    refine WL.done ?_
    refine EW.on ?_
    refine EW.seq ?_
    refine EW.seq ?_
    refine EW.region ?_
    refine WL.move rfl rfl rfl ?_
    refine WL.move rfl rfl rfl ?_
    refine WL.skip _ rfl rfl rfl ?_
    refine WL.skip _ rfl rfl rfl ?_
    refine WL.pick rfl rfl rfl rfl ?_
    refine WL.done ?_
    refine EW.on ?_
    refine EW.cond_t rfl ?_
    refine EW.seq ?_
    refine EW.region ?_
    first | refine WL.assign rfl rfl rfl ?_
    refine WL.done ?_
    refine EW.on ?_
    refine EW.ret ?_
    refine pr_then ?_
    exact EW.returns Try.results64 rfl ⟨by rw [decide_eq_false (fun g => by have g := (good_iff s).1 g; rcases g.2.2.2.2.2 with e | e; exact hhz e; exact e.1 hidz)], l4⟩
  · refine EW.region ?_
    first | refine WL.field rfl rfl rfl (f33_12 q1 _) ?_
    first | refine WL.load rfl rfl rfl (Sg.ld_hl bq1 k) ?_
    refine WL.call [s.hl.v] enter70 rfl rfl rfl (greets_any _ k.hl _) ?_
    rintro _ w2 ⟨rfl, e2⟩
    have bq2 := bq1.on e2
    have l2 := bt l1b e2
    rw [decide_eq_true hhz]
    refine ⟨_, rfl, ?_⟩
    first | refine WL.assign rfl rfl rfl ?_
    refine WL.done ?_
    refine EW.on ?_
    refine EW.seq ?_
    refine EW.seq ?_
    refine EW.region ?_
    refine WL.move rfl rfl rfl ?_
    refine WL.move rfl rfl rfl ?_
    refine WL.bin rfl rfl rfl rfl (int_sub (c := (s.own : Int) - (s.turns : Int)) (by rw [IntKind.wrap_i64]; omega) _ _ _) ?_
    refine WL.bin rfl rfl rfl rfl (int_gt_f (by omega) _ _ _) ?_
    refine WL.move rfl rfl rfl ?_
    refine WL.move rfl rfl rfl ?_
    refine WL.move rfl rfl rfl ?_
    refine WL.bin rfl rfl rfl rfl (int_sub (c := (s.turns : Int) - (s.own : Int)) (by rw [IntKind.wrap_i64]; omega) _ _ _) ?_
    refine WL.bin rfl rfl rfl rfl (int_gt_f (by omega) _ _ _) ?_
    refine WL.pick rfl rfl rfl rfl ?_
    refine WL.done ?_
    refine EW.on ?_
    refine EW.cond_f rfl ?_
    refine EW.skip ?_
    refine EW.on ?_
    refine EW.seq ?_
    refine EW.ordB [(0, 0, 0), (1, 0, 1), (3, 0, 0), (4, 0, 1), (2, 1, 1), (5, 1, 1), (6, 0, 0), (7, 0, 0)] (by kernel_rfl) rfl (by kernel_rfl) ?_
    simp only [opsZ, List.getD_cons_zero, List.getD_cons_succ]
    first | refine ZE.field rfl rfl rfl rfl sz0 (fun W => f33_4 q1 W) ?_
    first | refine ZE.load rfl rfl rfl rfl sz1 (fun W hW => Sg.ld_sk (bq2.on (sb_of hW)) k) ?_
    first | refine ZE.field rfl rfl rfl rfl sz0 (fun W => f33_5 q1 W) ?_
    first | refine ZE.load rfl rfl rfl rfl sz1 (fun W hW => Sg.ld_rk (bq2.on (sb_of hW)) k) ?_
    refine ZE.callB [kv s.sk] enter71 rfl rfl rfl (fun W h => .inr h) (fun W hW => zero_any s.sk k.sk W) ?_
    refine ZE.callB [kv s.rk] enter71 rfl rfl rfl (fun W h => .inr h) (fun W hW => zero_any s.rk k.rk W) ?_
    first | refine ZE.assign rfl rfl rfl rfl sz0 ?_
    first | refine ZE.assign rfl rfl rfl rfl sz0 ?_
    intro w3 e3
    have bq3 := bq2.on e3
    have l3 := bt l2 e3
    refine EW.on ?_
    refine EW.seq ?_
    refine EW.seq ?_
    refine EW.region ?_
    refine WL.move rfl rfl rfl ?_
    refine WL.bin rfl rfl rfl rfl (int_eq_f (by omega) _ _ _) ?_
    refine WL.move rfl rfl rfl ?_
    refine WL.skip _ rfl rfl rfl ?_
    refine WL.skip _ rfl rfl rfl ?_
    refine WL.skip _ rfl rfl rfl ?_
    refine WL.skip _ rfl rfl rfl ?_
    refine WL.skip _ rfl rfl rfl ?_
    refine WL.skip _ rfl rfl rfl ?_
    refine WL.skip _ rfl rfl rfl ?_
    refine WL.skip _ rfl rfl rfl ?_
    refine WL.skip _ rfl rfl rfl ?_
    refine WL.skip _ rfl rfl rfl ?_
    refine WL.skip _ rfl rfl rfl ?_
    refine WL.skip _ rfl rfl rfl ?_
    refine WL.skip _ rfl rfl rfl ?_
    refine WL.skip _ rfl rfl rfl ?_
    refine WL.skip _ rfl rfl rfl ?_
    refine WL.skip _ rfl rfl rfl ?_
    refine WL.skip _ rfl rfl rfl ?_
    refine WL.pick rfl rfl rfl rfl ?_
    refine WL.done ?_
    refine EW.on ?_
    refine EW.cond_f rfl ?_
    refine EW.skip ?_
    refine EW.on ?_
    refine EW.seq ?_
    refine EW.seq ?_
    refine EW.region ?_
    refine WL.move rfl rfl rfl ?_
    refine WL.bin rfl rfl rfl rfl (int_eq_f (by omega) _ _ _) ?_
    refine WL.move rfl rfl rfl ?_
    refine WL.skip _ rfl rfl rfl ?_
    refine WL.skip _ rfl rfl rfl ?_
    refine WL.skip _ rfl rfl rfl ?_
    refine WL.skip _ rfl rfl rfl ?_
    refine WL.skip _ rfl rfl rfl ?_
    refine WL.skip _ rfl rfl rfl ?_
    refine WL.skip _ rfl rfl rfl ?_
    refine WL.pick rfl rfl rfl rfl ?_
    refine WL.done ?_
    refine EW.on ?_
    refine EW.cond_f rfl ?_
    refine EW.skip ?_
    refine EW.on ?_
    refine EW.seq ?_
    refine EW.seq ?_
    refine EW.region ?_
    refine WL.move rfl rfl rfl ?_
    refine WL.bin rfl rfl rfl rfl (int_eq_f (by omega) _ _ _) ?_
    refine WL.move rfl rfl rfl ?_
    refine WL.skip _ rfl rfl rfl ?_
    refine WL.skip _ rfl rfl rfl ?_
    refine WL.skip _ rfl rfl rfl ?_
    refine WL.skip _ rfl rfl rfl ?_
    refine WL.skip _ rfl rfl rfl ?_
    refine WL.skip _ rfl rfl rfl ?_
    refine WL.skip _ rfl rfl rfl ?_
    refine WL.pick rfl rfl rfl rfl ?_
    refine WL.done ?_
    refine EW.on ?_
    refine EW.cond_f rfl ?_
    refine EW.skip ?_
    refine EW.on ?_
    refine EW.seq ?_
    refine EW.seq ?_
    refine EW.region ?_
    refine WL.move rfl rfl rfl ?_
    refine WL.bin rfl rfl rfl rfl (int_gt_t (by omega) _ _ _) ?_
    refine WL.move rfl rfl rfl ?_
    refine WL.move rfl rfl rfl ?_
    refine WL.move rfl rfl rfl ?_
    refine WL.bin rfl rfl rfl rfl (int_lt_f (by omega) _ _ _) ?_
    refine WL.move rfl rfl rfl ?_
    refine WL.move rfl rfl rfl ?_
    refine WL.move rfl rfl rfl ?_
    refine WL.bin rfl rfl rfl rfl (int_sub (c := (s.ser : Int) - (s.sent : Int)) (by rw [IntKind.wrap_i64]; omega) _ _ _) ?_
    refine WL.move rfl rfl rfl ?_
    refine WL.bin rfl rfl rfl rfl (int_lt_f (by omega) _ _ _) ?_
    refine WL.pick rfl rfl rfl rfl ?_
    refine WL.pick rfl rfl rfl rfl ?_
    refine WL.done ?_
    refine EW.on ?_
    refine EW.cond_f rfl ?_
    refine EW.skip ?_
    refine EW.on ?_
    refine EW.seq ?_
    refine EW.seq ?_
    refine EW.region ?_
    first | refine WL.move rfl rfl rfl ?_
    refine WL.un rfl rfl rfl (not_t _ _) ?_
    refine WL.done ?_
    refine EW.on ?_
    refine EW.cond_f rfl ?_
    refine EW.skip ?_
    refine EW.on ?_
    refine EW.seq ?_
    refine EW.region ?_
    first | refine WL.field rfl rfl rfl (f33_12 q1 _) ?_
    first | refine WL.field rfl rfl rfl (f30_0 q1 214 _) ?_
    first | refine WL.load rfl rfl rfl (Sg.ld_hid bq3 k) ?_
    refine WL.call [kv s.hl.id] enter71 rfl rfl rfl (zero_any _ k.hl.i _) ?_
    rintro _ w4 ⟨rfl, e4⟩
    rw [decide_eq_false hidz]
    have bq4 := bq3.on e4
    have l4 := bt l3 e4
    refine ⟨_, rfl, ?_⟩
    first | refine WL.assign rfl rfl rfl ?_
    refine WL.done ?_
    refine EW.on ?_
    refine EW.seq ?_
    refine EW.seq ?_
    refine EW.region ?_
    refine WL.move rfl rfl rfl ?_
    refine WL.move rfl rfl rfl ?_
    refine WL.move rfl rfl rfl ?_
    refine WL.bin rfl rfl rfl rfl (int_ne_t (by omega) _ _ _) ?_
    refine WL.pick rfl rfl rfl rfl ?_
    refine WL.done ?_
    refine EW.on ?_
    refine EW.cond_t rfl ?_
    refine EW.seq ?_
    refine EW.region ?_
    first | refine WL.assign rfl rfl rfl ?_
    refine WL.done ?_
    refine EW.on ?_
    refine EW.ret ?_
    refine pr_then ?_
    exact EW.returns Try.results64 rfl ⟨by rw [decide_eq_false (fun g => by have g := (good_iff s).1 g; rcases g.2.2.2.2.2 with e | e; exact hhz e; exact hTn e.2.1)], l4⟩
end Go.Proofs.Ytacimelcmkhhlaa
