import Derived.Test.YtacimelcmkhhlaaJc
set_option linter.unusedVariables false
set_option linter.unusedSimpArgs false
namespace Go.Proofs.Ytacimelcmkhhlaa
open Go.RowKit

def serD (s : Sg) : Prop := s.sent ≤ s.ser ∧ (s.own = 1 → s.ser = s.sent) ∧ (¬ s.own = 1 → s.prev ≤ s.ser - s.sent)
instance (s : Sg) : Decidable (serD s) := by unfold serD; infer_instance
set_option maxRecDepth 100000 in
set_option maxHeartbeats 4000000 in
theorem rightSerial_any (s : Sg) (k : s.ok) (w : World) : Calls Try.prog 22 #[s.v] w fun e w' => e = .returned (.bool (decide (serD s))) ∧ Below w.heap.size w w' := by
  obtain ⟨w1, q1, r1, b1, e1, hq1⟩ := box_any 33 s.cs w
  refine calls_of_args [s.v] Try.func22 rfl 23 Try.ntmps22 (by show 1 ≤ 23; decide) ?_
  refine EW.seq ?_
  refine EW.region ?_
  refine WL.box rfl rfl rfl r1 ?_
  first | refine WL.assign rfl rfl rfl ?_
  refine WL.done ?_
  refine EW.on ?_
  refine EW.seq ?_
  refine EW.seq ?_
  have hc : s.ser < s.sent ∨ (s.sent ≤ s.ser ∧ s.own = 1) ∨ (s.sent ≤ s.ser ∧ ¬ s.own = 1) := by omega
  rcases hc with a1 | ⟨a1, a2⟩ | ⟨a1, a2⟩
  · refine EW.region ?_
    first | refine WL.field rfl rfl rfl (f33_11 q1 _) ?_
    first | refine WL.load rfl rfl rfl (Sg.ld_ser b1 k) ?_
    first | refine WL.field rfl rfl rfl (f33_8 q1 _) ?_
    first | refine WL.load rfl rfl rfl (Sg.ld_sent b1 k) ?_
    first | refine WL.bin rfl rfl rfl rfl (u_lt_t (by first | omega | (dsimp only; omega)) _ _ _) ?_ | refine WL.bin rfl rfl rfl rfl (u_lt_f (by first | omega | (dsimp only; omega)) _ _ _) ?_ | refine WL.bin rfl rfl rfl rfl (u_lt_d _ _ _ _ _) ?_
    refine WL.done ?_
    refine EW.on ?_
    refine EW.cond_t rfl ?_
    refine EW.seq ?_
    refine EW.region ?_
    first | refine WL.assign rfl rfl rfl ?_
    refine WL.done ?_
    refine EW.on ?_
    refine EW.ret ?_
    refine pr_then ?_
    exact EW.returns Try.results22 rfl ⟨by rw [decide_eq_false (by unfold serD; omega)], e1⟩
  · refine EW.region ?_
    first | refine WL.field rfl rfl rfl (f33_11 q1 _) ?_
    first | refine WL.load rfl rfl rfl (Sg.ld_ser b1 k) ?_
    first | refine WL.field rfl rfl rfl (f33_8 q1 _) ?_
    first | refine WL.load rfl rfl rfl (Sg.ld_sent b1 k) ?_
    first | refine WL.bin rfl rfl rfl rfl (u_lt_t (by first | omega | (dsimp only; omega)) _ _ _) ?_ | refine WL.bin rfl rfl rfl rfl (u_lt_f (by first | omega | (dsimp only; omega)) _ _ _) ?_ | refine WL.bin rfl rfl rfl rfl (u_lt_d _ _ _ _ _) ?_
    refine WL.done ?_
    refine EW.on ?_
    refine EW.cond_f rfl ?_
    refine EW.skip ?_
    refine EW.on ?_
    refine EW.seq ?_
    refine EW.region ?_
    first | refine WL.field rfl rfl rfl (f33_11 q1 _) ?_
    first | refine WL.load rfl rfl rfl (Sg.ld_ser b1 k) ?_
    first | refine WL.field rfl rfl rfl (f33_8 q1 _) ?_
    first | refine WL.load rfl rfl rfl (Sg.ld_sent b1 k) ?_
    refine WL.bin rfl rfl rfl rfl (u_sub (by omega) k.ser _ _ _) ?_
    first | refine WL.assign rfl rfl rfl ?_
    refine WL.done ?_
    refine EW.on ?_
    refine EW.seq ?_
    refine EW.seq ?_
    refine EW.region ?_
    first | refine WL.field rfl rfl rfl (f33_6 q1 _) ?_
    first | refine WL.load rfl rfl rfl (Sg.ld_own b1 k) ?_
    first | refine WL.bin rfl rfl rfl rfl (u_eq_t (by first | omega | (dsimp only; omega)) _ _ _) ?_ | refine WL.bin rfl rfl rfl rfl (u_eq_f (by first | omega | (dsimp only; omega)) _ _ _) ?_ | refine WL.bin rfl rfl rfl rfl (u_eq_d _ _ _ _ _) ?_
    refine WL.done ?_
    refine EW.on ?_
    refine EW.cond_t rfl ?_
    refine EW.seq ?_
    refine EW.region ?_
    first | refine WL.move rfl rfl rfl ?_
    refine WL.bin rfl rfl rfl rfl (u_eq_d _ 0 _ _ _) ?_
    first | refine WL.assign rfl rfl rfl ?_
    refine WL.done ?_
    refine EW.on ?_
    refine EW.ret ?_
    refine pr_then ?_
    exact EW.returns Try.results22 rfl ⟨congrArg (fun b => Ending.returned (Value.bool b)) (decide_eq_decide.2 (by unfold serD; omega)), e1⟩
  · refine EW.region ?_
    first | refine WL.field rfl rfl rfl (f33_11 q1 _) ?_
    first | refine WL.load rfl rfl rfl (Sg.ld_ser b1 k) ?_
    first | refine WL.field rfl rfl rfl (f33_8 q1 _) ?_
    first | refine WL.load rfl rfl rfl (Sg.ld_sent b1 k) ?_
    first | refine WL.bin rfl rfl rfl rfl (u_lt_t (by first | omega | (dsimp only; omega)) _ _ _) ?_ | refine WL.bin rfl rfl rfl rfl (u_lt_f (by first | omega | (dsimp only; omega)) _ _ _) ?_ | refine WL.bin rfl rfl rfl rfl (u_lt_d _ _ _ _ _) ?_
    refine WL.done ?_
    refine EW.on ?_
    refine EW.cond_f rfl ?_
    refine EW.skip ?_
    refine EW.on ?_
    refine EW.seq ?_
    refine EW.region ?_
    first | refine WL.field rfl rfl rfl (f33_11 q1 _) ?_
    first | refine WL.load rfl rfl rfl (Sg.ld_ser b1 k) ?_
    first | refine WL.field rfl rfl rfl (f33_8 q1 _) ?_
    first | refine WL.load rfl rfl rfl (Sg.ld_sent b1 k) ?_
    refine WL.bin rfl rfl rfl rfl (u_sub (by omega) k.ser _ _ _) ?_
    first | refine WL.assign rfl rfl rfl ?_
    refine WL.done ?_
    refine EW.on ?_
    refine EW.seq ?_
    refine EW.seq ?_
    refine EW.region ?_
    first | refine WL.field rfl rfl rfl (f33_6 q1 _) ?_
    first | refine WL.load rfl rfl rfl (Sg.ld_own b1 k) ?_
    first | refine WL.bin rfl rfl rfl rfl (u_eq_t (by first | omega | (dsimp only; omega)) _ _ _) ?_ | refine WL.bin rfl rfl rfl rfl (u_eq_f (by first | omega | (dsimp only; omega)) _ _ _) ?_ | refine WL.bin rfl rfl rfl rfl (u_eq_d _ _ _ _ _) ?_
    refine WL.done ?_
    refine EW.on ?_
    refine EW.cond_f rfl ?_
    refine EW.skip ?_
    refine EW.on ?_
    refine EW.seq ?_
    refine EW.region ?_
    first | refine WL.move rfl rfl rfl ?_
    first | refine WL.field rfl rfl rfl (f33_10 q1 _) ?_
    first | refine WL.load rfl rfl rfl (Sg.ld_prev b1 k) ?_
    refine WL.bin rfl rfl rfl rfl (u_ge_d _ _ _ _ _) ?_
    first | refine WL.assign rfl rfl rfl ?_
    refine WL.done ?_
    refine EW.on ?_
    refine EW.ret ?_
    exact EW.returns Try.results22 rfl ⟨congrArg (fun b => Ending.returned (Value.bool b)) (decide_eq_decide.2 (by unfold serD; omega)), e1⟩
theorem Sg.ld_first {w : World} {q : Nat} {s : Sg} {t : TypeId} (hb : Blk w q s.cs t) (k : s.ok) : (Instr.loadAt 25 (.pointer (some ⟨q, 279, none⟩))).run Try.prog w = .ok (kv (s.bind.take 32)) w :=
  hb.ldA (a := s.a_bind) (m := (s.bind.take 32).map byt) (b := (s.bind.drop 32).map byt) u25 rfl (i25 (by rw [List.length_take, k.bind]; rfl)) (by rw [Sg.c_bind, ← List.map_append, List.take_append_drop]; simp [Sg.b_bind]) (Sg.l_bind k)
theorem take32 {s : Sg} (k : s.ok) : (s.bind.take 32).length = 32 := by rw [List.length_take, k.bind]; rfl
set_option maxRecDepth 100000 in
set_option maxHeartbeats 4000000 in
theorem firstWriter_any (s : Sg) (k : s.ok) (w : World) : Calls Try.prog 55 #[s.v] w fun e w' => e = .returned (kv (s.bind.take 32)) ∧ Below w.heap.size w w' := by
  obtain ⟨w1, q1, r1, b1, e1, hq1⟩ := box_any 33 s.cs w
  obtain ⟨w2, q2, r2, b2, e2, hq2⟩ := new_any (t := 25) (cs := z32.map byt) zv25 w1
  have l1 := e1.size
  have bq1_0 := b1.on e2
  refine calls_of_args [s.v] Try.func55 rfl 7 Try.ntmps55 (by show 1 ≤ 7; decide) ?_
  refine EW.seq ?_
  refine EW.region ?_
  refine WL.box rfl rfl rfl r1 ?_
  refine WL.new rfl rfl r2 ?_
  refine WL.done ?_
  refine EW.on ?_
  refine EW.seq ?_
  refine EW.region ?_
  first | refine WL.field rfl rfl rfl (f33_13 q1 _) ?_
  refine WL.sliceH rfl rfl rfl rfl (cut31 q1 279 _) ?_
  refine WL.s2a rfl rfl rfl (s2a q1 279 32 64 (by decide) _) ?_
  refine WL.load rfl rfl rfl (Sg.ld_first bq1_0 k) ?_
  obtain ⟨w9, s9, b9, f9⟩ := b2.stA (o := 0) (a := []) (b := []) (m := z32.map byt) (ty := 25) (vs := (s.bind.take 32).map byt) (i25 (take32 k)) (byts_one' _) (by simp) rfl (by simp [take32 k, z32, k.bind])
  refine WL.store rfl rfl rfl s9 ?_
  refine WL.done ?_
  refine EW.on ?_
  refine EW.ret ?_
  refine EW.returnsC Try.results55 rfl b9 u25 rfl (by simpa using i25 (take32 k)) ⟨by simp [kv], bfx (bt e1 e2) (by omega) f9⟩
def helD (s : Sg) : Prop := s.hl = Hl.z ∨ (¬ s.hl.id = z32 ∧ s.hl.id = s.bind.take 32)
instance (s : Sg) : Decidable (helD s) := by unfold helD; infer_instance
set_option maxRecDepth 100000 in
set_option maxHeartbeats 4000000 in
theorem rightHello_any (s : Sg) (k : s.ok) (w : World) : Calls Try.prog 23 #[s.v] w fun e w' => e = .returned (.bool (decide (helD s))) ∧ Below w.heap.size w w' := by
  obtain ⟨w1, q1, r1, b1, e1, hq1⟩ := box_any 33 s.cs w
  refine calls_of_args [s.v] Try.func23 rfl 20 Try.ntmps23 (by show 1 ≤ 20; decide) ?_
  refine EW.seq ?_
  refine EW.region ?_
  refine WL.box rfl rfl rfl r1 ?_
  first | refine WL.assign rfl rfl rfl ?_
  refine WL.done ?_
  refine EW.on ?_
  refine EW.seq ?_
  refine EW.seq ?_
  have hc : s.hl = Hl.z ∨ (¬ s.hl = Hl.z ∧ s.hl.id = z32) ∨ (¬ s.hl = Hl.z ∧ ¬ s.hl.id = z32) := by
    by_cases x1 : s.hl = Hl.z <;> by_cases x2 : s.hl.id = z32 <;> simp [x1, x2]
  rcases hc with a1 | ⟨a1, a2⟩ | ⟨a1, a2⟩
  · refine EW.region ?_
    first | refine WL.field rfl rfl rfl (f33_12 q1 _) ?_
    first | refine WL.load rfl rfl rfl (Sg.ld_hl b1 k) ?_
    first | refine WL.buildN [] rfl rfl rfl (bd30 _) ?_
    refine WL.bin rfl rfl rfl rfl ((eql30 _ _ k.hl Hl.z_ok _ _ _).trans (by rw [decide_eq_true a1])) ?_
    refine WL.done ?_
    refine EW.on ?_
    refine EW.cond_t rfl ?_
    refine EW.seq ?_
    refine EW.region ?_
    first | refine WL.assign rfl rfl rfl ?_
    refine WL.done ?_
    refine EW.on ?_
    refine EW.ret ?_
    refine pr_then ?_
    exact EW.returns Try.results23 rfl ⟨by rw [decide_eq_true (.inl a1)], e1⟩
  · refine EW.region ?_
    first | refine WL.field rfl rfl rfl (f33_12 q1 _) ?_
    first | refine WL.load rfl rfl rfl (Sg.ld_hl b1 k) ?_
    first | refine WL.buildN [] rfl rfl rfl (bd30 _) ?_
    refine WL.bin rfl rfl rfl rfl ((eql30 _ _ k.hl Hl.z_ok _ _ _).trans (by rw [decide_eq_false a1])) ?_
    refine WL.done ?_
    refine EW.on ?_
    refine EW.cond_f rfl ?_
    refine EW.skip ?_
    refine EW.on ?_
    refine EW.seq ?_
    refine EW.ordB [(0, 0, 0), (1, 0, 0), (2, 0, 1), (3, 0, 0), (4, 0, 0), (5, 0, 0), (6, 0, 0), (7, 0, 0), (8, 0, 1), (9, 0, 1), (10, 0, 0), (11, 0, 0), (12, 0, 0), (13, 0, 0)] (by kernel_rfl) rfl (by kernel_rfl) ?_
    simp only [opsZ, List.getD_cons_zero, List.getD_cons_succ]
    first | refine ZE.field rfl rfl rfl rfl sz0 (fun W => f33_12 q1 W) ?_
    first | refine ZE.field rfl rfl rfl rfl sz0 (fun W => f30_0 q1 214 W) ?_
    first | refine ZE.load rfl rfl rfl rfl sz1 (fun W hW => Sg.ld_hid (b1.on (sb_of hW)) k) ?_
    first | refine ZE.buildN [] rfl rfl rfl rfl sz0 (fun W => bd25 W) ?_
    refine ZE.bin rfl rfl rfl rfl rfl sz0 (fun W => (neq25 _ _ k.hl.i rfl W _ _).trans (by rw [decide_eq_false (fun h => h a2)])) ?_
    first | refine ZE.move rfl rfl rfl rfl sz0 ?_
    refine ZE.skip rfl rfl rfl sz0 ?_
    refine ZE.skip rfl rfl rfl sz0 ?_
    refine ZE.skip rfl rfl rfl sz1 ?_
    refine ZE.skip rfl rfl rfl sz1 ?_
    refine ZE.skip rfl rfl rfl sz0 ?_
    refine ZE.skip rfl rfl rfl sz0 ?_
    first | refine ZE.pick rfl rfl rfl rfl rfl sz0 ?_
    first | refine ZE.assign rfl rfl rfl rfl sz0 ?_
    intro W be
    refine EW.on ?_
    refine EW.ret ?_
    exact EW.returns Try.results23 rfl ⟨by rw [decide_eq_false (by rintro (h | h); exact a1 h; exact h.1 a2)], bt e1 be⟩
  · refine EW.region ?_
    first | refine WL.field rfl rfl rfl (f33_12 q1 _) ?_
    first | refine WL.load rfl rfl rfl (Sg.ld_hl b1 k) ?_
    first | refine WL.buildN [] rfl rfl rfl (bd30 _) ?_
    refine WL.bin rfl rfl rfl rfl ((eql30 _ _ k.hl Hl.z_ok _ _ _).trans (by rw [decide_eq_false a1])) ?_
    refine WL.done ?_
    refine EW.on ?_
    refine EW.cond_f rfl ?_
    refine EW.skip ?_
    refine EW.on ?_
    refine EW.seq ?_
    refine EW.ordB [(0, 0, 0), (1, 0, 0), (2, 0, 1), (3, 0, 0), (4, 0, 0), (5, 0, 0), (6, 0, 0), (7, 0, 0), (8, 0, 1), (9, 0, 1), (10, 1, 1), (11, 0, 0), (12, 0, 0), (13, 0, 0)] (by kernel_rfl) rfl (by kernel_rfl) ?_
    simp only [opsZ, List.getD_cons_zero, List.getD_cons_succ]
    first | refine ZE.field rfl rfl rfl rfl sz0 (fun W => f33_12 q1 W) ?_
    first | refine ZE.field rfl rfl rfl rfl sz0 (fun W => f30_0 q1 214 W) ?_
    first | refine ZE.load rfl rfl rfl rfl sz1 (fun W hW => Sg.ld_hid (b1.on (sb_of hW)) k) ?_
    first | refine ZE.buildN [] rfl rfl rfl rfl sz0 (fun W => bd25 W) ?_
    refine ZE.bin rfl rfl rfl rfl rfl sz0 (fun W => (neq25 _ _ k.hl.i rfl W _ _).trans (by rw [decide_eq_true a2])) ?_
    first | refine ZE.move rfl rfl rfl rfl sz0 ?_
    first | refine ZE.field rfl rfl rfl rfl sz0 (fun W => f33_12 q1 W) ?_ | refine ZE.skip rfl rfl rfl sz0 ?_
    first | refine ZE.field rfl rfl rfl rfl sz0 (fun W => f30_0 q1 214 W) ?_ | refine ZE.skip rfl rfl rfl sz0 ?_
    first | refine ZE.load rfl rfl rfl rfl sz1 (fun W hW => Sg.ld_hid (b1.on (sb_of hW)) k) ?_ | refine ZE.skip rfl rfl rfl sz1 ?_
    first | refine ZE.load rfl rfl rfl rfl sz1 (fun W hW => Sg.ld (b1.on (sb_of hW)) k) ?_ | refine ZE.skip rfl rfl rfl sz1 ?_
    refine ZE.callB [s.v] enter55 rfl rfl rfl (fun W h => .inr h) (fun W hW => firstWriter_any s k W) ?_
    refine ZE.bin rfl rfl rfl rfl rfl sz0 (fun W => eql25 _ _ k.hl.i (take32 k) W _ _) ?_
    first | refine ZE.pick rfl rfl rfl rfl rfl sz0 ?_
    first | refine ZE.assign rfl rfl rfl rfl sz0 ?_
    intro W be
    refine EW.on ?_
    refine EW.ret ?_
    exact EW.returns Try.results23 rfl ⟨congrArg (fun b => Ending.returned (Value.bool b)) (decide_eq_decide.2 ⟨fun h => .inr ⟨a2, h⟩, fun h => h.elim (fun h => absurd h a1) (fun h => h.2)⟩), bt e1 be⟩
/-- May it be a state? -/
def Good (s : Sg) : Prop := (s.own ≤ s.turns + 1 ∧ s.turns ≤ s.own + 1) ∧ s = cntD s ∧ serD s ∧ helD s
instance (s : Sg) : Decidable (Good s) := by unfold Good; infer_instance
def chkD (s : Sg) : Int := if Good s then 0 else 180
set_option maxRecDepth 100000 in
set_option maxHeartbeats 4000000 in
theorem check_any (s : Sg) (k : s.ok) (w : World) : Calls Try.prog 10 #[s.v] w fun e w' => e = .returned (.int .i64 (chkD s)) ∧ Below w.heap.size w w' := by
  obtain ⟨w1, q1, r1, b1, e1, hq1⟩ := box_any 33 s.cs w
  refine calls_of_args [s.v] Try.func10 rfl 20 Try.ntmps10 (by show 1 ≤ 20; decide) ?_
  refine EW.seq ?_
  refine EW.region ?_
  refine WL.box rfl rfl rfl r1 ?_
  first | refine WL.assign rfl rfl rfl ?_
  refine WL.done ?_
  refine EW.on ?_
  refine EW.seq ?_
  refine EW.block ?_
  refine EW.seq ?_
  refine EW.seq ?_
  have hc : (1 < max s.own s.turns - min s.own s.turns) ∨ ((¬ 1 < max s.own s.turns - min s.own s.turns) ∧ ¬ s = cntD s) ∨ ((¬ 1 < max s.own s.turns - min s.own s.turns) ∧ s = cntD s ∧ ¬ serD s) ∨ ((¬ 1 < max s.own s.turns - min s.own s.turns) ∧ s = cntD s ∧ serD s ∧ ¬ helD s) ∨ ((¬ 1 < max s.own s.turns - min s.own s.turns) ∧ s = cntD s ∧ serD s ∧ helD s) := by
    by_cases x1 : 1 < max s.own s.turns - min s.own s.turns
    · exact .inl x1
    · by_cases x2 : s = cntD s
      · by_cases x3 : serD s
        · by_cases x4 : helD s
          · exact .inr (.inr (.inr (.inr ⟨x1, x2, x3, x4⟩)))
          · exact .inr (.inr (.inr (.inl ⟨x1, x2, x3, x4⟩)))
        · exact .inr (.inr (.inl ⟨x1, x2, x3⟩))
      · exact .inr (.inl ⟨x1, x2⟩)
  rcases hc with a1 | ⟨a1, a2⟩ | ⟨a1, a2, a3⟩ | ⟨a1, a2, a3, a4⟩ | ⟨a1, a2, a3, a4⟩
  · refine EW.region ?_
    first | refine WL.field rfl rfl rfl (f33_6 q1 _) ?_
    first | refine WL.load rfl rfl rfl (Sg.ld_own b1 k) ?_
    first | refine WL.field rfl rfl rfl (f33_7 q1 _) ?_
    first | refine WL.load rfl rfl rfl (Sg.ld_turns b1 k) ?_
    refine WL.call [u32v s.own, u32v s.turns] enter20 rfl rfl rfl (apart_any _ _ k.own k.turns _) ?_
    rintro _ _ ⟨rfl, rfl⟩
    refine ⟨_, rfl, ?_⟩
    refine WL.bin rfl rfl rfl rfl (u_gt_t (by omega) _ _ _) ?_
    first | refine WL.assign rfl rfl rfl ?_
    refine WL.done ?_
    refine EW.on ?_
    refine EW.cond_t rfl ?_
    refine EW.skip ?_
    refine EW.on ?_
    refine EW.cond_t rfl ?_
    refine EW.seq ?_
    refine EW.region ?_
    first | refine WL.assign rfl rfl rfl ?_
    refine WL.done ?_
    refine EW.on ?_
    refine EW.ret ?_
    refine pr_block ?_
    refine pr_then ?_
    exact EW.returns Try.results10 rfl ⟨by rw [chkD, if_neg (fun h => by have := h.1; omega)], e1⟩
  · refine EW.region ?_
    first | refine WL.field rfl rfl rfl (f33_6 q1 _) ?_
    first | refine WL.load rfl rfl rfl (Sg.ld_own b1 k) ?_
    first | refine WL.field rfl rfl rfl (f33_7 q1 _) ?_
    first | refine WL.load rfl rfl rfl (Sg.ld_turns b1 k) ?_
    refine WL.call [u32v s.own, u32v s.turns] enter20 rfl rfl rfl (apart_any _ _ k.own k.turns _) ?_
    rintro _ _ ⟨rfl, rfl⟩
    refine ⟨_, rfl, ?_⟩
    refine WL.bin rfl rfl rfl rfl (u_gt_f (by omega) _ _ _) ?_
    first | refine WL.assign rfl rfl rfl ?_
    refine WL.done ?_
    refine EW.on ?_
    refine EW.cond_f rfl ?_
    refine EW.seq ?_
    refine EW.ordB [(0, 0, 1), (1, 0, 1), (2, 1, 1), (3, 0, 0), (4, 0, 0)] (by kernel_rfl) rfl (by kernel_rfl) ?_
    simp only [opsZ, List.getD_cons_zero, List.getD_cons_succ]
    first | refine ZE.load rfl rfl rfl rfl sz1 (fun W hW => Sg.ld (b1.on (sb_of hW)) k) ?_
    first | refine ZE.load rfl rfl rfl rfl sz1 (fun W hW => Sg.ld (b1.on (sb_of hW)) k) ?_
    refine ZE.callB [s.v] enter21 rfl rfl rfl (fun W h => .inr h) (fun W hW => counted_any s k W) ?_
    refine ZE.bin rfl rfl rfl rfl rfl sz0 (fun W => (neq33 _ _ k (cntD_ok k) W _ _).trans (by rw [decide_eq_true a2])) ?_
    first | refine ZE.assign rfl rfl rfl rfl sz0 ?_
    intro W2 be2
    have bq_2 := b1.on be2
    refine EW.on ?_
    refine EW.cond_t rfl ?_
    refine EW.skip ?_
    refine EW.on ?_
    refine EW.cond_t rfl ?_
    refine EW.seq ?_
    refine EW.region ?_
    first | refine WL.assign rfl rfl rfl ?_
    refine WL.done ?_
    refine EW.on ?_
    refine EW.ret ?_
    refine pr_block ?_
    refine pr_then ?_
    exact EW.returns Try.results10 rfl ⟨by rw [chkD, if_neg (fun h => a2 h.2.1)], (bt e1 be2)⟩
  · refine EW.region ?_
    first | refine WL.field rfl rfl rfl (f33_6 q1 _) ?_
    first | refine WL.load rfl rfl rfl (Sg.ld_own b1 k) ?_
    first | refine WL.field rfl rfl rfl (f33_7 q1 _) ?_
    first | refine WL.load rfl rfl rfl (Sg.ld_turns b1 k) ?_
    refine WL.call [u32v s.own, u32v s.turns] enter20 rfl rfl rfl (apart_any _ _ k.own k.turns _) ?_
    rintro _ _ ⟨rfl, rfl⟩
    refine ⟨_, rfl, ?_⟩
    refine WL.bin rfl rfl rfl rfl (u_gt_f (by omega) _ _ _) ?_
    first | refine WL.assign rfl rfl rfl ?_
    refine WL.done ?_
    refine EW.on ?_
    refine EW.cond_f rfl ?_
    refine EW.seq ?_
    refine EW.ordB [(0, 0, 1), (1, 0, 1), (2, 1, 1), (3, 0, 0), (4, 0, 0)] (by kernel_rfl) rfl (by kernel_rfl) ?_
    simp only [opsZ, List.getD_cons_zero, List.getD_cons_succ]
    first | refine ZE.load rfl rfl rfl rfl sz1 (fun W hW => Sg.ld (b1.on (sb_of hW)) k) ?_
    first | refine ZE.load rfl rfl rfl rfl sz1 (fun W hW => Sg.ld (b1.on (sb_of hW)) k) ?_
    refine ZE.callB [s.v] enter21 rfl rfl rfl (fun W h => .inr h) (fun W hW => counted_any s k W) ?_
    refine ZE.bin rfl rfl rfl rfl rfl sz0 (fun W => (neq33 _ _ k (cntD_ok k) W _ _).trans (by rw [decide_eq_false (fun h => h a2)])) ?_
    first | refine ZE.assign rfl rfl rfl rfl sz0 ?_
    intro W2 be2
    have bq_2 := b1.on be2
    refine EW.on ?_
    refine EW.cond_f rfl ?_
    refine EW.seq ?_
    refine EW.region ?_
    first | refine WL.load rfl rfl rfl (Sg.ld bq_2 k) ?_
    refine WL.call [s.v] enter22 rfl rfl rfl (rightSerial_any s k _) ?_
    rintro _ wc3 ⟨rfl, ec3⟩
    rw [decide_eq_false a3]
    refine ⟨_, rfl, ?_⟩
    have bq_3 := bq_2.on ec3
    refine WL.un rfl rfl rfl (not_t _ _) ?_
    first | refine WL.assign rfl rfl rfl ?_
    refine WL.done ?_
    refine EW.on ?_
    refine EW.cond_t rfl ?_
    refine EW.skip ?_
    refine EW.on ?_
    refine EW.cond_t rfl ?_
    refine EW.seq ?_
    refine EW.region ?_
    first | refine WL.assign rfl rfl rfl ?_
    refine WL.done ?_
    refine EW.on ?_
    refine EW.ret ?_
    refine pr_block ?_
    refine pr_then ?_
    exact EW.returns Try.results10 rfl ⟨by rw [chkD, if_neg (fun h => a3 h.2.2.1)], (bt (bt e1 be2) ec3)⟩
  · refine EW.region ?_
    first | refine WL.field rfl rfl rfl (f33_6 q1 _) ?_
    first | refine WL.load rfl rfl rfl (Sg.ld_own b1 k) ?_
    first | refine WL.field rfl rfl rfl (f33_7 q1 _) ?_
    first | refine WL.load rfl rfl rfl (Sg.ld_turns b1 k) ?_
    refine WL.call [u32v s.own, u32v s.turns] enter20 rfl rfl rfl (apart_any _ _ k.own k.turns _) ?_
    rintro _ _ ⟨rfl, rfl⟩
    refine ⟨_, rfl, ?_⟩
    refine WL.bin rfl rfl rfl rfl (u_gt_f (by omega) _ _ _) ?_
    first | refine WL.assign rfl rfl rfl ?_
    refine WL.done ?_
    refine EW.on ?_
    refine EW.cond_f rfl ?_
    refine EW.seq ?_
    refine EW.ordB [(0, 0, 1), (1, 0, 1), (2, 1, 1), (3, 0, 0), (4, 0, 0)] (by kernel_rfl) rfl (by kernel_rfl) ?_
    simp only [opsZ, List.getD_cons_zero, List.getD_cons_succ]
    first | refine ZE.load rfl rfl rfl rfl sz1 (fun W hW => Sg.ld (b1.on (sb_of hW)) k) ?_
    first | refine ZE.load rfl rfl rfl rfl sz1 (fun W hW => Sg.ld (b1.on (sb_of hW)) k) ?_
    refine ZE.callB [s.v] enter21 rfl rfl rfl (fun W h => .inr h) (fun W hW => counted_any s k W) ?_
    refine ZE.bin rfl rfl rfl rfl rfl sz0 (fun W => (neq33 _ _ k (cntD_ok k) W _ _).trans (by rw [decide_eq_false (fun h => h a2)])) ?_
    first | refine ZE.assign rfl rfl rfl rfl sz0 ?_
    intro W2 be2
    have bq_2 := b1.on be2
    refine EW.on ?_
    refine EW.cond_f rfl ?_
    refine EW.seq ?_
    refine EW.region ?_
    first | refine WL.load rfl rfl rfl (Sg.ld bq_2 k) ?_
    refine WL.call [s.v] enter22 rfl rfl rfl (rightSerial_any s k _) ?_
    rintro _ wc3 ⟨rfl, ec3⟩
    rw [decide_eq_true a3]
    refine ⟨_, rfl, ?_⟩
    have bq_3 := bq_2.on ec3
    refine WL.un rfl rfl rfl (not_t _ _) ?_
    first | refine WL.assign rfl rfl rfl ?_
    refine WL.done ?_
    refine EW.on ?_
    refine EW.cond_f rfl ?_
    refine EW.region ?_
    first | refine WL.load rfl rfl rfl (Sg.ld bq_3 k) ?_
    refine WL.call [s.v] enter23 rfl rfl rfl (rightHello_any s k _) ?_
    rintro _ wc4 ⟨rfl, ec4⟩
    rw [decide_eq_false a4]
    refine ⟨_, rfl, ?_⟩
    have bq_4 := bq_3.on ec4
    refine WL.un rfl rfl rfl (not_t _ _) ?_
    first | refine WL.assign rfl rfl rfl ?_
    refine WL.done ?_
    refine EW.on ?_
    refine EW.cond_t rfl ?_
    refine EW.seq ?_
    refine EW.region ?_
    first | refine WL.assign rfl rfl rfl ?_
    refine WL.done ?_
    refine EW.on ?_
    refine EW.ret ?_
    refine pr_block ?_
    refine pr_then ?_
    exact EW.returns Try.results10 rfl ⟨by rw [chkD, if_neg (fun h => a4 h.2.2.2)], (bt (bt (bt e1 be2) ec3) ec4)⟩
  · refine EW.region ?_
    first | refine WL.field rfl rfl rfl (f33_6 q1 _) ?_
    first | refine WL.load rfl rfl rfl (Sg.ld_own b1 k) ?_
    first | refine WL.field rfl rfl rfl (f33_7 q1 _) ?_
    first | refine WL.load rfl rfl rfl (Sg.ld_turns b1 k) ?_
    refine WL.call [u32v s.own, u32v s.turns] enter20 rfl rfl rfl (apart_any _ _ k.own k.turns _) ?_
    rintro _ _ ⟨rfl, rfl⟩
    refine ⟨_, rfl, ?_⟩
    refine WL.bin rfl rfl rfl rfl (u_gt_f (by omega) _ _ _) ?_
    first | refine WL.assign rfl rfl rfl ?_
    refine WL.done ?_
    refine EW.on ?_
    refine EW.cond_f rfl ?_
    refine EW.seq ?_
    refine EW.ordB [(0, 0, 1), (1, 0, 1), (2, 1, 1), (3, 0, 0), (4, 0, 0)] (by kernel_rfl) rfl (by kernel_rfl) ?_
    simp only [opsZ, List.getD_cons_zero, List.getD_cons_succ]
    first | refine ZE.load rfl rfl rfl rfl sz1 (fun W hW => Sg.ld (b1.on (sb_of hW)) k) ?_
    first | refine ZE.load rfl rfl rfl rfl sz1 (fun W hW => Sg.ld (b1.on (sb_of hW)) k) ?_
    refine ZE.callB [s.v] enter21 rfl rfl rfl (fun W h => .inr h) (fun W hW => counted_any s k W) ?_
    refine ZE.bin rfl rfl rfl rfl rfl sz0 (fun W => (neq33 _ _ k (cntD_ok k) W _ _).trans (by rw [decide_eq_false (fun h => h a2)])) ?_
    first | refine ZE.assign rfl rfl rfl rfl sz0 ?_
    intro W2 be2
    have bq_2 := b1.on be2
    refine EW.on ?_
    refine EW.cond_f rfl ?_
    refine EW.seq ?_
    refine EW.region ?_
    first | refine WL.load rfl rfl rfl (Sg.ld bq_2 k) ?_
    refine WL.call [s.v] enter22 rfl rfl rfl (rightSerial_any s k _) ?_
    rintro _ wc3 ⟨rfl, ec3⟩
    rw [decide_eq_true a3]
    refine ⟨_, rfl, ?_⟩
    have bq_3 := bq_2.on ec3
    refine WL.un rfl rfl rfl (not_t _ _) ?_
    first | refine WL.assign rfl rfl rfl ?_
    refine WL.done ?_
    refine EW.on ?_
    refine EW.cond_f rfl ?_
    refine EW.region ?_
    first | refine WL.load rfl rfl rfl (Sg.ld bq_3 k) ?_
    refine WL.call [s.v] enter23 rfl rfl rfl (rightHello_any s k _) ?_
    rintro _ wc4 ⟨rfl, ec4⟩
    rw [decide_eq_true a4]
    refine ⟨_, rfl, ?_⟩
    have bq_4 := bq_3.on ec4
    refine WL.un rfl rfl rfl (not_t _ _) ?_
    first | refine WL.assign rfl rfl rfl ?_
    refine WL.done ?_
    refine EW.on ?_
    refine EW.cond_f rfl ?_
    refine EW.skip ?_
    refine pn_block ?_
    refine EW.on ?_
    refine EW.seq ?_
    refine EW.region ?_
    first | refine WL.assign rfl rfl rfl ?_
    refine WL.done ?_
    refine EW.on ?_
    refine EW.ret ?_
    exact EW.returns Try.results10 rfl ⟨by rw [chkD, if_pos ⟨by omega, a2, a3, a4⟩], (bt (bt (bt e1 be2) ec3) ec4)⟩
end Go.Proofs.Ytacimelcmkhhlaa
