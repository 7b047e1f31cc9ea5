import Derived.Test.YtacimelcmkhhlaaJb
set_option linter.unusedVariables false
set_option linter.unusedSimpArgs false
namespace Go.Proofs.Ytacimelcmkhhlaa
open Go.RowKit

theorem bt {w a b : World} (h : Below w.heap.size w a) (k : Below a.heap.size a b) : Below w.heap.size w b := h.trans (k.mono h.size)
theorem bfx {w a b : World} {q : Nat} (h : Below w.heap.size w a) (hq : w.heap.size ≤ q) (k : Fx (fun i => i = q) a b) : Below w.heap.size w b := h.trans (k.below (fun i hi e => by have e : i = q := e; omega) h.size)
theorem u_max (n m : Nat) (W : World) (ty : TypeId) (hty : ty = 28) : (Builtin.max_ #[28, 28] ty #[u32v n, u32v m]).run Try.prog W = .ok (u32v (max n m)) W := by
  subst hty
  unfold u32v
  by_cases h : n < m
  · have e : max n m = m := by omega
    rw [e]
    go_simp
    try omega
  · have e : max n m = n := by omega
    rw [e]
    go_simp
    try omega
theorem u_min (n m : Nat) (W : World) (ty : TypeId) (hty : ty = 28) : (Builtin.min_ #[28, 28] ty #[u32v n, u32v m]).run Try.prog W = .ok (u32v (min n m)) W := by
  subst hty
  unfold u32v
  by_cases h : m < n
  · have e : min n m = m := by omega
    rw [e]
    go_simp
    try omega
  · have e : min n m = n := by omega
    rw [e]
    go_simp
    try omega
theorem u_sub {n m : Nat} (h : m ≤ n) (hn : n < 4294967296) (W : World) (x y : Operand) : (do eqGuard .sub 28 x y (u32v n) (u32v m); binOp .sub 28 (u32v n) (u32v m) : Sem Value).run Try.prog W = .ok (u32v (n - m)) W := by
  unfold u32v
  go_simp
  try simp only [IntKind.wrap_u32]
  try omega
section
variable {P : Program} {n : Fm} {ops : Array Oper} {Q : Exit → Act → World → Prop} {i : Nat} {ty : TypeId} {ps : String} {af : Array Edge} {gd : Option (Nat × Bool)} {r : List Oper} {e : List (Nat × Value)} {w : World}
theorem WL.min {x y : Operand} {ts : Array TypeId} {u u' v : Value} (hw : wantE ops e ⟨some i, .call { callee := .builtin .min, args := #[x, y], argTypes := ts }, ty, ps, af, gd⟩ = some true) (hi : decide (i < n.k) = true) (hx : evE e x = some u) (hy : evE e y = some u') (hr : (Builtin.min_ ts ty #[u, u']).run P w = .ok v w) (k : WL P n ops Q r ((i, v) :: e) w) : WL P n ops Q (⟨some i, .call { callee := .builtin .min, args := #[x, y], argTypes := ts }, ty, ps, af, gd⟩ :: r) e w :=
  WL.op i v hw rfl hi (fun a ha => by simp [execOp, resolve, invoke, builtin, ha.ev hx, ha.ev hy, hr, Result.andThen]) k
theorem WL.s2a {t : TypeId} {x : Operand} {u v : Value} (hw : wantE ops e ⟨some i, .sliceToArrayPointer t x, ty, ps, af, gd⟩ = some true) (hi : decide (i < n.k) = true) (hx : evE e x = some u) (hr : (Instr.arrayAt t u).run P w = .ok v w) (k : WL P n ops Q r ((i, v) :: e) w) : WL P n ops Q (⟨some i, .sliceToArrayPointer t x, ty, ps, af, gd⟩ :: r) e w :=
  WL.op i v hw rfl hi (fun a ha => by simp [execOp, ha.ev hx, hr, Result.andThen]) k
end
theorem s2a (g o n c : Nat) (h : 32 ≤ n) (W : World) : (Instr.arrayAt 25 (.slice (some ⟨g, o, none⟩) n c)).run Try.prog W = .ok (.pointer (some ⟨g, o, none⟩)) W := by
  have h' : ¬ n < 32 := by omega
  unfold Instr.arrayAt
  go_simp
  try simp
theorem cut31 (g o : Nat) (W : World) : (Instr.sliceAt 31 (.pointer (some ⟨g, o, none⟩)) none (some (.int .i64 32)) none).run Try.prog W = .ok (.slice (some ⟨g, o, none⟩) 32 64) W := by
  go_simp
  try simp
  try rw [Addr.add_mid]
  try simp
set_option maxRecDepth 100000 in
set_option maxHeartbeats 1000000 in
theorem apart_any (a b : Nat) (ha : a < 4294967296) (hb : b < 4294967296) (w : World) : Calls Try.prog 20 #[u32v a, u32v b] w fun e w' => e = .returned (u32v (max a b - min a b)) ∧ w' = w := by
  refine calls_of_args [u32v a, u32v b] Try.func20 rfl 12 Try.ntmps20 (by show 2 ≤ 12; decide) ?_
  refine EW.seq ?_
  refine EW.region ?_
  first | refine WL.assign rfl rfl rfl ?_
  refine WL.done ?_
  refine EW.on ?_
  refine EW.seq ?_
  refine EW.region ?_
  first | refine WL.move rfl rfl rfl ?_
  first | refine WL.move rfl rfl rfl ?_
  refine WL.max rfl rfl rfl rfl (u_max a b _ _ rfl) ?_
  first | refine WL.move rfl rfl rfl ?_
  first | refine WL.move rfl rfl rfl ?_
  refine WL.min rfl rfl rfl rfl (u_min a b _ _ rfl) ?_
  refine WL.bin rfl rfl rfl rfl (u_sub (by omega) (by omega) _ _ _) ?_
  first | refine WL.assign rfl rfl rfl ?_
  refine WL.done ?_
  refine EW.on ?_
  refine EW.ret ?_
  exact EW.returns Try.results20 rfl ⟨rfl, rfl⟩
def cntD (s : Sg) : Sg := { s with sk := if s.own = 0 then z32 else s.sk, sent := if s.own = 0 then 0 else s.sent, ser := if s.own = 0 then 0 else s.ser, prev := if s.own ≤ 1 then 0 else s.prev, rk := if s.turns = 0 then z32 else s.rk, got := if s.turns = 0 then 0 else s.got, hl := if s.own = 0 ∨ 0 < s.turns then Hl.z else s.hl }
theorem cntD_ok {s : Sg} (k : s.ok) : (cntD s).ok where
  sid := k.sid
  root := k.root
  pri := k.pri
  pub := k.pub
  peer := k.peer
  sk := by unfold cntD; dsimp only; split; rfl; exact k.sk
  rk := by unfold cntD; dsimp only; split; rfl; exact k.rk
  own := k.own
  turns := k.turns
  sent := by unfold cntD; dsimp only; split; decide; exact k.sent
  got := by unfold cntD; dsimp only; split; decide; exact k.got
  prev := by unfold cntD; dsimp only; split; decide; exact k.prev
  ser := by unfold cntD; dsimp only; split; decide; exact k.ser
  hl := by unfold cntD; dsimp only; split; exact Hl.z_ok; exact k.hl
  bind := k.bind
set_option maxRecDepth 100000 in
set_option maxHeartbeats 4000000 in
theorem counted_any (s : Sg) (k : s.ok) (w : World) : Calls Try.prog 21 #[s.v] w fun e w' => e = .returned (cntD s).v ∧ Below w.heap.size w w' := by
  obtain ⟨w1, q1, r1, b1, e1, hq1⟩ := box_any 33 s.cs w
  obtain ⟨w2, q2, r2, b2, e2, hq2⟩ := new_any (t := 33) (cs := Sg.z.cs) zv33 w1
  have l1 := e1.size
  have hq1' := b1.lt
  have bq1_0 := b1.on e2
  have be_0 := bt e1 e2
  refine calls_of_args [s.v] Try.func21 rfl 31 Try.ntmps21 (by show 1 ≤ 31; decide) ?_
  refine EW.seq ?_
  refine EW.region ?_
  refine WL.box rfl rfl rfl r1 ?_
  refine WL.new rfl rfl r2 ?_
  refine WL.done ?_
  refine EW.on ?_
  refine EW.seq ?_
  refine EW.seq ?_
  have hc : (s.own = 0 ∧ s.turns = 0) ∨ (s.own = 0 ∧ 0 < s.turns) ∨ (s.own = 1 ∧ s.turns = 0) ∨ (s.own = 1 ∧ 0 < s.turns) ∨ (1 < s.own ∧ s.turns = 0) ∨ (1 < s.own ∧ 0 < s.turns) := by omega
  rcases hc with ⟨a1, a2⟩ | ⟨a1, a2⟩ | ⟨a1, a2⟩ | ⟨a1, a2⟩ | ⟨a1, a2⟩ | ⟨a1, a2⟩
  · have hO : s.own = 0 := by omega
    have hO' : s.own ≤ 1 := by omega
    have hT : s.turns = 0 := by omega
    have hT' : ¬ 0 < s.turns := by omega
    have hU : (s.own = 0 ∨ 0 < s.turns) := by omega
    refine EW.region ?_
    first | refine WL.field rfl rfl rfl (f33_6 q1 _) ?_
    first | refine WL.load rfl rfl rfl (Sg.ld_own bq1_0 k) ?_
    first | refine WL.bin rfl rfl rfl rfl (u_eq_t (by first | omega | (dsimp only; omega)) _ _ _) ?_ | refine WL.bin rfl rfl rfl rfl (u_eq_f (by first | omega | (dsimp only; omega)) _ _ _) ?_ | refine WL.bin rfl rfl rfl rfl (u_eq_d _ _ _ _ _) ?_
    refine WL.done ?_
    refine EW.on ?_
    refine EW.cond_t rfl ?_
    refine EW.seq ?_
    refine EW.region ?_
    first | refine WL.buildN [] rfl rfl rfl (bd25 _) ?_
    first | refine WL.field rfl rfl rfl (f33_4 q1 _) ?_
    obtain ⟨w_1, s_1, bb_1, fx_1⟩ := Sg.st_sk bq1_0 k (x := z32) rfl
    refine WL.store rfl rfl rfl s_1 ?_
    have k_1 := k.s_sk (x := z32) rfl
    have bq2_2 := b2.fx fx_1 (by show ¬ _ = _; omega)
    have be_2 := bfx be_0 (by omega) fx_1
    refine WL.done ?_
    refine EW.on ?_
    refine EW.region ?_
    first | refine WL.field rfl rfl rfl (f33_8 q1 _) ?_
    obtain ⟨w_3, s_3, bb_3, fx_3⟩ := Sg.st_sent bb_1 k_1 0
    refine WL.store rfl rfl rfl s_3 ?_
    have k_3 := k_1.s_sent (x := 0) (by decide)
    have bq2_4 := bq2_2.fx fx_3 (by show ¬ _ = _; omega)
    have be_4 := bfx be_2 (by omega) fx_3
    first | refine WL.field rfl rfl rfl (f33_11 q1 _) ?_
    obtain ⟨w_5, s_5, bb_5, fx_5⟩ := Sg.st_ser bb_3 k_3 0
    refine WL.store rfl rfl rfl s_5 ?_
    have k_5 := k_3.s_ser (x := 0) (by decide)
    have bq2_6 := bq2_4.fx fx_5 (by show ¬ _ = _; omega)
    have be_6 := bfx be_4 (by omega) fx_5
    refine WL.done ?_
    refine EW.on ?_
    refine EW.seq ?_
    refine EW.seq ?_
    refine EW.region ?_
    first | refine WL.field rfl rfl rfl (f33_6 q1 _) ?_
    first | refine WL.load rfl rfl rfl (Sg.ld_own bb_5 k_5) ?_
    first | refine WL.bin rfl rfl rfl rfl (u_le_t (by first | omega | (dsimp only; omega)) _ _ _) ?_ | refine WL.bin rfl rfl rfl rfl (u_le_f (by first | omega | (dsimp only; omega)) _ _ _) ?_ | refine WL.bin rfl rfl rfl rfl (u_le_d _ _ _ _ _) ?_
    refine WL.done ?_
    refine EW.on ?_
    refine EW.cond_t rfl ?_
    refine EW.region ?_
    first | refine WL.field rfl rfl rfl (f33_10 q1 _) ?_
    obtain ⟨w_7, s_7, bb_7, fx_7⟩ := Sg.st_prev bb_5 k_5 0
    refine WL.store rfl rfl rfl s_7 ?_
    have k_7 := k_5.s_prev (x := 0) (by decide)
    have bq2_8 := bq2_6.fx fx_7 (by show ¬ _ = _; omega)
    have be_8 := bfx be_6 (by omega) fx_7
    refine WL.done ?_
    refine EW.on ?_
    refine EW.seq ?_
    refine EW.seq ?_
    refine EW.region ?_
    first | refine WL.field rfl rfl rfl (f33_7 q1 _) ?_
    first | refine WL.load rfl rfl rfl (Sg.ld_turns bb_7 k_7) ?_
    first | refine WL.bin rfl rfl rfl rfl (u_eq_t (by first | omega | (dsimp only; omega)) _ _ _) ?_ | refine WL.bin rfl rfl rfl rfl (u_eq_f (by first | omega | (dsimp only; omega)) _ _ _) ?_ | refine WL.bin rfl rfl rfl rfl (u_eq_d _ _ _ _ _) ?_
    refine WL.done ?_
    refine EW.on ?_
    refine EW.cond_t rfl ?_
    refine EW.seq ?_
    refine EW.region ?_
    first | refine WL.buildN [] rfl rfl rfl (bd25 _) ?_
    first | refine WL.field rfl rfl rfl (f33_5 q1 _) ?_
    obtain ⟨w_9, s_9, bb_9, fx_9⟩ := Sg.st_rk bb_7 k_7 (x := z32) rfl
    refine WL.store rfl rfl rfl s_9 ?_
    have k_9 := k_7.s_rk (x := z32) rfl
    have bq2_10 := bq2_8.fx fx_9 (by show ¬ _ = _; omega)
    have be_10 := bfx be_8 (by omega) fx_9
    refine WL.done ?_
    refine EW.on ?_
    refine EW.region ?_
    first | refine WL.field rfl rfl rfl (f33_9 q1 _) ?_
    obtain ⟨w_11, s_11, bb_11, fx_11⟩ := Sg.st_got bb_9 k_9 0
    refine WL.store rfl rfl rfl s_11 ?_
    have k_11 := k_9.s_got (x := 0) (by decide)
    have bq2_12 := bq2_10.fx fx_11 (by show ¬ _ = _; omega)
    have be_12 := bfx be_10 (by omega) fx_11
    refine WL.done ?_
    refine EW.on ?_
    refine EW.seq ?_
    refine EW.seq ?_
    refine EW.region ?_
    first | refine WL.field rfl rfl rfl (f33_6 q1 _) ?_
    first | refine WL.load rfl rfl rfl (Sg.ld_own bb_11 k_11) ?_
    first | refine WL.bin rfl rfl rfl rfl (u_eq_t (by first | omega | (dsimp only; omega)) _ _ _) ?_ | refine WL.bin rfl rfl rfl rfl (u_eq_f (by first | omega | (dsimp only; omega)) _ _ _) ?_ | refine WL.bin rfl rfl rfl rfl (u_eq_d _ _ _ _ _) ?_
    first | refine WL.move rfl rfl rfl ?_
    first | refine WL.field rfl rfl rfl (f33_7 q1 _) ?_ | refine WL.skip _ rfl rfl rfl ?_
    first | refine WL.load rfl rfl rfl (Sg.ld_turns bb_11 k_11) ?_ | refine WL.skip _ rfl rfl rfl ?_
    first | refine WL.bin rfl rfl rfl rfl (u_gt_t (by first | omega | (dsimp only; omega)) _ _ _) ?_ | refine WL.bin rfl rfl rfl rfl (u_gt_f (by first | omega | (dsimp only; omega)) _ _ _) ?_ | refine WL.bin rfl rfl rfl rfl (u_gt_d _ _ _ _ _) ?_ | refine WL.skip _ rfl rfl rfl ?_
    first | refine WL.pick rfl rfl rfl rfl ?_
    refine WL.done ?_
    refine EW.on ?_
    refine EW.cond_t rfl ?_
    refine EW.region ?_
    first | refine WL.buildN [] rfl rfl rfl (bd30 _) ?_
    first | refine WL.field rfl rfl rfl (f33_12 q1 _) ?_
    obtain ⟨w_13, s_13, bb_13, fx_13⟩ := Sg.st_hl bb_11 k_11 Hl.z_ok
    refine WL.store rfl rfl rfl s_13 ?_
    have k_13 := k_11.s_hl Hl.z_ok
    have bq2_14 := bq2_12.fx fx_13 (by show ¬ _ = _; omega)
    have be_14 := bfx be_12 (by omega) fx_13
    refine WL.done ?_
    refine EW.on ?_
    refine EW.seq ?_
    refine EW.region ?_
    first | refine WL.load rfl rfl rfl (Sg.ld bb_13 k_13) ?_
    obtain ⟨w9, s9, b9, f9⟩ := Sg.st bq2_14 Sg.z_ok k_13
    refine WL.store rfl rfl rfl s9 ?_
    refine WL.done ?_
    refine EW.on ?_
    refine EW.ret ?_
    refine EW.returnsC Try.results21 rfl b9 Try.underlying33 rfl (by simpa using i33 k_13) ⟨?_, bfx be_14 (by omega) f9⟩
    refine congrArg (fun x => Ending.returned (Sg.v x)) ?_
    simp [cntD, hO, hO', hT, hT', hU]
  · have hO : s.own = 0 := by omega
    have hO' : s.own ≤ 1 := by omega
    have hT : ¬ s.turns = 0 := by omega
    have hT' : 0 < s.turns := by omega
    have hU : (s.own = 0 ∨ 0 < s.turns) := by omega
    refine EW.region ?_
    first | refine WL.field rfl rfl rfl (f33_6 q1 _) ?_
    first | refine WL.load rfl rfl rfl (Sg.ld_own bq1_0 k) ?_
    first | refine WL.bin rfl rfl rfl rfl (u_eq_t (by first | omega | (dsimp only; omega)) _ _ _) ?_ | refine WL.bin rfl rfl rfl rfl (u_eq_f (by first | omega | (dsimp only; omega)) _ _ _) ?_ | refine WL.bin rfl rfl rfl rfl (u_eq_d _ _ _ _ _) ?_
    refine WL.done ?_
    refine EW.on ?_
    refine EW.cond_t rfl ?_
    refine EW.seq ?_
    refine EW.region ?_
    first | refine WL.buildN [] rfl rfl rfl (bd25 _) ?_
    first | refine WL.field rfl rfl rfl (f33_4 q1 _) ?_
    obtain ⟨w_1, s_1, bb_1, fx_1⟩ := Sg.st_sk bq1_0 k (x := z32) rfl
    refine WL.store rfl rfl rfl s_1 ?_
    have k_1 := k.s_sk (x := z32) rfl
    have bq2_2 := b2.fx fx_1 (by show ¬ _ = _; omega)
    have be_2 := bfx be_0 (by omega) fx_1
    refine WL.done ?_
    refine EW.on ?_
    refine EW.region ?_
    first | refine WL.field rfl rfl rfl (f33_8 q1 _) ?_
    obtain ⟨w_3, s_3, bb_3, fx_3⟩ := Sg.st_sent bb_1 k_1 0
    refine WL.store rfl rfl rfl s_3 ?_
    have k_3 := k_1.s_sent (x := 0) (by decide)
    have bq2_4 := bq2_2.fx fx_3 (by show ¬ _ = _; omega)
    have be_4 := bfx be_2 (by omega) fx_3
    first | refine WL.field rfl rfl rfl (f33_11 q1 _) ?_
    obtain ⟨w_5, s_5, bb_5, fx_5⟩ := Sg.st_ser bb_3 k_3 0
    refine WL.store rfl rfl rfl s_5 ?_
    have k_5 := k_3.s_ser (x := 0) (by decide)
    have bq2_6 := bq2_4.fx fx_5 (by show ¬ _ = _; omega)
    have be_6 := bfx be_4 (by omega) fx_5
    refine WL.done ?_
    refine EW.on ?_
    refine EW.seq ?_
    refine EW.seq ?_
    refine EW.region ?_
    first | refine WL.field rfl rfl rfl (f33_6 q1 _) ?_
    first | refine WL.load rfl rfl rfl (Sg.ld_own bb_5 k_5) ?_
    first | refine WL.bin rfl rfl rfl rfl (u_le_t (by first | omega | (dsimp only; omega)) _ _ _) ?_ | refine WL.bin rfl rfl rfl rfl (u_le_f (by first | omega | (dsimp only; omega)) _ _ _) ?_ | refine WL.bin rfl rfl rfl rfl (u_le_d _ _ _ _ _) ?_
    refine WL.done ?_
    refine EW.on ?_
    refine EW.cond_t rfl ?_
    refine EW.region ?_
    first | refine WL.field rfl rfl rfl (f33_10 q1 _) ?_
    obtain ⟨w_7, s_7, bb_7, fx_7⟩ := Sg.st_prev bb_5 k_5 0
    refine WL.store rfl rfl rfl s_7 ?_
    have k_7 := k_5.s_prev (x := 0) (by decide)
    have bq2_8 := bq2_6.fx fx_7 (by show ¬ _ = _; omega)
    have be_8 := bfx be_6 (by omega) fx_7
    refine WL.done ?_
    refine EW.on ?_
    refine EW.seq ?_
    refine EW.seq ?_
    refine EW.region ?_
    first | refine WL.field rfl rfl rfl (f33_7 q1 _) ?_
    first | refine WL.load rfl rfl rfl (Sg.ld_turns bb_7 k_7) ?_
    first | refine WL.bin rfl rfl rfl rfl (u_eq_t (by first | omega | (dsimp only; omega)) _ _ _) ?_ | refine WL.bin rfl rfl rfl rfl (u_eq_f (by first | omega | (dsimp only; omega)) _ _ _) ?_ | refine WL.bin rfl rfl rfl rfl (u_eq_d _ _ _ _ _) ?_
    refine WL.done ?_
    refine EW.on ?_
    refine EW.cond_f rfl ?_
    refine EW.skip ?_
    refine EW.on ?_
    refine EW.seq ?_
    refine EW.seq ?_
    refine EW.region ?_
    first | refine WL.field rfl rfl rfl (f33_6 q1 _) ?_
    first | refine WL.load rfl rfl rfl (Sg.ld_own bb_7 k_7) ?_
    first | refine WL.bin rfl rfl rfl rfl (u_eq_t (by first | omega | (dsimp only; omega)) _ _ _) ?_ | refine WL.bin rfl rfl rfl rfl (u_eq_f (by first | omega | (dsimp only; omega)) _ _ _) ?_ | refine WL.bin rfl rfl rfl rfl (u_eq_d _ _ _ _ _) ?_
    first | refine WL.move rfl rfl rfl ?_
    first | refine WL.field rfl rfl rfl (f33_7 q1 _) ?_ | refine WL.skip _ rfl rfl rfl ?_
    first | refine WL.load rfl rfl rfl (Sg.ld_turns bb_7 k_7) ?_ | refine WL.skip _ rfl rfl rfl ?_
    first | refine WL.bin rfl rfl rfl rfl (u_gt_t (by first | omega | (dsimp only; omega)) _ _ _) ?_ | refine WL.bin rfl rfl rfl rfl (u_gt_f (by first | omega | (dsimp only; omega)) _ _ _) ?_ | refine WL.bin rfl rfl rfl rfl (u_gt_d _ _ _ _ _) ?_ | refine WL.skip _ rfl rfl rfl ?_
    first | refine WL.pick rfl rfl rfl rfl ?_
    refine WL.done ?_
    refine EW.on ?_
    refine EW.cond_t rfl ?_
    refine EW.region ?_
    first | refine WL.buildN [] rfl rfl rfl (bd30 _) ?_
    first | refine WL.field rfl rfl rfl (f33_12 q1 _) ?_
    obtain ⟨w_9, s_9, bb_9, fx_9⟩ := Sg.st_hl bb_7 k_7 Hl.z_ok
    refine WL.store rfl rfl rfl s_9 ?_
    have k_9 := k_7.s_hl Hl.z_ok
    have bq2_10 := bq2_8.fx fx_9 (by show ¬ _ = _; omega)
    have be_10 := bfx be_8 (by omega) fx_9
    refine WL.done ?_
    refine EW.on ?_
    refine EW.seq ?_
    refine EW.region ?_
    first | refine WL.load rfl rfl rfl (Sg.ld bb_9 k_9) ?_
    obtain ⟨w9, s9, b9, f9⟩ := Sg.st bq2_10 Sg.z_ok k_9
    refine WL.store rfl rfl rfl s9 ?_
    refine WL.done ?_
    refine EW.on ?_
    refine EW.ret ?_
    refine EW.returnsC Try.results21 rfl b9 Try.underlying33 rfl (by simpa using i33 k_9) ⟨?_, bfx be_10 (by omega) f9⟩
    refine congrArg (fun x => Ending.returned (Sg.v x)) ?_
    simp [cntD, hO, hO', hT, hT', hU]
  · have hO : ¬ s.own = 0 := by omega
    have hO' : s.own ≤ 1 := by omega
    have hT : s.turns = 0 := by omega
    have hT' : ¬ 0 < s.turns := by omega
    have hU : ¬ (s.own = 0 ∨ 0 < s.turns) := by omega
    refine EW.region ?_
    first | refine WL.field rfl rfl rfl (f33_6 q1 _) ?_
    first | refine WL.load rfl rfl rfl (Sg.ld_own bq1_0 k) ?_
    first | refine WL.bin rfl rfl rfl rfl (u_eq_t (by first | omega | (dsimp only; omega)) _ _ _) ?_ | refine WL.bin rfl rfl rfl rfl (u_eq_f (by first | omega | (dsimp only; omega)) _ _ _) ?_ | refine WL.bin rfl rfl rfl rfl (u_eq_d _ _ _ _ _) ?_
    refine WL.done ?_
    refine EW.on ?_
    refine EW.cond_f rfl ?_
    refine EW.skip ?_
    refine EW.on ?_
    refine EW.seq ?_
    refine EW.seq ?_
    refine EW.region ?_
    first | refine WL.field rfl rfl rfl (f33_6 q1 _) ?_
    first | refine WL.load rfl rfl rfl (Sg.ld_own bq1_0 k) ?_
    first | refine WL.bin rfl rfl rfl rfl (u_le_t (by first | omega | (dsimp only; omega)) _ _ _) ?_ | refine WL.bin rfl rfl rfl rfl (u_le_f (by first | omega | (dsimp only; omega)) _ _ _) ?_ | refine WL.bin rfl rfl rfl rfl (u_le_d _ _ _ _ _) ?_
    refine WL.done ?_
    refine EW.on ?_
    refine EW.cond_t rfl ?_
    refine EW.region ?_
    first | refine WL.field rfl rfl rfl (f33_10 q1 _) ?_
    obtain ⟨w_1, s_1, bb_1, fx_1⟩ := Sg.st_prev bq1_0 k 0
    refine WL.store rfl rfl rfl s_1 ?_
    have k_1 := k.s_prev (x := 0) (by decide)
    have bq2_2 := b2.fx fx_1 (by show ¬ _ = _; omega)
    have be_2 := bfx be_0 (by omega) fx_1
    refine WL.done ?_
    refine EW.on ?_
    refine EW.seq ?_
    refine EW.seq ?_
    refine EW.region ?_
    first | refine WL.field rfl rfl rfl (f33_7 q1 _) ?_
    first | refine WL.load rfl rfl rfl (Sg.ld_turns bb_1 k_1) ?_
    first | refine WL.bin rfl rfl rfl rfl (u_eq_t (by first | omega | (dsimp only; omega)) _ _ _) ?_ | refine WL.bin rfl rfl rfl rfl (u_eq_f (by first | omega | (dsimp only; omega)) _ _ _) ?_ | refine WL.bin rfl rfl rfl rfl (u_eq_d _ _ _ _ _) ?_
    refine WL.done ?_
    refine EW.on ?_
    refine EW.cond_t rfl ?_
    refine EW.seq ?_
    refine EW.region ?_
    first | refine WL.buildN [] rfl rfl rfl (bd25 _) ?_
    first | refine WL.field rfl rfl rfl (f33_5 q1 _) ?_
    obtain ⟨w_3, s_3, bb_3, fx_3⟩ := Sg.st_rk bb_1 k_1 (x := z32) rfl
    refine WL.store rfl rfl rfl s_3 ?_
    have k_3 := k_1.s_rk (x := z32) rfl
    have bq2_4 := bq2_2.fx fx_3 (by show ¬ _ = _; omega)
    have be_4 := bfx be_2 (by omega) fx_3
    refine WL.done ?_
    refine EW.on ?_
    refine EW.region ?_
    first | refine WL.field rfl rfl rfl (f33_9 q1 _) ?_
    obtain ⟨w_5, s_5, bb_5, fx_5⟩ := Sg.st_got bb_3 k_3 0
    refine WL.store rfl rfl rfl s_5 ?_
    have k_5 := k_3.s_got (x := 0) (by decide)
    have bq2_6 := bq2_4.fx fx_5 (by show ¬ _ = _; omega)
    have be_6 := bfx be_4 (by omega) fx_5
    refine WL.done ?_
    refine EW.on ?_
    refine EW.seq ?_
    refine EW.seq ?_
    refine EW.region ?_
    first | refine WL.field rfl rfl rfl (f33_6 q1 _) ?_
    first | refine WL.load rfl rfl rfl (Sg.ld_own bb_5 k_5) ?_
    first | refine WL.bin rfl rfl rfl rfl (u_eq_t (by first | omega | (dsimp only; omega)) _ _ _) ?_ | refine WL.bin rfl rfl rfl rfl (u_eq_f (by first | omega | (dsimp only; omega)) _ _ _) ?_ | refine WL.bin rfl rfl rfl rfl (u_eq_d _ _ _ _ _) ?_
    first | refine WL.move rfl rfl rfl ?_
    first | refine WL.field rfl rfl rfl (f33_7 q1 _) ?_ | refine WL.skip _ rfl rfl rfl ?_
    first | refine WL.load rfl rfl rfl (Sg.ld_turns bb_5 k_5) ?_ | refine WL.skip _ rfl rfl rfl ?_
    first | refine WL.bin rfl rfl rfl rfl (u_gt_t (by first | omega | (dsimp only; omega)) _ _ _) ?_ | refine WL.bin rfl rfl rfl rfl (u_gt_f (by first | omega | (dsimp only; omega)) _ _ _) ?_ | refine WL.bin rfl rfl rfl rfl (u_gt_d _ _ _ _ _) ?_ | refine WL.skip _ rfl rfl rfl ?_
    first | refine WL.pick rfl rfl rfl rfl ?_
    refine WL.done ?_
    refine EW.on ?_
    refine EW.cond_f rfl ?_
    refine EW.skip ?_
    refine EW.on ?_
    refine EW.seq ?_
    refine EW.region ?_
    first | refine WL.load rfl rfl rfl (Sg.ld bb_5 k_5) ?_
    obtain ⟨w9, s9, b9, f9⟩ := Sg.st bq2_6 Sg.z_ok k_5
    refine WL.store rfl rfl rfl s9 ?_
    refine WL.done ?_
    refine EW.on ?_
    refine EW.ret ?_
    refine EW.returnsC Try.results21 rfl b9 Try.underlying33 rfl (by simpa using i33 k_5) ⟨?_, bfx be_6 (by omega) f9⟩
    refine congrArg (fun x => Ending.returned (Sg.v x)) ?_
    simp [cntD, hO, hO', hT, hT', hU]
  · have hO : ¬ s.own = 0 := by omega
    have hO' : s.own ≤ 1 := by omega
    have hT : ¬ s.turns = 0 := by omega
    have hT' : 0 < s.turns := by omega
    have hU : (s.own = 0 ∨ 0 < s.turns) := by omega
    refine EW.region ?_
    first | refine WL.field rfl rfl rfl (f33_6 q1 _) ?_
    first | refine WL.load rfl rfl rfl (Sg.ld_own bq1_0 k) ?_
    first | refine WL.bin rfl rfl rfl rfl (u_eq_t (by first | omega | (dsimp only; omega)) _ _ _) ?_ | refine WL.bin rfl rfl rfl rfl (u_eq_f (by first | omega | (dsimp only; omega)) _ _ _) ?_ | refine WL.bin rfl rfl rfl rfl (u_eq_d _ _ _ _ _) ?_
    refine WL.done ?_
    refine EW.on ?_
    refine EW.cond_f rfl ?_
    refine EW.skip ?_
    refine EW.on ?_
    refine EW.seq ?_
    refine EW.seq ?_
    refine EW.region ?_
    first | refine WL.field rfl rfl rfl (f33_6 q1 _) ?_
    first | refine WL.load rfl rfl rfl (Sg.ld_own bq1_0 k) ?_
    first | refine WL.bin rfl rfl rfl rfl (u_le_t (by first | omega | (dsimp only; omega)) _ _ _) ?_ | refine WL.bin rfl rfl rfl rfl (u_le_f (by first | omega | (dsimp only; omega)) _ _ _) ?_ | refine WL.bin rfl rfl rfl rfl (u_le_d _ _ _ _ _) ?_
    refine WL.done ?_
    refine EW.on ?_
    refine EW.cond_t rfl ?_
    refine EW.region ?_
    first | refine WL.field rfl rfl rfl (f33_10 q1 _) ?_
    obtain ⟨w_1, s_1, bb_1, fx_1⟩ := Sg.st_prev bq1_0 k 0
    refine WL.store rfl rfl rfl s_1 ?_
    have k_1 := k.s_prev (x := 0) (by decide)
    have bq2_2 := b2.fx fx_1 (by show ¬ _ = _; omega)
    have be_2 := bfx be_0 (by omega) fx_1
    refine WL.done ?_
    refine EW.on ?_
    refine EW.seq ?_
    refine EW.seq ?_
    refine EW.region ?_
    first | refine WL.field rfl rfl rfl (f33_7 q1 _) ?_
    first | refine WL.load rfl rfl rfl (Sg.ld_turns bb_1 k_1) ?_
    first | refine WL.bin rfl rfl rfl rfl (u_eq_t (by first | omega | (dsimp only; omega)) _ _ _) ?_ | refine WL.bin rfl rfl rfl rfl (u_eq_f (by first | omega | (dsimp only; omega)) _ _ _) ?_ | refine WL.bin rfl rfl rfl rfl (u_eq_d _ _ _ _ _) ?_
    refine WL.done ?_
    refine EW.on ?_
    refine EW.cond_f rfl ?_
    refine EW.skip ?_
    refine EW.on ?_
    refine EW.seq ?_
    refine EW.seq ?_
    refine EW.region ?_
    first | refine WL.field rfl rfl rfl (f33_6 q1 _) ?_
    first | refine WL.load rfl rfl rfl (Sg.ld_own bb_1 k_1) ?_
    first | refine WL.bin rfl rfl rfl rfl (u_eq_t (by first | omega | (dsimp only; omega)) _ _ _) ?_ | refine WL.bin rfl rfl rfl rfl (u_eq_f (by first | omega | (dsimp only; omega)) _ _ _) ?_ | refine WL.bin rfl rfl rfl rfl (u_eq_d _ _ _ _ _) ?_
    first | refine WL.move rfl rfl rfl ?_
    first | refine WL.field rfl rfl rfl (f33_7 q1 _) ?_ | refine WL.skip _ rfl rfl rfl ?_
    first | refine WL.load rfl rfl rfl (Sg.ld_turns bb_1 k_1) ?_ | refine WL.skip _ rfl rfl rfl ?_
    first | refine WL.bin rfl rfl rfl rfl (u_gt_t (by first | omega | (dsimp only; omega)) _ _ _) ?_ | refine WL.bin rfl rfl rfl rfl (u_gt_f (by first | omega | (dsimp only; omega)) _ _ _) ?_ | refine WL.bin rfl rfl rfl rfl (u_gt_d _ _ _ _ _) ?_ | refine WL.skip _ rfl rfl rfl ?_
    first | refine WL.pick rfl rfl rfl rfl ?_
    refine WL.done ?_
    refine EW.on ?_
    refine EW.cond_t rfl ?_
    refine EW.region ?_
    first | refine WL.buildN [] rfl rfl rfl (bd30 _) ?_
    first | refine WL.field rfl rfl rfl (f33_12 q1 _) ?_
    obtain ⟨w_3, s_3, bb_3, fx_3⟩ := Sg.st_hl bb_1 k_1 Hl.z_ok
    refine WL.store rfl rfl rfl s_3 ?_
    have k_3 := k_1.s_hl Hl.z_ok
    have bq2_4 := bq2_2.fx fx_3 (by show ¬ _ = _; omega)
    have be_4 := bfx be_2 (by omega) fx_3
    refine WL.done ?_
    refine EW.on ?_
    refine EW.seq ?_
    refine EW.region ?_
    first | refine WL.load rfl rfl rfl (Sg.ld bb_3 k_3) ?_
    obtain ⟨w9, s9, b9, f9⟩ := Sg.st bq2_4 Sg.z_ok k_3
    refine WL.store rfl rfl rfl s9 ?_
    refine WL.done ?_
    refine EW.on ?_
    refine EW.ret ?_
    refine EW.returnsC Try.results21 rfl b9 Try.underlying33 rfl (by simpa using i33 k_3) ⟨?_, bfx be_4 (by omega) f9⟩
    refine congrArg (fun x => Ending.returned (Sg.v x)) ?_
    simp [cntD, hO, hO', hT, hT', hU]
  · have hO : ¬ s.own = 0 := by omega
    have hO' : ¬ s.own ≤ 1 := by omega
    have hT : s.turns = 0 := by omega
    have hT' : ¬ 0 < s.turns := by omega
    have hU : ¬ (s.own = 0 ∨ 0 < s.turns) := by omega
    refine EW.region ?_
    first | refine WL.field rfl rfl rfl (f33_6 q1 _) ?_
    first | refine WL.load rfl rfl rfl (Sg.ld_own bq1_0 k) ?_
    first | refine WL.bin rfl rfl rfl rfl (u_eq_t (by first | omega | (dsimp only; omega)) _ _ _) ?_ | refine WL.bin rfl rfl rfl rfl (u_eq_f (by first | omega | (dsimp only; omega)) _ _ _) ?_ | refine WL.bin rfl rfl rfl rfl (u_eq_d _ _ _ _ _) ?_
    refine WL.done ?_
    refine EW.on ?_
    refine EW.cond_f rfl ?_
    refine EW.skip ?_
    refine EW.on ?_
    refine EW.seq ?_
    refine EW.seq ?_
    refine EW.region ?_
    first | refine WL.field rfl rfl rfl (f33_6 q1 _) ?_
    first | refine WL.load rfl rfl rfl (Sg.ld_own bq1_0 k) ?_
    first | refine WL.bin rfl rfl rfl rfl (u_le_t (by first | omega | (dsimp only; omega)) _ _ _) ?_ | refine WL.bin rfl rfl rfl rfl (u_le_f (by first | omega | (dsimp only; omega)) _ _ _) ?_ | refine WL.bin rfl rfl rfl rfl (u_le_d _ _ _ _ _) ?_
    refine WL.done ?_
    refine EW.on ?_
    refine EW.cond_f rfl ?_
    refine EW.skip ?_
    refine EW.on ?_
    refine EW.seq ?_
    refine EW.seq ?_
    refine EW.region ?_
    first | refine WL.field rfl rfl rfl (f33_7 q1 _) ?_
    first | refine WL.load rfl rfl rfl (Sg.ld_turns bq1_0 k) ?_
    first | refine WL.bin rfl rfl rfl rfl (u_eq_t (by first | omega | (dsimp only; omega)) _ _ _) ?_ | refine WL.bin rfl rfl rfl rfl (u_eq_f (by first | omega | (dsimp only; omega)) _ _ _) ?_ | refine WL.bin rfl rfl rfl rfl (u_eq_d _ _ _ _ _) ?_
    refine WL.done ?_
    refine EW.on ?_
    refine EW.cond_t rfl ?_
    refine EW.seq ?_
    refine EW.region ?_
    first | refine WL.buildN [] rfl rfl rfl (bd25 _) ?_
    first | refine WL.field rfl rfl rfl (f33_5 q1 _) ?_
    obtain ⟨w_1, s_1, bb_1, fx_1⟩ := Sg.st_rk bq1_0 k (x := z32) rfl
    refine WL.store rfl rfl rfl s_1 ?_
    have k_1 := k.s_rk (x := z32) rfl
    have bq2_2 := b2.fx fx_1 (by show ¬ _ = _; omega)
    have be_2 := bfx be_0 (by omega) fx_1
    refine WL.done ?_
    refine EW.on ?_
    refine EW.region ?_
    first | refine WL.field rfl rfl rfl (f33_9 q1 _) ?_
    obtain ⟨w_3, s_3, bb_3, fx_3⟩ := Sg.st_got bb_1 k_1 0
    refine WL.store rfl rfl rfl s_3 ?_
    have k_3 := k_1.s_got (x := 0) (by decide)
    have bq2_4 := bq2_2.fx fx_3 (by show ¬ _ = _; omega)
    have be_4 := bfx be_2 (by omega) fx_3
    refine WL.done ?_
    refine EW.on ?_
    refine EW.seq ?_
    refine EW.seq ?_
    refine EW.region ?_
    first | refine WL.field rfl rfl rfl (f33_6 q1 _) ?_
    first | refine WL.load rfl rfl rfl (Sg.ld_own bb_3 k_3) ?_
    first | refine WL.bin rfl rfl rfl rfl (u_eq_t (by first | omega | (dsimp only; omega)) _ _ _) ?_ | refine WL.bin rfl rfl rfl rfl (u_eq_f (by first | omega | (dsimp only; omega)) _ _ _) ?_ | refine WL.bin rfl rfl rfl rfl (u_eq_d _ _ _ _ _) ?_
    first | refine WL.move rfl rfl rfl ?_
    first | refine WL.field rfl rfl rfl (f33_7 q1 _) ?_ | refine WL.skip _ rfl rfl rfl ?_
    first | refine WL.load rfl rfl rfl (Sg.ld_turns bb_3 k_3) ?_ | refine WL.skip _ rfl rfl rfl ?_
    first | refine WL.bin rfl rfl rfl rfl (u_gt_t (by first | omega | (dsimp only; omega)) _ _ _) ?_ | refine WL.bin rfl rfl rfl rfl (u_gt_f (by first | omega | (dsimp only; omega)) _ _ _) ?_ | refine WL.bin rfl rfl rfl rfl (u_gt_d _ _ _ _ _) ?_ | refine WL.skip _ rfl rfl rfl ?_
    first | refine WL.pick rfl rfl rfl rfl ?_
    refine WL.done ?_
    refine EW.on ?_
    refine EW.cond_f rfl ?_
    refine EW.skip ?_
    refine EW.on ?_
    refine EW.seq ?_
    refine EW.region ?_
    first | refine WL.load rfl rfl rfl (Sg.ld bb_3 k_3) ?_
    obtain ⟨w9, s9, b9, f9⟩ := Sg.st bq2_4 Sg.z_ok k_3
    refine WL.store rfl rfl rfl s9 ?_
    refine WL.done ?_
    refine EW.on ?_
    refine EW.ret ?_
    refine EW.returnsC Try.results21 rfl b9 Try.underlying33 rfl (by simpa using i33 k_3) ⟨?_, bfx be_4 (by omega) f9⟩
    refine congrArg (fun x => Ending.returned (Sg.v x)) ?_
    simp [cntD, hO, hO', hT, hT', hU]
  · have hO : ¬ s.own = 0 := by omega
    have hO' : ¬ s.own ≤ 1 := by omega
    have hT : ¬ s.turns = 0 := by omega
    have hT' : 0 < s.turns := by omega
    have hU : (s.own = 0 ∨ 0 < s.turns) := by omega
    refine EW.region ?_
    first | refine WL.field rfl rfl rfl (f33_6 q1 _) ?_
    first | refine WL.load rfl rfl rfl (Sg.ld_own bq1_0 k) ?_
    first | refine WL.bin rfl rfl rfl rfl (u_eq_t (by first | omega | (dsimp only; omega)) _ _ _) ?_ | refine WL.bin rfl rfl rfl rfl (u_eq_f (by first | omega | (dsimp only; omega)) _ _ _) ?_ | refine WL.bin rfl rfl rfl rfl (u_eq_d _ _ _ _ _) ?_
    refine WL.done ?_
    refine EW.on ?_
    refine EW.cond_f rfl ?_
    refine EW.skip ?_
    refine EW.on ?_
    refine EW.seq ?_
    refine EW.seq ?_
    refine EW.region ?_
    first | refine WL.field rfl rfl rfl (f33_6 q1 _) ?_
    first | refine WL.load rfl rfl rfl (Sg.ld_own bq1_0 k) ?_
    first | refine WL.bin rfl rfl rfl rfl (u_le_t (by first | omega | (dsimp only; omega)) _ _ _) ?_ | refine WL.bin rfl rfl rfl rfl (u_le_f (by first | omega | (dsimp only; omega)) _ _ _) ?_ | refine WL.bin rfl rfl rfl rfl (u_le_d _ _ _ _ _) ?_
    refine WL.done ?_
    refine EW.on ?_
    refine EW.cond_f rfl ?_
    refine EW.skip ?_
    refine EW.on ?_
    refine EW.seq ?_
    refine EW.seq ?_
    refine EW.region ?_
    first | refine WL.field rfl rfl rfl (f33_7 q1 _) ?_
    first | refine WL.load rfl rfl rfl (Sg.ld_turns bq1_0 k) ?_
    first | refine WL.bin rfl rfl rfl rfl (u_eq_t (by first | omega | (dsimp only; omega)) _ _ _) ?_ | refine WL.bin rfl rfl rfl rfl (u_eq_f (by first | omega | (dsimp only; omega)) _ _ _) ?_ | refine WL.bin rfl rfl rfl rfl (u_eq_d _ _ _ _ _) ?_
    refine WL.done ?_
    refine EW.on ?_
    refine EW.cond_f rfl ?_
    refine EW.skip ?_
    refine EW.on ?_
    refine EW.seq ?_
    refine EW.seq ?_
    refine EW.region ?_
    first | refine WL.field rfl rfl rfl (f33_6 q1 _) ?_
    first | refine WL.load rfl rfl rfl (Sg.ld_own bq1_0 k) ?_
    first | refine WL.bin rfl rfl rfl rfl (u_eq_t (by first | omega | (dsimp only; omega)) _ _ _) ?_ | refine WL.bin rfl rfl rfl rfl (u_eq_f (by first | omega | (dsimp only; omega)) _ _ _) ?_ | refine WL.bin rfl rfl rfl rfl (u_eq_d _ _ _ _ _) ?_
    first | refine WL.move rfl rfl rfl ?_
    first | refine WL.field rfl rfl rfl (f33_7 q1 _) ?_ | refine WL.skip _ rfl rfl rfl ?_
    first | refine WL.load rfl rfl rfl (Sg.ld_turns bq1_0 k) ?_ | refine WL.skip _ rfl rfl rfl ?_
    first | refine WL.bin rfl rfl rfl rfl (u_gt_t (by first | omega | (dsimp only; omega)) _ _ _) ?_ | refine WL.bin rfl rfl rfl rfl (u_gt_f (by first | omega | (dsimp only; omega)) _ _ _) ?_ | refine WL.bin rfl rfl rfl rfl (u_gt_d _ _ _ _ _) ?_ | refine WL.skip _ rfl rfl rfl ?_
    first | refine WL.pick rfl rfl rfl rfl ?_
    refine WL.done ?_
    refine EW.on ?_
    refine EW.cond_t rfl ?_
    refine EW.region ?_
    first | refine WL.buildN [] rfl rfl rfl (bd30 _) ?_
    first | refine WL.field rfl rfl rfl (f33_12 q1 _) ?_
    obtain ⟨w_1, s_1, bb_1, fx_1⟩ := Sg.st_hl bq1_0 k Hl.z_ok
    refine WL.store rfl rfl rfl s_1 ?_
    have k_1 := k.s_hl Hl.z_ok
    have bq2_2 := b2.fx fx_1 (by show ¬ _ = _; omega)
    have be_2 := bfx be_0 (by omega) fx_1
    refine WL.done ?_
    refine EW.on ?_
    refine EW.seq ?_
    refine EW.region ?_
    first | refine WL.load rfl rfl rfl (Sg.ld bb_1 k_1) ?_
    obtain ⟨w9, s9, b9, f9⟩ := Sg.st bq2_2 Sg.z_ok k_1
    refine WL.store rfl rfl rfl s9 ?_
    refine WL.done ?_
    refine EW.on ?_
    refine EW.ret ?_
    refine EW.returnsC Try.results21 rfl b9 Try.underlying33 rfl (by simpa using i33 k_1) ⟨?_, bfx be_2 (by omega) f9⟩
    refine congrArg (fun x => Ending.returned (Sg.v x)) ?_
    simp [cntD, hO, hO', hT, hT', hU]
end Go.Proofs.Ytacimelcmkhhlaa
