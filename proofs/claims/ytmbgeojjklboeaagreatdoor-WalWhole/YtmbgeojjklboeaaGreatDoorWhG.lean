import Derived.Test.YtmbgeojjklboeaaGreatDoorWfG
set_option linter.unusedVariables false
set_option linter.unusedSimpArgs false
namespace Go.Proofs.YtmbgeojjklboeaaGreatDoor
open Go.RowKit

/-- How many sectors so many pages want; how many pages so many sectors have room for. -/
def needD (n : Int) : Int := if n < 1 then 0 else if 250 < n then 0 else 4 * n + 1
def roomD (n : Int) : Int := if n < 5 then 0 else min ((n - 1).tdiv 4) 250
theorem int_quo4 {a c : Int} (h : IntKind.i64.wrap (a.tdiv 4) = c) (W : World) (x y : Operand) : (do eqGuard .quo 3 x y (.int .i64 a) (.int .i64 4); binOp .quo 3 (.int .i64 a) (.int .i64 4) : Sem Value).run Tryz.prog W = .ok (.int .i64 c) W := by go_simp
set_option maxRecDepth 100000 in
set_option maxHeartbeats 1000000 in
theorem need_any (n : Int) (w : World) : Calls Tryz.prog 10 #[.int .i64 n] w fun e w' => e = .returned (.int .i64 (needD n)) ∧ w' = w := by
  by_cases h1 : n < 1
  · have he : needD n = 0 := by unfold needD; rw [if_pos h1]
    refine calls_of_args [.int .i64 n] Tryz.func10 rfl 12 Tryz.ntmps10 (by show 1 ≤ 12; decide) ?_; refine EW.seq ?_; refine EW.region ?_; refine WL.assign rfl rfl rfl ?_; refine WL.done ?_; refine EW.on ?_; refine EW.seq ?_; refine EW.seq ?_; refine EW.region ?_; refine WL.move rfl rfl rfl ?_
    first | refine WL.bin rfl rfl rfl rfl (int_lt_t ‹_› _ _ _) ?_ | refine WL.bin rfl rfl rfl rfl (int_lt_f ‹_› _ _ _) ?_ | refine WL.bin rfl rfl rfl rfl (int_lt_d _ _ _ _ _) ?_
    refine WL.move rfl rfl rfl ?_
    first | refine WL.move rfl rfl rfl ?_ | refine WL.skip _ rfl rfl rfl ?_
    first | refine WL.bin rfl rfl rfl rfl (int_gt_t ‹_› _ _ _) ?_ | refine WL.bin rfl rfl rfl rfl (int_gt_f ‹_› _ _ _) ?_ | refine WL.bin rfl rfl rfl rfl (int_gt_d _ _ _ _ _) ?_ | refine WL.skip _ rfl rfl rfl ?_
    refine WL.pick rfl rfl rfl rfl ?_; refine WL.done ?_; refine EW.on ?_; refine EW.cond_t rfl ?_; refine EW.seq ?_; refine EW.region ?_; refine WL.assign rfl rfl rfl ?_; refine WL.done ?_; refine EW.on ?_; refine EW.ret ?_; refine pr_then ?_
    exact EW.returns Tryz.results10 rfl ⟨by rw [he], rfl⟩
  · by_cases h2 : 250 < n
    · have he : needD n = 0 := by unfold needD; rw [if_neg h1, if_pos h2]
      refine calls_of_args [.int .i64 n] Tryz.func10 rfl 12 Tryz.ntmps10 (by show 1 ≤ 12; decide) ?_; refine EW.seq ?_; refine EW.region ?_; refine WL.assign rfl rfl rfl ?_; refine WL.done ?_; refine EW.on ?_; refine EW.seq ?_; refine EW.seq ?_; refine EW.region ?_; refine WL.move rfl rfl rfl ?_
      first | refine WL.bin rfl rfl rfl rfl (int_lt_t ‹_› _ _ _) ?_ | refine WL.bin rfl rfl rfl rfl (int_lt_f ‹_› _ _ _) ?_ | refine WL.bin rfl rfl rfl rfl (int_lt_d _ _ _ _ _) ?_
      refine WL.move rfl rfl rfl ?_
      first | refine WL.move rfl rfl rfl ?_ | refine WL.skip _ rfl rfl rfl ?_
      first | refine WL.bin rfl rfl rfl rfl (int_gt_t ‹_› _ _ _) ?_ | refine WL.bin rfl rfl rfl rfl (int_gt_f ‹_› _ _ _) ?_ | refine WL.bin rfl rfl rfl rfl (int_gt_d _ _ _ _ _) ?_ | refine WL.skip _ rfl rfl rfl ?_
      refine WL.pick rfl rfl rfl rfl ?_; refine WL.done ?_; refine EW.on ?_; refine EW.cond_t rfl ?_; refine EW.seq ?_; refine EW.region ?_; refine WL.assign rfl rfl rfl ?_; refine WL.done ?_; refine EW.on ?_; refine EW.ret ?_; refine pr_then ?_
      exact EW.returns Tryz.results10 rfl ⟨by rw [he], rfl⟩
    · have he : needD n = 4 * n + 1 := by unfold needD; rw [if_neg h1, if_neg h2]
      have m10 : IntKind.i64.wrap (4 * n) = 4 * n := by rw [IntKind.wrap_i64]; omega
      have a11 : IntKind.i64.wrap (4 * n + 1) = 4 * n + 1 := by rw [IntKind.wrap_i64]; omega
      refine calls_of_args [.int .i64 n] Tryz.func10 rfl 12 Tryz.ntmps10 (by show 1 ≤ 12; decide) ?_; refine EW.seq ?_; refine EW.region ?_; refine WL.assign rfl rfl rfl ?_; refine WL.done ?_; refine EW.on ?_; refine EW.seq ?_; refine EW.seq ?_; refine EW.region ?_; refine WL.move rfl rfl rfl ?_
      first | refine WL.bin rfl rfl rfl rfl (int_lt_t ‹_› _ _ _) ?_ | refine WL.bin rfl rfl rfl rfl (int_lt_f ‹_› _ _ _) ?_ | refine WL.bin rfl rfl rfl rfl (int_lt_d _ _ _ _ _) ?_
      refine WL.move rfl rfl rfl ?_
      first | refine WL.move rfl rfl rfl ?_ | refine WL.skip _ rfl rfl rfl ?_
      first | refine WL.bin rfl rfl rfl rfl (int_gt_t ‹_› _ _ _) ?_ | refine WL.bin rfl rfl rfl rfl (int_gt_f ‹_› _ _ _) ?_ | refine WL.bin rfl rfl rfl rfl (int_gt_d _ _ _ _ _) ?_ | refine WL.skip _ rfl rfl rfl ?_
      refine WL.pick rfl rfl rfl rfl ?_; refine WL.done ?_; refine EW.on ?_; refine EW.cond_f rfl ?_; refine EW.skip ?_; refine EW.on ?_; refine EW.seq ?_; refine EW.region ?_; refine WL.move rfl rfl rfl ?_; refine WL.bin rfl rfl rfl rfl (int_mul m10 _ _ _) ?_; refine WL.bin rfl rfl rfl rfl (int_add a11 _ _ _) ?_; refine WL.assign rfl rfl rfl ?_; refine WL.done ?_; refine EW.on ?_; refine EW.ret ?_
      exact EW.returns Tryz.results10 rfl ⟨by rw [he], rfl⟩
theorem WL.min {P : Program} {n : Fm} {ops : Array Oper} {Q : Exit → Act → World → Prop} {i : Nat} {ty : TypeId} {ps : String} {af : Array Edge} {gd : Option (Nat × Bool)} {r : List Oper} {e : List (Nat × Value)} {w : World} {x y : Operand} {ts : Array TypeId} {u u' v : Value} (hw : wantE ops e ⟨some i, .call { callee := .builtin .min, args := #[x, y], argTypes := ts }, ty, ps, af, gd⟩ = some true) (hi : decide (i < n.k) = true) (hx : evE e x = some u) (hy : evE e y = some u') (hr : (Builtin.min_ ts ty #[u, u']).run P w = .ok v w) (k : WL P n ops Q r ((i, v) :: e) w) : WL P n ops Q (⟨some i, .call { callee := .builtin .min, args := #[x, y], argTypes := ts }, ty, ps, af, gd⟩ :: r) e w :=
  WL.op i v hw rfl hi (fun a ha => by simp [execOp, resolve, invoke, builtin, ha.ev hx, ha.ev hy, hr, Result.andThen]) k
theorem min_i (a b : Int) (ty : TypeId) (W : World) : (Builtin.min_ #[3, 3] ty #[.int .i64 a, .int .i64 b]).run Tryz.prog W = .ok (.int .i64 (min a b)) W := by
  by_cases h : a ≤ b
  · have h' : ¬ b < a := by omega
    rw [Int.min_eq_left h]
    go_simp
  · have h' : b < a := by omega
    rw [Int.min_eq_right (by omega)]
    go_simp
theorem quo_bd (n : Int) (h5 : ¬ n < 5) (hn : n < 9223372036854775808) : IntKind.i64.wrap (n - 1) = n - 1 ∧ IntKind.i64.wrap ((n - 1).tdiv 4) = (n - 1).tdiv 4 := by
  have e : (n - 1).tdiv 4 = (n - 1) / 4 := Int.tdiv_eq_ediv_of_nonneg (by omega)
  rw [e]
  constructor <;> (rw [IntKind.wrap_i64]; omega)
set_option maxRecDepth 100000 in
set_option maxHeartbeats 1000000 in
theorem room_any (n : Int) (hn : n < 9223372036854775808) (w : World) : Calls Tryz.prog 55 #[.int .i64 n] w fun e w' => e = .returned (.int .i64 (roomD n)) ∧ w' = w := by
  by_cases h1 : n < 5
  · have he : roomD n = 0 := by unfold roomD; rw [if_pos h1]
    refine calls_of_args [.int .i64 n] Tryz.func55 rfl 10 Tryz.ntmps55 (by show 1 ≤ 10; decide) ?_; refine EW.seq ?_; refine EW.region ?_; refine WL.assign rfl rfl rfl ?_; refine WL.done ?_; refine EW.on ?_; refine EW.seq ?_; refine EW.seq ?_; refine EW.region ?_; refine WL.move rfl rfl rfl ?_; refine WL.call [.int .i64 1] enter10 rfl rfl rfl (need_any 1 _) ?_
    rintro _ w1 ⟨rfl, hz1⟩
    rw [hz1, show needD 1 = 5 by decide]
    refine ⟨_, rfl, ?_⟩
    first | refine WL.bin rfl rfl rfl rfl (int_lt_t ‹_› _ _ _) ?_ | refine WL.bin rfl rfl rfl rfl (int_lt_f ‹_› _ _ _) ?_ | refine WL.bin rfl rfl rfl rfl (int_lt_d _ _ _ _ _) ?_
    refine WL.done ?_; refine EW.on ?_; refine EW.cond_t rfl ?_; refine EW.seq ?_; refine EW.region ?_; refine WL.assign rfl rfl rfl ?_; refine WL.done ?_; refine EW.on ?_; refine EW.ret ?_; refine pr_then ?_
    exact EW.returns Tryz.results55 rfl ⟨by rw [he], rfl⟩
  · have hq := quo_bd n h1 hn
    have he : roomD n = min ((n - 1).tdiv 4) 250 := by unfold roomD; rw [if_neg h1]
    refine calls_of_args [.int .i64 n] Tryz.func55 rfl 10 Tryz.ntmps55 (by show 1 ≤ 10; decide) ?_; refine EW.seq ?_; refine EW.region ?_; refine WL.assign rfl rfl rfl ?_; refine WL.done ?_; refine EW.on ?_; refine EW.seq ?_; refine EW.seq ?_; refine EW.region ?_; refine WL.move rfl rfl rfl ?_; refine WL.call [.int .i64 1] enter10 rfl rfl rfl (need_any 1 _) ?_
    rintro _ w1 ⟨rfl, hz1⟩
    rw [hz1, show needD 1 = 5 by decide]
    refine ⟨_, rfl, ?_⟩
    first | refine WL.bin rfl rfl rfl rfl (int_lt_t ‹_› _ _ _) ?_ | refine WL.bin rfl rfl rfl rfl (int_lt_f ‹_› _ _ _) ?_ | refine WL.bin rfl rfl rfl rfl (int_lt_d _ _ _ _ _) ?_
    refine WL.done ?_; refine EW.on ?_; refine EW.cond_f rfl ?_; refine EW.skip ?_; refine EW.on ?_; refine EW.seq ?_; refine EW.region ?_; refine WL.move rfl rfl rfl ?_; refine WL.bin rfl rfl rfl rfl (int_sub hq.1 _ _ _) ?_; refine WL.bin rfl rfl rfl rfl (int_quo4 hq.2 _ _ _) ?_; refine WL.min rfl rfl rfl rfl (min_i _ _ _ _) ?_; refine WL.assign rfl rfl rfl ?_; refine WL.done ?_; refine EW.on ?_; refine EW.ret ?_
    exact EW.returns Tryz.results55 rfl ⟨by rw [he], rfl⟩
end Go.Proofs.YtmbgeojjklboeaaGreatDoor

set_option linter.unusedVariables false
set_option linter.unusedSimpArgs false
namespace Go.Proofs.YtmbgeojjklboeaaGreatDoor
open Go.RowKit

theorem WL.mki {P : Program} {n : Fm} {ops : Array Oper} {Q : Exit → Act → World → Prop} {i : Nat} {ty : TypeId} {ps : String} {af : Array Edge} {gd : Option (Nat × Bool)} {r : List Oper} {e : List (Nat × Value)} {w : World} {t : TypeId} {x : Operand} {u v : Value} (hw : wantE ops e ⟨some i, .makeInterface t x, ty, ps, af, gd⟩ = some true) (hi : decide (i < n.k) = true) (hx : evE e x = some u) (hr : (Instr.makeInterface t u).run P w = .ok v w) (k : WL P n ops Q r ((i, v) :: e) w) : WL P n ops Q (⟨some i, .makeInterface t x, ty, ps, af, gd⟩ :: r) e w :=
  WL.op i v hw rfl hi (fun a ha => by simp [execOp, ha.ev hx, hr, Result.andThen]) k
theorem WL.tas {P : Program} {n : Fm} {ops : Array Oper} {Q : Exit → Act → World → Prop} {i : Nat} {ty : TypeId} {ps : String} {af : Array Edge} {gd : Option (Nat × Bool)} {r : List Oper} {e : List (Nat × Value)} {w : World} {t t' : TypeId} {b : Bool} {x : Operand} {u v : Value} (hw : wantE ops e ⟨some i, .typeAssert x t t' b, ty, ps, af, gd⟩ = some true) (hi : decide (i < n.k) = true) (hx : evE e x = some u) (hr : (Instr.typeAssert u t t' b).run P w = .ok v w) (k : WL P n ops Q r ((i, v) :: e) w) : WL P n ops Q (⟨some i, .typeAssert x t t' b, ty, ps, af, gd⟩ :: r) e w :=
  WL.op i v hw rfl hi (fun a ha => by simp [execOp, ha.ev hx, hr, Result.andThen]) k
theorem WL.mkf {P : Program} {n : Fm} {ops : Array Oper} {Q : Exit → Act → World → Prop} {i : Nat} {ty : TypeId} {ps : String} {af : Array Edge} {gd : Option (Nat × Bool)} {r : List Oper} {e : List (Nat × Value)} {w : World} {g : FuncId} {xs : List Operand} (vs : List Value) (hw : wantE ops e ⟨some i, .makeFunc (.func g) #[] xs.toArray, ty, ps, af, gd⟩ = some true) (hi : decide (i < n.k) = true) (hx : xs.map (evE e) = vs.map some) (k : WL P n ops Q r ((i, .func (.func g) #[] vs.toArray) :: e) w) : WL P n ops Q (⟨some i, .makeFunc (.func g) #[] xs.toArray, ty, ps, af, gd⟩ :: r) e w :=
  WL.op i _ hw rfl hi (fun a ha => by
    have e2 := args_ev ha hx
    simp only [execOp, Instr.makeFunc, List.map_toArray, Act.eval] at *
    rw [e2]
    rfl) k
/-- What a call gives up with. -/
def surV (c : Int) : Value := .iface 108 (.agg #[.int .i64 c])
theorem bld94 (c : Int) (W : World) : (Instr.build 108 [(0, .int .i64 c)].toArray).run Tryz.prog W = .ok (.agg #[.int .i64 c]) W := by kernel_rfl
theorem mki94 (v : Value) (W : World) : (Instr.makeInterface 108 v).run Tryz.prog W = .ok (.iface 108 v) W := by simp [Instr.makeInterface, run_underlying Tryz.underlying108]
theorem mki45 (v : Value) (W : World) : (Instr.makeInterface 41 v).run Tryz.prog W = .ok (.iface 41 v) W := by simp [Instr.makeInterface, run_underlying Tryz.underlying41]
theorem mki79 (v : Value) (W : World) : (Instr.makeInterface 109 v).run Tryz.prog W = .ok (.iface 109 v) W := by simp [Instr.makeInterface, run_underlying Tryz.underlying109]
set_option maxRecDepth 100000 in
set_option maxHeartbeats 1000000 in
theorem wgiveUp_any (c : Int) (w : World) : Calls Tryz.prog 35 #[.int .i64 c] w fun e w' => e = .panicked [{ v := surV c, recovered := false }] ∧ w' = w := by
  refine calls_of_args [.int .i64 c] Tryz.func35 rfl 5 Tryz.ntmps35 (by show 1 ≤ 5; decide) ?_; refine EW.region ?_; refine WL.move rfl rfl rfl ?_; refine WL.build1 rfl rfl rfl (bld94 _ _) ?_; refine WL.mki rfl rfl rfl (mki94 _ _) ?_; refine WL.panic rfl rfl ?_
  exact pp_post ⟨rfl, rfl⟩
def fltC (s : ByteArray) (at_ c : Int) : List Value := [.string s, .int .i64 at_, .iface 41 (.int .i64 c)]
/-- A fault lies there. -/
def Flt (w : World) (v : Value) (s : ByteArray) (at_ c : Int) : Prop := ∃ q, v = .iface 109 (.pointer (some ⟨q, 0, none⟩)) ∧ Blk w q (fltC s at_ c) 111
theorem bld81 (s : ByteArray) (a c : Int) (W : World) : (Instr.build 111 [(0, .string s), (1, .int .i64 a), (2, .iface 41 (.int .i64 c))].toArray).run Tryz.prog W = .ok (.agg (fltC s a c).toArray) W := by kernel_rfl
set_option maxRecDepth 100000 in
set_option maxHeartbeats 1000000 in
theorem wfault_any (s : ByteArray) (a c : Int) (w : World) : Calls Tryz.prog 30 #[.string s, .int .i64 a, .int .i64 c] w fun e w' => ∃ v, e = .returned v ∧ Flt w' v s a c ∧ Below w.heap.size w w' ∧ v = .iface 109 (.pointer (some ⟨w.heap.size, 0, none⟩)) := by
  refine calls_of_args [.string s, .int .i64 a, .int .i64 c] Tryz.func30 rfl 14 Tryz.ntmps30 (by show 3 ≤ 14; decide) ?_; refine EW.seq ?_; refine EW.region ?_; refine WL.assign rfl rfl rfl ?_; refine WL.done ?_; refine EW.on ?_; refine EW.seq ?_; refine EW.region ?_; refine WL.move rfl rfl rfl ?_; refine WL.move rfl rfl rfl ?_; refine WL.move rfl rfl rfl ?_; refine WL.mki rfl rfl rfl (mki45 _ _) ?_; refine WL.buildN [(0, .string s), (1, .int .i64 a), (2, .iface 41 (.int .i64 c))] rfl rfl rfl (bld81 _ _ _ _) ?_; refine WL.box rfl rfl rfl (run_boxR 111 _ w _ rfl) ?_; refine WL.mki rfl rfl rfl (mki79 _ _) ?_; refine WL.assign rfl rfl rfl ?_; refine WL.done ?_; refine EW.on ?_; refine EW.ret ?_
  exact EW.returns Tryz.results30 rfl ⟨_, rfl, ⟨_, rfl, Blk.new _ _ _⟩, below_new _ _, rfl⟩
theorem eq20s (c : Int) (W : World) (x : Operand) : (do eqGuard .eql 20 x (.const .nilIface) (surV c) .nilIface; binOp .eql 20 (surV c) .nilIface : Sem Value).run Tryz.prog W = .ok (.bool false) W := by
  have h : eqGuard .eql 20 x (.const .nilIface) (surV c) .nilIface = pure () := by
    unfold eqGuard surV
    cases x <;> rfl
  rw [h]
  unfold surV
  go_simp
theorem tas94 (c : Int) (W : World) : (Instr.typeAssert (surV c) 20 108 true).run Tryz.prog W = .ok (.tuple #[.agg #[.int .i64 c], .bool true]) W := by
  simp [Instr.typeAssert, surV, run_underlying Tryz.underlying108]
theorem new94 (w : World) : (Instr.alloc 108 true (.tuple #[])).run Tryz.prog w = .ok (.pointer (some ⟨w.heap.size, 0, none⟩)) (w.alloc (.cells [Value.int .i64 0].toArray 108)) := run_newR 108 [.int .i64 0] (fun w => by rw [Tryz.zeroValue108]) w _ rfl
theorem st94 {w : World} {q : Nat} {c0 : Int} (c : Int) (hb : Blk w q [.int .i64 c0] 108) : ∃ w', (Instr.storeAt 108 (.pointer (some ⟨q, 0, none⟩)) (.agg #[.int .i64 c])).run Tryz.prog w = .ok () w' ∧ Blk w' q [.int .i64 c] 108 ∧ Fx (fun k => k = q) w w' :=
  ⟨_, run_storeR (cs := [.int .i64 c]) hb (by kernel_rfl) rfl (all_oneCell_toArray fun v hv => by simp only [List.mem_cons, List.not_mem_nil, or_false] at hv; rw [hv]; rfl), hb.setRow _, by
    refine ⟨rfl, rfl, rfl, by simp [World.setRow], fun k hk hn => ?_⟩
    simp only [World.setRow]
    rw [Array.getElem?_modify]
    rw [if_neg (fun e => hn e.symm)]⟩
theorem fld94 (q : Nat) (W : World) : (Instr.fieldAt 108 (.pointer (some ⟨q, 0, none⟩)) 0).run Tryz.prog W = .ok (.pointer (some ⟨q, 0, none⟩)) W := by go_simp
theorem ld45 {W : World} {q : Nat} {c : Int} (hb : Blk W q [.int .i64 c] 108) : (Instr.loadAt 41 (.pointer (some ⟨q, 0, none⟩))).run Tryz.prog W = .ok (.int .i64 c) W := by
  have hc : W.cell? ⟨q, 0, none⟩ = some (.int .i64 c) := hb.cell 0
  have hf := hb.frozen 0
  go_simp
set_option maxRecDepth 100000 in
set_option maxHeartbeats 1000000 in
theorem caught_some (c : Int) (w : World) : Calls Tryz.prog 29 #[surV c] w fun e w' => e = .returned (.int .i64 c) ∧ Below w.heap.size w w' := by
  refine calls_of_args [surV c] Tryz.func29 rfl 13 Tryz.ntmps29 (by show 1 ≤ 13; decide) ?_; refine EW.seq ?_; refine EW.region ?_; refine WL.assign rfl rfl rfl ?_; refine WL.done ?_; refine EW.on ?_; refine EW.seq ?_; refine EW.seq ?_; refine EW.region ?_; refine WL.move rfl rfl rfl ?_; refine WL.done ?_; refine EW.on ?_; refine EW.block ?_; refine EW.seq ?_; refine EW.region ?_; refine WL.bin rfl rfl rfl rfl (eq20s _ _ _) ?_; refine WL.done ?_; refine EW.on ?_; refine EW.cond_f rfl ?_; refine EW.seq ?_; refine EW.region ?_; refine WL.tas rfl rfl rfl (tas94 _ _) ?_; refine WL.extract rfl rfl rfl (ext_2 _ _ _).2 ?_; refine WL.extract rfl rfl rfl (ext_2 _ _ _).1 ?_; refine WL.done ?_; refine EW.on ?_; refine EW.cond_t rfl ?_; refine EW.seq ?_; refine EW.region ?_; refine WL.new rfl rfl (new94 w) ?_
  obtain ⟨w2, s2, b2, x2⟩ := st94 c (Blk.new w [.int .i64 0] 108)
  refine WL.store rfl rfl rfl s2 ?_; refine WL.done ?_; refine EW.on ?_; refine EW.seq ?_; refine EW.region ?_; refine WL.field rfl rfl rfl (fld94 _ _) ?_; refine WL.load rfl rfl rfl (ld45 b2) ?_; refine WL.assign rfl rfl rfl ?_; refine WL.done ?_; refine EW.on ?_; refine EW.ret ?_; refine pr_block ?_; refine pr_then ?_
  exact EW.returns Tryz.results29 rfl ⟨rfl, (below_new _ _).trans (x2.below (fun k hk e => by omega) (below_new w _).size)⟩
end Go.Proofs.YtmbgeojjklboeaaGreatDoor
