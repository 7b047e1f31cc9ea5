import Derived.Test.YtomioemhjhhbcaaGreatDoorZwG
set_option linter.unusedVariables false
set_option linter.unusedSimpArgs false
namespace Go.Proofs.YtomioemhjhhbcaaGreatDoor
open Go.RowKit

theorem eqif (t : TypeId) (v : Value) (W : World) (x : Operand) : (do eqGuard .eql 46 x (.const .nilIface) (.iface t v) .nilIface; binOp .eql 46 (.iface t v) .nilIface : Sem Value).run Tryz.prog W = .ok (.bool false) W := by
  have h : eqGuard .eql 46 x (.const .nilIface) (.iface t v) .nilIface = pure () := by
    unfold eqGuard
    cases x <;> simp
  rw [h]
  go_simp
theorem eqif20 (t : TypeId) (v : Value) (W : World) (x : Operand) : (do eqGuard .eql 20 x (.const .nilIface) (.iface t v) .nilIface; binOp .eql 20 (.iface t v) .nilIface : Sem Value).run Tryz.prog W = .ok (.bool false) W := by
  have h : eqGuard .eql 20 x (.const .nilIface) (.iface t v) .nilIface = pure () := by
    unfold eqGuard
    cases x <;> simp
  rw [h]
  go_simp
def rvC (t : Nat) (a : Addr) (f : Int) : List Value := [hdl t, .pointer (some a), .int .u64 f]
theorem i120 (t : Nat) (a : Addr) (f : Int) : (Tryz.prog.info? 120).map (·.size) = some (rvC t a f).length := by show _ = some 3; kernel_rfl
theorem ld120 {W : World} {q t : Nat} {a : Addr} {f : Int} {ty : TypeId} (hb : Blk W q (rvC t a f) ty) : (Instr.loadAt 120 (.pointer (some ⟨q, 0, none⟩))).run Tryz.prog W = .ok (rvl t a f) W :=
  run_loadR hb Tryz.underlying120 rfl (i120 t a f)
theorem box120 (t : Nat) (a : Addr) (f : Int) (w : World) : ∃ w1 q, (Instr.box 120 (rvl t a f)).run Tryz.prog w = .ok (.pointer (some ⟨q, 0, none⟩)) w1 ∧ Blk w1 q (rvC t a f) 120 ∧ Below w.heap.size w w1 ∧ q = w.heap.size :=
  ⟨_, _, run_boxR 120 (rvC t a f) w _ rfl, Blk.new _ _ _, below_new _ _, rfl⟩
theorem var120 (t : Nat) (a : Addr) (f : Int) (w : World) : ∃ w1 w2 q, (Instr.alloc 120 true (.tuple #[])).run Tryz.prog w = .ok (.pointer (some ⟨q, 0, none⟩)) w1 ∧ (Instr.storeAt 120 (.pointer (some ⟨q, 0, none⟩)) (rvl t a f)).run Tryz.prog w1 = .ok () w2 ∧ Blk w2 q (rvC t a f) 120 ∧ Below w.heap.size w w2 := by
  have r1 := run_newR (P := Tryz.prog) 120 [.pointer none, .pointer none, .int .u64 0] (fun w => by rw [Tryz.zeroValue120]) w _ rfl
  have b1 := Blk.new w [.pointer none, .pointer none, .int .u64 0] 120
  refine ⟨_, _, _, r1, run_storeR b1 (i120 t a f) rfl (by simp [rvC, hdl, Value.oneCell']), b1.setRow _, ?_⟩
  refine (below_new w _).trans ⟨rfl, rfl, rfl, ?_, fun k hk => setRow_other _ _ k _ (by omega)⟩
  rw [setRow_size]; exact Nat.le_refl _
theorem ld123 {W : World} {v : Value} (hg : W.cell? ⟨0, 0, none⟩ = some v) : (Instr.loadAt 123 (.pointer (some ⟨0, 0, none⟩))).run Tryz.prog W = .ok v W := by
  go_simp
def asV (qf : Nat) (c : Int) (x : Bool) : Value := if x then .iface 49 (.int .i64 c) else .iface 53 (.pointer (some ⟨qf, 0, none⟩))
def asE (qf : Nat) (c : Int) (tv : Value) (q6 : Nat) (x : Bool) : List (Nat × Value) := [(0, asV qf c x), (1, tv), (3, rty 49), (6, .pointer (some ⟨q6, 0, none⟩))]
set_option maxRecDepth 100000 in
set_option maxHeartbeats 1000000 in
theorem as_any {w : World} {qf qt : Nat} {s : ByteArray} {a c : Int} {old : Value} {a0 : Addr} (tv : Value) (hb : Blk w qf (fltC s a c) 55) (ht : Blk w qt [old] 49) (ha : w.cell? a0 = some (.pointer (some ⟨qt, 0, none⟩))) : Calls Tryz.prog 67 #[.iface 53 (.pointer (some ⟨qf, 0, none⟩)), tv, rvl 94 a0 150, rty 49] w fun e w' => e = .returned (.bool true) ∧ Blk w' qt [.int .i64 c] 49 ∧ Fx (fun k => k = qt) w w' := by
  obtain ⟨w1, q6, r1, b1, l1, hq6⟩ := box120 94 a0 150 w
  have bf := hb.on l1
  have ht1 := ht.on l1
  have ha1 : w1.cell? a0 = some (.pointer (some ⟨qt, 0, none⟩)) := (l1.cell (cell_lt ha)).trans ha
  have l2 := below_new w1 (.cells #[.int .i64 c] 49)
  have bn := Blk.new w1 [.int .i64 c] 49
  have bt2 := ht1.on l2
  refine calls_of_args [.iface 53 (.pointer (some ⟨qf, 0, none⟩)), tv, rvl 94 a0 150, rty 49] Tryz.func67 rfl 62 Tryz.ntmps67 (by show 4 ≤ 62; decide) ?_
  refine EW.seq ?_
  refine EW.region ?_
  refine WL.box rfl rfl rfl r1 ?_
  first | refine WL.assign rfl rfl rfl ?_
  refine WL.done ?_
  refine EW.on ?_
  refine EW.block ?_
  refine EW.loop (asE qf c tv q6) (fun _ W => W = w1) (fun x => if x then 0 else 1) false [0, 1, 3, 6] rfl rfl ?_
  rintro x wi hwi
  rw [hwi]
  refine EW.block ?_
  refine EW.seq ?_
  refine EW.seq ?_
  rcases x with _ | _
  · show EW _ _ _ _ [(0, .iface 53 (.pointer (some ⟨qf, 0, none⟩))), (1, tv), (3, rty 49), (6, .pointer (some ⟨q6, 0, none⟩))] _
    refine EW.region ?_
    first | refine WL.move rfl rfl rfl ?_
    refine WL.callX [.iface 53 (.pointer (some ⟨qf, 0, none⟩))] rfl rfl rfl (to53 _ _) ?_
    first | refine WL.move rfl rfl rfl ?_
    refine WL.inv [rty 49] rfl rfl rfl rfl (at53 _) ?_
    refine WL.done ?_
    refine EW.on ?_
    refine EW.cond_f rfl ?_
    refine EW.skip ?_
    refine EW.on ?_
    refine EW.seq ?_
    refine EW.seq ?_
    refine EW.region ?_
    first | refine WL.move rfl rfl rfl ?_
    refine WL.tas rfl rfl rfl (as147 _ _) ?_
    first | refine WL.move rfl rfl rfl ?_
    first | refine WL.extract rfl rfl rfl (ext_2 _ _ _).1 ?_
    first | refine WL.extract rfl rfl rfl (ext_2 _ _ _).2 ?_
    first | refine WL.assign rfl rfl rfl ?_
    first | refine WL.assign rfl rfl rfl ?_
    refine WL.done ?_
    refine EW.on ?_
    refine EW.seq ?_
    refine EW.region ?_
    first | refine WL.move rfl rfl rfl ?_
    first | refine WL.move rfl rfl rfl ?_
    refine WL.skip _ rfl rfl rfl ?_
    refine WL.skip _ rfl rfl rfl ?_
    refine WL.skip _ rfl rfl rfl ?_
    first | refine WL.pick rfl rfl rfl rfl ?_
    refine WL.done ?_
    refine EW.on ?_
    refine EW.cond_f rfl ?_
    refine EW.skip ?_
    refine EW.on ?_
    refine EW.seq ?_
    refine EW.region ?_
    first | refine WL.move rfl rfl rfl ?_
    refine WL.done ?_
    refine EW.on ?_
    refine EW.block ?_
    refine EW.seq ?_
    refine EW.region ?_
    refine WL.tas rfl rfl rfl (as150 _ _) ?_
    first | refine WL.extract rfl rfl rfl (ext_2 _ _ _).2 ?_
    first | refine WL.extract rfl rfl rfl (ext_2 _ _ _).1 ?_
    refine WL.done ?_
    refine EW.on ?_
    refine EW.cond_t rfl ?_
    refine EW.seq ?_
    refine EW.region ?_
    first | refine WL.assign rfl rfl rfl ?_
    refine WL.done ?_
    refine EW.on ?_
    refine EW.seq ?_
    refine EW.region ?_
    first | refine WL.move rfl rfl rfl ?_
    refine WL.invE rfl rfl rfl (un53 _ _) (unwrap_any bf) ?_
    rintro _ wu ⟨rfl, hz⟩
    rw [hz]
    refine ⟨_, rfl, ?_⟩
    first | refine WL.assign rfl rfl rfl ?_
    refine WL.done ?_
    refine EW.on ?_
    refine EW.seq ?_
    refine EW.region ?_
    first | refine WL.move rfl rfl rfl ?_
    refine WL.bin rfl rfl rfl rfl (eqif _ _ _ _) ?_
    refine WL.done ?_
    refine EW.on ?_
    refine EW.cond_f rfl ?_
    refine EW.skip ?_
    refine pn_block ?_
    refine pn_block ?_
    exact EW.again (E := asE qf c tv q6) (R := fun _ W => W = w1) (m := fun x => if x then 0 else 1) (x := false) true [0, 1, 3, 6] rfl rfl (by decide)
  · show EW _ _ _ _ [(0, .iface 49 (.int .i64 c)), (1, tv), (3, rty 49), (6, .pointer (some ⟨q6, 0, none⟩))] _
    refine EW.region ?_
    first | refine WL.move rfl rfl rfl ?_
    refine WL.callX [.iface 49 (.int .i64 c)] rfl rfl rfl (to49 _ _) ?_
    first | refine WL.move rfl rfl rfl ?_
    refine WL.inv [rty 49] rfl rfl rfl rfl (at49 _) ?_
    refine WL.done ?_
    refine EW.on ?_
    refine EW.cond_t rfl ?_
    refine EW.seq ?_
    refine EW.region ?_
    refine WL.load rfl rfl rfl (ld120 b1) ?_
    refine WL.callX [rvl 94 a0 150] rfl rfl rfl (elemV94 a0 ⟨qt, 0, none⟩ w1 ha1) ?_
    first | refine WL.move rfl rfl rfl ?_
    refine WL.callX [.iface 49 (.int .i64 c)] rfl rfl rfl (vo49 c w1) ?_
    refine WL.callX [.agg #[.pointer (some ⟨1, 49, none⟩), .pointer (some ⟨qt, 0, none⟩), .int .u64 386], .agg #[.pointer (some ⟨1, 49, none⟩), .pointer (some ⟨w1.heap.size, 0, none⟩), .int .u64 130]] rfl rfl rfl (set49 ⟨qt, 0, none⟩ ⟨w1.heap.size, 0, none⟩ c old _ (bn.cell 0) (bt2.cell 0) (bt2.frozen 0)) ?_
    refine WL.done ?_
    refine EW.on ?_
    refine EW.seq ?_
    refine EW.region ?_
    first | refine WL.assign rfl rfl rfl ?_
    refine WL.done ?_
    refine EW.on ?_
    refine EW.ret ?_
    refine pr_then ?_
    refine pr_block ?_
    refine pr_then ?_
    refine pr_block ?_
    exact EW.returns Tryz.results67 rfl ⟨rfl, bt2.set 0 _, ((Fx.of_below l1).then_below l2).and (Fx.setCell _ _ _ _ rfl)⟩
end Go.Proofs.YtomioemhjhhbcaaGreatDoor

set_option linter.unusedVariables false
set_option linter.unusedSimpArgs false
namespace Go.Proofs.YtomioemhjhhbcaaGreatDoor
open Go.RowKit

theorem ne125 (a b : Int) (h : Bool) (hab : decide (¬ a = b) = h) (W : World) (x y : Operand) : (do eqGuard .neq 125 x y (.int .u8 a) (.int .u8 b); binOp .neq 125 (.int .u8 a) (.int .u8 b) : Sem Value).run Tryz.prog W = .ok (.bool h) W := by
  subst hab
  by_cases e : a = b
  · subst e
    go_simp
  · go_simp

theorem new49 (w : World) : ∃ w1 q, (Instr.alloc 49 true (.tuple #[])).run Tryz.prog w = .ok (.pointer (some ⟨q, 0, none⟩)) w1 ∧ Blk w1 q [.int .i64 0] 49 ∧ Below w.heap.size w w1 ∧ q = w.heap.size := by
  refine ⟨w.alloc (.cells #[.int .i64 0] 49), w.heap.size, ?_, Blk.new w [.int .i64 0] 49, below_new _ _, rfl⟩
  go_simp
theorem ld49 {W : World} {q : Nat} {c : Int} (hb : Blk W q [.int .i64 c] 49) : (Instr.loadAt 49 (.pointer (some ⟨q, 0, none⟩))).run Tryz.prog W = .ok (.int .i64 c) W := by
  have hc : W.cell? ⟨q, 0, none⟩ = some (.int .i64 c) := hb.cell 0
  have hf := hb.frozen 0
  go_simp
theorem mkiE (a : Addr) (W : World) : (Instr.makeInterface 94 (.pointer (some a))).run Tryz.prog W = .ok (.iface 94 (.pointer (some a))) W := by
  go_simp
theorem vo94' (t : Addr) (w : World) : ∃ w1 g, (callFunc 64 #[.iface 94 (.pointer (some t))]).run Tryz.prog w = .ok (.value (rvl 94 ⟨g, 0, none⟩ 150)) w1 ∧ Blk w1 g [.pointer (some t)] 94 ∧ Below w.heap.size w w1 :=
  ⟨_, _, vo94 t w, Blk.new w [.pointer (some t)] 94, below_new _ _⟩
set_option maxRecDepth 100000 in
set_option maxHeartbeats 1000000 in
theorem As_any {w : World} {qf qt : Nat} {s : ByteArray} {a c : Int} {old : Value} (hb : Blk w qf (fltC s a c) 55) (ht : Blk w qt [old] 49) (hg : w.cell? ⟨0, 0, none⟩ = some (rty 46)) : Calls Tryz.prog 33 #[.iface 53 (.pointer (some ⟨qf, 0, none⟩)), .iface 94 (.pointer (some ⟨qt, 0, none⟩))] w fun e w' => e = .returned (.bool true) ∧ Blk w' qt [.int .i64 c] 49 ∧ Fx (fun k => k = qt) w w' := by
  obtain ⟨w1, g, r1, bg, l1⟩ := vo94' ⟨qt, 0, none⟩ w
  obtain ⟨w2, w3, q3, r2, s2, b3, l3⟩ := var120 94 ⟨g, 0, none⟩ 150 w1
  have l13 := l1.trans (l3.mono l1.size)
  have hg3 : w3.cell? ⟨0, 0, none⟩ = some (rty 46) := (l13.cell (cell_lt hg)).trans hg
  refine calls_of_args [.iface 53 (.pointer (some ⟨qf, 0, none⟩)), .iface 94 (.pointer (some ⟨qt, 0, none⟩))] Tryz.func33 rfl 42 Tryz.ntmps33 (by show 2 ≤ 42; decide) ?_
  refine EW.seq ?_
  refine EW.region ?_
  first | refine WL.assign rfl rfl rfl ?_
  refine WL.done ?_
  refine EW.on ?_
  refine EW.seq ?_
  refine EW.seq ?_
  refine EW.region ?_
  first | refine WL.move rfl rfl rfl ?_
  refine WL.bin rfl rfl rfl rfl (eqif _ _ _ _) ?_
  refine WL.done ?_
  refine EW.on ?_
  refine EW.cond_f rfl ?_
  refine EW.skip ?_
  refine EW.on ?_
  refine EW.seq ?_
  refine EW.seq ?_
  refine EW.region ?_
  first | refine WL.move rfl rfl rfl ?_
  refine WL.bin rfl rfl rfl rfl (eqif20 _ _ _ _) ?_
  refine WL.done ?_
  refine EW.on ?_
  refine EW.cond_f rfl ?_
  refine EW.skip ?_
  refine EW.on ?_
  refine EW.seq ?_
  refine EW.region ?_
  first | refine WL.move rfl rfl rfl ?_
  refine WL.callX [.iface 94 (.pointer (some ⟨qt, 0, none⟩))] rfl rfl rfl r1 ?_
  refine WL.new rfl rfl r2 ?_
  refine WL.store rfl rfl rfl s2 ?_
  refine WL.done ?_
  refine EW.on ?_
  refine EW.seq ?_
  refine EW.region ?_
  refine WL.load rfl rfl rfl (ld120 b3) ?_
  refine WL.callX [rvl 94 ⟨g, 0, none⟩ 150] rfl rfl rfl (ty94 _ _) ?_
  first | refine WL.assign rfl rfl rfl ?_
  refine WL.done ?_
  refine EW.on ?_
  refine EW.seq ?_
  refine EW.seq ?_
  refine EW.region ?_
  first | refine WL.move rfl rfl rfl ?_
  refine WL.inv [] rfl rfl rfl rfl (kd94 _) ?_
  refine WL.bin rfl rfl rfl rfl (ne125 _ _ _ rfl _ _ _) ?_
  first | refine WL.move rfl rfl rfl ?_
  refine WL.load rfl rfl rfl (ld120 b3) ?_
  refine WL.callX [rvl 94 ⟨g, 0, none⟩ 150] rfl rfl rfl (isNil94 ⟨g, 0, none⟩ ⟨qt, 0, none⟩ _ ((bg.on l3).cell 0)) ?_
  first | refine WL.pick rfl rfl rfl rfl ?_
  refine WL.done ?_
  refine EW.on ?_
  refine EW.cond_f rfl ?_
  refine EW.skip ?_
  refine EW.on ?_
  refine EW.seq ?_
  refine EW.region ?_
  first | refine WL.move rfl rfl rfl ?_
  refine WL.inv [] rfl rfl rfl rfl (el94 _) ?_
  first | refine WL.assign rfl rfl rfl ?_
  refine WL.done ?_
  refine EW.on ?_
  refine EW.seq ?_
  refine EW.seq ?_
  refine EW.region ?_
  first | refine WL.move rfl rfl rfl ?_
  refine WL.inv [] rfl rfl rfl rfl (kd49 _) ?_
  refine WL.bin rfl rfl rfl rfl (ne125 _ _ _ rfl _ _ _) ?_
  first | refine WL.move rfl rfl rfl ?_
  first | refine WL.move rfl rfl rfl ?_ | refine WL.skip _ rfl rfl rfl ?_
  refine WL.load rfl rfl rfl (ld123 hg3) ?_
  refine WL.inv [rty 46] rfl rfl rfl rfl (im49 _) ?_
  first | refine WL.un rfl rfl rfl (not_t _ _) ?_ | refine WL.skip _ rfl rfl rfl ?_
  first | refine WL.pick rfl rfl rfl rfl ?_
  refine WL.done ?_
  refine EW.on ?_
  refine EW.cond_f rfl ?_
  refine EW.skip ?_
  refine EW.on ?_
  refine EW.seq ?_
  refine EW.region ?_
  first | refine WL.move rfl rfl rfl ?_
  first | refine WL.move rfl rfl rfl ?_
  refine WL.load rfl rfl rfl (ld120 b3) ?_
  first | refine WL.move rfl rfl rfl ?_
  refine WL.call [.iface 53 (.pointer (some ⟨qf, 0, none⟩)), .iface 94 (.pointer (some ⟨qt, 0, none⟩)), rvl 94 ⟨g, 0, none⟩ 150, rty 49] enter67 rfl rfl rfl (as_any _ (hb.on l13) (ht.on l13) ((bg.on l3).cell 0)) ?_
  rintro _ w5 ⟨rfl, b5, f5⟩
  refine ⟨_, rfl, ?_⟩
  first | refine WL.assign rfl rfl rfl ?_
  refine WL.done ?_
  refine EW.on ?_
  refine EW.ret ?_
  exact EW.returns Tryz.results33 rfl ⟨rfl, b5, (Fx.of_below l13).and f5⟩
set_option maxRecDepth 100000 in
set_option maxHeartbeats 1000000 in
theorem code_any {w : World} {qf : Nat} {s : ByteArray} {a c : Int} (hb : Blk w qf (fltC s a c) 55) (hg : w.cell? ⟨0, 0, none⟩ = some (rty 46)) : Calls Tryz.prog 11 #[.iface 53 (.pointer (some ⟨qf, 0, none⟩))] w fun e w' => e = .returned (.int .i64 c) ∧ Below w.heap.size w w' := by
  obtain ⟨w1, qt, r1, b1, l1, hqt⟩ := new49 w
  have hg1 : w1.cell? ⟨0, 0, none⟩ = some (rty 46) := (l1.cell (cell_lt hg)).trans hg
  refine calls_of_args [.iface 53 (.pointer (some ⟨qf, 0, none⟩))] Tryz.func11 rfl 10 Tryz.ntmps11 (by show 1 ≤ 10; decide) ?_
  refine EW.seq ?_
  refine EW.region ?_
  first | refine WL.assign rfl rfl rfl ?_
  refine WL.done ?_
  refine EW.on ?_
  refine EW.seq ?_
  refine EW.seq ?_
  refine EW.region ?_
  first | refine WL.move rfl rfl rfl ?_
  refine WL.bin rfl rfl rfl rfl (eqif _ _ _ _) ?_
  refine WL.done ?_
  refine EW.on ?_
  refine EW.cond_f rfl ?_
  refine EW.skip ?_
  refine EW.on ?_
  refine EW.seq ?_
  refine EW.region ?_
  refine WL.new rfl rfl r1 ?_
  refine WL.done ?_
  refine EW.on ?_
  refine EW.seq ?_
  refine EW.seq ?_
  refine EW.region ?_
  first | refine WL.move rfl rfl rfl ?_
  refine WL.mki rfl rfl rfl (mkiE _ _) ?_
  refine WL.call [.iface 53 (.pointer (some ⟨qf, 0, none⟩)), .iface 94 (.pointer (some ⟨qt, 0, none⟩))] enter33 rfl rfl rfl (As_any (hb.on l1) b1 hg1) ?_
  rintro _ w2 ⟨rfl, b2, f2⟩
  refine ⟨_, rfl, ?_⟩
  refine WL.done ?_
  refine EW.on ?_
  refine EW.cond_t rfl ?_
  refine EW.seq ?_
  refine EW.region ?_
  refine WL.load rfl rfl rfl (ld49 b2) ?_
  first | refine WL.assign rfl rfl rfl ?_
  refine WL.done ?_
  refine EW.on ?_
  refine EW.ret ?_
  refine pr_then ?_
  exact EW.returns Tryz.results11 rfl ⟨rfl, l1.trans (f2.below (fun k hk e => by have e : k = qt := e; omega) l1.size)⟩
end Go.Proofs.YtomioemhjhhbcaaGreatDoor

set_option linter.unusedVariables false
set_option linter.unusedSimpArgs false
namespace Go.Proofs.YtomioemhjhhbcaaGreatDoor
open Go.RowKit

/-- A list of pages by its cells. -/
structure Ml (w : World) (g n : Nat) (nI : Nat → Int) (vI : Nat → Value) : Prop where
  num : ∀ i, i < n → w.cell? ⟨g, 2 * i, none⟩ = some (.int .i64 (nI i))
  val : ∀ i, i < n → w.cell? ⟨g, 2 * i + 1, none⟩ = some (vI i)
  fz : ∀ j, w.frozen? ⟨g, j, none⟩ = false
theorem Pws.ml {w : World} {g cp : Nat} {l : List Pw} (h : Pws w (.slice (some ⟨g, 0, none⟩) l.length cp) l) : Ml w g l.length (fun i => (((l.getD i ⟨0, .slice none 0 0, []⟩).n : Nat) : Int)) (fun i => (l.getD i ⟨0, .slice none 0 0, []⟩).v) := by
  obtain ⟨hl, ⟨e, _⟩ | ⟨g', cp', cur, e, _, hh, hn, _, hs, ht⟩⟩ := h.row
  · cases e
  simp only [Value.slice.injEq, Option.some.injEq, Addr.mk.injEq, and_true, true_and] at e
  obtain ⟨rfl, rfl⟩ := e
  have hbl : Blk w g cur.toList 52 := by unfold Blk; simpa using hh
  have hc : ∀ i (hi : i < l.length) j, j < 2 → w.cell? ⟨g, 2 * i + j, none⟩ = (pgC l[i])[j]? := fun i hi j hj => by
    rw [hbl.cell, ← pg_get l i l[i] (List.getElem?_eq_getElem hi) j hj, ← ht, List.getElem?_take_of_lt (by omega)]
  refine ⟨fun i hi => ?_, fun i hi => ?_, fun j => hbl.frozen j⟩
  · have := hc i hi 0 (by decide)
    rw [Nat.add_zero] at this
    rw [this, List.getD_eq_getElem?_getD, List.getElem?_eq_getElem hi]
    rfl
  · rw [hc i hi 1 (by decide), List.getD_eq_getElem?_getD, List.getElem?_eq_getElem hi]
    rfl
theorem idxP (g n c m : Nat) (h : m < n) (W : World) : (Instr.indexAt 36 (.slice (some ⟨g, 0, none⟩) n c) (.int .i64 (m : Int))).run Tryz.prog W = .ok (.pointer (some ⟨g, 2 * m, none⟩)) W := by
  have hm : (m : Int) < (n : Int) := by omega
  go_simp
  try simp
  try rw [add_plain]
  try simp [Nat.mul_comm]
theorem Ml.on {w w' : World} {g n : Nat} {nI : Nat → Int} {vI : Nat → Value} (h : Ml w g n nI vI) (hn : 0 < n) (hb : Below w.heap.size w w') : Ml w' g n nI vI := by
  have hg : g < w.heap.size := cell_lt (h.num 0 hn)
  refine ⟨fun i hi => (hb.cell (p := ⟨g, 2 * i, none⟩) hg).trans (h.num i hi), fun i hi => (hb.cell (p := ⟨g, 2 * i + 1, none⟩) hg).trans (h.val i hi), fun j => ?_⟩
  have e := hb.block g hg
  have h1 := h.fz j
  unfold World.frozen? at *
  simp only [e] at *
  exact h1
theorem Ml.setN {w : World} {g n : Nat} {nI : Nat → Int} {vI : Nat → Value} (h : Ml w g n nI vI) (k : Nat) (hk : k < n) (x : Int) : ∃ w', (Instr.storeAt 3 (.pointer (some ⟨g, 2 * k, none⟩)) (.int .i64 x)).run Tryz.prog w = .ok () w' ∧ Ml w' g n (fun i => if i = k then x else nI i) vI ∧ Fx (fun j => j = g) w w' := by
  have hc := h.num k hk
  have hf := h.fz (2 * k)
  refine ⟨w.setCell ⟨g, 2 * k, none⟩ (.int .i64 x), by go_simp, ⟨fun i hi => ?_, fun i hi => ?_, fun j => ?_⟩, Fx.setCell _ _ _ _ rfl⟩
  · by_cases e : i = k
    · subst e
      simp only [if_true]
      exact World.cell?_setCell_same _ _ _ hc
    · rw [if_neg e, World.cell?_setCell_other (h := show (⟨g, 2 * k, none⟩ : Addr) ≠ ⟨g, 2 * i, none⟩ from fun e2 => by injection e2 with e3 e4; omega)]
      exact h.num i hi
  · rw [World.cell?_setCell_other (h := show (⟨g, 2 * k, none⟩ : Addr) ≠ ⟨g, 2 * i + 1, none⟩ from fun e2 => by injection e2 with e3 e4; omega)]
    exact h.val i hi
  · rw [World.frozen?_setCell]; exact h.fz j
theorem Ml.setV {w : World} {g n : Nat} {nI : Nat → Int} {vI : Nat → Value} (h : Ml w g n nI vI) (k : Nat) (hk : k < n) (v : Value) (hv : ∃ ao l c, v = .slice ao l c) : ∃ w', (Instr.storeAt 50 (.pointer (some ⟨g, 2 * k + 1, none⟩)) v).run Tryz.prog w = .ok () w' ∧ Ml w' g n nI (fun i => if i = k then v else vI i) ∧ Fx (fun j => j = g) w w' := by
  obtain ⟨ao, l, c, rfl⟩ := hv
  have hc := h.val k hk
  have hf := h.fz (2 * k + 1)
  refine ⟨w.setCell ⟨g, 2 * k + 1, none⟩ (.slice ao l c), by go_simp, ⟨fun i hi => ?_, fun i hi => ?_, fun j => ?_⟩, Fx.setCell _ _ _ _ rfl⟩
  · rw [World.cell?_setCell_other (h := show (⟨g, 2 * k + 1, none⟩ : Addr) ≠ ⟨g, 2 * i, none⟩ from fun e2 => by injection e2 with e3 e4; omega)]
    exact h.num i hi
  · by_cases e : i = k
    · subst e
      simp only [if_true]
      exact World.cell?_setCell_same _ _ _ hc
    · rw [if_neg e, World.cell?_setCell_other (h := show (⟨g, 2 * k + 1, none⟩ : Addr) ≠ ⟨g, 2 * i + 1, none⟩ from fun e2 => by injection e2 with e3 e4; omega)]
      exact h.val i hi
  · rw [World.frozen?_setCell]; exact h.fz j
theorem Ml.qr {w : World} {g n cp : Nat} {nI : Nat → Int} {vI : Nat → Value} {lI : Nat → Nat} (h : Ml w g n nI vI) (hn : 0 < n) (hs : ∀ i, i < n → ∃ ao c, vI i = .slice ao (lI i) c) : Qr w (.slice (some ⟨g, 0, none⟩) n cp) n nI vI lI := by
  refine ⟨fun ty W => len36 _ _ _ _ _, fun i hi => ⟨⟨g, 2 * i, none⟩, fun W => idxP g n cp i hi W, fun W hW => ?_⟩, hs⟩
  have h2 := h.on hn hW
  refine run_loadAt_mid W g (2 * i) 52 [.int .i64 (nI i), vI i] _ (fun j v hj => ?_) Tryz.underlying52 rfl (by show _ = some 2; kernel_rfl)
  match j, hj with
  | 0, hj => simp at hj; rw [Nat.add_zero, h2.num i hi, hj]
  | 1, hj => simp at hj; rw [h2.val i hi, hj]
  | (j + 2), hj => simp at hj
theorem Ml.fx {S : Nat → Prop} {w w' : World} {g n : Nat} {nI : Nat → Int} {vI : Nat → Value} (h : Ml w g n nI vI) (hn : 0 < n) (f : Fx S w w') (hg : ¬ S g) : Ml w' g n nI vI := by
  have hl : g < w.heap.size := cell_lt (h.num 0 hn)
  refine ⟨fun i hi => f.cell (h.num i hi) hg, fun i hi => f.cell (h.val i hi) hg, fun j => ?_⟩
  have e := f.block g hl hg
  have h1 := h.fz j
  unfold World.frozen? at *
  simp only [e] at *
  exact h1
end Go.Proofs.YtomioemhjhhbcaaGreatDoor

set_option linter.unusedVariables false
set_option linter.unusedSimpArgs false
namespace Go.Proofs.YtomioemhjhhbcaaGreatDoor
open Go.RowKit

/-- The script's turns. -/
def Tl (w : World) (v : Value) : Prop := ∃ ao n c, v = .slice ao n c ∧ (0 < n → ∃ ad vp vf cr an gs, (∀ W, (Instr.indexAt 22 v (.int .i64 0)).run Tryz.prog W = .ok (.pointer (some ad)) W) ∧ (∀ W, Below w.heap.size w W → (Instr.loadAt 34 (.pointer (some ad))).run Tryz.prog W = .ok (.agg (tnC vp vf cr an).toArray) W) ∧ (∃ ao n c, vf = .slice ao n c) ∧ Gs w vp gs)
theorem Gs.nil (w : World) : Gs w (.slice none 0 0) [] := ⟨⟨_, _, rfl⟩, fun i g h => by cases h⟩
theorem len22 (ao : Option Addr) (n c : Nat) (W : World) (ty : TypeId) : (Builtin.len_ #[22] ty #[.slice ao n c]).run Tryz.prog W = .ok (.int .i64 (n : Int)) W := by go_simp
theorem fldL (q j : Nat) (hj : j < 3) (W : World) : (Instr.fieldAt 24 (.pointer (some ⟨q, 0, none⟩)) j).run Tryz.prog W = .ok (.pointer (some ⟨q, j, none⟩)) W := by
  have h : j = 0 ∨ j = 1 ∨ j = 2 := by omega
  obtain rfl | rfl | rfl := h <;> (go_simp; try simp; try rw [add_plain])
theorem ldTs {W : World} {q j : Nat} {cs : List Value} {t : TypeId} {v : Value} (hb : Blk W q cs t) (h : cs[j]? = some v) : (Instr.loadAt 22 (.pointer (some ⟨q, j, none⟩))).run Tryz.prog W = .ok v W := by
  have hc : W.cell? ⟨q, j, none⟩ = some v := (hb.cell j).trans h
  have hf := hb.frozen j
  go_simp
theorem ld24L {W : World} {q : Nat} {a m : Int} {v : Value} {t : TypeId} (hb : Blk W q (lfC a m v) t) : (Instr.loadAt 24 (.pointer (some ⟨q, 0, none⟩))).run Tryz.prog W = .ok (.agg (lfC a m v).toArray) W :=
  run_loadR hb Tryz.underlying24 rfl (by show _ = some 3; kernel_rfl)
theorem bld34n (W : World) : (Instr.build 34 ([] : List (Nat × Value)).toArray).run Tryz.prog W = .ok (.agg (tnC (.slice none 0 0) (.slice none 0 0) false false).toArray) W := by kernel_rfl
theorem bld34 (ao : Option Addr) (n c : Nat) (W : World) : (Instr.build 34 [(0, .slice ao n c)].toArray).run Tryz.prog W = .ok (.agg (tnC (.slice ao n c) (.slice none 0 0) false false).toArray) W := by kernel_rfl
theorem i34 (vp vf : Value) (cr an : Bool) : (Tryz.prog.info? 34).map (·.size) = some (tnC vp vf cr an).length := by show _ = some 4; kernel_rfl
theorem tn_one {vp vf : Value} {cr an : Bool} (h1 : ∃ ao n c, vp = .slice ao n c) (h2 : ∃ ao n c, vf = .slice ao n c) : (tnC vp vf cr an).toArray.all (·.oneCell') = true := by
  obtain ⟨_, _, _, rfl⟩ := h1
  obtain ⟨_, _, _, rfl⟩ := h2
  simp [tnC, Value.oneCell']
theorem new34 (w : World) : ∃ w1 q, (Instr.alloc 34 true (.tuple #[])).run Tryz.prog w = .ok (.pointer (some ⟨q, 0, none⟩)) w1 ∧ Blk w1 q (tnC (.slice none 0 0) (.slice none 0 0) false false) 34 ∧ Below w.heap.size w w1 ∧ q = w.heap.size :=
  ⟨_, _, run_newR 34 (tnC (.slice none 0 0) (.slice none 0 0) false false) (fun w => by rw [Tryz.zeroValue34]; rfl) w _ rfl, Blk.new _ _ _, below_new _ _, rfl⟩
theorem st34 {w : World} {q : Nat} {cs : List Value} {vp vf : Value} {cr an : Bool} (hb : Blk w q cs 34) (hl : cs.length = 4) (h1 : ∃ ao n c, vp = .slice ao n c) (h2 : ∃ ao n c, vf = .slice ao n c) : ∃ w', (Instr.storeAt 34 (.pointer (some ⟨q, 0, none⟩)) (.agg (tnC vp vf cr an).toArray)).run Tryz.prog w = .ok () w' ∧ Blk w' q (tnC vp vf cr an) 34 ∧ Fx (fun k => k = q) w w' :=
  ⟨_, run_storeR hb (i34 vp vf cr an) (by rw [hl]; rfl) (tn_one h1 h2), hb.setRow _, ⟨rfl, rfl, rfl, by rw [setRow_size]; exact Nat.le_refl _, fun k _ hk => setRow_other w q k _ hk⟩⟩
theorem as53 (p : Value) (W : World) : (Instr.typeAssert (.iface 53 p) 46 53 true).run Tryz.prog W = .ok (.tuple #[p, .bool true]) W := by kernel_rfl
theorem fldF (q j : Nat) (hj : j < 3) (W : World) : (Instr.fieldAt 55 (.pointer (some ⟨q, 0, none⟩)) j).run Tryz.prog W = .ok (.pointer (some ⟨q, j, none⟩)) W := by
  have h : j = 0 ∨ j = 1 ∨ j = 2 := by omega
  obtain rfl | rfl | rfl := h <;> (go_simp; try simp; try rw [add_plain])
theorem ldS9 {W : World} {q j : Nat} {cs : List Value} {t : TypeId} {s : ByteArray} (hb : Blk W q cs t) (h : cs[j]? = some (.string s)) : (Instr.loadAt 9 (.pointer (some ⟨q, j, none⟩))).run Tryz.prog W = .ok (.string s) W := by
  have hc : W.cell? ⟨q, j, none⟩ = some (.string s) := (hb.cell j).trans h
  have hf := hb.frozen j
  go_simp
theorem streq (s : ByteArray) (W : World) (x y : Operand) : (do eqGuard .eql 9 x y (.string s) (.string s); binOp .eql 9 (.string s) (.string s) : Sem Value).run Tryz.prog W = .ok (.bool true) W := by go_simp
theorem nep (a : Addr) (W : World) (x : Operand) : (do eqGuard .neq 53 x (.const (.pointer none)) (.pointer (some a)) (.pointer none); binOp .neq 53 (.pointer (some a)) (.pointer none) : Sem Value).run Tryz.prog W = .ok (.bool true) W := by
  have h : eqGuard .neq 53 x (.const (.pointer none)) (.pointer (some a)) (.pointer none) = pure () := by
    unfold eqGuard
    cases x <;> simp
  rw [h]
  go_simp
end Go.Proofs.YtomioemhjhhbcaaGreatDoor
