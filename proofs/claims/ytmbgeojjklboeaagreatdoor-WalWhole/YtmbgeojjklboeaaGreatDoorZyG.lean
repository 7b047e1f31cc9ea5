import Derived.Test.YtmbgeojjklboeaaGreatDoorZvG
set_option linter.unusedVariables false
set_option linter.unusedSimpArgs false
namespace Go.Proofs.YtmbgeojjklboeaaGreatDoor
open Go.RowKit

section
variable {P : Program} {n : Fm} {ops : Array Oper} {Q : Exit → Act → World → Prop} {i : Nat} {ty : TypeId} {ps : String} {af : Array Edge} {gd : Option (Nat × Bool)} {r : List Oper} {e : List (Nat × Value)} {w w' : World}
theorem WL.callX {f : FuncId} {xs : List Operand} {ts : Array TypeId} {v : Value} (args : List Value) (hw : wantE ops e ⟨some i, .call { callee := .value (.func f), args := xs.toArray, argTypes := ts }, ty, ps, af, gd⟩ = some true) (hi : decide (i < n.k) = true) (hx : xs.map (evE e) = args.map some) (hr : (callFunc f args.toArray).run P w = .ok (.value v) w') (k : WL P n ops Q r ((i, v) :: e) w') : WL P n ops Q (⟨some i, .call { callee := .value (.func f), args := xs.toArray, argTypes := ts }, ty, ps, af, gd⟩ :: r) e w :=
  WL.op i v hw rfl hi (fun a ha => by
    have e1 : (execOp a.eval ⟨some i, .call { callee := .value (.func f), args := xs.toArray, argTypes := ts }, ty, ps, af, gd⟩).run P w = (callFunc f (xs.toArray.map a.eval)).run P w := by
      simp [execOp, resolve, Deferred.ofValue, invoke, Act.eval]
    rw [e1, List.map_toArray, args_ev ha hx, hr]) k
theorem WL.inv {x : Operand} {nm : String} {xs : List Operand} {ts : Array TypeId} {u v : Value} (args : List Value) (hw : wantE ops e ⟨some i, .call { callee := .invoke x nm, args := xs.toArray, argTypes := ts }, ty, ps, af, gd⟩ = some true) (hi : decide (i < n.k) = true) (hu : evE e x = some u) (hx : xs.map (evE e) = args.map some) (hr : (callMethod u nm args.toArray).run P w = .ok (.value v) w') (k : WL P n ops Q r ((i, v) :: e) w') : WL P n ops Q (⟨some i, .call { callee := .invoke x nm, args := xs.toArray, argTypes := ts }, ty, ps, af, gd⟩ :: r) e w :=
  WL.op i v hw rfl hi (fun a ha => by
    have hargs := args_ev ha hx
    have hu' := ha.ev hu
    unfold execOp
    simp [resolve, List.map_toArray, hargs, hu', Sem.run_bind, Sem.run_pure, Result.andThen_ok, invoke, hr]) k
end
section
variable {P : Program} {n : Fm} {ops : Array Oper} {Q : Exit → Act → World → Prop} {i : Nat} {ty : TypeId} {ps : String} {af : Array Edge} {gd : Option (Nat × Bool)} {r : List Oper} {e : List (Nat × Value)} {w : World}
/-- A method that is entered. -/
theorem WL.invE {x : Operand} {nm : String} {ts : Array TypeId} {u : Value} {f : FuncId} {args : Array Value} {R : Ending → World → Prop} (hw : wantE ops e ⟨some i, .call { callee := .invoke x nm, args := #[], argTypes := ts }, ty, ps, af, gd⟩ = some true) (hi : decide (i < n.k) = true) (hu : evE e x = some u) (hr : (callMethod u nm #[]).run P w = .ok (.enter f args) w) (hc : Calls P f args w R)
    (k : ∀ x w', R x w' → ∃ v, x = .returned v ∧ WL P n ops Q r ((i, v) :: e) w') : WL P n ops Q (⟨some i, .call { callee := .invoke x nm, args := #[], argTypes := ts }, ty, ps, af, gd⟩ :: r) e w := fun a ha => by
  unfold wpList
  rw [if_pos (wantE_spec ha hw)]
  have hu' := ha.ev hu
  have h1 : (execOp a.eval ⟨some i, .call { callee := .invoke x nm, args := #[], argTypes := ts }, ty, ps, af, gd⟩).run P w = .ok (.enter f args) w := by
    unfold execOp
    simp [resolve, hu', Sem.run_bind, Sem.run_pure, Result.andThen_ok, invoke, hr]
  unfold Oper.wp
  rw [h1]
  simp only [Oper.upon]
  refine .inl (hc.mono fun x w' hx => ?_)
  obtain ⟨v, rfl, k'⟩ := k x w' hx
  exact k' _ (ha.ins (some i) v (fun j hj => by cases hj; exact of_decide_eq_true hi))
end
theorem as147 (p : Value) (W : World) : (Instr.typeAssert (.iface 109 p) 46 149 true).run Tryz.prog W = .ok (.tuple #[.nilIface, .bool false]) W := run_typeAssert_lacksB Tryz.underlying149 (by kernel_rfl) (by kernel_rfl) p 46 W
theorem as150 (p : Value) (W : World) : (Instr.typeAssert (.iface 109 p) 46 152 true).run Tryz.prog W = .ok (.tuple #[.iface 109 p, .bool true]) W := run_typeAssert_hasB Tryz.underlying152 (by kernel_rfl) p 46 W
set_option maxRecDepth 100000 in
set_option maxHeartbeats 1000000 in
theorem unwrap_any {w : World} {q : Nat} {s : ByteArray} {a c : Int} (hb : Blk w q (fltC s a c) 111) : Calls Tryz.prog 128 #[.pointer (some ⟨q, 0, none⟩)] w fun e w' => e = .returned (.iface 41 (.int .i64 c)) ∧ w' = w := by
  refine calls_of_args [.pointer (some ⟨q, 0, none⟩)] Tryz.func128 rfl 7 Tryz.ntmps128 (by show 1 ≤ 7; decide) ?_; refine EW.seq ?_; refine EW.region ?_; refine WL.assign rfl rfl rfl ?_; refine WL.done ?_; refine EW.on ?_; refine EW.seq ?_; refine EW.region ?_; refine WL.move rfl rfl rfl ?_; refine WL.nilc rfl rfl rfl ?_; refine WL.field rfl rfl rfl (fld81_2 q _) ?_; refine WL.load rfl rfl rfl (ldc24 hb rfl) ?_; refine WL.assign rfl rfl rfl ?_; refine WL.done ?_; refine EW.on ?_; refine EW.ret ?_
  exact EW.returns Tryz.results128 rfl ⟨rfl, rfl⟩
end Go.Proofs.YtmbgeojjklboeaaGreatDoor

set_option linter.unusedVariables false
set_option linter.unusedSimpArgs false
namespace Go.Proofs.YtmbgeojjklboeaaGreatDoor
open Go.RowKit

theorem eqif (t : TypeId) (v : Value) (W : World) (x : Operand) : (do eqGuard .eql 46 x (.const .nilIface) (.iface t v) .nilIface; binOp .eql 46 (.iface t v) .nilIface : Sem Value).run Tryz.prog W = .ok (.bool false) W := by
  have h : eqGuard .eql 46 x (.const .nilIface) (.iface t v) .nilIface = pure () := by
    unfold eqGuard
    cases x <;> simp
  rw [h]
  go_simp
theorem eqif20 (t : TypeId) (v : Value) (W : World) (x : Operand) : (do eqGuard .eql 20 x (.const .nilIface) (.iface t v) .nilIface; binOp .eql 20 (.iface t v) .nilIface : Sem Value).run Tryz.prog W = .ok (.bool false) W := by
  have h : eqGuard .eql 20 x (.const .nilIface) (.iface t v) .nilIface = pure () := by
    unfold eqGuard
    cases x <;> simp
  rw [h]
  go_simp
def rvC (t : Nat) (a : Addr) (f : Int) : List Value := [hdl t, .pointer (some a), .int .u64 f]
theorem i120 (t : Nat) (a : Addr) (f : Int) : (Tryz.prog.info? 128).map (·.size) = some (rvC t a f).length := by show _ = some 3; kernel_rfl
theorem ld120 {W : World} {q t : Nat} {a : Addr} {f : Int} {ty : TypeId} (hb : Blk W q (rvC t a f) ty) : (Instr.loadAt 128 (.pointer (some ⟨q, 0, none⟩))).run Tryz.prog W = .ok (rvl t a f) W :=
  run_loadR hb Tryz.underlying128 rfl (i120 t a f)
theorem box120 (t : Nat) (a : Addr) (f : Int) (w : World) : ∃ w1 q, (Instr.box 128 (rvl t a f)).run Tryz.prog w = .ok (.pointer (some ⟨q, 0, none⟩)) w1 ∧ Blk w1 q (rvC t a f) 128 ∧ Below w.heap.size w w1 ∧ q = w.heap.size :=
  ⟨_, _, run_boxR 128 (rvC t a f) w _ rfl, Blk.new _ _ _, below_new _ _, rfl⟩
theorem var120 (t : Nat) (a : Addr) (f : Int) (w : World) : ∃ w1 w2 q, (Instr.alloc 128 true (.tuple #[])).run Tryz.prog w = .ok (.pointer (some ⟨q, 0, none⟩)) w1 ∧ (Instr.storeAt 128 (.pointer (some ⟨q, 0, none⟩)) (rvl t a f)).run Tryz.prog w1 = .ok () w2 ∧ Blk w2 q (rvC t a f) 128 ∧ Below w.heap.size w w2 := by
  have r1 := run_newR (P := Tryz.prog) 128 [.pointer none, .pointer none, .int .u64 0] (fun w => by rw [Tryz.zeroValue128]) w _ rfl
  have b1 := Blk.new w [.pointer none, .pointer none, .int .u64 0] 128
  refine ⟨_, _, _, r1, run_storeR b1 (i120 t a f) rfl (by simp [rvC, hdl, Value.oneCell']), b1.setRow _, ?_⟩; refine (below_new w _).trans ⟨rfl, rfl, rfl, ?_, fun k hk => setRow_other _ _ k _ (by omega)⟩
  rw [setRow_size]; exact Nat.le_refl _
theorem ld123 {W : World} {v : Value} (hg : W.cell? ⟨0, 0, none⟩ = some v) : (Instr.loadAt 131 (.pointer (some ⟨0, 0, none⟩))).run Tryz.prog W = .ok v W := by
  go_simp
def asV (qf : Nat) (c : Int) (x : Bool) : Value := if x then .iface 41 (.int .i64 c) else .iface 109 (.pointer (some ⟨qf, 0, none⟩))
def asE (qf : Nat) (c : Int) (tv : Value) (q6 : Nat) (x : Bool) : List (Nat × Value) := [(0, asV qf c x), (1, tv), (3, rty 41), (6, .pointer (some ⟨q6, 0, none⟩))]
set_option maxRecDepth 100000 in
set_option maxHeartbeats 1000000 in
theorem as_any {w : World} {qf qt : Nat} {s : ByteArray} {a c : Int} {old : Value} {a0 : Addr} (tv : Value) (hb : Blk w qf (fltC s a c) 111) (ht : Blk w qt [old] 41) (ha : w.cell? a0 = some (.pointer (some ⟨qt, 0, none⟩))) : Calls Tryz.prog 75 #[.iface 109 (.pointer (some ⟨qf, 0, none⟩)), tv, rvl 105 a0 150, rty 41] w fun e w' => e = .returned (.bool true) ∧ Blk w' qt [.int .i64 c] 41 ∧ Fx (fun k => k = qt) w w' := by
  obtain ⟨w1, q6, r1, b1, l1, hq6⟩ := box120 105 a0 150 w
  have bf := hb.on l1
  have ht1 := ht.on l1
  have ha1 : w1.cell? a0 = some (.pointer (some ⟨qt, 0, none⟩)) := (l1.cell (cell_lt ha)).trans ha
  have l2 := below_new w1 (.cells #[.int .i64 c] 41)
  have bn := Blk.new w1 [.int .i64 c] 41
  have bt2 := ht1.on l2
  refine calls_of_args [.iface 109 (.pointer (some ⟨qf, 0, none⟩)), tv, rvl 105 a0 150, rty 41] Tryz.func75 rfl 62 Tryz.ntmps75 (by show 4 ≤ 62; decide) ?_; refine EW.seq ?_; refine EW.region ?_; refine WL.box rfl rfl rfl r1 ?_; refine WL.assign rfl rfl rfl ?_; refine WL.done ?_; refine EW.on ?_; refine EW.block ?_; refine EW.loop (asE qf c tv q6) (fun _ W => W = w1) (fun x => if x then 0 else 1) false [0, 1, 3, 6] rfl rfl ?_
  rintro x wi hwi
  rw [hwi]
  refine EW.block ?_; refine EW.seq ?_; refine EW.seq ?_
  rcases x with _ | _
  · show EW _ _ _ _ [(0, .iface 109 (.pointer (some ⟨qf, 0, none⟩))), (1, tv), (3, rty 41), (6, .pointer (some ⟨q6, 0, none⟩))] _
    refine EW.region ?_; refine WL.move rfl rfl rfl ?_; refine WL.callX [.iface 109 (.pointer (some ⟨qf, 0, none⟩))] rfl rfl rfl (to53 _ _) ?_; refine WL.move rfl rfl rfl ?_; refine WL.inv [rty 41] rfl rfl rfl rfl (at53 _) ?_; refine WL.done ?_; refine EW.on ?_; refine EW.cond_f rfl ?_; refine EW.skip ?_; refine EW.on ?_; refine EW.seq ?_; refine EW.seq ?_; refine EW.region ?_; refine WL.move rfl rfl rfl ?_; refine WL.tas rfl rfl rfl (as147 _ _) ?_; refine WL.move rfl rfl rfl ?_; refine WL.extract rfl rfl rfl (ext_2 _ _ _).1 ?_; refine WL.extract rfl rfl rfl (ext_2 _ _ _).2 ?_; refine WL.assign rfl rfl rfl ?_; refine WL.assign rfl rfl rfl ?_; refine WL.done ?_; refine EW.on ?_; refine EW.seq ?_; refine EW.region ?_; refine WL.move rfl rfl rfl ?_; refine WL.move rfl rfl rfl ?_; refine WL.skip _ rfl rfl rfl ?_; refine WL.skip _ rfl rfl rfl ?_; refine WL.skip _ rfl rfl rfl ?_; refine WL.pick rfl rfl rfl rfl ?_; refine WL.done ?_; refine EW.on ?_; refine EW.cond_f rfl ?_; refine EW.skip ?_; refine EW.on ?_; refine EW.seq ?_; refine EW.region ?_; refine WL.move rfl rfl rfl ?_; refine WL.done ?_; refine EW.on ?_; refine EW.block ?_; refine EW.seq ?_; refine EW.region ?_; refine WL.tas rfl rfl rfl (as150 _ _) ?_; refine WL.extract rfl rfl rfl (ext_2 _ _ _).2 ?_; refine WL.extract rfl rfl rfl (ext_2 _ _ _).1 ?_; refine WL.done ?_; refine EW.on ?_; refine EW.cond_t rfl ?_; refine EW.seq ?_; refine EW.region ?_; refine WL.assign rfl rfl rfl ?_; refine WL.done ?_; refine EW.on ?_; refine EW.seq ?_; refine EW.region ?_; refine WL.move rfl rfl rfl ?_; refine WL.invE rfl rfl rfl (un53 _ _) (unwrap_any bf) ?_
    rintro _ wu ⟨rfl, hz⟩
    rw [hz]
    refine ⟨_, rfl, ?_⟩; refine WL.assign rfl rfl rfl ?_; refine WL.done ?_; refine EW.on ?_; refine EW.seq ?_; refine EW.region ?_; refine WL.move rfl rfl rfl ?_; refine WL.bin rfl rfl rfl rfl (eqif _ _ _ _) ?_; refine WL.done ?_; refine EW.on ?_; refine EW.cond_f rfl ?_; refine EW.skip ?_; refine pn_block ?_; refine pn_block ?_
    exact EW.again (E := asE qf c tv q6) (R := fun _ W => W = w1) (m := fun x => if x then 0 else 1) (x := false) true [0, 1, 3, 6] rfl rfl (by decide)
  · show EW _ _ _ _ [(0, .iface 41 (.int .i64 c)), (1, tv), (3, rty 41), (6, .pointer (some ⟨q6, 0, none⟩))] _
    refine EW.region ?_; refine WL.move rfl rfl rfl ?_; refine WL.callX [.iface 41 (.int .i64 c)] rfl rfl rfl (to49 _ _) ?_; refine WL.move rfl rfl rfl ?_; refine WL.inv [rty 41] rfl rfl rfl rfl (at49 _) ?_; refine WL.done ?_; refine EW.on ?_; refine EW.cond_t rfl ?_; refine EW.seq ?_; refine EW.region ?_; refine WL.load rfl rfl rfl (ld120 b1) ?_; refine WL.callX [rvl 105 a0 150] rfl rfl rfl (elemV94 a0 ⟨qt, 0, none⟩ w1 ha1) ?_; refine WL.move rfl rfl rfl ?_; refine WL.callX [.iface 41 (.int .i64 c)] rfl rfl rfl (vo49 c w1) ?_; refine WL.callX [.agg #[.pointer (some ⟨1, 41, none⟩), .pointer (some ⟨qt, 0, none⟩), .int .u64 386], .agg #[.pointer (some ⟨1, 41, none⟩), .pointer (some ⟨w1.heap.size, 0, none⟩), .int .u64 130]] rfl rfl rfl (set49 ⟨qt, 0, none⟩ ⟨w1.heap.size, 0, none⟩ c old _ (bn.cell 0) (bt2.cell 0) (bt2.frozen 0)) ?_; refine WL.done ?_; refine EW.on ?_; refine EW.seq ?_; refine EW.region ?_; refine WL.assign rfl rfl rfl ?_; refine WL.done ?_; refine EW.on ?_; refine EW.ret ?_; refine pr_then ?_; refine pr_block ?_; refine pr_then ?_; refine pr_block ?_
    exact EW.returns Tryz.results75 rfl ⟨rfl, bt2.set 0 _, ((Fx.of_below l1).then_below l2).and (Fx.setCell _ _ _ _ rfl)⟩
end Go.Proofs.YtmbgeojjklboeaaGreatDoor

set_option linter.unusedVariables false
set_option linter.unusedSimpArgs false
namespace Go.Proofs.YtmbgeojjklboeaaGreatDoor
open Go.RowKit

theorem ne125 (a b : Int) (h : Bool) (hab : decide (¬ a = b) = h) (W : World) (x y : Operand) : (do eqGuard .neq 133 x y (.int .u8 a) (.int .u8 b); binOp .neq 133 (.int .u8 a) (.int .u8 b) : Sem Value).run Tryz.prog W = .ok (.bool h) W := by
  subst hab
  by_cases e : a = b
  · subst e
    go_simp
  · go_simp

theorem new49 (w : World) : ∃ w1 q, (Instr.alloc 41 true (.tuple #[])).run Tryz.prog w = .ok (.pointer (some ⟨q, 0, none⟩)) w1 ∧ Blk w1 q [.int .i64 0] 41 ∧ Below w.heap.size w w1 ∧ q = w.heap.size := by
  refine ⟨w.alloc (.cells #[.int .i64 0] 41), w.heap.size, ?_, Blk.new w [.int .i64 0] 41, below_new _ _, rfl⟩
  go_simp
theorem ld49 {W : World} {q : Nat} {c : Int} (hb : Blk W q [.int .i64 c] 41) : (Instr.loadAt 41 (.pointer (some ⟨q, 0, none⟩))).run Tryz.prog W = .ok (.int .i64 c) W := by
  have hc : W.cell? ⟨q, 0, none⟩ = some (.int .i64 c) := hb.cell 0
  have hf := hb.frozen 0
  go_simp
theorem mkiE (a : Addr) (W : World) : (Instr.makeInterface 105 (.pointer (some a))).run Tryz.prog W = .ok (.iface 105 (.pointer (some a))) W := by
  go_simp
theorem vo94' (t : Addr) (w : World) : ∃ w1 g, (callFunc 72 #[.iface 105 (.pointer (some t))]).run Tryz.prog w = .ok (.value (rvl 105 ⟨g, 0, none⟩ 150)) w1 ∧ Blk w1 g [.pointer (some t)] 105 ∧ Below w.heap.size w w1 :=
  ⟨_, _, vo94 t w, Blk.new w [.pointer (some t)] 105, below_new _ _⟩
set_option maxRecDepth 100000 in
set_option maxHeartbeats 1000000 in
theorem As_any {w : World} {qf qt : Nat} {s : ByteArray} {a c : Int} {old : Value} (hb : Blk w qf (fltC s a c) 111) (ht : Blk w qt [old] 41) (hg : w.cell? ⟨0, 0, none⟩ = some (rty 46)) : Calls Tryz.prog 53 #[.iface 109 (.pointer (some ⟨qf, 0, none⟩)), .iface 105 (.pointer (some ⟨qt, 0, none⟩))] w fun e w' => e = .returned (.bool true) ∧ Blk w' qt [.int .i64 c] 41 ∧ Fx (fun k => k = qt) w w' := by
  obtain ⟨w1, g, r1, bg, l1⟩ := vo94' ⟨qt, 0, none⟩ w
  obtain ⟨w2, w3, q3, r2, s2, b3, l3⟩ := var120 105 ⟨g, 0, none⟩ 150 w1
  have l13 := l1.trans (l3.mono l1.size)
  have hg3 : w3.cell? ⟨0, 0, none⟩ = some (rty 46) := (l13.cell (cell_lt hg)).trans hg
  refine calls_of_args [.iface 109 (.pointer (some ⟨qf, 0, none⟩)), .iface 105 (.pointer (some ⟨qt, 0, none⟩))] Tryz.func53 rfl 42 Tryz.ntmps53 (by show 2 ≤ 42; decide) ?_; refine EW.seq ?_; refine EW.region ?_; refine WL.assign rfl rfl rfl ?_; refine WL.done ?_; refine EW.on ?_; refine EW.seq ?_; refine EW.seq ?_; refine EW.region ?_; refine WL.move rfl rfl rfl ?_; refine WL.bin rfl rfl rfl rfl (eqif _ _ _ _) ?_; refine WL.done ?_; refine EW.on ?_; refine EW.cond_f rfl ?_; refine EW.skip ?_; refine EW.on ?_; refine EW.seq ?_; refine EW.seq ?_; refine EW.region ?_; refine WL.move rfl rfl rfl ?_; refine WL.bin rfl rfl rfl rfl (eqif20 _ _ _ _) ?_; refine WL.done ?_; refine EW.on ?_; refine EW.cond_f rfl ?_; refine EW.skip ?_; refine EW.on ?_; refine EW.seq ?_; refine EW.region ?_; refine WL.move rfl rfl rfl ?_; refine WL.callX [.iface 105 (.pointer (some ⟨qt, 0, none⟩))] rfl rfl rfl r1 ?_; refine WL.new rfl rfl r2 ?_; refine WL.store rfl rfl rfl s2 ?_; refine WL.done ?_; refine EW.on ?_; refine EW.seq ?_; refine EW.region ?_; refine WL.load rfl rfl rfl (ld120 b3) ?_; refine WL.callX [rvl 105 ⟨g, 0, none⟩ 150] rfl rfl rfl (ty94 _ _) ?_; refine WL.assign rfl rfl rfl ?_; refine WL.done ?_; refine EW.on ?_; refine EW.seq ?_; refine EW.seq ?_; refine EW.region ?_; refine WL.move rfl rfl rfl ?_; refine WL.inv [] rfl rfl rfl rfl (kd94 _) ?_; refine WL.bin rfl rfl rfl rfl (ne125 _ _ _ rfl _ _ _) ?_; refine WL.move rfl rfl rfl ?_; refine WL.load rfl rfl rfl (ld120 b3) ?_; refine WL.callX [rvl 105 ⟨g, 0, none⟩ 150] rfl rfl rfl (isNil94 ⟨g, 0, none⟩ ⟨qt, 0, none⟩ _ ((bg.on l3).cell 0)) ?_; refine WL.pick rfl rfl rfl rfl ?_; refine WL.done ?_; refine EW.on ?_; refine EW.cond_f rfl ?_; refine EW.skip ?_; refine EW.on ?_; refine EW.seq ?_; refine EW.region ?_; refine WL.move rfl rfl rfl ?_; refine WL.inv [] rfl rfl rfl rfl (el94 _) ?_; refine WL.assign rfl rfl rfl ?_; refine WL.done ?_; refine EW.on ?_; refine EW.seq ?_; refine EW.seq ?_; refine EW.region ?_; refine WL.move rfl rfl rfl ?_; refine WL.inv [] rfl rfl rfl rfl (kd49 _) ?_; refine WL.bin rfl rfl rfl rfl (ne125 _ _ _ rfl _ _ _) ?_; refine WL.move rfl rfl rfl ?_
  first | refine WL.move rfl rfl rfl ?_ | refine WL.skip _ rfl rfl rfl ?_
  refine WL.load rfl rfl rfl (ld123 hg3) ?_; refine WL.inv [rty 46] rfl rfl rfl rfl (im49 _) ?_
  first | refine WL.un rfl rfl rfl (not_t _ _) ?_ | refine WL.skip _ rfl rfl rfl ?_
  refine WL.pick rfl rfl rfl rfl ?_; refine WL.done ?_; refine EW.on ?_; refine EW.cond_f rfl ?_; refine EW.skip ?_; refine EW.on ?_; refine EW.seq ?_; refine EW.region ?_; refine WL.move rfl rfl rfl ?_; refine WL.move rfl rfl rfl ?_; refine WL.load rfl rfl rfl (ld120 b3) ?_; refine WL.move rfl rfl rfl ?_; refine WL.call [.iface 109 (.pointer (some ⟨qf, 0, none⟩)), .iface 105 (.pointer (some ⟨qt, 0, none⟩)), rvl 105 ⟨g, 0, none⟩ 150, rty 41] enter75 rfl rfl rfl (as_any _ (hb.on l13) (ht.on l13) ((bg.on l3).cell 0)) ?_
  rintro _ w5 ⟨rfl, b5, f5⟩
  refine ⟨_, rfl, ?_⟩; refine WL.assign rfl rfl rfl ?_; refine WL.done ?_; refine EW.on ?_; refine EW.ret ?_
  exact EW.returns Tryz.results53 rfl ⟨rfl, b5, (Fx.of_below l13).and f5⟩
set_option maxRecDepth 100000 in
set_option maxHeartbeats 1000000 in
theorem code_any {w : World} {qf : Nat} {s : ByteArray} {a c : Int} (hb : Blk w qf (fltC s a c) 111) (hg : w.cell? ⟨0, 0, none⟩ = some (rty 46)) : Calls Tryz.prog 22 #[.iface 109 (.pointer (some ⟨qf, 0, none⟩))] w fun e w' => e = .returned (.int .i64 c) ∧ Below w.heap.size w w' := by
  obtain ⟨w1, qt, r1, b1, l1, hqt⟩ := new49 w
  have hg1 : w1.cell? ⟨0, 0, none⟩ = some (rty 46) := (l1.cell (cell_lt hg)).trans hg
  refine calls_of_args [.iface 109 (.pointer (some ⟨qf, 0, none⟩))] Tryz.func22 rfl 10 Tryz.ntmps22 (by show 1 ≤ 10; decide) ?_; refine EW.seq ?_; refine EW.region ?_; refine WL.assign rfl rfl rfl ?_; refine WL.done ?_; refine EW.on ?_; refine EW.seq ?_; refine EW.seq ?_; refine EW.region ?_; refine WL.move rfl rfl rfl ?_; refine WL.bin rfl rfl rfl rfl (eqif _ _ _ _) ?_; refine WL.done ?_; refine EW.on ?_; refine EW.cond_f rfl ?_; refine EW.skip ?_; refine EW.on ?_; refine EW.seq ?_; refine EW.region ?_; refine WL.new rfl rfl r1 ?_; refine WL.done ?_; refine EW.on ?_; refine EW.seq ?_; refine EW.seq ?_; refine EW.region ?_; refine WL.move rfl rfl rfl ?_; refine WL.mki rfl rfl rfl (mkiE _ _) ?_; refine WL.call [.iface 109 (.pointer (some ⟨qf, 0, none⟩)), .iface 105 (.pointer (some ⟨qt, 0, none⟩))] enter53 rfl rfl rfl (As_any (hb.on l1) b1 hg1) ?_
  rintro _ w2 ⟨rfl, b2, f2⟩
  refine ⟨_, rfl, ?_⟩; refine WL.done ?_; refine EW.on ?_; refine EW.cond_t rfl ?_; refine EW.seq ?_; refine EW.region ?_; refine WL.load rfl rfl rfl (ld49 b2) ?_; refine WL.assign rfl rfl rfl ?_; refine WL.done ?_; refine EW.on ?_; refine EW.ret ?_; refine pr_then ?_
  exact EW.returns Tryz.results22 rfl ⟨rfl, l1.trans (f2.below (fun k hk e => by have e : k = qt := e; omega) l1.size)⟩
end Go.Proofs.YtmbgeojjklboeaaGreatDoor
