import Derived.Test.YthlpfpggjkocmaaWg
set_option linter.unusedVariables false
set_option linter.unusedSimpArgs false
namespace Go.Proofs.Ythlpfpggjkocmaa
open Go.RowKit

theorem WL.mki {P : Program} {n : Fm} {ops : Array Oper} {Q : Exit → Act → World → Prop} {i : Nat} {ty : TypeId} {ps : String} {af : Array Edge} {gd : Option (Nat × Bool)} {r : List Oper} {e : List (Nat × Value)} {w : World} {t : TypeId} {x : Operand} {u v : Value} (hw : wantE ops e ⟨some i, .makeInterface t x, ty, ps, af, gd⟩ = some true) (hi : decide (i < n.k) = true) (hx : evE e x = some u) (hr : (Instr.makeInterface t u).run P w = .ok v w) (k : WL P n ops Q r ((i, v) :: e) w) : WL P n ops Q (⟨some i, .makeInterface t x, ty, ps, af, gd⟩ :: r) e w :=
  WL.op i v hw rfl hi (fun a ha => by simp [execOp, ha.ev hx, hr, Result.andThen]) k
theorem WL.tas {P : Program} {n : Fm} {ops : Array Oper} {Q : Exit → Act → World → Prop} {i : Nat} {ty : TypeId} {ps : String} {af : Array Edge} {gd : Option (Nat × Bool)} {r : List Oper} {e : List (Nat × Value)} {w : World} {t t' : TypeId} {b : Bool} {x : Operand} {u v : Value} (hw : wantE ops e ⟨some i, .typeAssert x t t' b, ty, ps, af, gd⟩ = some true) (hi : decide (i < n.k) = true) (hx : evE e x = some u) (hr : (Instr.typeAssert u t t' b).run P w = .ok v w) (k : WL P n ops Q r ((i, v) :: e) w) : WL P n ops Q (⟨some i, .typeAssert x t t' b, ty, ps, af, gd⟩ :: r) e w :=
  WL.op i v hw rfl hi (fun a ha => by simp [execOp, ha.ev hx, hr, Result.andThen]) k
theorem WL.mkf {P : Program} {n : Fm} {ops : Array Oper} {Q : Exit → Act → World → Prop} {i : Nat} {ty : TypeId} {ps : String} {af : Array Edge} {gd : Option (Nat × Bool)} {r : List Oper} {e : List (Nat × Value)} {w : World} {g : FuncId} {xs : List Operand} (vs : List Value) (hw : wantE ops e ⟨some i, .makeFunc (.func g) #[] xs.toArray, ty, ps, af, gd⟩ = some true) (hi : decide (i < n.k) = true) (hx : xs.map (evE e) = vs.map some) (k : WL P n ops Q r ((i, .func (.func g) #[] vs.toArray) :: e) w) : WL P n ops Q (⟨some i, .makeFunc (.func g) #[] xs.toArray, ty, ps, af, gd⟩ :: r) e w :=
  WL.op i _ hw rfl hi (fun a ha => by
    have e2 := args_ev ha hx
    simp only [execOp, Instr.makeFunc, List.map_toArray, Act.eval] at *
    rw [e2]
    rfl) k
/-- What a call gives up with. -/
def surV (c : Int) : Value := .iface 94 (.agg #[.int .i64 c])
theorem bld94 (c : Int) (W : World) : (Instr.build 94 [(0, .int .i64 c)].toArray).run Try.prog W = .ok (.agg #[.int .i64 c]) W := by kernel_rfl
theorem mki94 (v : Value) (W : World) : (Instr.makeInterface 94 v).run Try.prog W = .ok (.iface 94 v) W := by simp [Instr.makeInterface, run_underlying Try.underlying94]
theorem mki45 (v : Value) (W : World) : (Instr.makeInterface 45 v).run Try.prog W = .ok (.iface 45 v) W := by simp [Instr.makeInterface, run_underlying Try.underlying45]
theorem mki79 (v : Value) (W : World) : (Instr.makeInterface 79 v).run Try.prog W = .ok (.iface 79 v) W := by simp [Instr.makeInterface, run_underlying Try.underlying79]
set_option maxRecDepth 100000 in
set_option maxHeartbeats 1000000 in
theorem wgiveUp_any (c : Int) (w : World) : Calls Try.prog 24 #[.int .i64 c] w fun e w' => e = .panicked [{ v := surV c, recovered := false }] ∧ w' = w := by
  refine calls_of_args [.int .i64 c] Try.func24 rfl 5 Try.ntmps24 (by show 1 ≤ 5; decide) ?_
  refine EW.region ?_
  first | refine WL.move rfl rfl rfl ?_
  refine WL.build1 rfl rfl rfl (bld94 _ _) ?_
  refine WL.mki rfl rfl rfl (mki94 _ _) ?_
  refine WL.panic rfl rfl ?_
  exact pp_post ⟨rfl, rfl⟩
def fltC (s : ByteArray) (at_ c : Int) : List Value := [.string s, .int .i64 at_, .iface 45 (.int .i64 c)]
/-- A fault lies there. -/
def Flt (w : World) (v : Value) (s : ByteArray) (at_ c : Int) : Prop := ∃ q, v = .iface 79 (.pointer (some ⟨q, 0, none⟩)) ∧ Blk w q (fltC s at_ c) 81
theorem bld81 (s : ByteArray) (a c : Int) (W : World) : (Instr.build 81 [(0, .string s), (1, .int .i64 a), (2, .iface 45 (.int .i64 c))].toArray).run Try.prog W = .ok (.agg (fltC s a c).toArray) W := by kernel_rfl
set_option maxRecDepth 100000 in
set_option maxHeartbeats 1000000 in
theorem wfault_any (s : ByteArray) (a c : Int) (w : World) : Calls Try.prog 19 #[.string s, .int .i64 a, .int .i64 c] w fun e w' => ∃ v, e = .returned v ∧ Flt w' v s a c ∧ Below w.heap.size w w' ∧ v = .iface 79 (.pointer (some ⟨w.heap.size, 0, none⟩)) := by
  refine calls_of_args [.string s, .int .i64 a, .int .i64 c] Try.func19 rfl 14 Try.ntmps19 (by show 3 ≤ 14; decide) ?_
  refine EW.seq ?_
  refine EW.region ?_
  first | refine WL.assign rfl rfl rfl ?_
  refine WL.done ?_
  refine EW.on ?_
  refine EW.seq ?_
  refine EW.region ?_
  first | refine WL.move rfl rfl rfl ?_
  first | refine WL.move rfl rfl rfl ?_
  first | refine WL.move rfl rfl rfl ?_
  refine WL.mki rfl rfl rfl (mki45 _ _) ?_
  refine WL.buildN [(0, .string s), (1, .int .i64 a), (2, .iface 45 (.int .i64 c))] rfl rfl rfl (bld81 _ _ _ _) ?_
  refine WL.box rfl rfl rfl (run_boxR 81 _ w _ rfl) ?_
  refine WL.mki rfl rfl rfl (mki79 _ _) ?_
  first | refine WL.assign rfl rfl rfl ?_
  refine WL.done ?_
  refine EW.on ?_
  refine EW.ret ?_
  exact EW.returns Try.results19 rfl ⟨_, rfl, ⟨_, rfl, Blk.new _ _ _⟩, below_new _ _, rfl⟩
theorem eq20s (c : Int) (W : World) (x : Operand) : (do eqGuard .eql 20 x (.const .nilIface) (surV c) .nilIface; binOp .eql 20 (surV c) .nilIface : Sem Value).run Try.prog W = .ok (.bool false) W := by
  have h : eqGuard .eql 20 x (.const .nilIface) (surV c) .nilIface = pure () := by
    unfold eqGuard surV
    cases x <;> rfl
  rw [h]
  unfold surV
  go_simp
theorem tas94 (c : Int) (W : World) : (Instr.typeAssert (surV c) 20 94 true).run Try.prog W = .ok (.tuple #[.agg #[.int .i64 c], .bool true]) W := by
  simp [Instr.typeAssert, surV, run_underlying Try.underlying94]
theorem new94 (w : World) : (Instr.alloc 94 true (.tuple #[])).run Try.prog w = .ok (.pointer (some ⟨w.heap.size, 0, none⟩)) (w.alloc (.cells [Value.int .i64 0].toArray 94)) := run_newR 94 [.int .i64 0] (fun w => by rw [Try.zeroValue94]) w _ rfl
theorem st94 {w : World} {q : Nat} {c0 : Int} (c : Int) (hb : Blk w q [.int .i64 c0] 94) : ∃ w', (Instr.storeAt 94 (.pointer (some ⟨q, 0, none⟩)) (.agg #[.int .i64 c])).run Try.prog w = .ok () w' ∧ Blk w' q [.int .i64 c] 94 ∧ Fx (fun k => k = q) w w' :=
  ⟨_, run_storeR (cs := [.int .i64 c]) hb (by kernel_rfl) rfl (all_oneCell_toArray fun v hv => by simp only [List.mem_cons, List.not_mem_nil, or_false] at hv; rw [hv]; rfl), hb.setRow _, by
    refine ⟨rfl, rfl, rfl, by simp [World.setRow], fun k hk hn => ?_⟩
    simp only [World.setRow]
    rw [Array.getElem?_modify]
    rw [if_neg (fun e => hn e.symm)]⟩
theorem fld94 (q : Nat) (W : World) : (Instr.fieldAt 94 (.pointer (some ⟨q, 0, none⟩)) 0).run Try.prog W = .ok (.pointer (some ⟨q, 0, none⟩)) W := by go_simp
theorem ld45 {W : World} {q : Nat} {c : Int} (hb : Blk W q [.int .i64 c] 94) : (Instr.loadAt 45 (.pointer (some ⟨q, 0, none⟩))).run Try.prog W = .ok (.int .i64 c) W := by
  have hc : W.cell? ⟨q, 0, none⟩ = some (.int .i64 c) := hb.cell 0
  have hf := hb.frozen 0
  go_simp
set_option maxRecDepth 100000 in
set_option maxHeartbeats 1000000 in
theorem caught_some (c : Int) (w : World) : Calls Try.prog 18 #[surV c] w fun e w' => e = .returned (.int .i64 c) ∧ Below w.heap.size w w' := by
  refine calls_of_args [surV c] Try.func18 rfl 13 Try.ntmps18 (by show 1 ≤ 13; decide) ?_
  refine EW.seq ?_
  refine EW.region ?_
  first | refine WL.assign rfl rfl rfl ?_
  refine WL.done ?_
  refine EW.on ?_
  refine EW.seq ?_
  refine EW.seq ?_
  refine EW.region ?_
  first | refine WL.move rfl rfl rfl ?_
  refine WL.done ?_
  refine EW.on ?_
  refine EW.block ?_
  refine EW.seq ?_
  refine EW.region ?_
  refine WL.bin rfl rfl rfl rfl (eq20s _ _ _) ?_
  refine WL.done ?_
  refine EW.on ?_
  refine EW.cond_f rfl ?_
  refine EW.seq ?_
  refine EW.region ?_
  refine WL.tas rfl rfl rfl (tas94 _ _) ?_
  first | refine WL.extract rfl rfl rfl (ext_2 _ _ _).2 ?_
  first | refine WL.extract rfl rfl rfl (ext_2 _ _ _).1 ?_
  refine WL.done ?_
  refine EW.on ?_
  refine EW.cond_t rfl ?_
  refine EW.seq ?_
  refine EW.region ?_
  refine WL.new rfl rfl (new94 w) ?_
  obtain ⟨w2, s2, b2, x2⟩ := st94 c (Blk.new w [.int .i64 0] 94)
  refine WL.store rfl rfl rfl s2 ?_
  refine WL.done ?_
  refine EW.on ?_
  refine EW.seq ?_
  refine EW.region ?_
  refine WL.field rfl rfl rfl (fld94 _ _) ?_
  refine WL.load rfl rfl rfl (ld45 b2) ?_
  first | refine WL.assign rfl rfl rfl ?_
  refine WL.done ?_
  refine EW.on ?_
  refine EW.ret ?_
  refine pr_block ?_
  refine pr_then ?_
  exact EW.returns Try.results18 rfl ⟨rfl, (below_new _ _).trans (x2.below (fun k hk e => by omega) (below_new w _).size)⟩
end Go.Proofs.Ythlpfpggjkocmaa
