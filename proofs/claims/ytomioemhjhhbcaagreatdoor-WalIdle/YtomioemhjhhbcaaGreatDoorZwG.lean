import Derived.Test.YtomioemhjhhbcaaGreatDoorZs
import Derived.Stop.Asserts
import Derived.RowKitTokens
import Derived.LaidEql
set_option linter.unusedVariables false
set_option linter.unusedSimpArgs false
namespace Go.Proofs.YtomioemhjhhbcaaGreatDoor
open Go.RowKit

def sCommit : ByteArray := { data := #[67, 111, 109, 109, 105, 116] }
theorem Qr.on {w w' : World} {v : Value} {m : Nat} {nI : Nat → Int} {vI : Nat → Value} {lI : Nat → Nat} (h : Qr w v m nI vI lI) (hb : Below w.heap.size w w') : Qr w' v m nI vI lI := ⟨h.len, fun i hi => by
  obtain ⟨ad, h1, h2⟩ := h.at_ i hi
  exact ⟨ad, h1, fun W hW => h2 W (hb.trans (hW.mono hb.size))⟩, h.sl⟩
set_option maxRecDepth 100000 in
set_option maxHeartbeats 1000000 in
theorem commit_no {w : World} {q p n : Nat} (hb : Blk w q (lgC p n .nilIface) 87) (v : Value) {m : Nat} {nI : Nat → Int} {vI : Nat → Value} {lI : Nat → Nat} (hp : Qr w v m nI vI lI) (hm : m ≤ 1000) (hn2 : n ≤ 1000) (k : Nat) (hk : k < m) (hg : ∀ i, i < k → 0 ≤ nI i ∧ nI i < (n : Int) ∧ lI i = 1024 ∧ ∀ j, j < i → nI j ≠ nI i) (code : Int) (hcode : ¬ code = 0) (hbad : Bad n nI lI k code) : Calls Tryz.prog 9 #[.pointer (some ⟨q, 0, none⟩), v] w fun e w' => ∃ qf, e = .returned (.iface 53 (.pointer (some ⟨qf, 0, none⟩))) ∧ Blk w' qf (fltC sCommit (k : Int) code) 55 ∧ Below w.heap.size w w' := by
  refine calls_of_argsD [.pointer (some ⟨q, 0, none⟩), v] Tryz.func9 rfl 35 Tryz.ntmps9 (by show 2 ≤ 35; decide) ?_
  refine EW.seq ?_
  refine EW.region ?_
  obtain ⟨w1, q1, r1, b1, e1, hq1, z1⟩ := box22 (some ⟨q, 0, none⟩) w
  refine WL.box rfl rfl rfl r1 ?_
  obtain ⟨w3, q3, r3, b3, e3, hq3, z3⟩ := new24 w1
  have e03 := e1.trans (e3.mono e1.size)
  have g3 := hb.on e03
  have b13 := b1.on e3
  refine WL.new rfl rfl r3 ?_
  refine WL.done ?_
  refine EW.on ?_
  refine EW.seq ?_
  refine EW.region ?_
  refine WL.mkf [.pointer (some ⟨q1, 0, none⟩), .pointer (some ⟨q3, 0, none⟩)] rfl rfl rfl ?_
  refine WL.defer rfl rfl ?_
  refine WL.done ?_
  refine EW.on ?_
  refine EW.seq ?_
  refine EW.seq ?_
  refine EW.region ?_
  refine WL.load rfl rfl rfl (ld22c b13) ?_
  first | refine WL.nilc rfl rfl rfl ?_
  refine WL.field rfl rfl rfl (fld66_1 q _) ?_
  refine WL.load rfl rfl rfl (ldl24 g3) ?_
  refine WL.bin rfl rfl rfl rfl (ne24n _ _) ?_
  refine WL.done ?_
  refine EW.on ?_
  refine EW.cond_f rfl ?_
  refine EW.skip ?_
  refine EW.on ?_
  refine EW.seq ?_
  refine EW.seq ?_
  refine EW.region ?_
  refine WL.load rfl rfl rfl (ld22c b13) ?_
  first | refine WL.move rfl rfl rfl ?_
  refine WL.call [.pointer (some ⟨q, 0, none⟩), v] enter30 rfl rfl rfl (refusal_no g3 v (hp.on e03) hm hn2 k hk hg code hbad) ?_
  rintro _ w4 ⟨rfl, e4⟩
  have e04 := e03.trans (e4.mono e03.size)
  have b34 := b3.on e4
  refine ⟨_, rfl, ?_⟩
  first | refine WL.move rfl rfl rfl ?_
  first | refine WL.extract rfl rfl rfl (ext_2 _ _ _).1 ?_
  first | refine WL.extract rfl rfl rfl (ext_2 _ _ _).2 ?_
  first | refine WL.assign rfl rfl rfl ?_
  first | refine WL.assign rfl rfl rfl ?_
  refine WL.done ?_
  refine EW.on ?_
  refine EW.seq ?_
  refine EW.region ?_
  first | refine WL.move rfl rfl rfl ?_
  refine WL.bin rfl rfl rfl rfl (int_ne_t hcode _ _ _) ?_
  refine WL.done ?_
  refine EW.on ?_
  refine EW.cond_t rfl ?_
  refine EW.seq ?_
  refine EW.region ?_
  first | refine WL.move rfl rfl rfl ?_
  first | refine WL.move rfl rfl rfl ?_
  refine WL.call [.string sCommit, .int .i64 (k : Int), .int .i64 code] enter29 rfl rfl rfl (wfault_any sCommit (k : Int) code w4) ?_
  rintro _ w5 ⟨u, rfl, hf5, e5, hu5⟩
  refine ⟨_, rfl, ?_⟩
  have e05 := e04.trans (e5.mono e04.size)
  have b35 := b34.on e5
  obtain ⟨qf, hqf, bf5⟩ := hf5
  subst hqf
  obtain ⟨w7, s7, b7, x7⟩ := st24f 53 (.pointer (some ⟨qf, 0, none⟩)) b35
  refine WL.store rfl rfl rfl s7 ?_
  refine WL.done ?_
  refine EW.on ?_
  refine EW.ret ?_
  refine pr_then ?_
  refine EW.leaves enter26 (commit1_none _ _ _) ?_
  rintro u w' ⟨hu, hw⟩
  subst hu
  rw [hw]
  refine ⟨rfl, fun a ha => ⟨_, results_c1 Tryz.results9 a.tmps w7 (ha.kn 4 _ rfl) (ld24c b7), qf, rfl, bf5.fx x7 (ne_type ⟨_, bf5⟩ b35 (by decide)), e05.trans (x7.below (fun k hk e => by have e : k = q3 := e; have := e1.size; omega) e05.size)⟩⟩
end Go.Proofs.YtomioemhjhhbcaaGreatDoor

set_option linter.unusedVariables false
set_option linter.unusedSimpArgs false
namespace Go.Proofs.YtomioemhjhhbcaaGreatDoor
open Go.RowKit

open Go.Extern
/-- A type's handle, and the type as a value. -/
def hdl (t : Nat) : Value := .pointer (some ⟨1, t, none⟩)
def rty (t : Nat) : Value := .iface 142 (.agg #[hdl t])
def rvl (t : Nat) (a : Addr) (f : Int) : Value := .agg #[hdl t, .pointer (some a), .int .u64 f]
theorem vo94 (t : Addr) (w : World) : (callFunc 64 #[.iface 94 (.pointer (some t))]).run Tryz.prog w = .ok (.value (rvl 94 ⟨w.heap.size, 0, none⟩ 150)) (w.alloc (.cells #[.pointer (some t)] 94)) := by kernel_rfl
theorem ty94 (a : Addr) (w : World) : (callFunc 65 #[rvl 94 a 150]).run Tryz.prog w = .ok (.value (rty 94)) w := by kernel_rfl
theorem kd94 (w : World) : (callMethod (rty 94) "Kind" #[]).run Tryz.prog w = .ok (.value (.int .u8 22)) w := by kernel_rfl
theorem kd49 (w : World) : (callMethod (rty 49) "Kind" #[]).run Tryz.prog w = .ok (.value (.int .u8 2)) w := by kernel_rfl
theorem el94 (w : World) : (callMethod (rty 94) "Elem" #[]).run Tryz.prog w = .ok (.value (rty 49)) w := by kernel_rfl
theorem im49 (w : World) : (callMethod (rty 49) "Implements" #[rty 46]).run Tryz.prog w = .ok (.value (.bool true)) w := by kernel_rfl
theorem to53 (p : Value) (w : World) : (callFunc 80 #[.iface 53 p]).run Tryz.prog w = .ok (.value (rty 53)) w := by kernel_rfl
theorem to49 (p : Value) (w : World) : (callFunc 80 #[.iface 49 p]).run Tryz.prog w = .ok (.value (rty 49)) w := by kernel_rfl
theorem at53 (w : World) : (callMethod (rty 53) "AssignableTo" #[rty 49]).run Tryz.prog w = .ok (.value (.bool false)) w := by kernel_rfl
theorem at49 (w : World) : (callMethod (rty 49) "AssignableTo" #[rty 49]).run Tryz.prog w = .ok (.value (.bool true)) w := by kernel_rfl
theorem vo49 (c : Int) (w : World) : (callFunc 64 #[.iface 49 (.int .i64 c)]).run Tryz.prog w = .ok (.value (rvl 49 ⟨w.heap.size, 0, none⟩ 130)) (w.alloc (.cells #[.int .i64 c] 49)) := by kernel_rfl
theorem un53 (p : Value) (w : World) : (callMethod (.iface 53 p) "Unwrap" #[]).run Tryz.prog w = .ok (.enter 127 #[p]) w := by kernel_rfl
end Go.Proofs.YtomioemhjhhbcaaGreatDoor

set_option linter.unusedVariables false
set_option linter.unusedSimpArgs false
namespace Go.Proofs.YtomioemhjhhbcaaGreatDoor
open Go.RowKit

open Go.Extern Go.Stop
theorem rlm (z : Sem Value) (f : TypeId → Addr → Nat → Nat → Sem Value) (v : Value) : ∃ k, ReflectliteValue.method z f #[v] = (ReflectliteValue.parts v >>= k) ∧ ∀ t a fl, k (some (t, a, fl)) = f t a fl (fl % 32) := ⟨_, rfl, fun _ _ _ => rfl⟩
theorem parts94 (a : Addr) (w : World) : (ReflectliteValue.parts (.agg #[.pointer (some ⟨1, 94, none⟩), .pointer (some a), .int .u64 150])).run Tryz.prog w = .ok (some (94, a, 150)) w := by kernel_rfl
theorem parts49a (a : Addr) (w : World) : (ReflectliteValue.parts (.agg #[.pointer (some ⟨1, 49, none⟩), .pointer (some a), .int .u64 386])).run Tryz.prog w = .ok (some (49, a, 386)) w := by kernel_rfl
theorem parts49 (a : Addr) (w : World) : (ReflectliteValue.parts (.agg #[.pointer (some ⟨1, 49, none⟩), .pointer (some a), .int .u64 130])).run Tryz.prog w = .ok (some (49, a, 130)) w := by kernel_rfl
theorem direct49 (w : World) : (Rtype.directlyAssignable 49 49).run Tryz.prog w = .ok true w := by kernel_rfl
theorem elemOf94 (w : World) : (Rtype.elem? 94).run Tryz.prog w = .ok (some 49) w := by kernel_rfl
theorem mk49 (p : Addr) (w : World) : (ReflectliteValue.mk 49 p ReflectliteValue.flagAddr).run Tryz.prog w = .ok (.agg #[.pointer (some ⟨1, 49, none⟩), .pointer (some p), .int .u64 386]) w := by kernel_rfl
theorem ul94 : Tryz.prog.underlying 94 = some (.pointer 49) := by kernel_rfl
theorem isNil94 (a p : Addr) (W : World) (ha : W.cell? a = some (.pointer (some p))) : (callFunc 66 #[.agg #[.pointer (some ⟨1, 94, none⟩), .pointer (some a), .int .u64 150]]).run Tryz.prog W = .ok (.value (.bool false)) W := by
  rw [@run_callFunc_extern Tryz.prog 66 _ (ReflectliteValue.method (ReflectliteValue.valueError "reflectlite.Value.IsNil" 0) ReflectliteValue.isNil) Tryz.func66 (by kernel_rfl) (by kernel_rfl) (by kernel_rfl) (by kernel_rfl)]
  obtain ⟨k, hk, hk2⟩ := rlm (ReflectliteValue.valueError "reflectlite.Value.IsNil" 0) ReflectliteValue.isNil (.agg #[.pointer (some ⟨1, 94, none⟩), .pointer (some a), .int .u64 150])
  rw [hk]
  simp only [Sem.run_bind, parts94, Result.andThen, hk2]
  simp [ReflectliteValue.isNil, loadVar, isAgg, underlying, ul94, ha, Result.andThen]
theorem elemV94 (a p : Addr) (W : World) (ha : W.cell? a = some (.pointer (some p))) : (callFunc 81 #[.agg #[.pointer (some ⟨1, 94, none⟩), .pointer (some a), .int .u64 150]]).run Tryz.prog W = .ok (.value (.agg #[.pointer (some ⟨1, 49, none⟩), .pointer (some p), .int .u64 386])) W := by
  rw [@run_callFunc_extern Tryz.prog 81 _ (ReflectliteValue.method (ReflectliteValue.valueError "reflectlite.Value.Elem" 0) ReflectliteValue.elem) Tryz.func81 (by kernel_rfl) (by kernel_rfl) (by kernel_rfl) (by kernel_rfl)]
  obtain ⟨k, hk, hk2⟩ := rlm (ReflectliteValue.valueError "reflectlite.Value.Elem" 0) ReflectliteValue.elem (.agg #[.pointer (some ⟨1, 94, none⟩), .pointer (some a), .int .u64 150])
  rw [hk]
  simp only [Sem.run_bind, parts94, Result.andThen, hk2]
  simp [ReflectliteValue.elem, loadVar, isAgg, underlying, ul94, ha, Result.andThen, elemOf94, mk49]
theorem set49 (ta b : Addr) (c : Int) (old : Value) (W : World) (hb : W.cell? b = some (.int .i64 c)) (ht : W.cell? ta = some old) (hf : W.frozen? ta = false) : (callFunc 82 #[.agg #[.pointer (some ⟨1, 49, none⟩), .pointer (some ta), .int .u64 386], .agg #[.pointer (some ⟨1, 49, none⟩), .pointer (some b), .int .u64 130]]).run Tryz.prog W = .ok (.value (.tuple #[])) (W.setCell ta (.int .i64 c)) := by
  rw [@run_callFunc_extern Tryz.prog 82 _ ReflectliteValue.set Tryz.func82 (by kernel_rfl) (by kernel_rfl) (by kernel_rfl) (by kernel_rfl)]
  obtain ⟨k, hk, hk2⟩ : ∃ k : Option (TypeId × Addr × Nat) → Option (TypeId × Addr × Nat) → Sem Value, ReflectliteValue.set #[.agg #[.pointer (some ⟨1, 49, none⟩), .pointer (some ta), .int .u64 386], .agg #[.pointer (some ⟨1, 49, none⟩), .pointer (some b), .int .u64 130]] = (ReflectliteValue.parts (.agg #[.pointer (some ⟨1, 49, none⟩), .pointer (some ta), .int .u64 386]) >>= fun x => ReflectliteValue.parts (.agg #[.pointer (some ⟨1, 49, none⟩), .pointer (some b), .int .u64 130]) >>= fun y => k x y) ∧ (k (some (49, ta, 386)) (some (49, b, 130))).run Tryz.prog W = .ok (.tuple #[]) (W.setCell ta (.int .i64 c)) := ⟨_, rfl, by
    simp [ReflectliteValue.flagAddr, loadVar, isAgg, underlying, Tryz.underlying49, hb, Result.andThen, direct49, storeVar, Value.cells, storeCells, Addr.add]
    rw [run_store Tryz.prog W ta _ _ (by rfl)]
    simp [ht, hf]⟩
  rw [hk]
  simp only [Sem.run_bind, parts49a, parts49, Result.andThen, hk2]
end Go.Proofs.YtomioemhjhhbcaaGreatDoor

set_option linter.unusedVariables false
set_option linter.unusedSimpArgs false
namespace Go.Proofs.YtomioemhjhhbcaaGreatDoor
open Go.RowKit

section
variable {P : Program} {n : Fm} {ops : Array Oper} {Q : Exit → Act → World → Prop} {i : Nat} {ty : TypeId} {ps : String} {af : Array Edge} {gd : Option (Nat × Bool)} {r : List Oper} {e : List (Nat × Value)} {w w' : World}
theorem WL.callX {f : FuncId} {xs : List Operand} {ts : Array TypeId} {v : Value} (args : List Value) (hw : wantE ops e ⟨some i, .call { callee := .value (.func f), args := xs.toArray, argTypes := ts }, ty, ps, af, gd⟩ = some true) (hi : decide (i < n.k) = true) (hx : xs.map (evE e) = args.map some) (hr : (callFunc f args.toArray).run P w = .ok (.value v) w') (k : WL P n ops Q r ((i, v) :: e) w') : WL P n ops Q (⟨some i, .call { callee := .value (.func f), args := xs.toArray, argTypes := ts }, ty, ps, af, gd⟩ :: r) e w :=
  WL.op i v hw rfl hi (fun a ha => by
    have e1 : (execOp a.eval ⟨some i, .call { callee := .value (.func f), args := xs.toArray, argTypes := ts }, ty, ps, af, gd⟩).run P w = (callFunc f (xs.toArray.map a.eval)).run P w := by
      simp [execOp, resolve, Deferred.ofValue, invoke, Act.eval]
    rw [e1, List.map_toArray, args_ev ha hx, hr]) k
theorem WL.inv {x : Operand} {nm : String} {xs : List Operand} {ts : Array TypeId} {u v : Value} (args : List Value) (hw : wantE ops e ⟨some i, .call { callee := .invoke x nm, args := xs.toArray, argTypes := ts }, ty, ps, af, gd⟩ = some true) (hi : decide (i < n.k) = true) (hu : evE e x = some u) (hx : xs.map (evE e) = args.map some) (hr : (callMethod u nm args.toArray).run P w = .ok (.value v) w') (k : WL P n ops Q r ((i, v) :: e) w') : WL P n ops Q (⟨some i, .call { callee := .invoke x nm, args := xs.toArray, argTypes := ts }, ty, ps, af, gd⟩ :: r) e w :=
  WL.op i v hw rfl hi (fun a ha => by
    have hargs := args_ev ha hx
    have hu' := ha.ev hu
    unfold execOp
    simp [resolve, List.map_toArray, hargs, hu', Sem.run_bind, Sem.run_pure, Result.andThen_ok, invoke, hr]) k
end
section
variable {P : Program} {n : Fm} {ops : Array Oper} {Q : Exit → Act → World → Prop} {i : Nat} {ty : TypeId} {ps : String} {af : Array Edge} {gd : Option (Nat × Bool)} {r : List Oper} {e : List (Nat × Value)} {w : World}
/-- A method that is entered. -/
theorem WL.invE {x : Operand} {nm : String} {ts : Array TypeId} {u : Value} {f : FuncId} {args : Array Value} {R : Ending → World → Prop} (hw : wantE ops e ⟨some i, .call { callee := .invoke x nm, args := #[], argTypes := ts }, ty, ps, af, gd⟩ = some true) (hi : decide (i < n.k) = true) (hu : evE e x = some u) (hr : (callMethod u nm #[]).run P w = .ok (.enter f args) w) (hc : Calls P f args w R)
    (k : ∀ x w', R x w' → ∃ v, x = .returned v ∧ WL P n ops Q r ((i, v) :: e) w') : WL P n ops Q (⟨some i, .call { callee := .invoke x nm, args := #[], argTypes := ts }, ty, ps, af, gd⟩ :: r) e w := fun a ha => by
  unfold wpList
  rw [if_pos (wantE_spec ha hw)]
  have hu' := ha.ev hu
  have h1 : (execOp a.eval ⟨some i, .call { callee := .invoke x nm, args := #[], argTypes := ts }, ty, ps, af, gd⟩).run P w = .ok (.enter f args) w := by
    unfold execOp
    simp [resolve, hu', Sem.run_bind, Sem.run_pure, Result.andThen_ok, invoke, hr]
  unfold Oper.wp
  rw [h1]
  simp only [Oper.upon]
  refine .inl (hc.mono fun x w' hx => ?_)
  obtain ⟨v, rfl, k'⟩ := k x w' hx
  exact k' _ (ha.ins (some i) v (fun j hj => by cases hj; exact of_decide_eq_true hi))
end
theorem as147 (p : Value) (W : World) : (Instr.typeAssert (.iface 53 p) 46 147 true).run Tryz.prog W = .ok (.tuple #[.nilIface, .bool false]) W := run_typeAssert_lacksB Tryz.underlying147 (by kernel_rfl) (by kernel_rfl) p 46 W
theorem as150 (p : Value) (W : World) : (Instr.typeAssert (.iface 53 p) 46 150 true).run Tryz.prog W = .ok (.tuple #[.iface 53 p, .bool true]) W := run_typeAssert_hasB Tryz.underlying150 (by kernel_rfl) p 46 W
set_option maxRecDepth 100000 in
set_option maxHeartbeats 1000000 in
theorem unwrap_any {w : World} {q : Nat} {s : ByteArray} {a c : Int} (hb : Blk w q (fltC s a c) 55) : Calls Tryz.prog 127 #[.pointer (some ⟨q, 0, none⟩)] w fun e w' => e = .returned (.iface 49 (.int .i64 c)) ∧ w' = w := by
  refine calls_of_args [.pointer (some ⟨q, 0, none⟩)] Tryz.func127 rfl 7 Tryz.ntmps127 (by show 1 ≤ 7; decide) ?_
  refine EW.seq ?_
  refine EW.region ?_
  first | refine WL.assign rfl rfl rfl ?_
  refine WL.done ?_
  refine EW.on ?_
  refine EW.seq ?_
  refine EW.region ?_
  first | refine WL.move rfl rfl rfl ?_
  first | refine WL.nilc rfl rfl rfl ?_
  refine WL.field rfl rfl rfl (fld81_2 q _) ?_
  refine WL.load rfl rfl rfl (ldc24 hb rfl) ?_
  first | refine WL.assign rfl rfl rfl ?_
  refine WL.done ?_
  refine EW.on ?_
  refine EW.ret ?_
  exact EW.returns Tryz.results127 rfl ⟨rfl, rfl⟩
end Go.Proofs.YtomioemhjhhbcaaGreatDoor
