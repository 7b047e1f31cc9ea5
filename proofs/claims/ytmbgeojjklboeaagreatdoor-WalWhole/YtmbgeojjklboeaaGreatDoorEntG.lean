import Derived.Test.YtmbgeojjklboeaaGreatDoorUniG
import Derived.OrdersHeld
import Derived.Deep.MidRow
import Derived.Deep.RegionHeld3
set_option linter.unusedVariables false
set_option linter.unusedSimpArgs false
namespace Go.Proofs.YtmbgeojjklboeaaGreatDoor
open Go.RowKit

section
variable {P : Program} {ops : Array Oper} {Q : Exit → Act → World → Prop} {md : Region.Mode}

/-- One operation alone may come up. -/
theorem only_one {i : Nat} {fuel : Nat} {listed : Array Bool} {a : Act} {w : World} (hr : Region.ready md ops listed = [i])
    (h : wpOp P ops Q i (wpAny P md ops Q fuel (listed.setIfInBounds i true)) a w) : wpAny P md ops Q (fuel + 1) listed a w :=
  wpAny_all hr (by simp) (fun j hj => by
    obtain rfl : j = i := by simpa using hj
    exact h)

theorem op_wp {i : Nat} {o : Oper} (hi : ops[i]? = some o) (hg : o.guard = none) {K : Act → World → Prop} {a : Act} {w : World} (h : o.wp P a w K Q) : wpOp P ops Q i K a w := by
  have hw : Region.wanted o (yielded ops a.tmps) = true := by simp [Region.wanted, hg]
  unfold wpOp
  simp only [hi, hw, if_true]
  exact .inl h

end
section
variable {P : Program} {ops : Array Oper} {Q : Exit → Act → World → Prop} {md : Region.Mode} {S : World → Prop}

end
section
variable {P : Program} {ops : Array Oper} {Q : Exit → Act → World → Prop} {md : Region.Mode} {S : World → Prop}
end
end Go.Proofs.YtmbgeojjklboeaaGreatDoor

set_option linter.unusedVariables false
set_option linter.unusedSimpArgs false
namespace Go.Proofs.YtmbgeojjklboeaaGreatDoor
open Go.RowKit

section
variable {P : Program} {ops : Array Oper} {Q : Exit → Act → World → Prop} {md : Region.Mode} {S : World → Prop}

theorem wpLex_cons2 {K : Act → Prop} {o : Oper} {rest : List Oper} {a a' : Act} (v : Value) (h : Uni P ops S o v a) (ha : a.put o.dst v = a') (k : wpLex P ops S K rest a') : wpLex P ops S K (o :: rest) a := ⟨v, h, ha ▸ k⟩
/-- A whole row is loaded. -/
theorem uni_row {o : Oper} {a : Act} (hg : o.guard = none) (ty : TypeId) (x : Operand) (ho : o.op = .load ty x) (g : Nat) (cs : List Value) (t : TypeId) (hx : a.eval x = .pointer (some ⟨g, 0, none⟩))
    (hb : ∀ W, S W → Blk W g cs t) {d : TypeDesc} (hu : P.underlying ty = some d) (hd : (match d with | .struct _ | .array _ _ => true | _ => false) = true) (hi : (P.info? ty).map (·.size) = some cs.length) : Uni P ops S o (.agg cs.toArray) a := by
  refine .inl ⟨by simp [Region.wanted, hg], .inl fun W hW => ?_⟩
  unfold execOp
  simp only [ho, hx, Instr.loadAt, Instr.sureAddr, Sem.run_bind, Sem.run_pure, Result.andThen_ok, run_loadVar_row W g t ty cs.toArray (0, 0) d (hb W hW) hu hd (by simpa using hi)]
theorem uni_val {o : Oper} {a : Act} (hw : Region.wanted o (yielded ops a.tmps) = true) (op : Op) (ho : o.op = op) (v : Value) (hrun : ∀ o' : Oper, o'.op = op → ∀ W, S W → (execOp a.eval o').run P W = .ok (.value v) W) : Uni P ops S o v a :=
  .inl ⟨hw, .inl (hrun o ho)⟩
theorem run_enter {f : FuncId} {fn : Func} (hf : P.funcs[f]? = some fn) (hname : (fn.name == "runtime.NumGoroutine") = false) (hb : fn.body.isNone = false) (args : Array Value) (w : World) :
    (callFunc f args).run P w = .ok (.enter f args) w := by
  have h1 : fn.name ≠ "runtime.NumGoroutine" := by simpa using hname
  have h2 : ¬ fn.body = none := by intro h; simp [h] at hb
  simp [callFunc, hf, h1, h2]
theorem uni_callF {o : Oper} {a : Act} (hw : Region.wanted o (yielded ops a.tmps) = true) (f : FuncId) (xs : List Operand) (ts : Array TypeId) (ho : o.op = .call { callee := .value (.func f), args := xs.toArray, argTypes := ts }) (args : List Value) (v : Value)
    (hargs : xs.map a.eval = args) (hrun : ∀ (args : Array Value) (W : World), (callFunc f args).run P W = .ok (.enter f args) W)
    (hc : ∀ W, S W → Calls P f args.toArray W (fun e w' => e = .returned v ∧ Below W.heap.size W w')) : Uni P ops S o v a := by
  refine .inl ⟨hw, .inr ⟨f, args.toArray, fun W _ => ?_, hc⟩⟩
  have e : (execOp a.eval o).run P W = (callFunc f (xs.toArray.map a.eval)).run P W := by
    simp [execOp, ho, resolve, Deferred.ofValue, invoke, Act.eval]
  rw [e, List.map_toArray, hargs, hrun]
theorem stable_below (w : World) : Stable (fun W => Below w.heap.size w W) := fun _ _ h hb => h.trans (hb.mono h.size)
theorem below_drawn (w : World) : Below w.heap.size w { w with drawn := w.drawn + 1 } := (Below.refl _ _).drew

def none_ (n : Nat) : Array Bool := Array.replicate n false

theorem wpLex_mono {K K' : Act → Prop} (hK : ∀ a, K a → K' a) : ∀ (l : List Oper) (a : Act), wpLex P ops S K l a → wpLex P ops S K' l a
  | [], a, h => hK a h
  | _ :: l, _, ⟨v, hv, h⟩ => ⟨v, hv, wpLex_mono hK l _ h⟩

end
end Go.Proofs.YtmbgeojjklboeaaGreatDoor

set_option linter.unusedVariables false
set_option linter.unusedSimpArgs false
namespace Go.Proofs.YtmbgeojjklboeaaGreatDoor
open Go.RowKit
theorem enter11 (args : Array Value) (W : World) : (callFunc 11 args).run Tryz.prog W = .ok (.enter 11 args) W := run_enter Tryz.func11 (by kernel_rfl) (by kernel_rfl) args W
theorem enter5 (args : Array Value) (W : World) : (callFunc 5 args).run Tryz.prog W = .ok (.enter 5 args) W := run_enter Tryz.func5 (by kernel_rfl) (by kernel_rfl) args W
theorem enter55 (args : Array Value) (W : World) : (callFunc 55 args).run Tryz.prog W = .ok (.enter 55 args) W := run_enter Tryz.func55 (by kernel_rfl) (by kernel_rfl) args W
theorem enter10 (args : Array Value) (W : World) : (callFunc 10 args).run Tryz.prog W = .ok (.enter 10 args) W := run_enter Tryz.func10 (by kernel_rfl) (by kernel_rfl) args W
theorem enter4 (args : Array Value) (W : World) : (callFunc 4 args).run Tryz.prog W = .ok (.enter 4 args) W := run_enter Tryz.func4 (by kernel_rfl) (by kernel_rfl) args W
theorem enter17 (args : Array Value) (W : World) : (callFunc 17 args).run Tryz.prog W = .ok (.enter 17 args) W := run_enter Tryz.func17 (by kernel_rfl) (by kernel_rfl) args W
theorem enter40 (args : Array Value) (W : World) : (callFunc 40 args).run Tryz.prog W = .ok (.enter 40 args) W := run_enter Tryz.func40 (by kernel_rfl) (by kernel_rfl) args W
theorem enter28 (args : Array Value) (W : World) : (callFunc 28 args).run Tryz.prog W = .ok (.enter 28 args) W := run_enter Tryz.func28 (by kernel_rfl) (by kernel_rfl) args W
theorem enter29 (args : Array Value) (W : World) : (callFunc 29 args).run Tryz.prog W = .ok (.enter 29 args) W := run_enter Tryz.func29 (by kernel_rfl) (by kernel_rfl) args W
theorem enter30 (args : Array Value) (W : World) : (callFunc 30 args).run Tryz.prog W = .ok (.enter 30 args) W := run_enter Tryz.func30 (by kernel_rfl) (by kernel_rfl) args W
theorem enter31 (args : Array Value) (W : World) : (callFunc 31 args).run Tryz.prog W = .ok (.enter 31 args) W := run_enter Tryz.func31 (by kernel_rfl) (by kernel_rfl) args W
theorem enter32 (args : Array Value) (W : World) : (callFunc 32 args).run Tryz.prog W = .ok (.enter 32 args) W := run_enter Tryz.func32 (by kernel_rfl) (by kernel_rfl) args W
theorem enter33 (args : Array Value) (W : World) : (callFunc 33 args).run Tryz.prog W = .ok (.enter 33 args) W := run_enter Tryz.func33 (by kernel_rfl) (by kernel_rfl) args W
theorem enter34 (args : Array Value) (W : World) : (callFunc 34 args).run Tryz.prog W = .ok (.enter 34 args) W := run_enter Tryz.func34 (by kernel_rfl) (by kernel_rfl) args W
theorem enter35 (args : Array Value) (W : World) : (callFunc 35 args).run Tryz.prog W = .ok (.enter 35 args) W := run_enter Tryz.func35 (by kernel_rfl) (by kernel_rfl) args W
theorem enter36 (args : Array Value) (W : World) : (callFunc 36 args).run Tryz.prog W = .ok (.enter 36 args) W := run_enter Tryz.func36 (by kernel_rfl) (by kernel_rfl) args W
theorem enter37 (args : Array Value) (W : World) : (callFunc 37 args).run Tryz.prog W = .ok (.enter 37 args) W := run_enter Tryz.func37 (by kernel_rfl) (by kernel_rfl) args W
theorem enter38 (args : Array Value) (W : World) : (callFunc 38 args).run Tryz.prog W = .ok (.enter 38 args) W := run_enter Tryz.func38 (by kernel_rfl) (by kernel_rfl) args W
theorem enter39 (args : Array Value) (W : World) : (callFunc 39 args).run Tryz.prog W = .ok (.enter 39 args) W := run_enter Tryz.func39 (by kernel_rfl) (by kernel_rfl) args W
theorem enter64 (args : Array Value) (W : World) : (callFunc 64 args).run Tryz.prog W = .ok (.enter 64 args) W := run_enter Tryz.func64 (by kernel_rfl) (by kernel_rfl) args W
theorem enter65 (args : Array Value) (W : World) : (callFunc 65 args).run Tryz.prog W = .ok (.enter 65 args) W := run_enter Tryz.func65 (by kernel_rfl) (by kernel_rfl) args W
theorem enter57 (args : Array Value) (W : World) : (callFunc 57 args).run Tryz.prog W = .ok (.enter 57 args) W := run_enter Tryz.func57 (by kernel_rfl) (by kernel_rfl) args W
theorem enter9 (args : Array Value) (W : World) : (callFunc 9 args).run Tryz.prog W = .ok (.enter 9 args) W := run_enter Tryz.func9 (by kernel_rfl) (by kernel_rfl) args W
theorem enter12 (args : Array Value) (W : World) : (callFunc 12 args).run Tryz.prog W = .ok (.enter 12 args) W := run_enter Tryz.func12 (by kernel_rfl) (by kernel_rfl) args W
theorem enter14 (args : Array Value) (W : World) : (callFunc 14 args).run Tryz.prog W = .ok (.enter 14 args) W := run_enter Tryz.func14 (by kernel_rfl) (by kernel_rfl) args W
theorem enter15 (args : Array Value) (W : World) : (callFunc 15 args).run Tryz.prog W = .ok (.enter 15 args) W := run_enter Tryz.func15 (by kernel_rfl) (by kernel_rfl) args W
theorem enter16 (args : Array Value) (W : World) : (callFunc 16 args).run Tryz.prog W = .ok (.enter 16 args) W := run_enter Tryz.func16 (by kernel_rfl) (by kernel_rfl) args W
theorem enter18 (args : Array Value) (W : World) : (callFunc 18 args).run Tryz.prog W = .ok (.enter 18 args) W := run_enter Tryz.func18 (by kernel_rfl) (by kernel_rfl) args W
theorem enter8 (args : Array Value) (W : World) : (callFunc 8 args).run Tryz.prog W = .ok (.enter 8 args) W := run_enter Tryz.func8 (by kernel_rfl) (by kernel_rfl) args W
theorem enter13 (args : Array Value) (W : World) : (callFunc 13 args).run Tryz.prog W = .ok (.enter 13 args) W := run_enter Tryz.func13 (by kernel_rfl) (by kernel_rfl) args W
theorem enter51 (args : Array Value) (W : World) : (callFunc 51 args).run Tryz.prog W = .ok (.enter 51 args) W := run_enter Tryz.func51 (by kernel_rfl) (by kernel_rfl) args W
theorem enter23 (args : Array Value) (W : World) : (callFunc 23 args).run Tryz.prog W = .ok (.enter 23 args) W := run_enter Tryz.func23 (by kernel_rfl) (by kernel_rfl) args W
theorem enter56 (args : Array Value) (W : World) : (callFunc 56 args).run Tryz.prog W = .ok (.enter 56 args) W := run_enter Tryz.func56 (by kernel_rfl) (by kernel_rfl) args W
theorem enter58 (args : Array Value) (W : World) : (callFunc 58 args).run Tryz.prog W = .ok (.enter 58 args) W := run_enter Tryz.func58 (by kernel_rfl) (by kernel_rfl) args W
theorem enter59 (args : Array Value) (W : World) : (callFunc 59 args).run Tryz.prog W = .ok (.enter 59 args) W := run_enter Tryz.func59 (by kernel_rfl) (by kernel_rfl) args W
theorem enter60 (args : Array Value) (W : World) : (callFunc 60 args).run Tryz.prog W = .ok (.enter 60 args) W := run_enter Tryz.func60 (by kernel_rfl) (by kernel_rfl) args W
theorem enter61 (args : Array Value) (W : World) : (callFunc 61 args).run Tryz.prog W = .ok (.enter 61 args) W := run_enter Tryz.func61 (by kernel_rfl) (by kernel_rfl) args W
theorem enter62 (args : Array Value) (W : World) : (callFunc 62 args).run Tryz.prog W = .ok (.enter 62 args) W := run_enter Tryz.func62 (by kernel_rfl) (by kernel_rfl) args W
theorem enter50 (args : Array Value) (W : World) : (callFunc 50 args).run Tryz.prog W = .ok (.enter 50 args) W := run_enter Tryz.func50 (by kernel_rfl) (by kernel_rfl) args W
theorem enter49 (args : Array Value) (W : World) : (callFunc 49 args).run Tryz.prog W = .ok (.enter 49 args) W := run_enter Tryz.func49 (by kernel_rfl) (by kernel_rfl) args W
theorem enter63 (args : Array Value) (W : World) : (callFunc 63 args).run Tryz.prog W = .ok (.enter 63 args) W := run_enter Tryz.func63 (by kernel_rfl) (by kernel_rfl) args W
theorem enter66 (args : Array Value) (W : World) : (callFunc 66 args).run Tryz.prog W = .ok (.enter 66 args) W := run_enter Tryz.func66 (by kernel_rfl) (by kernel_rfl) args W
theorem enter79 (args : Array Value) (W : World) : (callFunc 79 args).run Tryz.prog W = .ok (.enter 79 args) W := run_enter Tryz.func79 (by kernel_rfl) (by kernel_rfl) args W
theorem enter80 (args : Array Value) (W : World) : (callFunc 80 args).run Tryz.prog W = .ok (.enter 80 args) W := run_enter Tryz.func80 (by kernel_rfl) (by kernel_rfl) args W
theorem enter76 (args : Array Value) (W : World) : (callFunc 76 args).run Tryz.prog W = .ok (.enter 76 args) W := run_enter Tryz.func76 (by kernel_rfl) (by kernel_rfl) args W
theorem enter41 (args : Array Value) (W : World) : (callFunc 41 args).run Tryz.prog W = .ok (.enter 41 args) W := run_enter Tryz.func41 (by kernel_rfl) (by kernel_rfl) args W
theorem enter42 (args : Array Value) (W : World) : (callFunc 42 args).run Tryz.prog W = .ok (.enter 42 args) W := run_enter Tryz.func42 (by kernel_rfl) (by kernel_rfl) args W
theorem enter43 (args : Array Value) (W : World) : (callFunc 43 args).run Tryz.prog W = .ok (.enter 43 args) W := run_enter Tryz.func43 (by kernel_rfl) (by kernel_rfl) args W
theorem enter44 (args : Array Value) (W : World) : (callFunc 44 args).run Tryz.prog W = .ok (.enter 44 args) W := run_enter Tryz.func44 (by kernel_rfl) (by kernel_rfl) args W
theorem enter45 (args : Array Value) (W : World) : (callFunc 45 args).run Tryz.prog W = .ok (.enter 45 args) W := run_enter Tryz.func45 (by kernel_rfl) (by kernel_rfl) args W
theorem enter46 (args : Array Value) (W : World) : (callFunc 46 args).run Tryz.prog W = .ok (.enter 46 args) W := run_enter Tryz.func46 (by kernel_rfl) (by kernel_rfl) args W
theorem enter47 (args : Array Value) (W : World) : (callFunc 47 args).run Tryz.prog W = .ok (.enter 47 args) W := run_enter Tryz.func47 (by kernel_rfl) (by kernel_rfl) args W
theorem enter48 (args : Array Value) (W : World) : (callFunc 48 args).run Tryz.prog W = .ok (.enter 48 args) W := run_enter Tryz.func48 (by kernel_rfl) (by kernel_rfl) args W
theorem enter78 (args : Array Value) (W : World) : (callFunc 78 args).run Tryz.prog W = .ok (.enter 78 args) W := run_enter Tryz.func78 (by kernel_rfl) (by kernel_rfl) args W
theorem enter67 (args : Array Value) (W : World) : (callFunc 67 args).run Tryz.prog W = .ok (.enter 67 args) W := run_enter Tryz.func67 (by kernel_rfl) (by kernel_rfl) args W
theorem enter68 (args : Array Value) (W : World) : (callFunc 68 args).run Tryz.prog W = .ok (.enter 68 args) W := run_enter Tryz.func68 (by kernel_rfl) (by kernel_rfl) args W
theorem enter69 (args : Array Value) (W : World) : (callFunc 69 args).run Tryz.prog W = .ok (.enter 69 args) W := run_enter Tryz.func69 (by kernel_rfl) (by kernel_rfl) args W
theorem enter70 (args : Array Value) (W : World) : (callFunc 70 args).run Tryz.prog W = .ok (.enter 70 args) W := run_enter Tryz.func70 (by kernel_rfl) (by kernel_rfl) args W
theorem enter71 (args : Array Value) (W : World) : (callFunc 71 args).run Tryz.prog W = .ok (.enter 71 args) W := run_enter Tryz.func71 (by kernel_rfl) (by kernel_rfl) args W
theorem enter81 (args : Array Value) (W : World) : (callFunc 81 args).run Tryz.prog W = .ok (.enter 81 args) W := run_enter Tryz.func81 (by kernel_rfl) (by kernel_rfl) args W
theorem enter82 (args : Array Value) (W : World) : (callFunc 82 args).run Tryz.prog W = .ok (.enter 82 args) W := run_enter Tryz.func82 (by kernel_rfl) (by kernel_rfl) args W
theorem enter83 (args : Array Value) (W : World) : (callFunc 83 args).run Tryz.prog W = .ok (.enter 83 args) W := run_enter Tryz.func83 (by kernel_rfl) (by kernel_rfl) args W
theorem enter106 (args : Array Value) (W : World) : (callFunc 106 args).run Tryz.prog W = .ok (.enter 106 args) W := run_enter Tryz.func106 (by kernel_rfl) (by kernel_rfl) args W
theorem enter90 (args : Array Value) (W : World) : (callFunc 90 args).run Tryz.prog W = .ok (.enter 90 args) W := run_enter Tryz.func90 (by kernel_rfl) (by kernel_rfl) args W
theorem enter91 (args : Array Value) (W : World) : (callFunc 91 args).run Tryz.prog W = .ok (.enter 91 args) W := run_enter Tryz.func91 (by kernel_rfl) (by kernel_rfl) args W
theorem enter92 (args : Array Value) (W : World) : (callFunc 92 args).run Tryz.prog W = .ok (.enter 92 args) W := run_enter Tryz.func92 (by kernel_rfl) (by kernel_rfl) args W
theorem enter93 (args : Array Value) (W : World) : (callFunc 93 args).run Tryz.prog W = .ok (.enter 93 args) W := run_enter Tryz.func93 (by kernel_rfl) (by kernel_rfl) args W
theorem enter94 (args : Array Value) (W : World) : (callFunc 94 args).run Tryz.prog W = .ok (.enter 94 args) W := run_enter Tryz.func94 (by kernel_rfl) (by kernel_rfl) args W
theorem enter95 (args : Array Value) (W : World) : (callFunc 95 args).run Tryz.prog W = .ok (.enter 95 args) W := run_enter Tryz.func95 (by kernel_rfl) (by kernel_rfl) args W
theorem enter96 (args : Array Value) (W : World) : (callFunc 96 args).run Tryz.prog W = .ok (.enter 96 args) W := run_enter Tryz.func96 (by kernel_rfl) (by kernel_rfl) args W
theorem enter97 (args : Array Value) (W : World) : (callFunc 97 args).run Tryz.prog W = .ok (.enter 97 args) W := run_enter Tryz.func97 (by kernel_rfl) (by kernel_rfl) args W
theorem enter99 (args : Array Value) (W : World) : (callFunc 99 args).run Tryz.prog W = .ok (.enter 99 args) W := run_enter Tryz.func99 (by kernel_rfl) (by kernel_rfl) args W
theorem enter101 (args : Array Value) (W : World) : (callFunc 101 args).run Tryz.prog W = .ok (.enter 101 args) W := run_enter Tryz.func101 (by kernel_rfl) (by kernel_rfl) args W
theorem enter102 (args : Array Value) (W : World) : (callFunc 102 args).run Tryz.prog W = .ok (.enter 102 args) W := run_enter Tryz.func102 (by kernel_rfl) (by kernel_rfl) args W
theorem enter103 (args : Array Value) (W : World) : (callFunc 103 args).run Tryz.prog W = .ok (.enter 103 args) W := run_enter Tryz.func103 (by kernel_rfl) (by kernel_rfl) args W
theorem enter105 (args : Array Value) (W : World) : (callFunc 105 args).run Tryz.prog W = .ok (.enter 105 args) W := run_enter Tryz.func105 (by kernel_rfl) (by kernel_rfl) args W
theorem enter107 (args : Array Value) (W : World) : (callFunc 107 args).run Tryz.prog W = .ok (.enter 107 args) W := run_enter Tryz.func107 (by kernel_rfl) (by kernel_rfl) args W
end Go.Proofs.YtmbgeojjklboeaaGreatDoor
