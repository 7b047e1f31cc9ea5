import Derived.Test.YtoceepmehmacbaaDoorLex
import Derived.Deep.DeepCutAuto
import Derived.Deep.QuietTactic
import Derived.BigQuiet
import Derived.Handy
import Derived.Laws.StructEq
import Derived.Lib.ConvBytes
import Derived.Laws.OwnMore
import Derived.Laws.AppendOwnNone
set_option linter.unusedVariables false
set_option linter.unusedSimpArgs false
namespace Go.Proofs.YtoceepmehmacbaaDoor
open Go.RowKit
theorem enter7 (args : Array Value) (W : World) : (callFunc 7 args).run Tryd.prog W = .ok (.enter 7 args) W := run_enter Tryd.func7 (by kernel_rfl) (by kernel_rfl) args W
theorem enter8 (args : Array Value) (W : World) : (callFunc 8 args).run Tryd.prog W = .ok (.enter 8 args) W := run_enter Tryd.func8 (by kernel_rfl) (by kernel_rfl) args W
theorem enter9 (args : Array Value) (W : World) : (callFunc 9 args).run Tryd.prog W = .ok (.enter 9 args) W := run_enter Tryd.func9 (by kernel_rfl) (by kernel_rfl) args W
theorem enter10 (args : Array Value) (W : World) : (callFunc 10 args).run Tryd.prog W = .ok (.enter 10 args) W := run_enter Tryd.func10 (by kernel_rfl) (by kernel_rfl) args W
theorem enter11 (args : Array Value) (W : World) : (callFunc 11 args).run Tryd.prog W = .ok (.enter 11 args) W := run_enter Tryd.func11 (by kernel_rfl) (by kernel_rfl) args W
theorem enter12 (args : Array Value) (W : World) : (callFunc 12 args).run Tryd.prog W = .ok (.enter 12 args) W := run_enter Tryd.func12 (by kernel_rfl) (by kernel_rfl) args W
theorem enter14 (args : Array Value) (W : World) : (callFunc 14 args).run Tryd.prog W = .ok (.enter 14 args) W := run_enter Tryd.func14 (by kernel_rfl) (by kernel_rfl) args W
theorem enter15 (args : Array Value) (W : World) : (callFunc 15 args).run Tryd.prog W = .ok (.enter 15 args) W := run_enter Tryd.func15 (by kernel_rfl) (by kernel_rfl) args W
theorem enter18 (args : Array Value) (W : World) : (callFunc 18 args).run Tryd.prog W = .ok (.enter 18 args) W := run_enter Tryd.func18 (by kernel_rfl) (by kernel_rfl) args W
theorem enter19 (args : Array Value) (W : World) : (callFunc 19 args).run Tryd.prog W = .ok (.enter 19 args) W := run_enter Tryd.func19 (by kernel_rfl) (by kernel_rfl) args W
theorem enter20 (args : Array Value) (W : World) : (callFunc 20 args).run Tryd.prog W = .ok (.enter 20 args) W := run_enter Tryd.func20 (by kernel_rfl) (by kernel_rfl) args W
theorem enter23 (args : Array Value) (W : World) : (callFunc 23 args).run Tryd.prog W = .ok (.enter 23 args) W := run_enter Tryd.func23 (by kernel_rfl) (by kernel_rfl) args W
theorem enter24 (args : Array Value) (W : World) : (callFunc 24 args).run Tryd.prog W = .ok (.enter 24 args) W := run_enter Tryd.func24 (by kernel_rfl) (by kernel_rfl) args W
theorem enter25 (args : Array Value) (W : World) : (callFunc 25 args).run Tryd.prog W = .ok (.enter 25 args) W := run_enter Tryd.func25 (by kernel_rfl) (by kernel_rfl) args W
theorem enter26 (args : Array Value) (W : World) : (callFunc 26 args).run Tryd.prog W = .ok (.enter 26 args) W := run_enter Tryd.func26 (by kernel_rfl) (by kernel_rfl) args W
theorem enter27 (args : Array Value) (W : World) : (callFunc 27 args).run Tryd.prog W = .ok (.enter 27 args) W := run_enter Tryd.func27 (by kernel_rfl) (by kernel_rfl) args W
theorem enter28 (args : Array Value) (W : World) : (callFunc 28 args).run Tryd.prog W = .ok (.enter 28 args) W := run_enter Tryd.func28 (by kernel_rfl) (by kernel_rfl) args W
theorem enter33 (args : Array Value) (W : World) : (callFunc 33 args).run Tryd.prog W = .ok (.enter 33 args) W := run_enter Tryd.func33 (by kernel_rfl) (by kernel_rfl) args W
theorem enter34 (args : Array Value) (W : World) : (callFunc 34 args).run Tryd.prog W = .ok (.enter 34 args) W := run_enter Tryd.func34 (by kernel_rfl) (by kernel_rfl) args W
theorem enter35 (args : Array Value) (W : World) : (callFunc 35 args).run Tryd.prog W = .ok (.enter 35 args) W := run_enter Tryd.func35 (by kernel_rfl) (by kernel_rfl) args W
theorem enter36 (args : Array Value) (W : World) : (callFunc 36 args).run Tryd.prog W = .ok (.enter 36 args) W := run_enter Tryd.func36 (by kernel_rfl) (by kernel_rfl) args W
theorem enter37 (args : Array Value) (W : World) : (callFunc 37 args).run Tryd.prog W = .ok (.enter 37 args) W := run_enter Tryd.func37 (by kernel_rfl) (by kernel_rfl) args W
theorem enter38 (args : Array Value) (W : World) : (callFunc 38 args).run Tryd.prog W = .ok (.enter 38 args) W := run_enter Tryd.func38 (by kernel_rfl) (by kernel_rfl) args W
theorem enter39 (args : Array Value) (W : World) : (callFunc 39 args).run Tryd.prog W = .ok (.enter 39 args) W := run_enter Tryd.func39 (by kernel_rfl) (by kernel_rfl) args W
theorem enter40 (args : Array Value) (W : World) : (callFunc 40 args).run Tryd.prog W = .ok (.enter 40 args) W := run_enter Tryd.func40 (by kernel_rfl) (by kernel_rfl) args W
theorem enter49 (args : Array Value) (W : World) : (callFunc 49 args).run Tryd.prog W = .ok (.enter 49 args) W := run_enter Tryd.func49 (by kernel_rfl) (by kernel_rfl) args W
theorem enter50 (args : Array Value) (W : World) : (callFunc 50 args).run Tryd.prog W = .ok (.enter 50 args) W := run_enter Tryd.func50 (by kernel_rfl) (by kernel_rfl) args W
theorem enter51 (args : Array Value) (W : World) : (callFunc 51 args).run Tryd.prog W = .ok (.enter 51 args) W := run_enter Tryd.func51 (by kernel_rfl) (by kernel_rfl) args W
theorem enter52 (args : Array Value) (W : World) : (callFunc 52 args).run Tryd.prog W = .ok (.enter 52 args) W := run_enter Tryd.func52 (by kernel_rfl) (by kernel_rfl) args W
theorem enter53 (args : Array Value) (W : World) : (callFunc 53 args).run Tryd.prog W = .ok (.enter 53 args) W := run_enter Tryd.func53 (by kernel_rfl) (by kernel_rfl) args W
theorem enter54 (args : Array Value) (W : World) : (callFunc 54 args).run Tryd.prog W = .ok (.enter 54 args) W := run_enter Tryd.func54 (by kernel_rfl) (by kernel_rfl) args W
theorem enter55 (args : Array Value) (W : World) : (callFunc 55 args).run Tryd.prog W = .ok (.enter 55 args) W := run_enter Tryd.func55 (by kernel_rfl) (by kernel_rfl) args W
theorem enter56 (args : Array Value) (W : World) : (callFunc 56 args).run Tryd.prog W = .ok (.enter 56 args) W := run_enter Tryd.func56 (by kernel_rfl) (by kernel_rfl) args W
theorem enter57 (args : Array Value) (W : World) : (callFunc 57 args).run Tryd.prog W = .ok (.enter 57 args) W := run_enter Tryd.func57 (by kernel_rfl) (by kernel_rfl) args W
theorem enter58 (args : Array Value) (W : World) : (callFunc 58 args).run Tryd.prog W = .ok (.enter 58 args) W := run_enter Tryd.func58 (by kernel_rfl) (by kernel_rfl) args W
theorem enter59 (args : Array Value) (W : World) : (callFunc 59 args).run Tryd.prog W = .ok (.enter 59 args) W := run_enter Tryd.func59 (by kernel_rfl) (by kernel_rfl) args W
theorem enter68 (args : Array Value) (W : World) : (callFunc 68 args).run Tryd.prog W = .ok (.enter 68 args) W := run_enter Tryd.func68 (by kernel_rfl) (by kernel_rfl) args W
theorem enter69 (args : Array Value) (W : World) : (callFunc 69 args).run Tryd.prog W = .ok (.enter 69 args) W := run_enter Tryd.func69 (by kernel_rfl) (by kernel_rfl) args W
end Go.Proofs.YtoceepmehmacbaaDoor

set_option linter.unusedVariables false
set_option linter.unusedSimpArgs false
namespace Go.Proofs.YtoceepmehmacbaaDoor
open Go.RowKit

section
variable {P : Program} {ops : Array Oper} {Q : Exit → Act → World → Prop} {md : Region.Mode} {S : World → Prop} {T : Nat}

/-- In state a the operation o yields v in every world of S, which stays. -/
def UniV (P : Program) (ops : Array Oper) (S : World → Prop) (o : Oper) (v : Value) (a : Act) : Prop :=
  (Region.wanted o (yielded ops a.tmps) = true ∧ ∀ w, S w → (execOp a.eval o).run P w = .ok (.value v) w) ∨
  (Region.wanted o (yielded ops a.tmps) = false ∧ v = undef)
theorem UniV.of_same {o : Oper} {v : Value} {a a' : Act} (hy : UniV P ops S o v a) (he : execOp a'.eval o = execOp a.eval o)
    (hw : Region.wanted o (yielded ops a'.tmps) = Region.wanted o (yielded ops a.tmps)) : UniV P ops S o v a' := by
  unfold UniV at *
  rw [he, hw]
  exact hy
/-- From number k on they come one behind the other: n of them that are no more than T, then m more. -/
def chainOk (md : Region.Mode) (ops : Array Oper) (T : Nat) : Nat → Nat → Array Bool → Bool
  | 0, _, listed => full T listed
  | n + 1, k, listed => (Region.ready md ops listed == [k]) && !full T listed && chainOk md ops T n (k + 1) (listed.setIfInBounds k true)
end
end Go.Proofs.YtoceepmehmacbaaDoor

set_option linter.unusedVariables false
set_option linter.unusedSimpArgs false
namespace Go.Proofs.YtoceepmehmacbaaDoor
open Go.RowKit

section
variable {P : Program} {ops : Array Oper} {Q : Exit → Act → World → Prop} {S : World → Prop}
end
end Go.Proofs.YtoceepmehmacbaaDoor

set_option linter.unusedVariables false
set_option linter.unusedSimpArgs false
namespace Go.Proofs.YtoceepmehmacbaaDoor
open Go.RowKit

section
variable {P : Program} {ops : Array Oper} {Q : Exit → Act → World → Prop} {md : Region.Mode}

theorem UniV.sub {S C : World → Prop} {o : Oper} {v : Value} {a : Act} (h : UniV P ops S o v a) (hC : ∀ w, C w → S w) : UniV P ops C o v a := by
  rcases h with ⟨h1, h2⟩ | h
  · exact .inl ⟨h1, fun w hw => h2 w (hC w hw)⟩
  · exact .inr h
end
end Go.Proofs.YtoceepmehmacbaaDoor
