import Derived.Test.YtablmkijlpoaaaaDoorTb
namespace Go.Proofs.YtablmkijlpoaaaaDoor
open Go.RowKit

section
variable {P : Program} {ops : Array Oper} {Q : Exit → Act → World → Prop} {md : Region.Mode} {S : World → Prop}
/-- A store where an order is drawn. -/
theorem op_skip {i : Nat} {o : Oper} (hi : ops[i]? = some o) (hg : o.guard = none) {K : Act → World → Prop} {a : Act} {w : World} (op : Op) (ho : o.op = op) (hd : o.dst = none) (w1 : World)
    (hrun : ∀ o' : Oper, o'.op = op → (execOp a.eval o').run P w = .ok .skip w1) (h : K a w1) : wpOp P ops Q i K a w := by
  refine op_wp hi hg ?_
  unfold Oper.wp
  rw [hrun o ho]
  simp only [Oper.upon]
  rw [hd]
  exact h
end

/-- An operation's cells. -/
def opC (kind which tw : Int) (vB vC : Value) (st : List (BitVec 32)) (bl : List UInt8) : List Value := [.int .i64 kind, .int .i64 which, .int .i64 tw, vB, vC] ++ (wvs st ++ bl.map byt)
end Go.Proofs.YtablmkijlpoaaaaDoor
