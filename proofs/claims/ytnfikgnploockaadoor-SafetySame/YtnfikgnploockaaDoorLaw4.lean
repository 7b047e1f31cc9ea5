import Derived.Test.YtnfikgnploockaaDoorLaw3
import Derived.Test.YtnfikgnploockaaDoorRegH
import Derived.Lib.SlBytesConst
namespace Go.Proofs.YtnfikgnploockaaDoor
open Go.RowKit

/-- 'make([]byte, l)'. -/
theorem wpList_mkB {ops : Array Oper} {rest : List Oper} {o : Oper} {a : Act} {w : World} {Q : Exit → Act → World → Prop} (hgd : o.guard = none) (x y : Operand) (ho : o.op = .makeSlice 27 x y) (l : Nat) (li : Int) (hli : li = l)
    (hx : a.eval x = .int .i64 li) (hy : a.eval y = .int .i64 li) (hc : l ≤ 16777216) (g : Nat) (hg : g = w.heap.size)
    (h : wpList Tryd.prog ops Q rest (a.put o.dst (.slice (some ⟨g, 0, none⟩) l l)) (w.alloc (.cells ((List.replicate l 0).map byt).toArray 5))) : wpList Tryd.prog ops Q (o :: rest) a w := by
  subst hli hg
  obtain ⟨i0, hi, hz0, hz1, hz2⟩ := info_parts Tryd.info5
  have hrun := run_makeSlice (P := Tryd.prog) w 27 5 i0 (.int .u8 0) Tryd.underlying27 hi hz0 .i64 .i64 l l (by omega) (by omega) (by rw [hz1]; simpa using hc) (by rw [hz2]; omega) (by omega)
  rw [hz1, Int.toNat_natCast, Nat.mul_one, made_zeros] at hrun
  refine wpList_plain hgd fun K hK => ?_
  unfold Oper.wp
  simp only [execOp, ho, hx, hy, Sem.run_bind, hrun, Result.andThen_ok]
  exact hK _ _ h

/-- Bytes of the call's own, at block p. -/
structure Tu (w wx : World) (p : Nat) (L : List UInt8) : Prop where
  bl : Blk wx p (L.map byt) 5
  be : Below w.heap.size w wx
  lp : w.heap.size ≤ p
theorem Tu.set {w wx : World} {p : Nat} {L : List UInt8} (h : Tu w wx p L) (j : Nat) (u : UInt8) : Tu w (wx.setCell ⟨p, j, none⟩ (.int .u8 (u.toNat : Int))) p (L.set j u) :=
  ⟨by rw [← byts_set]; exact h.bl.set j _, h.be.setCell h.lp _, h.lp⟩

theorem has_newsM (W : World) (bs : List UInt8) (fr : Nat × Nat) (n : Nat) (hn : n = W.heap.size) : Has (W.alloc (.cells (bs.map byt).toArray 5 fr)) (.slice (some ⟨n, 0, none⟩) bs.length bs.length) bs := by
  subst hn
  refine .inr ⟨_, _, rfl, Nat.le_refl _, fun i u hu => ?_⟩
  rw [add_plain, cell_of_row _ _ i _ 5 fr (heap_alloc_new W _)]
  simp [hu]

end Go.Proofs.YtnfikgnploockaaDoor
