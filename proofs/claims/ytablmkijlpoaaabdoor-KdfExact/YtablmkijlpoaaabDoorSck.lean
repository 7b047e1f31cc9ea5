import Derived.Test.YtablmkijlpoaaabDoorLl
namespace Go.Proofs.YtablmkijlpoaaabDoor
open Go.RowKit

/-- One call of a script. -/
structure Opd where
  kind : Int
  vK : Value
  vA : Value
  vB : Value
  n : Int
  bK : List UInt8
  bA : List UInt8
  bB : List UInt8
structure Opd.ok (w : World) (o : Opd) : Prop where
  hK : Has w o.vK o.bK
  hA : Has w o.vA o.bA
  hB : Has w o.vB o.bB
def Opd.cells (o : Opd) : List Value := opK o.kind o.vK o.vA o.vB o.n
/-- Cells lie from an address on. -/
def At (w : World) (ad : Addr) (cs : List Value) : Prop := ∀ j v, cs[j]? = some v → w.cell? (ad.add j) = some v
theorem At.below {w w' : World} {ad : Addr} {cs : List Value} (h : At w ad cs) (hb : Below w.heap.size w w') : At w' ad cs := fun j v hj => (hb.cell (cell_lt (h j v hj))).trans (h j v hj)
/-- The slice value sv holds the script. -/
structure Script (w : World) (sv : Value) (os : List Opd) : Prop where
  len : ∀ W ty, (Builtin.len_ #[22] ty #[sv]).run Tryd.prog W = .ok (.int .i64 os.length) W
  item : ∀ (i : Nat) (o : Opd), os[i]? = some o → ∃ ad, (∀ W, (Instr.indexAt 22 sv (.int .i64 (i : Int))).run Tryd.prog W = .ok (.pointer (some ad)) W) ∧ At w ad o.cells ∧ o.ok w

section
variable {P : Program}
theorem run_loadVar_at (w : World) (ad : Addr) (ty : TypeId) (cs : List Value) (d : TypeDesc) (hc : At w ad cs)
    (hu : P.underlying ty = some d) (hd : d.isRow = true) (hi : (P.info? ty).map (·.size) = some cs.length) :
    (loadVar ty ad).run P w = .ok (.agg cs.toArray) w := by
  have hl : (loadCells ad cs.length).run P w = .ok cs.toArray w :=
    run_loadCells_list (P := P) w ad cs (fun j v hv => hc j v hv)
  cases hq : P.info? ty with
  | none => simp [hq] at hi
  | some i =>
    have hs : i.size = cs.length := by simpa [hq] using hi
    have hagg : (isAgg ty).run P w = .ok true w := by
      unfold isAgg
      rw [Sem.run_bind, run_underlying hu w]
      cases d <;> simp_all
    simp [loadVar, Sem.run_bind, hagg, sizeOf, typeInfo, hq, hs, hl]
theorem wpList_load_at {ops : Array Oper} {rest : List Oper} {op : Oper} {a : Act} {w : World} {Q : Exit → Act → World → Prop} (hgd : op.guard = none) (ty : TypeId) (x : Operand) (ho : op.op = .load ty x)
    (ad : Addr) (hx : a.eval x = .pointer (some ad)) (cs : List Value) (d : TypeDesc) (hc : At w ad cs)
    (hu : P.underlying ty = some d) (hd : d.isRow = true) (hi : (P.info? ty).map (·.size) = some cs.length)
    (h : wpList P ops Q rest (a.put op.dst (.agg cs.toArray)) w) : wpList P ops Q (op :: rest) a w :=
  wpList_plain hgd fun K hK => by
    unfold Oper.wp execOp
    simp only [ho, hx, Instr.loadAt, Instr.sureAddr, Sem.run_bind, Sem.run_pure, Result.andThen_ok, run_loadVar_at w ad ty cs d hc hu hd hi]
    exact hK _ _ h
theorem wpList_bldG {ops : Array Oper} {rest : List Oper} {o : Oper} {a : Act} {w : World} {Q : Exit → Act → World → Prop} (hw : Region.wanted o (yielded ops a.tmps) = true) (t : TypeId) (parts : Array (Nat × Operand)) (ho : o.op = .build t parts)
    (l : List (Nat × Value)) (hl : (parts.map fun (i, x) => (i, a.eval x)).toList = l) (cells : Array Value) (hb : P.built t l = some cells)
    (h : wpList P ops Q rest (a.put o.dst (.agg cells)) w) : wpList P ops Q (o :: rest) a w := by
  subst hl
  refine wpList_step fun K hK => ?_
  rw [if_pos hw]
  refine wp_build t parts ho (by rw [hb]; rfl) ?_
  rw [hb]
  exact hK _ _ h
end
def nilS : Value := .slice none 0 0
theorem built31_1 : Tryd.prog.built 31 [(0, .int .i64 1)] = some (opK 1 nilS nilS nilS 0).toArray := by kernel_rfl
theorem built31_3 : Tryd.prog.built 31 [(0, .int .i64 3), (4, .int .i64 33)] = some (opK 3 nilS nilS nilS 33).toArray := by kernel_rfl
theorem built27 : Tryd.prog.built 27 [] = some [nilS, nilS, nilS, nilS].toArray := by kernel_rfl
end Go.Proofs.YtablmkijlpoaaabDoor
