import Derived.Test.YthfcabhelldokaaBo
set_option linter.unusedVariables false
set_option linter.unusedSimpArgs false
namespace Go.Proofs.Ythfcabhelldokaa
open Go.RowKit

section
variable {P : Program} {ops : Array Oper} {Q : Exit → Act → World → Prop} {S : World → Prop}
theorem lst_then {id : Nat} {l : List Oper} {a : Act} {w : World} (n : Nat)
    (h : wpLex P l.toArray (fun W => Below w.heap.size w W) (fun a' => ∀ W, Below w.heap.size w W → wpList P l.toArray Q (l.drop n) a' W) (l.take n) a) : (Code.region id l.toArray false).wp P Q a w := by
  refine wp_region_lit ?_
  have := wpList_of_lex (P := P) (Q := Q) (stable_below w) _ (l.drop n) (fun a' W (hk : ∀ W, Below w.heap.size w W → wpList P l.toArray Q (l.drop n) a' W) hW => hk W hW) (l.take n) a w (Below.refl _ _) h
  rwa [List.take_append_drop] at this
/-- One operation of one value in a list. -/
theorem lst_val {o : Oper} {rest : List Oper} {a a' : Act} {w : World} (hg : o.guard = none) (op : Op) (ho : o.op = op) (v : Value) (hrun : ∀ o' : Oper, o'.op = op → (execOp a.eval o').run P w = .ok (.value v) w) (ha : a.put o.dst v = a') (k : wpList P ops Q rest a' w) : wpList P ops Q (o :: rest) a w := by
  have hwa : Region.wanted o (yielded ops a.tmps) = true := by simp [Region.wanted, hg]
  unfold wpList
  simp only [hwa, if_true, Oper.wp, hrun o ho, Oper.upon]
  rw [ha]
  exact .inl k
theorem lst_row {op : Oper} {rest : List Oper} {a : Act} {w : World} (hg : op.guard = none) (hd : op.dst = none) (ty : TypeId) (x y : Operand) (ho : op.op = .store ty x y)
    (b : Nat) (cs old : List Value) (t : TypeId) (hx : a.eval x = .pointer (some ⟨b, 0, none⟩)) (hy : a.eval y = .agg cs.toArray)
    (hb : Blk w b old t) (hi : (P.info? ty).map (·.size) = some cs.length) (hl : old.length = cs.length) (h1 : cs.toArray.all (·.oneCell') = true)
    (h : wpList P ops Q rest a (w.setRow b cs.toArray)) : wpList P ops Q (op :: rest) a w := by
  refine wpList_store_row hg ty x y ho b cs.toArray hx hy t old.toArray hb (by simpa using hi) (by simpa using hl) h1 ?_
  rw [hd]
  exact h
end
end Go.Proofs.Ythfcabhelldokaa
