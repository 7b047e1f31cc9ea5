import Derived.Test.YtggehhlobjjmpaaFx
set_option linter.unusedVariables false
set_option linter.unusedSimpArgs false
namespace Go.Proofs.Ytggehhlobjjmpaa
open Go.RowKit

theorem below_new (W : World) (o : Obj) : Below W.heap.size W (W.alloc o) := (Below.refl _ _).alloc (Nat.le_refl _) _

theorem Has.slice {w : World} {v : Value} {bs : List UInt8} (h : Has w v bs) : ∃ ao cap, v = .slice ao bs.length cap := by
  rcases h with ⟨rfl, rfl⟩ | ⟨ad, cap, rfl, _⟩
  · exact ⟨none, 0, rfl⟩
  · exact ⟨some ad, cap, rfl⟩


theorem Own.slice {w : World} {base : Nat} {v : Value} {bs : List UInt8} (h : Own w base v bs) : ∃ ao cap, v = .slice ao bs.length cap := h.has.slice

structure Lik (w w' : World) : Prop where
  heap : w'.heap = w.heap
  os : w'.os = w.os
  tape : w'.tape = w.tape
  output : w'.output = w.output

theorem Lik.below {w w' : World} (h : Lik w w') (B : Nat) : Below B w w' := ⟨h.os, h.tape, h.output, by rw [h.heap]; exact Nat.le_refl _, fun k _ => by rw [h.heap]⟩
theorem Lik.has {w w' : World} (h : Lik w w') {v : Value} {bs : List UInt8} (hh : Has w v bs) : Has w' v bs := hh.below (h.below _)
theorem Lik.cell {w w' : World} (h : Lik w w') (a : Addr) : w'.cell? a = w.cell? a := by unfold World.cell?; rw [h.heap]
theorem at_new (W X : World) (A : Obj) (h : Lik (W.alloc A) X) : X.heap[W.heap.size]? = some A := by
  rw [h.heap]; show (W.heap.push A)[W.heap.size]? = _; simp
theorem at_fst (W X : World) (A B : Obj) (h : Lik ((W.alloc A).alloc B) X) : X.heap[W.heap.size]? = some A := by
  rw [h.heap]; show ((W.heap.push A).push B)[W.heap.size]? = _
  rw [Array.getElem?_push, if_neg (by simp)]; simp
theorem at_snd (W X : World) (A B : Obj) (h : Lik ((W.alloc A).alloc B) X) : X.heap[W.heap.size + 1]? = some B := by
  rw [h.heap]; show ((W.heap.push A).push B)[W.heap.size + 1]? = _
  rw [Array.getElem?_push, if_pos (by simp)]
theorem bel_new (W X : World) (A : Obj) (h : Lik (W.alloc A) X) : Below W.heap.size W X := (below_new W A).trans (h.below _)
theorem bel_two (W X : World) (A B : Obj) (h : Lik ((W.alloc A).alloc B) X) : Below W.heap.size W X := ((below_new W A).alloc (by simp) B).trans (h.below _)
end Go.Proofs.Ytggehhlobjjmpaa
