import Derived.Test.YtiefgmgjlhjjhaaDoorDfG
set_option linter.unusedVariables false
set_option linter.unusedSimpArgs false
namespace Go.Proofs.YtiefgmgjlhjjhaaDoor
open Go.RowKit

attribute [local irreducible] sm sumOf cnt chk partB ptB lgL
theorem flat_set {k : Nat} {j : Nat} {c : Value} : ∀ {l : List (List Value)} {i : Nat} {row : List Value}, (∀ y ∈ l, y.length = k) → l[i]? = some row → j < k → (l.set i (row.set j c)).flatten = l.flatten.set (i * k + j) c
  | [], i, row, _, h, _ => by cases h
  | a :: r, 0, row, hs, h, hj => by
    simp only [List.getElem?_cons_zero, Option.some.injEq] at h
    subst h
    have ha := hs a (by simp)
    rw [List.set_cons_zero, List.flatten_cons, List.flatten_cons, Nat.zero_mul, Nat.zero_add, List.set_append_left _ _ (by omega)]
  | a :: r, i + 1, row, hs, h, hj => by
    have ha := hs a (by simp)
    rw [List.set_cons_succ, List.flatten_cons, List.flatten_cons, flat_set (fun y hy => hs y (by simp [hy])) (by simpa using h) hj, List.set_append_right _ _ (by rw [ha, Nat.add_mul, Nat.one_mul]; omega), ha]
    congr 2
    rw [Nat.add_mul, Nat.one_mul]; omega
/-- A cell of a list of one's own. -/
theorem Ow.setC {e : TypeId} {k : Nat} {w : World} {ad : Addr} {n cap : Nat} {l : List (List Value)} (h : Ow e k w (.slice (some ad) n cap) l) {i j : Nat} {row : List Value} (hi : l[i]? = some row) (hj : j < k) (c : Value) :
    (∃ u, w.cell? ((ad.add (i * k)).add j) = some u) ∧ w.frozen? ((ad.add (i * k)).add j) = false ∧ Ow e k (w.setCell ((ad.add (i * k)).add j) c) (.slice (some ad) n cap) (l.set i (row.set j c)) ∧ Fx (fun b => b = ad.block) w (w.setCell ((ad.add (i * k)).add j) c) := by
  obtain ⟨hx0, ⟨e0, _⟩ | ⟨g, cp, cur, e0, hg, hh2, hnc, hc, hs2, htk⟩⟩ := h.row
  · cases e0
  · cases e0
    have hil : i < l.length := (List.getElem?_eq_some_iff.1 hi).1
    have hb : Blk w g cur.toList e := by unfold Blk; simpa using hh2
    have ea : ((⟨g, 0, none⟩ : Addr).add (i * k)).add j = ⟨g, i * k + j, none⟩ := by
      rw [add_plain]; exact Addr.add_mid ..
    rw [ea]
    have hik : i * k + k ≤ l.length * k := by
      have := Nat.mul_le_mul_right k (show i + 1 ≤ l.length from hil)
      rw [Nat.add_mul, Nat.one_mul] at this
      exact this
    have hcl : cur.toList.length = cap * k := by rw [Array.length_toList]; exact hs2
    have hlc : l.length * k ≤ cur.toList.length := by
      rw [hcl]
      exact Nat.mul_le_mul_right _ hnc
    refine ⟨⟨_, (hb.cell _).trans (List.getElem?_eq_getElem (by omega))⟩, hb.frozen _, ⟨⟨?_, .inr ⟨g, cap, (cur.toList.set (i * k + j) c).toArray, by rw [List.length_set], hg, hb.set (i * k + j) c, by rw [List.length_set]; exact hnc, hc, by simpa using hs2, ?_⟩⟩, ?_⟩, Fx.setCell (S := fun k => k = g) _ _ _ _ rfl⟩
    · rw [List.length_set, flat_set h.sz hi hj, List.length_set, flatL h.sz]
    · rw [List.length_set, flat_set h.sz hi hj, ← htk, List.toList_toArray, List.take_set]
    · intro y hy
      rcases List.mem_or_eq_of_mem_set hy with hy | rfl
      · exact h.sz y hy
      · rw [List.length_set]; exact h.sz row (List.mem_of_getElem? hi)

section
variable {P : Program} {n : Nat} {ops : Array Oper} {S : Nat → World → Prop} {K : List (Nat × Value) → (World → Prop) → Prop} {i c lv : Nat} {ty : TypeId} {ps : String} {af : Array Edge} {gd : Option (Nat × Bool)} {r : List (Oper × Nat × Nat)} {e : List (Nat × Value)} {C : World → Prop}
end
theorem Lb.neO {e : TypeId} {k : Nat} {w : World} {b b' : Nat} {v u : Value} {l : List (List Value)} {bs : List UInt8} (h : Lb e k w b v l) (h' : Ob w b' u bs) (hne : e ≠ 5) {j : Nat} (hj : v.ownBlock = some j) : u.ownBlock ≠ some j := fun hj' => by
  obtain ⟨_, cur, hc⟩ := h'.lt hj'
  obtain ⟨_, ⟨rfl, _⟩ | ⟨g, cp, cur2, rfl, hg, hh, _⟩⟩ := h.ow.row
  · cases hj
  simp only [Value.ownBlock, Option.some.injEq] at hj
  rw [hj, hc] at hh
  cases hh; exact hne rfl
end Go.Proofs.YtiefgmgjlhjjhaaDoor
set_option linter.unusedVariables false
set_option linter.unusedSimpArgs false
namespace Go.Proofs.YtiefgmgjlhjjhaaDoor
open Go.RowKit

attribute [local irreducible] sm sumOf cnt chk partB ptB lgL
end Go.Proofs.YtiefgmgjlhjjhaaDoor
set_option linter.unusedVariables false
set_option linter.unusedSimpArgs false
namespace Go.Proofs.YtiefgmgjlhjjhaaDoor
open Go.RowKit

attribute [local irreducible] sm sumOf cnt chk partB ptB lgL pM pI pN pA pS pC
/-- A parcel of the program and one of the document are one. -/
structure RelP (m : Me) (x : Rp) : Prop where
  p : x.p = m.p
  id : x.id = m.id
  n : x.n = m.c.n
  s : x.s = m.c.s
  h : x.h = m.c.h.take m.c.n
  t : x.t = m.c.t.take m.c.n
def Rel : List Me → List Rp → Prop
  | [], [] => True
  | m :: E, x :: L => RelP m x ∧ Rel E L
  | _, _ => False
end Go.Proofs.YtiefgmgjlhjjhaaDoor
set_option linter.unusedVariables false
set_option linter.unusedSimpArgs false
namespace Go.Proofs.YtiefgmgjlhjjhaaDoor
open Go.RowKit

attribute [local irreducible] sm sumOf cnt chk partB ptB lgL pM pI pN pA pS pC
theorem Tr.offNew {w : World} {p r most : Nat} {E : List Me} {c : Nat} (h : Tr w p r most E c) {b : Nat} (hb : w.heap.size ≤ b) : TrB E b := fun m hm i v t hv ht => by
  by_cases e : v.ownBlock = some b
  · rcases ((h.hs m hm).has i v t hv ht).blk e with h1 | h1
    · exact .inl h1
    · omega
  · exact .inr e
end Go.Proofs.YtiefgmgjlhjjhaaDoor
set_option linter.unusedVariables false
set_option linter.unusedSimpArgs false
namespace Go.Proofs.YtiefgmgjlhjjhaaDoor
open Go.RowKit

attribute [local irreducible] sm sumOf cnt chk partB ptB lgL pM pI pN pA pS pC
/-- The two trays side by side. -/
structure Dk (w0 W : World) (p r : Nat) (E : List Me) (c : Nat) (q : Nat) (v : Value) (L : List Rp) (most : Nat) : Prop where
  tr : Tr W p r most E c
  rt : Rt W q v most L
  rel : Rel E L
  le : E.length ≤ most
  m64 : most ≤ 64
  ks : Kst W
  rs : Rst W
  bs : Bst W
  be : Below w0.heap.size w0 W
  hr : w0.heap.size ≤ r
  hq : w0.heap.size ≤ q
  hv : ∀ b, v.ownBlock = some b → w0.heap.size ≤ b
  tq : TrB E q
  tv : ∀ b, v.ownBlock = some b → TrB E b
  z3 : 2 < w0.heap.size
section
variable {w0 W W' : World} {p r : Nat} {E E' : List Me} {c c' : Nat} {q : Nat} {v v' : Value} {L L' : List Rp} {most : Nat}
end
end Go.Proofs.YtiefgmgjlhjjhaaDoor
