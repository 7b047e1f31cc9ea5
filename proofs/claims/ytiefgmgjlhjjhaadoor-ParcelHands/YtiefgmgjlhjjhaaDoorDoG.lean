import Derived.Test.YtiefgmgjlhjjhaaDoorDm
set_option linter.unusedVariables false
set_option linter.unusedSimpArgs false
namespace Go.Proofs.YtiefgmgjlhjjhaaDoor
open Go.RowKit

attribute [local irreducible] sm sumOf cnt chk partB ptB lgL pM pI pN pA pS pC
structure MsR (w : World) (n i : Nat) (W : World) : Prop where
  le : i ≤ n
  be : Below w.heap.size w W
end Go.Proofs.YtiefgmgjlhjjhaaDoor
set_option linter.unusedVariables false
set_option linter.unusedSimpArgs false
namespace Go.Proofs.YtiefgmgjlhjjhaaDoor
open Go.RowKit

attribute [local irreducible] sm sumOf cnt chk partB ptB lgL pM pI pN pA pS pC adI adW adE adL
structure XoR (b : Nat) (ow : Value) (D : World → Prop) (n i : Nat) (W : World) : Prop where
  le : i ≤ n
  ob : ∃ bs, bs.length = n ∧ Ob W b ow bs
  dk : D W
theorem Lb.parts {w : World} {b : Nat} {u : Value} {vs : List Value} (h : Lb 24 1 w b u (vr vs)) {ls : List (List UInt8)} (hl : vs.length = ls.length) (ho : ∀ (i : Nat) x l, vs[i]? = some x → ls[i]? = some l → Has w x l) : Parts w u (vs.zip ls) := by
  have hzl : (vs.zip ls).length = vs.length := by rw [List.length_zip, ← hl, Nat.min_self]
  have hml : (vr vs).length = vs.length := by simp [vr]
  rcases h.ow.li.sl with ⟨h1, h2⟩ | ⟨ad, cap, h1, h2⟩
  · have : vs.length = 0 := by rw [← hml, h2]; rfl
    exact .inl ⟨h1, List.length_eq_zero_iff.1 (by omega)⟩
  · rw [hml] at h1 h2
    refine .inr ⟨ad, cap, by rw [hzl]; exact h1, by rw [hzl]; exact h2, fun i p hp => ?_⟩
    have hz := List.getElem?_zip_eq_some.1 hp
    refine ⟨?_, ho i p.1 p.2 hz.1 hz.2⟩
    obtain ⟨ad', cap', e, ha⟩ := h.ow.li.at_ i [p.1] (by unfold vr; rw [List.getElem?_map, hz.1]; rfl)
    rw [h1, hml] at e
    cases e
    have := ha 0 _ rfl
    rw [Nat.mul_one, addr_add, Nat.add_zero] at this
    exact this
theorem Spl.parts {W : World} {b g : Nat} {vs : List Value} {ls : List (List UInt8)} (h : Spl W b g vs ls) : Parts W (.slice (some ⟨g, 0, none⟩) ls.length ls.length) (vs.zip ls) := by
  have hzl : (vs.zip ls).length = ls.length := by rw [List.length_zip, h.ln, Nat.min_self]
  refine .inr ⟨⟨g, 0, none⟩, ls.length, by rw [hzl], by rw [hzl]; exact Nat.le_refl _, fun i p hp => ?_⟩
  have hz := List.getElem?_zip_eq_some.1 hp
  refine ⟨?_, (h.ob i p.1 p.2 hz.1 hz.2).has⟩
  rw [add_plain]
  exact (h.bl.cell i).trans hz.1
end Go.Proofs.YtiefgmgjlhjjhaaDoor
