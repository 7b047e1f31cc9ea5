import Derived.Test.YtablmkijlpoaaaaDoorPly
namespace Go.Proofs.YtablmkijlpoaaaaDoor
open Go.RowKit

/-- The table while it is filled with new hashes. -/
structure Fl3 (w x : World) (p : Nat) (gs : List Nat) (k : Nat) : Prop where
  tb : Blk x p (gs.map ptr ++ (List.replicate (3 - k) (.pointer none) ++ List.replicate 3 nilS)) 30
  lk : gs.length = k
  k3 : k ≤ 3
  hh : ∀ i, i < k → HAt x (gs.getD i 0) []
  be : Below w.heap.size w x
  gp : w.heap.size ≤ p
  gh : ∀ i, i < k → w.heap.size ≤ gs.getD i 0
  nh : ∀ i j, i < k → j < k → i ≠ j → gs.getD i 0 ≠ gs.getD j 0
  np : ∀ i, i < k → gs.getD i 0 ≠ p
theorem Fl3.below {w x y : World} {p k : Nat} {gs : List Nat} (h : Fl3 w x p gs k) (hb : Below x.heap.size x y) : Fl3 w y p gs k :=
  ⟨h.tb.below hb h.tb.lt, h.lk, h.k3, fun i hi => Blk.below (h.hh i hi) hb (Blk.lt (h.hh i hi)), h.be.trans (hb.mono h.be.size), h.gp, h.gh, h.nh, h.np⟩
theorem Fl3.cellAt {w x : World} {p k : Nat} {gs : List Nat} (h : Fl3 w x p gs k) (i : Nat) (hi : i < 3) : ∃ v, x.cell? ⟨p, i, none⟩ = some v := by
  have h1 := h.lk
  have h2 := h.k3
  exact ⟨_, by rw [h.tb.cell, List.getElem?_eq_getElem (by simp; omega)]⟩
theorem Fl3.add {w x : World} {p k : Nat} {gs : List Nat} (h : Fl3 w x p gs k) (hk : k < 3) (g : Nat) (hg : HAt x g []) (g0 : w.heap.size ≤ g) (g1 : g ≠ p) (g2 : ∀ j, j < k → g ≠ gs.getD j 0) : Fl3 w (x.setCell ⟨p, k, none⟩ (.pointer (some ⟨g, 0, none⟩))) p (gs ++ [g]) (k + 1) := by
  have hl := h.lk
  have hf : Fx (One p) x (x.setCell ⟨p, k, none⟩ (.pointer (some ⟨g, 0, none⟩))) := Fx.setCell x p k _ rfl
  have hget : ∀ j, j < k → (gs ++ [g]).getD j 0 = gs.getD j 0 := fun j hj => by
    rw [List.getD_eq_getElem?_getD, List.getElem?_append_left (by omega), List.getD_eq_getElem?_getD]
  have hlast : (gs ++ [g]).getD k 0 = g := by
    rw [List.getD_eq_getElem?_getD, List.getElem?_append_right (by omega), hl, Nat.sub_self]; rfl
  have cases_ : ∀ j, j < k + 1 → j < k ∨ j = k := fun j hj => by omega
  refine ⟨?_, by rw [List.length_append, hl]; rfl, by omega, fun j hj => ?_, h.be.setCell h.gp _, h.gp, fun j hj => ?_, fun i j hi hj hij => ?_, fun j hj => ?_⟩
  · have := h.tb.set k (.pointer (some ⟨g, 0, none⟩))
    rw [List.set_append_right _ _ (by rw [List.length_map]; omega), List.length_map, hl, Nat.sub_self, show 3 - k = (3 - (k + 1)) + 1 by omega, List.replicate_succ, List.cons_append, List.set_cons_zero] at this
    rw [List.map_append, List.append_assoc]
    exact this
  · rcases cases_ j hj with e | rfl
    · rw [hget j e]; exact Blk.fx (h.hh j e) hf (fun q : _ = p => h.np j e q)
    · rw [hlast]; exact Blk.fx hg hf (fun q : g = p => g1 q)
  · rcases cases_ j hj with e | rfl
    · rw [hget j e]; exact h.gh j e
    · rw [hlast]; exact g0
  · rcases cases_ i hi with ei | rfl
    · rcases cases_ j hj with ej | rfl
      · rw [hget i ei, hget j ej]; exact h.nh i j ei ej hij
      · rw [hget i ei, hlast]; exact fun q => g2 i ei q.symm
    · rcases cases_ j hj with ej | rfl
      · rw [hlast, hget j ej]; exact g2 j ej
      · exact absurd rfl hij
  · rcases cases_ j hj with e | rfl
    · rw [hget j e]; exact h.np j e
    · rw [hlast]; exact g1
theorem Fl3.ptrAt {w x : World} {p k : Nat} {gs : List Nat} (h : Fl3 w x p gs (k + 1)) : ∃ g, x.cell? ⟨p, k, none⟩ = some (.pointer (some ⟨g, 0, none⟩)) := by
  have hl := h.lk
  exact ⟨gs[k]'(by omega), by rw [h.tb.cell, List.getElem?_append_left (by rw [List.length_map]; omega), List.getElem?_map, List.getElem?_eq_getElem (by omega)]; rfl⟩
/-- The table is full. -/
theorem Fl3.full {w x : World} {p : Nat} {gs : List Nat} (h : Fl3 w x p gs 3) : Tb w x p gs [nilS, nilS, nilS] [[], [], []] [[], [], []] := by
  refine ⟨h.tb, h.lk, rfl, fun i hi => ?_, fun i hi => ?_, h.be, h.gp, h.gh, h.nh, h.np, fun i hi k hk => ?_, fun i hi k hk => ?_⟩
  · have := h.hh i hi
    match i, hi with
    | 0, _ => exact this
    | 1, _ => exact this
    | 2, _ => exact this
  · match i, hi with
    | 0, _ => exact Has.nil _
    | 1, _ => exact Has.nil _
    | 2, _ => exact Has.nil _
  · match i, hi with
    | 0, _ => cases hk
    | 1, _ => cases hk
    | 2, _ => cases hk
  · match i, hi with
    | 0, _ => cases hk
    | 1, _ => cases hk
    | 2, _ => cases hk
end Go.Proofs.YtablmkijlpoaaaaDoor
