import Derived.Test.YtablmkijlpoaaaaDoorSml
namespace Go.Proofs.YtablmkijlpoaaaaDoor
open Go.RowKit

section
variable {ops : Array Oper} {Q : Exit → Act → World → Prop}
/-- 'append(s, x...)' where an order is drawn. -/
theorem opG_app {i : Nat} {o : Oper} (hi : ops[i]? = some o) {K : Act → World → Prop} {a : Act} {w : World} (hw : Region.wanted o (yielded ops a.tmps) = true) (s x : Operand)
    (ho : o.op = .call { callee := .builtin .append, args := #[s, x], argTypes := #[27, 27] }) (dd : Nat) (hdd : o.dst = some dd) (base : Nat) (v : Value) (bs : List UInt8) (hs : a.eval s = v) (hown : Own w base v bs)
    (sv : Value) (ys : List UInt8) (hx : a.eval x = sv) (hh : Has w sv ys) (hb : bs.length + ys.length ≤ 150000000000000) (hbase : base ≤ w.heap.size)
    (h : ∀ v' w', Own w' base v' (bs ++ ys) → w.grownBy w' v.ownBlock → K (a.put (some dd) v') w') : wpOp Tryd.prog ops Q i K a w := by
  refine opG_wp hi hw ?_
  rw [← hdd] at h
  obtain ⟨i0, hi0, hz0, hz1, hz2⟩ := info_parts Tryd.info5
  rcases hh with ⟨rfl, rfl⟩ | ⟨ad, cap, rfl, h2, h3⟩
  · have hr := run_append_owned_none (P := Tryd.prog) w base 27 o.type 5 i0 1 Tryd.underlying27 hi0 v _ _ hown
    unfold Oper.wp
    simp [execOp, ho, resolve, invoke, builtin, hs, hx, hr, Result.andThen]
    exact h v w (by simpa using hown) (grown_refl _ _)
  · obtain ⟨v', w', hrun, r1, r2⟩ := run_app w base v bs hown ad cap ys h3 hb hbase o.type
    unfold Oper.wp
    simp [execOp, ho, resolve, invoke, builtin, hs, hx, hrun, Result.andThen]
    exact h v' w' r1 r2
end

def ptr (g : Nat) : Value := .pointer (some ⟨g, 0, none⟩)
def nilS : Value := .slice none 0 0

/-- Three hashes and what each was handed: the table at block p. -/
structure Tb (w x : World) (p : Nat) (hs : List Nat) (vs : List Value) (mh mv : List (List UInt8)) : Prop where
  tb : Blk x p (hs.map ptr ++ vs) 30
  lh : hs.length = 3
  lv : vs.length = 3
  hh : ∀ i, i < 3 → HAt x (hs.getD i 0) (mh.getD i [])
  hv : ∀ i, i < 3 → Has x (vs.getD i nilS) (mv.getD i [])
  be : Below w.heap.size w x
  gp : w.heap.size ≤ p
  gh : ∀ i, i < 3 → w.heap.size ≤ hs.getD i 0
  nh : ∀ i j, i < 3 → j < 3 → i ≠ j → hs.getD i 0 ≠ hs.getD j 0
  np : ∀ i, i < 3 → hs.getD i 0 ≠ p
  nv : ∀ i, i < 3 → ∀ k, (vs.getD i nilS).ownBlock = some k → k ≠ p ∧ ∀ j, j < 3 → k ≠ hs.getD j 0
  bv : ∀ i, i < 3 → ∀ k, (vs.getD i nilS).ownBlock = some k → k < x.heap.size

theorem Tb.below {w x y : World} {p : Nat} {hs : List Nat} {vs : List Value} {mh mv : List (List UInt8)} (h : Tb w x p hs vs mh mv) (hb : Below x.heap.size x y) : Tb w y p hs vs mh mv :=
  ⟨h.tb.below hb h.tb.lt, h.lh, h.lv, fun i hi => Blk.below (h.hh i hi) hb (Blk.lt (h.hh i hi)), fun i hi => (h.hv i hi).below hb, h.be.trans (hb.mono h.be.size), h.gp, h.gh, h.nh, h.np, h.nv, fun i hi k hk => Nat.lt_of_lt_of_le (h.bv i hi k hk) hb.size⟩
theorem Tb.ptrAt {w x : World} {p : Nat} {hs : List Nat} {vs : List Value} {mh mv : List (List UInt8)} (h : Tb w x p hs vs mh mv) (i : Nat) (hi : i < 3) : x.cell? ⟨p, i, none⟩ = some (ptr (hs.getD i 0)) := by
  have hl := h.lh
  rw [h.tb.cell, List.getElem?_append_left (by rw [List.length_map]; omega), List.getElem?_map, List.getElem?_eq_getElem (by omega), List.getD_eq_getElem?_getD, List.getElem?_eq_getElem (by omega)]
  rfl
theorem Tb.valAt {w x : World} {p : Nat} {hs : List Nat} {vs : List Value} {mh mv : List (List UInt8)} (h : Tb w x p hs vs mh mv) (i : Nat) (hi : i < 3) : x.cell? ⟨p, 3 + i, none⟩ = some (vs.getD i nilS) := by
  have hl := h.lh
  have hv := h.lv
  rw [h.tb.cell, List.getElem?_append_right (by rw [List.length_map]; omega), List.length_map, hl, show 3 + i - 3 = i by omega, List.getElem?_eq_getElem (by omega), List.getD_eq_getElem?_getD, List.getElem?_eq_getElem (by omega)]
  rfl
theorem getD_set_self {α : Type} (l : List α) (i : Nat) (a d : α) (h : i < l.length) : (l.set i a).getD i d = a := by
  rw [List.getD_eq_getElem?_getD, List.getElem?_set_self h]; rfl
theorem getD_set_ne {α : Type} (l : List α) (i j : Nat) (a d : α) (h : i ≠ j) : (l.set i a).getD j d = l.getD j d := by
  rw [List.getD_eq_getElem?_getD, List.getElem?_set_ne h, List.getD_eq_getElem?_getD]
/-- One of the hashes has gone on. -/
theorem Tb.hash {w x y : World} {p : Nat} {hs : List Nat} {vs : List Value} {mh mv : List (List UInt8)} (h : Tb w x p hs vs mh mv) (hm : mh.length = 3) (i : Nat) (hi : i < 3) (m : List UInt8) (hy : HAt y (hs.getD i 0) m) (hf : Fx (One (hs.getD i 0)) x y) : Tb w y p hs vs (mh.set i m) mv := by
  refine ⟨h.tb.fx hf (fun e : p = _ => h.np i hi e.symm), h.lh, h.lv, fun j hj => ?_, fun j hj => (h.hv j hj).fx hf (fun k hk (e : k = _) => (h.nv j hj k hk).2 i hi e), h.be.trans (hf.below (fun k hk (e : k = _) => by have := h.gh i hi; omega) h.be.size), h.gp, h.gh, h.nh, h.np, h.nv, fun i hi k hk => Nat.lt_of_lt_of_le (h.bv i hi k hk) hf.size⟩
  by_cases e : i = j
  · subst e
    rw [getD_set_self _ _ _ _ (by omega)]
    exact hy
  · rw [getD_set_ne _ _ _ _ _ e]
    exact Blk.fx (h.hh j hj) hf (fun q : hs.getD j 0 = hs.getD i 0 => h.nh i j hi hj e q.symm)
/-- A new hash is put into the table. -/
theorem Tb.put {w x : World} {p : Nat} {hs : List Nat} {vs : List Value} {mh mv : List (List UInt8)} (h : Tb w x p hs vs mh mv) (hm : mh.length = 3) (i : Nat) (hi : i < 3) (g : Nat) (m : List UInt8) (hg : HAt x g m) (g0 : w.heap.size ≤ g) (g1 : g ≠ p) (g2 : ∀ j, j < 3 → g ≠ hs.getD j 0)
    (g3 : ∀ j, j < 3 → ∀ k, (vs.getD j nilS).ownBlock = some k → k ≠ g) : Tb w (x.setCell ⟨p, i, none⟩ (ptr g)) p (hs.set i g) vs (mh.set i m) mv := by
  have hl := h.lh
  have hf : Fx (One p) x (x.setCell ⟨p, i, none⟩ (ptr g)) := Fx.setCell x p i _ rfl
  have hget : ∀ j, j < 3 → (hs.set i g).getD j 0 = if i = j then g else hs.getD j 0 := fun j hj => by
    by_cases e : i = j
    · subst e; rw [getD_set_self _ _ _ _ (by omega), if_pos rfl]
    · rw [getD_set_ne _ _ _ _ _ e, if_neg e]
  refine ⟨?_, by rw [List.length_set]; exact hl, h.lv, fun j hj => ?_, fun j hj => (h.hv j hj).fx hf (fun k hk (e : k = p) => (h.nv j hj k hk).1 e), h.be.setCell h.gp _, h.gp, fun j hj => ?_, fun j k hj hk hjk => ?_, fun j hj => ?_, fun j hj k hk => ⟨(h.nv j hj k hk).1, fun q hq => ?_⟩, fun i hi k hk => Nat.lt_of_lt_of_le (h.bv i hi k hk) hf.size⟩
  · have := h.tb.set i (ptr g)
    rw [List.set_append_left _ _ (by rw [List.length_map]; omega), ← List.map_set] at this
    exact this
  · rw [hget j hj]
    by_cases e : i = j
    · subst e
      rw [if_pos rfl, getD_set_self _ _ _ _ (by omega)]
      exact Blk.fx hg hf (fun q : g = p => g1 q)
    · rw [if_neg e, getD_set_ne _ _ _ _ _ e]
      exact Blk.fx (h.hh j hj) hf (fun q : _ = p => h.np j hj q)
  · rw [hget j hj]; split
    · exact g0
    · exact h.gh j hj
  · rw [hget j hj, hget k hk]
    split
    · rename_i e
      rw [if_neg (by omega)]
      exact g2 k hk
    · split
      · exact fun q => g2 j hj q.symm
      · exact h.nh j k hj hk hjk
  · rw [hget j hj]; split
    · exact g1
    · exact h.np j hj
  · rw [hget q hq]; split
    · exact g3 j hj k hk
    · exact (h.nv j hj k hk).2 q hq
/-- New bytes are put into the table. -/
theorem Tb.val {w x : World} {p : Nat} {hs : List Nat} {vs : List Value} {mh mv : List (List UInt8)} (h : Tb w x p hs vs mh mv) (hm : mv.length = 3) (i : Nat) (hi : i < 3) (v : Value) (m : List UInt8) (hv : Has x v m)
    (hn : ∀ k, v.ownBlock = some k → k ≠ p ∧ ∀ j, j < 3 → k ≠ hs.getD j 0) (hb : ∀ k, v.ownBlock = some k → k < x.heap.size) : Tb w (x.setCell ⟨p, 3 + i, none⟩ v) p hs (vs.set i v) mh (mv.set i m) := by
  have hl := h.lh
  have hlv := h.lv
  have hf : Fx (One p) x (x.setCell ⟨p, 3 + i, none⟩ v) := Fx.setCell x p (3 + i) _ rfl
  refine ⟨?_, hl, by rw [List.length_set]; exact hlv, fun j hj => Blk.fx (h.hh j hj) hf (fun q : _ = p => h.np j hj q), fun j hj => ?_, h.be.setCell h.gp _, h.gp, h.gh, h.nh, h.np, fun j hj k hk => ?_, fun j hj k hk => ?_⟩
  · have := h.tb.set (3 + i) v
    rw [List.set_append_right _ _ (by rw [List.length_map]; omega), List.length_map, hl, show 3 + i - 3 = i by omega] at this
    exact this
  · by_cases e : i = j
    · subst e
      rw [getD_set_self _ _ _ _ (by omega), getD_set_self _ _ _ _ (by omega)]
      exact hv.fx hf (fun k hk (q : k = p) => (hn k hk).1 q)
    · rw [getD_set_ne _ _ _ _ _ e, getD_set_ne _ _ _ _ _ e]
      exact (h.hv j hj).fx hf (fun k hk (q : k = p) => (h.nv j hj k hk).1 q)
  · by_cases e : i = j
    · subst e
      rw [getD_set_self _ _ _ _ (by omega)] at hk
      exact hn k hk
    · rw [getD_set_ne _ _ _ _ _ e] at hk
      exact h.nv j hj k hk
  · by_cases e : i = j
    · subst e
      rw [getD_set_self _ _ _ _ (by omega)] at hk
      exact Nat.lt_of_lt_of_le (hb k hk) hf.size
    · rw [getD_set_ne _ _ _ _ _ e] at hk
      exact Nat.lt_of_lt_of_le (h.bv j hj k hk) hf.size
end Go.Proofs.YtablmkijlpoaaaaDoor
