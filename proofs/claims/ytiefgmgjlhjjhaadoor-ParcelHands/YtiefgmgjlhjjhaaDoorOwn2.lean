import Derived.Test.YtiefgmgjlhjjhaaDoorHash
import Derived.Laws.MakeOwn
namespace Go.Proofs.YtiefgmgjlhjjhaaDoor
open Go.RowKit

theorem setCell_block (w : World) (g o : Nat) (v : Value) {cur : Array Value} {e : TypeId} {fz : Nat × Nat} (h : w.heap[g]? = some (.cells cur e fz)) :
    (w.setCell ⟨g, o, none⟩ v).heap[g]? = some (.cells (cur.setIfInBounds o v) e fz) := by
  simp [World.setCell, Array.getElem?_modify, h]

theorem setCells_block (g : Nat) {e : TypeId} {fz : Nat × Nat} : ∀ (vs : List Value) (o : Nat) (w : World) (cur : Array Value), w.heap[g]? = some (.cells cur e fz) →
    ∃ cur', (w.setCells g o vs).heap[g]? = some (.cells cur' e fz) ∧ cur'.size = cur.size ∧ ∀ j : Nat, cur'[j]? = if o ≤ j ∧ j < o + vs.length ∧ j < cur.size then vs[j - o]? else cur[j]?
  | [], o, w, cur, h => ⟨cur, h, rfl, fun j => by rw [if_neg]; simp; omega⟩
  | v :: vs, o, w, cur, h => by
    obtain ⟨cur', h1, h2, h3⟩ := setCells_block g vs (o + 1) _ _ (setCell_block w g o v h)
    refine ⟨cur', h1, by simpa using h2, fun j => ?_⟩
    rw [h3 j, Array.getElem?_setIfInBounds]
    simp only [Array.size_setIfInBounds, List.length_cons]
    by_cases hj : o = j
    · subst hj
      rw [if_neg (by omega), if_pos rfl]
      by_cases hs : o < cur.size
      · rw [if_pos hs, if_pos (by omega)]; simp
      · rw [if_neg hs, if_neg (by omega), Array.getElem?_eq_none (by omega)]
    · rw [if_neg hj]
      by_cases hc : o + 1 ≤ j ∧ j < o + 1 + vs.length ∧ j < cur.size
      · rw [if_pos hc, if_pos (by omega)]
        obtain ⟨d, rfl⟩ : ∃ d, j = o + 1 + d := ⟨j - (o + 1), by omega⟩
        rw [show o + 1 + d - (o + 1) = d by omega, show o + 1 + d - o = d + 1 by omega]
        simp
      · rw [if_neg hc, if_neg (by omega)]

/-- Bytes written over owned ones. -/
theorem Own.write {w : World} {base g cap : Nat} {bs : List UInt8} (h : Own w base (.slice (some ⟨g, 0, none⟩) bs.length cap) bs) (k : Nat) (ys : List UInt8) (hk : k + ys.length ≤ bs.length) :
    Own (w.setCells g k (ys.map byt)) base (.slice (some ⟨g, 0, none⟩) bs.length cap) (bs.take k ++ ys ++ bs.drop (k + ys.length)) := by
  obtain ⟨h1, h | ⟨g', cap', cur, hv, hg, hh, hn, hc, hs, ht⟩⟩ := h
  · cases h.1
  · cases hv
    obtain ⟨cur', e1, e2, e3⟩ := setCells_block g (ys.map byt) k w cur hh
    have hlen : (bs.take k ++ ys ++ bs.drop (k + ys.length)).length = bs.length := by simp; omega
    refine ⟨by simp, .inr ⟨g, cap, cur', by rw [hlen], hg, e1, by rw [hlen]; exact hn, hc, by rw [e2]; exact hs, ?_⟩⟩
    rw [hlen]
    rw [Nat.mul_one] at ht hs ⊢
    apply List.ext_getElem?
    intro j
    by_cases hj : j < bs.length
    · rw [List.getElem?_take_of_lt hj, Array.getElem?_toList, e3]
      simp only [List.length_map, List.getElem?_map]
      by_cases hin : k ≤ j ∧ j < k + ys.length
      · rw [if_pos (by omega), List.append_assoc, List.getElem?_append_right (by simp; omega), List.getElem?_append_left (by simp; omega)]
        simp [show min k bs.length = k by omega]
      · rw [if_neg (by omega)]
        have hcur : cur[j]? = (bs[j]?).map byt := by
          have : (cur.toList.take bs.length)[j]? = (bs.map byt)[j]? := by rw [ht]
          rw [List.getElem?_take_of_lt hj, Array.getElem?_toList, List.getElem?_map] at this
          exact this
        rw [hcur]
        congr 1
        by_cases hlo : j < k
        · rw [List.append_assoc, List.getElem?_append_left (by simp; omega), List.getElem?_take_of_lt hlo]
        · rw [List.getElem?_append_right (by simp; omega), List.getElem?_drop]
          congr 1
          simp; omega
    · rw [List.getElem?_eq_none (by simp; omega), List.getElem?_eq_none (by simp; omega)]

theorem Own.cells {w : World} {base g cap : Nat} {bs : List UInt8} (h : Own w base (.slice (some ⟨g, 0, none⟩) bs.length cap) bs) (j : Nat) (hj : j < bs.length) :
    (∃ u : UInt8, w.cell? ⟨g, j, none⟩ = some (byt u)) ∧ w.frozen? ⟨g, j, none⟩ = false := by
  obtain ⟨h1, h | ⟨g', cap', cur, hv, hg, hh, hn, hc, hs, ht⟩⟩ := h
  · cases h.1
  · cases hv
    have e : (cur.toList.take (bs.length * 1))[j]? = (bs.map byt)[j]? := by rw [ht]
    rw [Nat.mul_one, List.getElem?_take_of_lt hj, Array.getElem?_toList, List.getElem?_map, List.getElem?_eq_getElem hj] at e
    refine ⟨⟨bs[j], ?_⟩, ?_⟩
    · simp only [World.cell?, hh]
      simpa using e
    · simp [World.frozen?, hh]

set_option maxHeartbeats 400000 in
theorem has_new1 (W : World) (b : UInt8) : Has (W.alloc (.cells #[byt b] 5)) (.slice (some ⟨W.heap.size, 0, none⟩) 1 1) [b] := by
  refine .inr ⟨_, 1, rfl, Nat.le_refl _, fun i u hu => ?_⟩
  rw [add_plain]
  unfold World.cell?
  dsimp only
  rw [at_new W _ (.cells #[byt b] 5) ⟨rfl, rfl, rfl, rfl⟩]
  match i, hu with
  | 0, hu => simp at hu; subst hu; simp

theorem made_zeros (n : Nat) : madeCells (Value.int .u8 0).cells n = ((List.replicate n (0 : UInt8)).map byt).toArray := by
  apply Array.ext
  · simp [size_madeCells]
  · intro i h1 h2
    simp [madeCells, Value.cells, byt]
    rw [Nat.mod_one]; rfl

/-- 'make([]byte, l, c)'. -/
theorem wpList_mk {ops : Array Oper} {rest : List Oper} {o : Oper} {a : Act} {w : World} {Q : Exit → Act → World → Prop} (hgd : o.guard = none) (x y : Operand) (ho : o.op = .makeSlice 24 x y) (l c : Nat) (li ci : Int) (hli : li = l) (hci : ci = c)
    (hx : a.eval x = .int .i64 li) (hy : a.eval y = .int .i64 ci) (hlc : l ≤ c) (hc : c ≤ 16777216) (base : Nat) (hbase : base ≤ w.heap.size)
    (h : ∀ w', Own w' base (.slice (some ⟨w.heap.size, 0, none⟩) l c) (List.replicate l 0) → Below w.heap.size w w' → wpList Tryd.prog ops Q rest (a.put o.dst (.slice (some ⟨w.heap.size, 0, none⟩) l c)) w') : wpList Tryd.prog ops Q (o :: rest) a w := by
  subst hli hci
  obtain ⟨i0, hi, hz0, hz1, hz2⟩ := info_parts Tryd.info5
  have hrun := run_makeSlice (P := Tryd.prog) w 24 5 i0 (.int .u8 0) Tryd.underlying24 hi hz0 .i64 .i64 l c (by omega) (by omega) (by rw [hz1]; simpa using hc) (by rw [hz2]; omega) (by omega)
  rw [hz1, Int.toNat_natCast, Int.toNat_natCast, Nat.mul_one, made_zeros] at hrun
  refine wpList_plain hgd fun K hK => ?_
  unfold Oper.wp
  simp only [execOp, ho, hx, hy, Sem.run_bind, hrun, Result.andThen_ok]
  refine hK _ _ (h _ ⟨by simp, .inr ⟨w.heap.size, c, _, by simp, hbase, heap_alloc_new w _, by simpa using hlc, by unfold maxLen; omega, by simp, ?_⟩⟩ (below_new w _))
  simp [List.take_replicate, Nat.min_eq_left hlc]
end Go.Proofs.YtiefgmgjlhjjhaaDoor
