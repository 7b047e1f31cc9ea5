import Derived.Test.YtgfgabgnejnipaaSmall
namespace Go.Proofs.Ytgfgabgnejnipaa
open Go.RowKit

theorem flat_take (ps : List (Value × List UInt8)) (k : Nat) (h : k < ps.length) : (ps.take (k + 1)).flatMap (·.2) = (ps.take k).flatMap (·.2) ++ ps[k].2 := by
  rw [List.take_succ_eq_append_getElem h, List.flatMap_append]; simp

theorem flat_len (ps : List (Value × List UInt8)) (k : Nat) : ((ps.take k).flatMap (·.2)).length ≤ (ps.flatMap (·.2)).length := by
  conv => rhs; rw [← List.take_append_drop k ps, List.flatMap_append]
  simp only [List.length_append]; omega

set_option maxHeartbeats 400000 in
theorem join_some (ad : Addr) (cap : Nat) (ps : List (Value × List UInt8)) (w : World) (hn : ps.length ≤ 150000000000000) (hl : (ps.flatMap (·.2)).length ≤ 150000000000000)
    (hc : ∀ i p, ps[i]? = some p → w.cell? (ad.add i) = some p.1 ∧ Has w p.1 p.2) :
    Calls Try.prog 12 #[.slice (some ad) ps.length cap] w fun e w' => ∃ r, e = .returned r ∧ Own w' w.heap.size r (ps.flatMap (·.2)) ∧ Below w.heap.size w w' := by
  go_enter Try.func12, Try.ntmps12
  go_wp2
  go_loopw [3, 8] (fun t i wr => ∃ k : Nat, k ≤ ps.length ∧ i = .int .i64 k ∧ Own wr w.heap.size t ((ps.take k).flatMap (·.2)) ∧ Below w.heap.size w wr) (fun _ i _ => ps.length - (intOf i).toNat)
  case atStart => exact ⟨0, Nat.zero_le _, rfl, Own.nil _ _, Below.refl _ _⟩
  case round =>
    obtain ⟨k, hk, rfl, hown, hbel⟩ := hrel
    by_cases hlt : k < ps.length
    · obtain ⟨h1, h2⟩ := hc k ps[k] (List.getElem?_eq_getElem hlt)
      have hcell : wr.cell? (ad.add k) = some ps[k].1 := (hbel.cell (cell_lt h1)).trans h1
      have hhas : Hid (Has wr ps[k].1 ps[k].2) := h2.below hbel
      have hlen : Hid (((ps.take k).flatMap (·.2)).length + ps[k].2.length ≤ 150000000000000) := by
        have e1 := flat_take ps k hlt
        have e2 := flat_len ps (k + 1)
        rw [e1] at e2
        simp only [List.length_append] at e2
        show _ ≤ _
        omega
      generalize hp : ps[k].1 = pv at *
      have HP : Hid (ps[k].1 = pv) := hp
      clear hp h1 h2 hc
      go_wp2_with (at_builtin; refine wpList_app rfl _ _ rfl w.heap.size _ _ rfl hown _ _ rfl hhas.out hlen.out hbel.size ?_)
      intro v' w1 hown1 hg
      have hbel1 : Below w.heap.size w w1 := hbel.grown hg hbel.size hown.ownBlock
      clear hg hown
      go_wp2
      go_roundw
      case rel => exact ⟨k + 1, by omega, by go_num, by rw [flat_take ps k hlt]; exact hown1, hbel1⟩
      case measure => simp [intOf]; omega
    · go_wp2
      go_ret
      rw [List.take_of_length_le (by omega)] at hown
      exact ⟨_, rfl, hown, hbel⟩

set_option maxHeartbeats 400000 in
theorem join_nil (w : World) : Calls Try.prog 12 #[.slice none 0 0] w fun e w' => e = .returned (.slice none 0 0) ∧ w' = w := by
  go_enter Try.func12, Try.ntmps12
  go_wp2
  refine wp_loop_rounds 1 ?_
  rw [rounds_succ]
  go_wp2
  go_ret
  exact ⟨rfl, rfl⟩

theorem join_any (v : Value) (ps : List (Value × List UInt8)) (w : World) (h : Parts w v ps) (hn : ps.length ≤ 150000000000000) (hl : (ps.flatMap (·.2)).length ≤ 150000000000000) :
    Calls Try.prog 12 #[v] w fun e w' => ∃ r, e = .returned r ∧ Own w' w.heap.size r (ps.flatMap (·.2)) ∧ Below w.heap.size w w' := by
  rcases h with ⟨rfl, rfl⟩ | ⟨ad, cap, rfl, h2, h3⟩
  · exact (join_nil w).mono fun e w' ⟨h1, h2⟩ => ⟨_, h1, by subst h2; exact Own.nil _ _, by subst h2; exact Below.refl _ _⟩
  · exact join_some ad cap ps w hn hl h3

/-- Every block but 'row' is as it was; none has come or gone. -/
structure Only (w w' : World) (row : Option Nat) : Prop where
  os : w'.os = w.os
  tape : w'.tape = w.tape
  output : w'.output = w.output
  size : w'.heap.size = w.heap.size
  block : ∀ k, row ≠ some k → w'.heap[k]? = w.heap[k]?

theorem Only.refl (w : World) (row : Option Nat) : Only w w row := ⟨rfl, rfl, rfl, rfl, fun _ _ => rfl⟩
theorem Only.trans {a b c : World} {row : Option Nat} (h : Only a b row) (k : Only b c row) : Only a c row :=
  ⟨k.os.trans h.os, k.tape.trans h.tape, k.output.trans h.output, k.size.trans h.size, fun i hi => (k.block i hi).trans (h.block i hi)⟩
theorem Only.below {w w' : World} {row : Option Nat} {B : Nat} (h : Only w w' row) (hr : ∀ k, row = some k → B ≤ k) : Below B w w' :=
  ⟨h.os, h.tape, h.output, by rw [h.size]; exact Nat.le_refl _, fun k hk => h.block k fun e => by have := hr k e; omega⟩

theorem setCell_block (w : World) (g o : Nat) (v : Value) {cur : Array Value} {e : TypeId} {fz : Nat × Nat} (h : w.heap[g]? = some (.cells cur e fz)) :
    (w.setCell ⟨g, o, none⟩ v).heap[g]? = some (.cells (cur.setIfInBounds o v) e fz) := by
  simp [World.setCell, Array.getElem?_modify, h]

theorem setCell_only (w : World) (g o : Nat) (v : Value) : Only w (w.setCell ⟨g, o, none⟩ v) (some g) :=
  ⟨rfl, rfl, rfl, by simp [World.setCell], fun k hk => Below.heap_setCell _ _ _ _ (fun e => hk (by rw [e]))⟩

theorem setCells_only (g : Nat) : ∀ (vs : List Value) (o : Nat) (w : World), Only w (w.setCells g o vs) (some g)
  | [], _, w => Only.refl w _
  | v :: vs, o, w => (setCell_only w g o v).trans (setCells_only g vs (o + 1) _)

theorem setCells_block (g : Nat) {e : TypeId} {fz : Nat × Nat} : ∀ (vs : List Value) (o : Nat) (w : World) (cur : Array Value), w.heap[g]? = some (.cells cur e fz) →
    ∃ cur', (w.setCells g o vs).heap[g]? = some (.cells cur' e fz) ∧ cur'.size = cur.size ∧ ∀ j : Nat, cur'[j]? = if o ≤ j ∧ j < o + vs.length ∧ j < cur.size then vs[j - o]? else cur[j]?
  | [], o, w, cur, h => ⟨cur, h, rfl, fun j => by rw [if_neg]; simp; omega⟩
  | v :: vs, o, w, cur, h => by
    obtain ⟨cur', h1, h2, h3⟩ := setCells_block g vs (o + 1) _ _ (setCell_block w g o v h)
    refine ⟨cur', h1, by simpa using h2, fun j => ?_⟩
    rw [h3 j, Array.getElem?_setIfInBounds]
    simp only [Array.size_setIfInBounds, List.length_cons]
    by_cases hj : o = j
    · subst hj
      rw [if_neg (by omega), if_pos rfl]
      by_cases hs : o < cur.size
      · rw [if_pos hs, if_pos (by omega)]; simp
      · rw [if_neg hs, if_neg (by omega), Array.getElem?_eq_none (by omega)]
    · rw [if_neg hj]
      by_cases hc : o + 1 ≤ j ∧ j < o + 1 + vs.length ∧ j < cur.size
      · rw [if_pos hc, if_pos (by omega)]
        obtain ⟨d, rfl⟩ : ∃ d, j = o + 1 + d := ⟨j - (o + 1), by omega⟩
        rw [show o + 1 + d - (o + 1) = d by omega, show o + 1 + d - o = d + 1 by omega]
        simp
      · rw [if_neg hc, if_neg (by omega)]

/-- Bytes written over owned ones. -/
theorem Own.write {w : World} {base g cap : Nat} {bs : List UInt8} (h : Own w base (.slice (some ⟨g, 0, none⟩) bs.length cap) bs) (k : Nat) (ys : List UInt8) (hk : k + ys.length ≤ bs.length) :
    Own (w.setCells g k (ys.map byt)) base (.slice (some ⟨g, 0, none⟩) bs.length cap) (bs.take k ++ ys ++ bs.drop (k + ys.length)) := by
  obtain ⟨h1, h | ⟨g', cap', cur, hv, hg, hh, hn, hc, hs, ht⟩⟩ := h
  · cases h.1
  · cases hv
    obtain ⟨cur', e1, e2, e3⟩ := setCells_block g (ys.map byt) k w cur hh
    have hlen : (bs.take k ++ ys ++ bs.drop (k + ys.length)).length = bs.length := by simp; omega
    refine ⟨by simp, .inr ⟨g, cap, cur', by rw [hlen], hg, e1, by rw [hlen]; exact hn, hc, by rw [e2]; exact hs, ?_⟩⟩
    rw [hlen]
    rw [Nat.mul_one] at ht hs ⊢
    apply List.ext_getElem?
    intro j
    by_cases hj : j < bs.length
    · rw [List.getElem?_take_of_lt hj, Array.getElem?_toList, e3]
      simp only [List.length_map, List.getElem?_map]
      by_cases hin : k ≤ j ∧ j < k + ys.length
      · rw [if_pos (by omega), List.append_assoc, List.getElem?_append_right (by simp; omega), List.getElem?_append_left (by simp; omega)]
        simp [show min k bs.length = k by omega]
      · rw [if_neg (by omega)]
        have hcur : cur[j]? = (bs[j]?).map byt := by
          have : (cur.toList.take bs.length)[j]? = (bs.map byt)[j]? := by rw [ht]
          rw [List.getElem?_take_of_lt hj, Array.getElem?_toList, List.getElem?_map] at this
          exact this
        rw [hcur]
        congr 1
        by_cases hlo : j < k
        · rw [List.append_assoc, List.getElem?_append_left (by simp; omega), List.getElem?_take_of_lt hlo]
        · rw [List.getElem?_append_right (by simp; omega), List.getElem?_drop]
          congr 1
          simp; omega
    · rw [List.getElem?_eq_none (by simp; omega), List.getElem?_eq_none (by simp; omega)]

theorem Own.cells {w : World} {base g cap : Nat} {bs : List UInt8} (h : Own w base (.slice (some ⟨g, 0, none⟩) bs.length cap) bs) (j : Nat) (hj : j < bs.length) :
    (∃ u : UInt8, w.cell? ⟨g, j, none⟩ = some (byt u)) ∧ w.frozen? ⟨g, j, none⟩ = false := by
  obtain ⟨h1, h | ⟨g', cap', cur, hv, hg, hh, hn, hc, hs, ht⟩⟩ := h
  · cases h.1
  · cases hv
    have e : (cur.toList.take (bs.length * 1))[j]? = (bs.map byt)[j]? := by rw [ht]
    rw [Nat.mul_one, List.getElem?_take_of_lt hj, Array.getElem?_toList, List.getElem?_map, List.getElem?_eq_getElem hj] at e
    refine ⟨⟨bs[j], ?_⟩, ?_⟩
    · simp only [World.cell?, hh]
      simpa using e
    · simp [World.frozen?, hh]

set_option maxHeartbeats 400000 in
theorem wipe_some (g n cap : Nat) (w : World) (hn : 0 < n) (hc : ∀ j, j < n → (w.cell? ⟨g, 0 + j, none⟩).isSome = true) (hf : ∀ j, j < n → w.frozen? ⟨g, 0 + j, none⟩ = false) :
    Calls Try.prog 15 #[.slice (some ⟨g, 0, none⟩) n cap] w fun e w' => e = .returned (.tuple #[]) ∧ w' = w.setCells g 0 (List.replicate n (.int .u8 0)) := by
  have hr := Lib.run_clear_slice (P := Try.prog) w 22 5 0 (.int .u8 0) Try.underlying22 (by intro w; go_simp) rfl rfl g 0 n cap hn hc hf
  clear hc hf
  go_enter Try.func15, Try.ntmps15
  go_wp2
  go_end0
  exact ⟨rfl, rfl⟩

set_option maxHeartbeats 400000 in
theorem wipe_empty (a : Option Addr) (cap : Nat) (w : World) :
    Calls Try.prog 15 #[.slice a 0 cap] w fun e w' => e = .returned (.tuple #[]) ∧ w' = w := by
  have hr : ∀ ty, (Builtin.clear_ #[22] ty #[.slice a 0 cap]).run Try.prog w = .ok (.tuple #[]) w := by
    intro ty
    cases a <;> simp [Builtin.clear_, run_underlying Try.underlying22]
  go_enter Try.func15, Try.ntmps15
  go_wp2
  go_end0
  exact ⟨rfl, rfl⟩

theorem wipe_any (v : Value) (base : Nat) (bs : List UInt8) (w : World) (h : Own w base v bs) :
    Calls Try.prog 15 #[v] w fun e w' => e = .returned (.tuple #[]) ∧ Own w' base v (List.replicate bs.length 0) ∧ Only w w' v.ownBlock := by
  by_cases h0 : bs.length = 0
  · obtain rfl := List.eq_nil_of_length_eq_zero h0
    obtain ⟨ao, cap, rfl⟩ := h.has.slice
    exact (wipe_empty ao cap w).mono fun e w' ⟨h1, h2⟩ => ⟨h1, by subst h2; exact h, by subst h2; exact Only.refl _ _⟩
  · have h' := h
    obtain ⟨_, ⟨rfl, hz⟩ | ⟨g, cap, cur, rfl, _⟩⟩ := h'
    · exact absurd hz h0
    · refine (wipe_some g bs.length cap w (by omega) (fun j hj => ?_) (fun j hj => ?_)).mono fun e w' ⟨h1, h2⟩ => ?_
      · obtain ⟨⟨u, hu⟩, _⟩ := h.cells j hj
        rw [Nat.zero_add, hu]; rfl
      · rw [Nat.zero_add]; exact (h.cells j hj).2
      · subst h2
        refine ⟨h1, ?_, setCells_only _ _ _ _⟩
        have := h.write 0 (List.replicate bs.length 0) (by simp)
        simp only [List.take_zero, List.nil_append, List.length_replicate, Nat.zero_add, List.drop_length, List.append_nil, List.map_replicate] at this
        have e : Own (w.setCells g 0 (List.replicate bs.length (byt 0))) base (.slice (some ⟨g, 0, none⟩) bs.length cap) (List.replicate bs.length 0) := this
        exact e

end Go.Proofs.Ytgfgabgnejnipaa
