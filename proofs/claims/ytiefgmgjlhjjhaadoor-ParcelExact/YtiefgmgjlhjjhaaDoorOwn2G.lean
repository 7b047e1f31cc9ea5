import Derived.Test.YtiefgmgjlhjjhaaDoorWrite
import Derived.Laws.MakeOwn
namespace Go.Proofs.YtiefgmgjlhjjhaaDoor
open Go.RowKit

theorem built59 : Tryd.prog.built 132 [(0, .int .u32 1779033703), (1, .int .u32 3144134277), (2, .int .u32 1013904242), (3, .int .u32 2773480762), (4, .int .u32 1359893119), (5, .int .u32 2600822924), (6, .int .u32 528734635), (7, .int .u32 1541459225)] = some (wvs iv).toArray := by kernel_rfl

theorem iv_length : iv.length = 8 := rfl

set_option maxHeartbeats 1000000 in
set_option maxRecDepth 100000 in
theorem begin_any (w : World) : Calls Tryd.prog 64 #[] w fun e w' => e = .returned (.agg (wvs iv).toArray) ∧ Below w.heap.size w w' := by
  have hsz := info39 iv iv_length
  go_enter Tryd.func64, Tryd.ntmps64
  go_wp2_with (first
    | (refine wpList_newAt rfl 132 rfl (wvs z8) zero39 w.heap.size rfl ?_)
    | (refine wpList_plain rfl fun K hK => ?_; refine wp_build 132 _ rfl (by rw [show _ = some (wvs iv).toArray from built59]; rfl) ?_; rw [show Tryd.prog.built 132 _ = some (wvs iv).toArray from built59]; refine hK _ _ ?_; clear hK K)
    | (refine wpList_store_row rfl 132 (.tmp 0) (.tmp 1) rfl w.heap.size (wvs iv).toArray rfl rfl 132 (wvs z8).toArray (Blk.new w _ _) hsz rfl (wvs_one _) ?_))
  refine bodyPost_ret (v := .agg (wvs iv).toArray) ?_ rfl ⟨rfl, below_setRow ((Below.refl _ _).alloc (Nat.le_refl _) _) _ _ (Nat.le_refl _)⟩
  exact results_cell_row Tryd.results64 _ _ w.heap.size 132 _ (0, 0) _ rfl ((Blk.new w _ _).setRow _) Tryd.underlying132 rfl hsz

theorem wpList_bld {P : Program} {ops : Array Oper} {rest : List Oper} {o : Oper} {a : Act} {w : World} {Q : Exit → Act → World → Prop} (hg : o.guard = none) (t : TypeId) (parts : Array (Nat × Operand)) (ho : o.op = .build t parts)
    (l : List (Nat × Value)) (hl : (parts.map fun (i, x) => (i, a.eval x)).toList = l) (cells : Array Value) (hb : P.built t l = some cells)
    (h : wpList P ops Q rest (a.put o.dst (.agg cells)) w) : wpList P ops Q (o :: rest) a w := by
  subst hl
  refine wpList_build hg t parts ho (by rw [hb]; rfl) ?_
  rw [hb]
  exact h

theorem built61 : Tryd.prog.built 136 [(0, .agg (wvs iv).toArray)] = some (hcells []).toArray := by kernel_rfl

set_option maxHeartbeats 1000000 in
set_option maxRecDepth 100000 in
theorem new_any (w : World) : Calls Tryd.prog 57 #[] w fun e w' => ∃ g, e = .returned (.pointer (some ⟨g, 0, none⟩)) ∧ w.heap.size ≤ g ∧ HAt w' g [] ∧ Below w.heap.size w w' := by
  go_enter Tryd.func57, Tryd.ntmps57
  go_wp2_with (first
    | (go_at_call 64; refine (begin_any _).mono ?_; rintro e w1 ⟨rfl, hb1⟩)
    | (refine wpList_bld rfl 136 #[(0, .tmp 1)] rfl [(0, .agg (wvs iv).toArray)] (by simp [Act.eval, Act.put]) (hcells []).toArray built61 ?_)
    | (refine wpList_boxAt rfl 136 _ rfl (hcells []) rfl w1.heap.size rfl ?_))
  go_ret
  exact ⟨_, rfl, hb1.size, Blk.new w1 _ _, hb1.alloc hb1.size _⟩

/-- No hash at all. -/
def hzero : List Value := hc z8 z64b 0
theorem info57z : (Tryd.prog.info? 136).map (fun i => (i.zero, i.size)) = some (some (.agg hzero.toArray), 73) := by kernel_rfl
theorem zero57 (w : World) : (zeroValue 136).run Tryd.prog w = .ok (.agg hzero.toArray) w := (zero_of_info info57z).1 w
theorem hcells_length (m : List UInt8) : (hcells m).length = 73 := hc_length _ _ _ (stt_length m) (rst_length m)
theorem hzero_length : hzero.length = 73 := by kernel_rfl
theorem info57 (m : List UInt8) : (Tryd.prog.info? 136).map (·.size) = some (hcells m).toArray.size := by
  rw [List.size_toArray, hcells_length]; exact (zero_of_info info57z).2
theorem hcells_one (m : List UInt8) : (hcells m).toArray.all (·.oneCell') = true := all_oneCell_toArray fun v hv => by
  unfold hcells hc at hv
  rcases List.mem_append.1 hv with h | h
  · obtain ⟨x, _, rfl⟩ := List.mem_map.1 h; rfl
  · rcases List.mem_append.1 h with h | h
    · exact byt_one _ v h
    · obtain rfl := List.mem_singleton.1 h; rfl

set_option maxHeartbeats 1000000 in
set_option maxRecDepth 100000 in
theorem copy_any (p : Nat) (m : List UInt8) (w : World) (h : HAt w p m) : Calls Tryd.prog 66 #[.pointer (some ⟨p, 0, none⟩)] w fun e w' => ∃ g, e = .returned (.pointer (some ⟨g, 0, none⟩)) ∧ w.heap.size ≤ g ∧ HAt w' g m ∧ Below w.heap.size w w' := by
  have H := hide h
  clear h
  go_enter Tryd.func66, Tryd.ntmps66
  go_wp2_with (first
    | (refine wpList_load_row rfl 136 (.tmp 5) rfl p rfl 136 (hcells m).toArray (0, 0) _ H.out Tryd.underlying136 rfl (info57 m) ?_)
    | (refine wpList_newAt rfl 136 rfl hzero zero57 w.heap.size rfl ?_)
    | (refine wpList_store_row rfl 136 (.tmp 3) (.tmp 6) rfl w.heap.size (hcells m).toArray rfl rfl 136 hzero.toArray (Blk.new w _ _) (info57 m) (by rw [List.size_toArray, List.size_toArray, hcells_length, hzero_length]) (hcells_one m) ?_))
  go_ret
  exact ⟨_, rfl, Nat.le_refl _, (Blk.new w _ _).setRow _, below_setRow ((Below.refl _ _).alloc (Nat.le_refl _) _) _ _ (Nat.le_refl _)⟩

theorem setCell_block (w : World) (g o : Nat) (v : Value) {cur : Array Value} {e : TypeId} {fz : Nat × Nat} (h : w.heap[g]? = some (.cells cur e fz)) :
    (w.setCell ⟨g, o, none⟩ v).heap[g]? = some (.cells (cur.setIfInBounds o v) e fz) := by
  simp [World.setCell, Array.getElem?_modify, h]

theorem setCells_block (g : Nat) {e : TypeId} {fz : Nat × Nat} : ∀ (vs : List Value) (o : Nat) (w : World) (cur : Array Value), w.heap[g]? = some (.cells cur e fz) →
    ∃ cur', (w.setCells g o vs).heap[g]? = some (.cells cur' e fz) ∧ cur'.size = cur.size ∧ ∀ j : Nat, cur'[j]? = if o ≤ j ∧ j < o + vs.length ∧ j < cur.size then vs[j - o]? else cur[j]?
  | [], o, w, cur, h => ⟨cur, h, rfl, fun j => by rw [if_neg]; simp; omega⟩
  | v :: vs, o, w, cur, h => by
    obtain ⟨cur', h1, h2, h3⟩ := setCells_block g vs (o + 1) _ _ (setCell_block w g o v h)
    refine ⟨cur', h1, by simpa using h2, fun j => ?_⟩
    rw [h3 j, Array.getElem?_setIfInBounds]
    simp only [Array.size_setIfInBounds, List.length_cons]
    by_cases hj : o = j
    · subst hj
      rw [if_neg (by omega), if_pos rfl]
      by_cases hs : o < cur.size
      · rw [if_pos hs, if_pos (by omega)]; simp
      · rw [if_neg hs, if_neg (by omega), Array.getElem?_eq_none (by omega)]
    · rw [if_neg hj]
      by_cases hc : o + 1 ≤ j ∧ j < o + 1 + vs.length ∧ j < cur.size
      · rw [if_pos hc, if_pos (by omega)]
        obtain ⟨d, rfl⟩ : ∃ d, j = o + 1 + d := ⟨j - (o + 1), by omega⟩
        rw [show o + 1 + d - (o + 1) = d by omega, show o + 1 + d - o = d + 1 by omega]
        simp
      · rw [if_neg hc, if_neg (by omega)]

/-- Bytes written over owned ones. -/
theorem Own.write {w : World} {base g cap : Nat} {bs : List UInt8} (h : Own w base (.slice (some ⟨g, 0, none⟩) bs.length cap) bs) (k : Nat) (ys : List UInt8) (hk : k + ys.length ≤ bs.length) :
    Own (w.setCells g k (ys.map byt)) base (.slice (some ⟨g, 0, none⟩) bs.length cap) (bs.take k ++ ys ++ bs.drop (k + ys.length)) := by
  obtain ⟨h1, h | ⟨g', cap', cur, hv, hg, hh, hn, hc, hs, ht⟩⟩ := h
  · cases h.1
  · cases hv
    obtain ⟨cur', e1, e2, e3⟩ := setCells_block g (ys.map byt) k w cur hh
    have hlen : (bs.take k ++ ys ++ bs.drop (k + ys.length)).length = bs.length := by simp; omega
    refine ⟨by simp, .inr ⟨g, cap, cur', by rw [hlen], hg, e1, by rw [hlen]; exact hn, hc, by rw [e2]; exact hs, ?_⟩⟩
    rw [hlen]
    rw [Nat.mul_one] at ht hs ⊢
    apply List.ext_getElem?
    intro j
    by_cases hj : j < bs.length
    · rw [List.getElem?_take_of_lt hj, Array.getElem?_toList, e3]
      simp only [List.length_map, List.getElem?_map]
      by_cases hin : k ≤ j ∧ j < k + ys.length
      · rw [if_pos (by omega), List.append_assoc, List.getElem?_append_right (by simp; omega), List.getElem?_append_left (by simp; omega)]
        simp [show min k bs.length = k by omega]
      · rw [if_neg (by omega)]
        have hcur : cur[j]? = (bs[j]?).map byt := by
          have : (cur.toList.take bs.length)[j]? = (bs.map byt)[j]? := by rw [ht]
          rw [List.getElem?_take_of_lt hj, Array.getElem?_toList, List.getElem?_map] at this
          exact this
        rw [hcur]
        congr 1
        by_cases hlo : j < k
        · rw [List.append_assoc, List.getElem?_append_left (by simp; omega), List.getElem?_take_of_lt hlo]
        · rw [List.getElem?_append_right (by simp; omega), List.getElem?_drop]
          congr 1
          simp; omega
    · rw [List.getElem?_eq_none (by simp; omega), List.getElem?_eq_none (by simp; omega)]

theorem Own.cells {w : World} {base g cap : Nat} {bs : List UInt8} (h : Own w base (.slice (some ⟨g, 0, none⟩) bs.length cap) bs) (j : Nat) (hj : j < bs.length) :
    (∃ u : UInt8, w.cell? ⟨g, j, none⟩ = some (byt u)) ∧ w.frozen? ⟨g, j, none⟩ = false := by
  obtain ⟨h1, h | ⟨g', cap', cur, hv, hg, hh, hn, hc, hs, ht⟩⟩ := h
  · cases h.1
  · cases hv
    have e : (cur.toList.take (bs.length * 1))[j]? = (bs.map byt)[j]? := by rw [ht]
    rw [Nat.mul_one, List.getElem?_take_of_lt hj, Array.getElem?_toList, List.getElem?_map, List.getElem?_eq_getElem hj] at e
    refine ⟨⟨bs[j], ?_⟩, ?_⟩
    · simp only [World.cell?, hh]
      simpa using e
    · simp [World.frozen?, hh]

set_option maxHeartbeats 400000 in
theorem has_new1 (W : World) (b : UInt8) : Has (W.alloc (.cells #[byt b] 5)) (.slice (some ⟨W.heap.size, 0, none⟩) 1 1) [b] := by
  refine .inr ⟨_, 1, rfl, Nat.le_refl _, fun i u hu => ?_⟩
  rw [add_plain]
  unfold World.cell?
  dsimp only
  rw [at_new W _ (.cells #[byt b] 5) ⟨rfl, rfl, rfl, rfl⟩]
  match i, hu with
  | 0, hu => simp at hu; subst hu; simp

theorem made_zeros (n : Nat) : madeCells (Value.int .u8 0).cells n = ((List.replicate n (0 : UInt8)).map byt).toArray := by
  apply Array.ext
  · simp [size_madeCells]
  · intro i h1 h2
    simp [madeCells, Value.cells, byt]
    rw [Nat.mod_one]; rfl

/-- 'make([]byte, l, c)'. -/
theorem wpList_mk {ops : Array Oper} {rest : List Oper} {o : Oper} {a : Act} {w : World} {Q : Exit → Act → World → Prop} (hgd : o.guard = none) (x y : Operand) (ho : o.op = .makeSlice 24 x y) (l c : Nat) (li ci : Int) (hli : li = l) (hci : ci = c)
    (hx : a.eval x = .int .i64 li) (hy : a.eval y = .int .i64 ci) (hlc : l ≤ c) (hc : c ≤ 16777216) (base : Nat) (hbase : base ≤ w.heap.size)
    (h : ∀ w', Own w' base (.slice (some ⟨w.heap.size, 0, none⟩) l c) (List.replicate l 0) → Below w.heap.size w w' → wpList Tryd.prog ops Q rest (a.put o.dst (.slice (some ⟨w.heap.size, 0, none⟩) l c)) w') : wpList Tryd.prog ops Q (o :: rest) a w := by
  subst hli hci
  obtain ⟨i0, hi, hz0, hz1, hz2⟩ := info_parts Tryd.info5
  have hrun := run_makeSlice (P := Tryd.prog) w 24 5 i0 (.int .u8 0) Tryd.underlying24 hi hz0 .i64 .i64 l c (by omega) (by omega) (by rw [hz1]; simpa using hc) (by rw [hz2]; omega) (by omega)
  rw [hz1, Int.toNat_natCast, Int.toNat_natCast, Nat.mul_one, made_zeros] at hrun
  refine wpList_plain hgd fun K hK => ?_
  unfold Oper.wp
  simp only [execOp, ho, hx, hy, Sem.run_bind, hrun, Result.andThen_ok]
  refine hK _ _ (h _ ⟨by simp, .inr ⟨w.heap.size, c, _, by simp, hbase, heap_alloc_new w _, by simpa using hlc, by unfold maxLen; omega, by simp, ?_⟩⟩ (below_new w _))
  simp [List.take_replicate, Nat.min_eq_left hlc]
end Go.Proofs.YtiefgmgjlhjjhaaDoor
