import Derived.Test.YtoceepmehmacbaaDoorWrite
import Derived.Laws.MakeOwn
namespace Go.Proofs.YtoceepmehmacbaaDoor
open Go.RowKit

theorem built59 : Tryd.prog.built 117 [(0, .int .u32 1779033703), (1, .int .u32 3144134277), (2, .int .u32 1013904242), (3, .int .u32 2773480762), (4, .int .u32 1359893119), (5, .int .u32 2600822924), (6, .int .u32 528734635), (7, .int .u32 1541459225)] = some (wvs iv).toArray := by kernel_rfl

theorem iv_length : iv.length = 8 := rfl

set_option maxHeartbeats 1000000 in
set_option maxRecDepth 100000 in
theorem begin_any (w : World) : Calls Tryd.prog 73 #[] w fun e w' => e = .returned (.agg (wvs iv).toArray) ∧ Below w.heap.size w w' := by
  have hsz := info39 iv iv_length
  go_enter Tryd.func73, Tryd.ntmps73
  go_wp2_with (first
    | (refine wpList_newAt rfl 117 rfl (wvs z8) zero39 w.heap.size rfl ?_)
    | (refine wpList_plain rfl fun K hK => ?_; refine wp_build 117 _ rfl (by rw [show _ = some (wvs iv).toArray from built59]; rfl) ?_; rw [show Tryd.prog.built 117 _ = some (wvs iv).toArray from built59]; refine hK _ _ ?_; clear hK K)
    | (refine wpList_store_row rfl 117 (.tmp 0) (.tmp 1) rfl w.heap.size (wvs iv).toArray rfl rfl 117 (wvs z8).toArray (Blk.new w _ _) hsz rfl (wvs_one _) ?_))
  refine bodyPost_ret (v := .agg (wvs iv).toArray) ?_ rfl ⟨rfl, below_setRow ((Below.refl _ _).alloc (Nat.le_refl _) _) _ _ (Nat.le_refl _)⟩
  exact results_cell_row Tryd.results73 _ _ w.heap.size 117 _ (0, 0) _ rfl ((Blk.new w _ _).setRow _) Tryd.underlying117 rfl hsz

theorem wpList_bld {P : Program} {ops : Array Oper} {rest : List Oper} {o : Oper} {a : Act} {w : World} {Q : Exit → Act → World → Prop} (hg : o.guard = none) (t : TypeId) (parts : Array (Nat × Operand)) (ho : o.op = .build t parts)
    (l : List (Nat × Value)) (hl : (parts.map fun (i, x) => (i, a.eval x)).toList = l) (cells : Array Value) (hb : P.built t l = some cells)
    (h : wpList P ops Q rest (a.put o.dst (.agg cells)) w) : wpList P ops Q (o :: rest) a w := by
  subst hl
  refine wpList_build hg t parts ho (by rw [hb]; rfl) ?_
  rw [hb]
  exact h

theorem built61 : Tryd.prog.built 119 [(0, .agg (wvs iv).toArray)] = some (hcells []).toArray := by kernel_rfl

set_option maxHeartbeats 1000000 in
set_option maxRecDepth 100000 in
theorem new_any (w : World) : Calls Tryd.prog 61 #[] w fun e w' => ∃ g, e = .returned (.pointer (some ⟨g, 0, none⟩)) ∧ w.heap.size ≤ g ∧ HAt w' g [] ∧ Below w.heap.size w w' := by
  go_enter Tryd.func61, Tryd.ntmps61
  go_wp2_with (first
    | (go_at_call 73; refine (begin_any _).mono ?_; rintro e w1 ⟨rfl, hb1⟩)
    | (refine wpList_bld rfl 119 #[(0, .tmp 1)] rfl [(0, .agg (wvs iv).toArray)] (by simp [Act.eval, Act.put]) (hcells []).toArray built61 ?_)
    | (refine wpList_boxAt rfl 119 _ rfl (hcells []) rfl w1.heap.size rfl ?_))
  go_ret
  exact ⟨_, rfl, hb1.size, Blk.new w1 _ _, hb1.alloc hb1.size _⟩

/-- No hash at all. -/
def hzero : List Value := hc z8 z64b 0
theorem info57z : (Tryd.prog.info? 119).map (fun i => (i.zero, i.size)) = some (some (.agg hzero.toArray), 73) := by kernel_rfl
theorem zero57 (w : World) : (zeroValue 119).run Tryd.prog w = .ok (.agg hzero.toArray) w := (zero_of_info info57z).1 w
theorem hcells_length (m : List UInt8) : (hcells m).length = 73 := hc_length _ _ _ (stt_length m) (rst_length m)
theorem hzero_length : hzero.length = 73 := by kernel_rfl
theorem info57 (m : List UInt8) : (Tryd.prog.info? 119).map (·.size) = some (hcells m).toArray.size := by
  rw [List.size_toArray, hcells_length]; exact (zero_of_info info57z).2
theorem hcells_one (m : List UInt8) : (hcells m).toArray.all (·.oneCell') = true := all_oneCell_toArray fun v hv => by
  unfold hcells hc at hv
  rcases List.mem_append.1 hv with h | h
  · obtain ⟨x, _, rfl⟩ := List.mem_map.1 h; rfl
  · rcases List.mem_append.1 h with h | h
    · exact byt_one _ v h
    · obtain rfl := List.mem_singleton.1 h; rfl

set_option maxHeartbeats 1000000 in
set_option maxRecDepth 100000 in
theorem copy_any (p : Nat) (m : List UInt8) (w : World) (h : HAt w p m) : Calls Tryd.prog 63 #[.pointer (some ⟨p, 0, none⟩)] w fun e w' => ∃ g, e = .returned (.pointer (some ⟨g, 0, none⟩)) ∧ w.heap.size ≤ g ∧ HAt w' g m ∧ Below w.heap.size w w' := by
  have H := hide h
  clear h
  go_enter Tryd.func63, Tryd.ntmps63
  go_wp2_with (first
    | (refine wpList_load_row rfl 119 (.tmp 5) rfl p rfl 119 (hcells m).toArray (0, 0) _ H.out Tryd.underlying119 rfl (info57 m) ?_)
    | (refine wpList_newAt rfl 119 rfl hzero zero57 w.heap.size rfl ?_)
    | (refine wpList_store_row rfl 119 (.tmp 3) (.tmp 6) rfl w.heap.size (hcells m).toArray rfl rfl 119 hzero.toArray (Blk.new w _ _) (info57 m) (by rw [List.size_toArray, List.size_toArray, hcells_length, hzero_length]) (hcells_one m) ?_))
  go_ret
  exact ⟨_, rfl, Nat.le_refl _, (Blk.new w _ _).setRow _, below_setRow ((Below.refl _ _).alloc (Nat.le_refl _) _) _ _ (Nat.le_refl _)⟩

theorem Fx.setRow {S : Nat → Prop} (w : World) (p : Nat) (cs : Array Value) (hS : S p) : Fx S w (w.setRow p cs) :=
  ⟨rfl, rfl, rfl, by rw [setRow_size]; exact Nat.le_refl _, fun k _ hk => setRow_other w p k cs (fun e => hk (e ▸ hS))⟩

theorem setCell_block (w : World) (g o : Nat) (v : Value) {cur : Array Value} {e : TypeId} {fz : Nat × Nat} (h : w.heap[g]? = some (.cells cur e fz)) :
    (w.setCell ⟨g, o, none⟩ v).heap[g]? = some (.cells (cur.setIfInBounds o v) e fz) := by
  simp [World.setCell, Array.getElem?_modify, h]

theorem setCells_block (g : Nat) {e : TypeId} {fz : Nat × Nat} : ∀ (vs : List Value) (o : Nat) (w : World) (cur : Array Value), w.heap[g]? = some (.cells cur e fz) →
    ∃ cur', (w.setCells g o vs).heap[g]? = some (.cells cur' e fz) ∧ cur'.size = cur.size ∧ ∀ j : Nat, cur'[j]? = if o ≤ j ∧ j < o + vs.length ∧ j < cur.size then vs[j - o]? else cur[j]?
  | [], o, w, cur, h => ⟨cur, h, rfl, fun j => by rw [if_neg]; simp; omega⟩
  | v :: vs, o, w, cur, h => by
    obtain ⟨cur', h1, h2, h3⟩ := setCells_block g vs (o + 1) _ _ (setCell_block w g o v h)
    refine ⟨cur', h1, by simpa using h2, fun j => ?_⟩
    rw [h3 j, Array.getElem?_setIfInBounds]
    simp only [Array.size_setIfInBounds, List.length_cons]
    by_cases hj : o = j
    · subst hj
      rw [if_neg (by omega), if_pos rfl]
      by_cases hs : o < cur.size
      · rw [if_pos hs, if_pos (by omega)]; simp
      · rw [if_neg hs, if_neg (by omega), Array.getElem?_eq_none (by omega)]
    · rw [if_neg hj]
      by_cases hc : o + 1 ≤ j ∧ j < o + 1 + vs.length ∧ j < cur.size
      · rw [if_pos hc, if_pos (by omega)]
        obtain ⟨d, rfl⟩ : ∃ d, j = o + 1 + d := ⟨j - (o + 1), by omega⟩
        rw [show o + 1 + d - (o + 1) = d by omega, show o + 1 + d - o = d + 1 by omega]
        simp
      · rw [if_neg hc, if_neg (by omega)]

/-- Bytes written over owned ones. -/
theorem Own.write {w : World} {base g cap : Nat} {bs : List UInt8} (h : Own w base (.slice (some ⟨g, 0, none⟩) bs.length cap) bs) (k : Nat) (ys : List UInt8) (hk : k + ys.length ≤ bs.length) :
    Own (w.setCells g k (ys.map byt)) base (.slice (some ⟨g, 0, none⟩) bs.length cap) (bs.take k ++ ys ++ bs.drop (k + ys.length)) := by
  obtain ⟨h1, h | ⟨g', cap', cur, hv, hg, hh, hn, hc, hs, ht⟩⟩ := h
  · cases h.1
  · cases hv
    obtain ⟨cur', e1, e2, e3⟩ := setCells_block g (ys.map byt) k w cur hh
    have hlen : (bs.take k ++ ys ++ bs.drop (k + ys.length)).length = bs.length := by simp; omega
    refine ⟨by simp, .inr ⟨g, cap, cur', by rw [hlen], hg, e1, by rw [hlen]; exact hn, hc, by rw [e2]; exact hs, ?_⟩⟩
    rw [hlen]
    rw [Nat.mul_one] at ht hs ⊢
    apply List.ext_getElem?
    intro j
    by_cases hj : j < bs.length
    · rw [List.getElem?_take_of_lt hj, Array.getElem?_toList, e3]
      simp only [List.length_map, List.getElem?_map]
      by_cases hin : k ≤ j ∧ j < k + ys.length
      · rw [if_pos (by omega), List.append_assoc, List.getElem?_append_right (by simp; omega), List.getElem?_append_left (by simp; omega)]
        simp [show min k bs.length = k by omega]
      · rw [if_neg (by omega)]
        have hcur : cur[j]? = (bs[j]?).map byt := by
          have : (cur.toList.take bs.length)[j]? = (bs.map byt)[j]? := by rw [ht]
          rw [List.getElem?_take_of_lt hj, Array.getElem?_toList, List.getElem?_map] at this
          exact this
        rw [hcur]
        congr 1
        by_cases hlo : j < k
        · rw [List.append_assoc, List.getElem?_append_left (by simp; omega), List.getElem?_take_of_lt hlo]
        · rw [List.getElem?_append_right (by simp; omega), List.getElem?_drop]
          congr 1
          simp; omega
    · rw [List.getElem?_eq_none (by simp; omega), List.getElem?_eq_none (by simp; omega)]

theorem Own.cells {w : World} {base g cap : Nat} {bs : List UInt8} (h : Own w base (.slice (some ⟨g, 0, none⟩) bs.length cap) bs) (j : Nat) (hj : j < bs.length) :
    (∃ u : UInt8, w.cell? ⟨g, j, none⟩ = some (byt u)) ∧ w.frozen? ⟨g, j, none⟩ = false := by
  obtain ⟨h1, h | ⟨g', cap', cur, hv, hg, hh, hn, hc, hs, ht⟩⟩ := h
  · cases h.1
  · cases hv
    have e : (cur.toList.take (bs.length * 1))[j]? = (bs.map byt)[j]? := by rw [ht]
    rw [Nat.mul_one, List.getElem?_take_of_lt hj, Array.getElem?_toList, List.getElem?_map, List.getElem?_eq_getElem hj] at e
    refine ⟨⟨bs[j], ?_⟩, ?_⟩
    · simp only [World.cell?, hh]
      simpa using e
    · simp [World.frozen?, hh]

set_option maxHeartbeats 400000 in
theorem has_new1 (W : World) (b : UInt8) : Has (W.alloc (.cells #[byt b] 5)) (.slice (some ⟨W.heap.size, 0, none⟩) 1 1) [b] := by
  refine .inr ⟨_, 1, rfl, Nat.le_refl _, fun i u hu => ?_⟩
  rw [add_plain]
  unfold World.cell?
  dsimp only
  rw [at_new W _ (.cells #[byt b] 5) ⟨rfl, rfl, rfl, rfl⟩]
  match i, hu with
  | 0, hu => simp at hu; subst hu; simp

theorem made_zeros (n : Nat) : madeCells (Value.int .u8 0).cells n = ((List.replicate n (0 : UInt8)).map byt).toArray := by
  apply Array.ext
  · simp [size_madeCells]
  · intro i h1 h2
    simp [madeCells, Value.cells, byt]
    rw [Nat.mod_one]; rfl

/-- 'make([]byte, l, c)'. -/
theorem wpList_mk {ops : Array Oper} {rest : List Oper} {o : Oper} {a : Act} {w : World} {Q : Exit → Act → World → Prop} (hgd : o.guard = none) (x y : Operand) (ho : o.op = .makeSlice 40 x y) (l c : Nat) (li ci : Int) (hli : li = l) (hci : ci = c)
    (hx : a.eval x = .int .i64 li) (hy : a.eval y = .int .i64 ci) (hlc : l ≤ c) (hc : c ≤ 16777216) (base : Nat) (hbase : base ≤ w.heap.size)
    (h : ∀ w', Own w' base (.slice (some ⟨w.heap.size, 0, none⟩) l c) (List.replicate l 0) → Below w.heap.size w w' → wpList Tryd.prog ops Q rest (a.put o.dst (.slice (some ⟨w.heap.size, 0, none⟩) l c)) w') : wpList Tryd.prog ops Q (o :: rest) a w := by
  subst hli hci
  obtain ⟨i0, hi, hz0, hz1, hz2⟩ := info_parts Tryd.info5
  have hrun := run_makeSlice (P := Tryd.prog) w 40 5 i0 (.int .u8 0) Tryd.underlying40 hi hz0 .i64 .i64 l c (by omega) (by omega) (by rw [hz1]; simpa using hc) (by rw [hz2]; omega) (by omega)
  rw [hz1, Int.toNat_natCast, Int.toNat_natCast, Nat.mul_one, made_zeros] at hrun
  refine wpList_plain hgd fun K hK => ?_
  unfold Oper.wp
  simp only [execOp, ho, hx, hy, Sem.run_bind, hrun, Result.andThen_ok]
  refine hK _ _ (h _ ⟨by simp, .inr ⟨w.heap.size, c, _, by simp, hbase, heap_alloc_new w _, by simpa using hlc, by unfold maxLen; omega, by simp, ?_⟩⟩ (below_new w _))
  simp [List.take_replicate, Nat.min_eq_left hlc]
/-- A number in eight bytes, the highest first. -/
def be8 (x : Nat) : List UInt8 := (List.range 8).map fun k => UInt8.ofNat (x / 2 ^ (56 - 8 * k))
/-- What the padded message of n bytes has behind them. -/
def padOf (n : Nat) : List UInt8 := 128 :: List.replicate ((119 - n % 64) % 64) 0 ++ be8 (8 * n)
theorem be8_length (x : Nat) : (be8 x).length = 8 := by simp [be8]
theorem padOf_length (n : Nat) : (padOf n).length = 1 + (119 - n % 64) % 64 + 8 := by simp [padOf, be8_length]; omega
theorem be8_take (x k : Nat) (hk : k < 8) : (be8 x).take (k + 1) = (be8 x).take k ++ [UInt8.ofNat (x / 2 ^ (56 - 8 * k))] := by
  rw [List.take_succ_eq_append_getElem (by rw [be8_length]; exact hk)]
  simp [be8]

set_option maxHeartbeats 2000000 in
set_option maxRecDepth 100000 in
theorem pad_any (n : Nat) (hn : n ≤ 1152921504606846976) (w : World) :
    Calls Tryd.prog 64 #[.int .i64 (n : Int)] w fun e w' => ∃ ao cap, e = .returned (.slice ao (padOf n).length cap) ∧ Own w' w.heap.size (.slice ao (padOf n).length cap) (padOf n) ∧ Below w.heap.size w w' := by
  obtain ⟨r, hr⟩ : ∃ r, r = n % 64 := ⟨_, rfl⟩
  obtain ⟨z, hz⟩ : ∃ z, z = (119 - r) % 64 := ⟨_, rfl⟩
  have hr64 : r < 64 := by omega
  have hz64 : z < 64 := by omega
  have h1 : (n : Int) % 64 = (r : Int) := by omega
  have h2 : (119 - (r : Int)) % 64 = (z : Int) := by omega
  have hz0 : (0 : Int) < 1 + (z : Int) := by omega
  have Hr := hide hr
  have Hz := hide hz
  clear hr hz
  go_enter Tryd.func64, Tryd.ntmps64
  go_wp2_with (refine wpList_mk rfl (.tmp 12) (.tmp 15) rfl (1 + z) (1 + z + 8) (1 + (z : Int)) (1 + (z : Int) + 8) (by omega) (by omega) rfl rfl (by omega) (by omega) w.heap.size (Nat.le_refl _) ?_; intro w1 ho1 hb1; have ho1' := Own.cells (bs := List.replicate (1 + z) 0) (by rw [List.length_replicate]; exact ho1) 0 (by rw [List.length_replicate]; omega); obtain ⟨⟨u0, hu0⟩, hf0⟩ := ho1'; have HO := hide ho1; have HB := hide hb1; clear ho1 hb1)
  obtain ⟨hd, hhd⟩ : ∃ hd : List UInt8, hd = 128 :: List.replicate z 0 := ⟨_, rfl⟩
  have hdl : hd.length = 1 + z := by rw [hhd]; simp; omega
  have HO1 : Hid (Own (w1.setCell ⟨w.heap.size, 0, none⟩ (.int .u8 128)) w.heap.size (.slice (some ⟨w.heap.size, 0, none⟩) (1 + z) (1 + z + 8)) hd) := by
    have hl : (List.replicate (1 + z) (0 : UInt8)).length = 1 + z := List.length_replicate ..
    have hw := Own.write (bs := List.replicate (1 + z) 0) (by rw [hl]; exact HO.out) 0 [128] (by simp)
    rw [hl] at hw
    have e : (List.replicate (1 + z) (0 : UInt8)).take 0 ++ [128] ++ (List.replicate (1 + z) (0 : UInt8)).drop (0 + [(128 : UInt8)].length) = hd := by
      rw [hhd]; simp [List.drop_replicate]
    rw [e] at hw
    exact hw
  have HB1 : Hid (Below w.heap.size w (w1.setCell ⟨w.heap.size, 0, none⟩ (.int .u8 128))) := HB.out.setCell (Nat.le_refl _) _
  have HD := hide hhd
  have HDL := hide hdl
  clear hhd hdl hu0 hf0
  generalize w1.setCell ⟨w.heap.size, 0, none⟩ (.int .u8 128) = w2 at HO1 HB1 ⊢
  go_loopw [4, 6] (fun t s wr => ∃ k : Nat, k ≤ 8 ∧ s = .int .i64 (56 - 8 * (k : Int)) ∧ ∃ ao cap, t = .slice ao (1 + z + k) cap ∧ Hid (Own wr w.heap.size t (hd ++ (be8 (8 * n)).take k)) ∧ Hid (Below w.heap.size w wr)) (fun _ s _ => (intOf s + 8).toNat)
  case atStart => exact ⟨0, by omega, rfl, _, _, rfl, by rw [List.take_zero, List.append_nil]; exact HO1, HB1⟩
  case round =>
    obtain ⟨k, hk, rfl, ao, cap, rfl, ho, hb⟩ := hrel
    by_cases hlt : k < 8
    · obtain ⟨s, hs⟩ : ∃ s, s = 56 - 8 * k := ⟨_, rfl⟩
      have hsz : (56 - 8 * (k : Int)) = (s : Int) := by omega
      have hs0 : s ≤ 56 := by omega
      obtain ⟨u, hu⟩ : ∃ u, u = UInt8.ofNat (8 * n / 2 ^ s) := ⟨_, rfl⟩
      have hbyte : 8 * (n : Int) / 2 ^ s % 256 = (u.toNat : Int) := by
        rw [hu, UInt8.toNat_ofNat']
        rw [Int.natCast_emod, Int.natCast_ediv, Int.natCast_mul, Int.natCast_pow]
        rfl
      rw [hsz]
      have Hs := hide hs
      have Hu := hide hu
      clear hs hu
      have hln : Hid ((hd ++ (be8 (8 * n)).take k).length + [u].length ≤ 150000000000000) := by
        show _ ≤ _
        rw [List.length_append, HDL.out, List.length_take, be8_length]
        simp
        omega
      have hll : Hid ((hd ++ (be8 (8 * n)).take k ++ [u]).length = 1 + z + (k + 1)) := by
        show _ = _
        rw [List.length_append, List.length_append, HDL.out, List.length_take, be8_length]
        simp
        omega
      go_wp2_with (refine wpList_app rfl (.tmp 26) (.tmp 31) rfl w.heap.size (.slice ao (1 + z + k) cap) (hd ++ (be8 (8 * n)).take k) rfl (ho.out.below (below_new wr _)) _ [u] rfl (has_new1 wr u) hln.out (Nat.le_trans hb.out.size (below_new wr _).size) ?_; intro v' w' ho' hg'; obtain ⟨ao', cap', rfl⟩ := ho'.slice; rw [hll.out] at ho' ⊢; have HO' := hide ho'; have HG := hide hg'; clear ho' hg')
      go_roundw
      case rel =>
        refine ⟨k + 1, by omega, ?_, _, _, rfl, ?_, ?_⟩
        · have := Hs.out
          congr 1
          omega
        · rw [be8_take _ k hlt, ← Hs.out, ← Hu.out, ← List.append_assoc]
          exact HO'
        · exact (hb.out.trans ((below_new wr _).mono hb.out.size)).grown HG.out (Nat.le_trans hb.out.size (below_new wr _).size) ho.out.ownBlock
      case measure => simp [intOf]; omega
    · obtain rfl : k = 8 := by omega
      have hfull : hd ++ (be8 (8 * n)).take 8 = padOf n := by
        rw [List.take_of_length_le (by rw [be8_length]; omega), HD.out, Hz.out, Hr.out]
        rfl
      have hpl : (padOf n).length = 1 + z + 8 := by rw [padOf_length, Hz.out, Hr.out]
      rw [hfull] at ho
      go_wp2
      go_ret
      exact ⟨ao, cap, by rw [hpl]; rfl, by rw [hpl]; exact ho.out, hb.out⟩
/-- A byte of a word. -/
def bo (x : BitVec 32) (d : Nat) : UInt8 := UInt8.ofNat (x.toNat / d)
/-- The four bytes of word k, in their place. -/
def put4 (L : List UInt8) (k : Nat) (x : BitVec 32) : List UInt8 := (((L.set (4 * k) (bo x 16777216)).set (4 * k + 1) (bo x 65536)).set (4 * k + 2) (bo x 256)).set (4 * k + 3) (bo x 1)
def z32 : List UInt8 := List.replicate 32 0
def dgs (s : List (BitVec 32)) : Nat → List UInt8
  | 0 => z32
  | k + 1 => put4 (dgs s k) k (s.getD k 0)
/-- The bytes of a state. -/
def digOf (s : List (BitVec 32)) : List UInt8 := dgs s 8
/-- The digest of m. -/
def sumOf (m : List UInt8) : List UInt8 := digOf (stt (m ++ padOf m.length))

theorem dgs_length (s : List (BitVec 32)) : ∀ k, (dgs s k).length = 32
  | 0 => by rw [dgs, z32, List.length_replicate]
  | k + 1 => by simp only [dgs, put4, List.length_set]; exact dgs_length s k
theorem digOf_length (s : List (BitVec 32)) : (digOf s).length = 32 := dgs_length s 8
theorem sumOf_length (m : List UInt8) : (sumOf m).length = 32 := digOf_length _

theorem bo_wn (x : BitVec 32) (d : Nat) : wn x / (d : Int) % 256 = ((bo x d).toNat : Int) := by
  unfold wn bo
  rw [UInt8.toNat_ofNat']
  rw [Int.natCast_emod, Int.natCast_ediv]
  rfl
theorem bo_one (x : BitVec 32) : wn x % 256 = ((bo x 1).toNat : Int) := by
  have := bo_wn x 1
  simpa using this

theorem zero24 (w : World) : (zeroValue 57).run Tryd.prog w = .ok (.agg (z32.map byt).toArray) w := by
  rw [Tryd.zeroValue57]; rfl
theorem info24 (L : List UInt8) (hl : L.length = 32) : (Tryd.prog.info? 57).map (·.size) = some (L.map byt).toArray.size := by
  rw [List.size_toArray, List.length_map, hl]; kernel_rfl
theorem byts_at (L : List UInt8) (j : Nat) (h : j < L.length) : (L.map byt)[j]? = some (.int .u8 ((L.getD j 0).toNat : Int)) := by
  simp [byt, List.getElem?_eq_getElem h]
theorem byts_set (L : List UInt8) (j : Nat) (u : UInt8) : (L.map byt).set j (.int .u8 (u.toNat : Int)) = (L.set j u).map byt := by
  rw [List.map_set]; rfl
theorem byts_one (L : List UInt8) : (L.map byt).toArray.all (·.oneCell') = true := all_oneCell_toArray (byt_one L)

/-- The blocks of 'Sum': its result at g, its digest at d. -/
structure Dg (w wx : World) (g d : Nat) (L : List UInt8) : Prop where
  re : Blk wx g (z32.map byt) 57
  di : Blk wx d (L.map byt) 57
  be : Below w.heap.size w wx
  lg : w.heap.size ≤ g
  gd : g < d
theorem Dg.set {w wx : World} {g d : Nat} {L : List UInt8} (h : Dg w wx g d L) (j : Nat) (u : UInt8) : Dg w (wx.setCell ⟨d, j, none⟩ (.int .u8 (u.toNat : Int))) g d (L.set j u) :=
  ⟨h.re.setOther _ _ _ (by have := h.gd; omega), by rw [← byts_set]; exact h.di.set j _, h.be.setCell (by have := h.lg; have := h.gd; show _ ≤ d; omega) _, h.lg, h.gd⟩
theorem Dg.byte {w wx : World} {g d : Nat} {L : List UInt8} (h : Dg w wx g d L) (j : Nat) (hj : j < L.length) : ∃ v, wx.cell? ⟨d, j, none⟩ = some v := ⟨_, by rw [h.di.cell, byts_at L j hj]⟩

theorem has_lt {w : World} {v : Value} {bs : List UInt8} (h : Has w v bs) (g : Nat) (hg : w.heap.size ≤ g) : bs = [] ∨ v.ownBlock ≠ some g := by
  rcases h with ⟨rfl, rfl⟩ | ⟨ad, cap, rfl, h2, h3⟩
  · exact .inl rfl
  · cases bs with
    | nil => exact .inl rfl
    | cons b r =>
      refine .inr fun e => ?_
      have := cell_lt (h3 0 b rfl)
      rw [add_block] at this
      simp [Value.ownBlock] at e
      omega

set_option maxHeartbeats 2000000 in
set_option maxRecDepth 100000 in
theorem hsum_any (p : Nat) (m : List UInt8) (w : World) (hH : HAt w p m) (hK : Kst w) (hn : m.length ≤ 1152921504606846976) :
    Calls Tryd.prog 45 #[.pointer (some ⟨p, 0, none⟩)] w fun e w' => e = .returned (.agg ((sumOf m).map byt).toArray) ∧ Below w.heap.size w w' := by
  have HH := hide hH
  have HK := hide hK
  have HN := hide hn
  have HP := hide (Blk.lt hH)
  clear hH hK hn
  obtain ⟨nM, hnM⟩ : ∃ n, n = m.length := ⟨_, rfl⟩
  have HnM := hide hnM
  clear hnM
  go_enter Tryd.func45, Tryd.ntmps45
  go_wp2_with (first
    | (refine wpList_newAt rfl 57 rfl (z32.map byt) zero24 w.heap.size rfl ?_)
    | (go_at_call 63; refine (copy_any p m _ (HH.out.alloc _)).mono ?_; rintro e w1 ⟨gC, rfl, hg1, hh1, hb1⟩; have hz1 := (HAt.hr (Blk.below (HH.out.alloc _) hb1 (by have := HP.out; simp; omega))).size; rw [← HnM.out] at hz1)
    | fail)
  refine (pad_any nM (by rw [HnM.out]; exact HN.out) w1).mono ?_
  rintro e w2 ⟨ao, cap, rfl, ho2, hb2⟩
  obtain ⟨pl, hpl⟩ : ∃ pl, pl = padOf nM := ⟨_, rfl⟩
  rw [← hpl] at ho2 ⊢
  have Hpl := hide hpl
  have hpl' := hide (padOf_length nM)
  clear hpl
  have HO2 := hide ho2
  have HB1 := hide hb1
  have HB2 := hide hb2
  have HH1 := hide hh1
  have HG1 : Hid (w.heap.size + 1 ≤ gC) := by have := hg1; simp at this; exact this
  clear ho2 hb1 hb2 hh1 hg1 hz1
  have HS1 : Hid (w.heap.size + 1 ≤ w1.heap.size) := by have := HB1.out.size; simp at this; exact this
  go_wp2_with fail
  have hHC : HAt w2 gC m := Blk.below HH1.out HB2.out (Blk.lt HH1.out)
  have hK2 : Kst w2 := (HK.out.below (((Below.refl w.heap.size w).alloc (Nat.le_refl _) _).trans (HB1.out.mono (by simp))) HK.out.lt).below HB2.out (by have := HS1.out; omega)
  have hvn : pl = [] ∨ (Value.slice ao pl.length cap).ownBlock ≠ some gC := .inr fun e => by
    have h1 := HO2.out.ownBlock gC e
    have h2 := Blk.lt HH1.out
    omega
  refine (write_any gC m pl (.slice ao pl.length cap) w2 hHC HO2.out.has hvn hK2 (by have := HG1.out; omega) (by have h1 := HN.out; have h2 := hpl'.out; rw [Hpl.out, h2]; omega)).mono ?_
  rintro e w3 ⟨rfl, hH3, hF3⟩
  have H3 := hide hH3
  have F3 := hide hF3
  clear hH3 hF3 hHC hK2 hvn
  have HS2 := hide HB2.out.size
  have HS3 := hide F3.out.size
  have h39 : (Tryd.prog.info? 117).map (·.size) = some (wvs (stt (m ++ pl))).length := by rw [wvs_length, stt_length]; kernel_rfl
  have hD : Hid (Dg w (w3.alloc (.cells (z32.map byt).toArray 57)) w.heap.size w3.heap.size z32) := by
    have b0 : Blk w1 w.heap.size (z32.map byt) 57 := (Blk.new w _ _).below HB1.out (by simp)
    have b1 : Blk w3 w.heap.size (z32.map byt) 57 := (b0.below HB2.out (by have := HS1.out; omega)).fx F3.out (fun e : w.heap.size = gC => by have := HG1.out; omega)
    have b2 : Below w.heap.size w w2 := (((Below.refl w.heap.size w).alloc (Nat.le_refl _) _).trans (HB1.out.mono (by simp))).trans (HB2.out.mono (by have := HS1.out; omega))
    have b3 : Below w.heap.size w w3 := b2.trans (F3.out.below (fun k hk (e : k = gC) => by have := HG1.out; omega) (by have := HS1.out; have := HS2.out; omega))
    exact ⟨b1.alloc _, Blk.new w3 _ _, b3.alloc (by have := HS1.out; have := HS2.out; have := HS3.out; omega) _, Nat.le_refl _, by have := HS1.out; have := HS2.out; have := HS3.out; omega⟩
  go_wp2_with (first
    | (refine wpList_newAt rfl 57 rfl (z32.map byt) zero24 w3.heap.size rfl ?_)
    | (refine wpList_load_mid rfl 117 (.tmp 18) rfl gC 0 rfl (wvs (stt (m ++ pl))) _ ((HAt.hr (Blk.alloc H3.out _)).state) Tryd.underlying117 rfl h39 ?_))
  obtain ⟨g, hg⟩ : ∃ g, g = w.heap.size := ⟨_, rfl⟩
  have HRES : Hid (sumOf m = digOf (stt (m ++ pl))) := by rw [Hpl.out, HnM.out]; rfl
  have hSl := stt_length (m ++ pl)
  obtain ⟨SL, hSL⟩ : ∃ SL, SL = stt (m ++ pl) := ⟨_, rfl⟩
  rw [← hSL] at HRES hSl ⊢
  have HSl := hide hSl
  clear hSL hSl h39
  generalize w3.alloc (.cells (z32.map byt).toArray 57) = w4 at hD ⊢
  generalize w3.heap.size = d at hD ⊢
  go_loopw [20] (fun i wr => ∃ k : Nat, k ≤ 8 ∧ i = .int .i64 k ∧ Hid (Dg w wr w.heap.size d (dgs SL k))) (fun i _ => 8 - (intOf i).toNat)
  case atStart => exact ⟨0, by omega, rfl, hD⟩
  case round =>
    obtain ⟨k, hk, rfl, hx⟩ := hrel
    by_cases hlt : k < 8
    · have hlz : (k : Int) < 8 := by omega
      have hidx := fun W => run_idx 117 8 Tryd.underlying117 SL HSl.out k hlt W
      have hll := dgs_length SL k
      obtain ⟨L, hL⟩ : ∃ L, L = dgs SL k := ⟨_, rfl⟩
      obtain ⟨x, hX⟩ : ∃ x, x = SL.getD k 0 := ⟨_, rfl⟩
      rw [← hL] at hx hll
      rw [← hX] at hidx
      obtain ⟨v0, c0⟩ := hx.out.byte (4 * k) (by omega)
      obtain ⟨v1, c1⟩ := hx.out.byte (4 * k + 1) (by omega)
      obtain ⟨v2, c2⟩ := hx.out.byte (4 * k + 2) (by omega)
      obtain ⟨v3, c3⟩ := hx.out.byte (4 * k + 3) (by omega)
      have f0 := hx.out.di.frozen (4 * k)
      have f1 := hx.out.di.frozen (4 * k + 1)
      have f2 := hx.out.di.frozen (4 * k + 2)
      have f3 := hx.out.di.frozen (4 * k + 3)
      have b0 : wn x / (16777216 : Int) % (256 : Int) = ((bo x 16777216).toNat : Int) := bo_wn x 16777216
      have b1 : wn x / (65536 : Int) % (256 : Int) = ((bo x 65536).toNat : Int) := bo_wn x 65536
      have b2 : wn x / (256 : Int) % (256 : Int) = ((bo x 256).toNat : Int) := bo_wn x 256
      have b3 := bo_one x
      have HL := hide hL
      have HX := hide hX
      clear hL hX hll
      go_wp2
      go_roundw
      case rel =>
        refine ⟨k + 1, by omega, by go_num, ?_⟩
        rw [dgs, put4, ← HL.out, ← HX.out]
        exact (((hx.out.set (4 * k) _).set (4 * k + 1) _).set (4 * k + 2) _).set (4 * k + 3) _
      case measure => simp [intOf]; omega
    · obtain rfl : k = 8 := by omega
      rw [show dgs SL 8 = sumOf m from HRES.out.symm] at hx
      have hsz := info24 (sumOf m) (sumOf_length m)
      go_wp2_with (first
        | (refine wpList_load_row rfl 57 (.tmp 4) rfl d rfl 57 ((sumOf m).map byt).toArray (0, 0) _ hx.out.di Tryd.underlying57 rfl hsz ?_)
        | (refine wpList_store_row rfl 57 (.tmp 2) (.tmp 51) rfl w.heap.size ((sumOf m).map byt).toArray rfl rfl 57 (z32.map byt).toArray hx.out.re hsz (by rw [List.size_toArray, List.size_toArray, List.length_map, List.length_map, sumOf_length]; rfl) (byts_one _) ?_))
      refine bodyPost_ret (v := .agg ((sumOf m).map byt).toArray) ?_ rfl ⟨rfl, below_setRow hx.out.be _ _ (Nat.le_refl _)⟩
      exact results_cell_row Tryd.results45 _ _ w.heap.size 57 _ (0, 0) _ rfl (hx.out.re.setRow _) Tryd.underlying57 rfl hsz
theorem flat_take (ps : List (Value × List UInt8)) (k : Nat) (h : k < ps.length) : (ps.take (k + 1)).flatMap (·.2) = (ps.take k).flatMap (·.2) ++ ps[k].2 := by
  rw [List.take_succ_eq_append_getElem h, List.flatMap_append]; simp
theorem flat_len (ps : List (Value × List UInt8)) (k : Nat) : ((ps.take k).flatMap (·.2)).length ≤ (ps.flatMap (·.2)).length := by
  conv => rhs; rw [← List.take_append_drop k ps]
  rw [List.flatMap_append, List.length_append]; omega

theorem Parts.shape {w : World} {v : Value} {ps : List (Value × List UInt8)} (h : Parts w v ps) : ∃ ao cap, v = .slice ao ps.length cap ∧ ∀ i p, ps[i]? = some p → ∃ ad, ao = some ad ∧ w.cell? (ad.add i) = some p.1 ∧ Has w p.1 p.2 := by
  rcases h with ⟨rfl, rfl⟩ | ⟨ad, cap, rfl, _, h3⟩
  · exact ⟨none, 0, rfl, fun i p hp => by simp at hp⟩
  · exact ⟨some ad, cap, rfl, fun i p hp => ⟨ad, rfl, h3 i p hp⟩⟩

set_option maxHeartbeats 2000000 in
set_option maxRecDepth 100000 in
theorem sum_any (v : Value) (ps : List (Value × List UInt8)) (w : World) (hP : Parts w v ps) (hK : Kst w) (hn : (ps.flatMap (·.2)).length ≤ 1152921504606846976) (hl : ps.length ≤ 1000000) :
    Calls Tryd.prog 60 #[v] w fun e w' => e = .returned (.agg ((sumOf (ps.flatMap (·.2))).map byt).toArray) ∧ Below w.heap.size w w' := by
  obtain ⟨ao, cap, rfl, hcell⟩ := hP.shape
  have HC := hide hcell
  have HK := hide hK
  have HN := hide hn
  clear hcell hK hn hP
  obtain ⟨M, hM⟩ : ∃ M, M = ps.flatMap (·.2) := ⟨_, rfl⟩
  rw [← hM]
  have HM := hide hM
  clear hM
  go_enter Tryd.func60, Tryd.ntmps60
  go_wp2_with (first
    | (refine wpList_newAt rfl 57 rfl (z32.map byt) zero24 w.heap.size rfl ?_)
    | (go_at_call 61; refine (new_any _).mono ?_; rintro e w1 ⟨g, rfl, hg1, hh1, hb1⟩; have HG1 : Hid (w.heap.size + 1 ≤ g) := (by have := hg1; simp at this; exact this); have HH1 := hide hh1; have HB1 := hide hb1; clear hg1 hh1 hb1))
  go_loopw [9] (fun i wr => ∃ k : Nat, k ≤ ps.length ∧ i = .int .i64 k ∧ Hid (HAt wr g ((ps.take k).flatMap (·.2))) ∧ Hid (Fx (One g) w1 wr)) (fun i _ => ps.length - (intOf i).toNat)
  case atStart => exact ⟨0, by omega, rfl, HH1, hide (Fx.refl _ _)⟩
  case round =>
    obtain ⟨k, hk, rfl, hy, hf⟩ := hrel
    have hbw : Hid (Below w.heap.size w w1) := ((Below.refl w.heap.size w).alloc (Nat.le_refl _) _).trans (HB1.out.mono (by simp))
    have hfw : Hid (Below w.heap.size w wr) := hbw.out.trans (hf.out.below (fun j hj (e : j = g) => by have := HG1.out; omega) hbw.out.size)
    by_cases hlt : k < ps.length
    · have hlz : (k : Int) < (ps.length : Int) := by omega
      obtain ⟨ad, rfl, hc, hh⟩ := HC.out k ps[k] (List.getElem?_eq_getElem hlt)
      have hc' : wr.cell? (ad.add k) = some ps[k].1 := (hfw.out.cell (cell_lt hc)).trans hc
      have HHAS : Hid (Has wr ps[k].1 ps[k].2) := hh.below (by exact ⟨hfw.out.os, hfw.out.tape, hfw.out.output, hfw.out.size, hfw.out.block⟩)
      have HNE := hide (has_lt hh g (by have := HG1.out; omega))
      have HK2 : Hid (Kst wr) := HK.out.below hfw.out HK.out.lt
      have HF := hide (flat_take ps k hlt)
      have HLn : Hid (((ps.take k).flatMap (·.2)).length + ps[k].2.length ≤ 1152921504606846976) := by
        have e1 := flat_take ps k hlt
        have e2 := flat_len ps (k + 1)
        have := HN.out
        rw [e1, List.length_append] at e2
        show _ ≤ _
        omega
      clear hc hh
      generalize ps[k].2 = py at *
      generalize ps[k].1 = pv at *
      go_wp2_with (go_at_call 44; refine (write_any g _ py pv _ hy.out HHAS.out HNE.out HK2.out (by have := HG1.out; omega) (by have := HLn.out; omega)).mono ?_; rintro e w2 ⟨rfl, hH2, hF2⟩; have H2 := hide hH2; have F2 := hide hF2; clear hH2 hF2)
      go_roundw
      case rel => exact ⟨k + 1, by omega, by go_num, by rw [HF.out]; exact H2, hide (hf.out.and F2.out)⟩
      case measure => simp [intOf]; omega
    · obtain rfl : k = ps.length := by omega
      rw [List.take_length, ← HM.out] at hy
      have HNM : Hid (M.length ≤ 1152921504606846976) := by rw [HM.out]; exact HN
      have HK2 : Hid (Kst wr) := HK.out.below hfw.out HK.out.lt
      have hsz := info24 (sumOf M) (sumOf_length M)
      have hre : Hid (Blk wr w.heap.size (z32.map byt) 57) := ((Blk.new w _ _).below HB1.out (by simp)).fx hf.out (fun e : w.heap.size = g => by have := HG1.out; omega)
      go_wp2_with (first
        | (go_at_call 45; refine (hsum_any g M _ hy.out HK2.out HNM.out).mono ?_; rintro e w3 ⟨rfl, hb3⟩; have HB3 := hide hb3; clear hb3)
        | (refine wpList_store_row rfl 57 (.tmp 2) (.tmp 18) rfl w.heap.size ((sumOf M).map byt).toArray rfl rfl 57 (z32.map byt).toArray (hre.out.below HB3.out hre.out.lt) hsz (by rw [List.size_toArray, List.size_toArray, List.length_map, List.length_map, sumOf_length]; rfl) (byts_one _) ?_))
      refine bodyPost_ret (v := .agg ((sumOf M).map byt).toArray) ?_ rfl ⟨rfl, below_setRow (hfw.out.trans (HB3.out.mono hfw.out.size)) _ _ (Nat.le_refl _)⟩
      exact results_cell_row Tryd.results60 _ _ w.heap.size 57 _ (0, 0) _ rfl ((hre.out.below HB3.out hre.out.lt).setRow _) Tryd.underlying57 rfl hsz
end Go.Proofs.YtoceepmehmacbaaDoor
