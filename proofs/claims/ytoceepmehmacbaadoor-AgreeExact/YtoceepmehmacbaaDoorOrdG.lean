import Derived.Test.YtoceepmehmacbaaDoorMac2G
import Derived.ChangeKeysEq
import Derived.Laws.StructEq
import Derived.Test.YtoceepmehmacbaaDoorRegG
import Derived.OrdersHeld
import Derived.Lib.SlBytesConst
import Derived.Deep.RegionHeld3
import Derived.Deep.DeepCutAuto
import Derived.Test.YtoceepmehmacbaaDoorRblkG
import Derived.Orders
import Derived.Deep.QuietTactic
import Derived.BigQuiet
import Derived.Handy
import Derived.Lib.ConvBytes
import Derived.Laws.OwnMore
import Derived.Laws.AppendOwnNone
namespace Go.Proofs.YtoceepmehmacbaaDoor
open Go.RowKit

theorem has_news (W : World) (bs : List UInt8) : Has (W.alloc (.cells (bs.map byt).toArray 5)) (.slice (some ⟨W.heap.size, 0, none⟩) bs.length bs.length) bs := by
  refine .inr ⟨_, _, rfl, Nat.le_refl _, fun i u hu => ?_⟩
  rw [add_plain, (Blk.new W (bs.map byt) 5).cell, List.getElem?_map, hu]
  rfl

set_option maxHeartbeats 400000 in
set_option maxRecDepth 100000 in
/-- 'Extract'. -/
theorem extract_is (vk v : Value) (key m D : List UInt8) (hD : macOf key m = D) (w : World) (hk : Has w vk key) (hv : Has w v m) (hK : Kst w) (hn : key.length ≤ 1152921504606846976) (hm : m.length ≤ 1000000000000000000) :
    Calls Tryd.prog 16 #[vk, v] w fun e w' => e = .returned (.agg (D.map byt).toArray) ∧ Below w.heap.size w w' := by
  obtain ⟨ao, cap, rfl⟩ := hv.slice
  have l1 : D.length = 32 := by rw [← hD]; exact macOf_length _ _
  have i42 := info24 D l1
  have L1 := hide l1
  have HK := hide hK
  have HN := hide hn
  have HM := hide hm
  have HKY := hide hk
  have HV := hide hv
  have HD := hide hD
  clear l1 hK hn hm hk hv hD
  go_enter Tryd.func16, Tryd.ntmps16
  go_wp2_with (first
    | (refine wpList_newAt rfl 57 rfl (z32.map byt) zero24 w.heap.size rfl ?_)
    | fail)
  have hw0 : Hid (Below w.heap.size w (w.alloc (.cells (z32.map byt).toArray 57))) := below_new w _
  have hz0 : Hid (w.heap.size + 1 = (w.alloc (.cells (z32.map byt).toArray 57)).heap.size) := by show _ = _; simp
  have hb0 : Hid (Blk (w.alloc (.cells (z32.map byt).toArray 57)) w.heap.size (z32.map byt) 57) := Blk.new w _ _
  generalize w.alloc (.cells (z32.map byt).toArray 57) = w0 at hw0 hz0 hb0 ⊢
  refine (mac_at w0 (w.heap.size + 1) hz0.out vk key m D [(.slice ao m.length cap, m)] (by simp) HD.out (HKY.out.below hw0.out) (one_all (HV.out.below hw0.out)) (HK.out.below hw0.out HK.out.lt) HN.out HM.out (by simp)).mono ?_
  rintro e w1 ⟨rfl, hb1⟩
  have HB1 := hide hb1
  clear hb1
  go_wp2_with (refine wpList_store_row rfl 57 (.tmp 4) (.tmp 8) rfl w.heap.size (D.map byt).toArray rfl rfl 57 (z32.map byt).toArray (hb0.out.below HB1.out hb0.out.lt) i42 (by rw [List.size_toArray, List.size_toArray, List.length_map, List.length_map, L1.out]; rfl) (byts_one _) ?_)
  refine bodyPost_ret (v := .agg (D.map byt).toArray) ?_ rfl ⟨rfl, below_setRow (hw0.out.trans (HB1.out.mono hw0.out.size)) _ _ (Nat.le_refl _)⟩
  exact results_cell_row Tryd.results16 _ _ w.heap.size 57 _ (0, 0) _ rfl ((hb0.out.below HB1.out hb0.out.lt).setRow _) Tryd.underlying57 rfl i42

section
variable {P : Program} {ops : Array Oper} {Q : Exit → Act → World → Prop} {md : Region.Mode} {S : World → Prop}

end
/-- 'make([]byte, l)'. -/
theorem wpList_mkB {ops : Array Oper} {rest : List Oper} {o : Oper} {a : Act} {w : World} {Q : Exit → Act → World → Prop} (hgd : o.guard = none) (x y : Operand) (ho : o.op = .makeSlice 40 x y) (l : Nat) (li : Int) (hli : li = l)
    (hx : a.eval x = .int .i64 li) (hy : a.eval y = .int .i64 li) (hc : l ≤ 16777216) (g : Nat) (hg : g = w.heap.size)
    (h : wpList Tryd.prog ops Q rest (a.put o.dst (.slice (some ⟨g, 0, none⟩) l l)) (w.alloc (.cells ((List.replicate l 0).map byt).toArray 5))) : wpList Tryd.prog ops Q (o :: rest) a w := by
  subst hli hg
  obtain ⟨i0, hi, hz0, hz1, hz2⟩ := info_parts Tryd.info5
  have hrun := run_makeSlice (P := Tryd.prog) w 40 5 i0 (.int .u8 0) Tryd.underlying40 hi hz0 .i64 .i64 l l (by omega) (by omega) (by rw [hz1]; simpa using hc) (by rw [hz2]; omega) (by omega)
  rw [hz1, Int.toNat_natCast, Nat.mul_one, made_zeros] at hrun
  refine wpList_plain hgd fun K hK => ?_
  unfold Oper.wp
  simp only [execOp, ho, hx, hy, Sem.run_bind, hrun, Result.andThen_ok]
  exact hK _ _ h

/-- Bytes of the call's own, at block p. -/
structure Tu (w wx : World) (p : Nat) (L : List UInt8) : Prop where
  bl : Blk wx p (L.map byt) 5
  be : Below w.heap.size w wx
  lp : w.heap.size ≤ p
theorem Tu.set {w wx : World} {p : Nat} {L : List UInt8} (h : Tu w wx p L) (j : Nat) (u : UInt8) : Tu w (wx.setCell ⟨p, j, none⟩ (.int .u8 (u.toNat : Int))) p (L.set j u) :=
  ⟨by rw [← byts_set]; exact h.bl.set j _, h.be.setCell h.lp _, h.lp⟩

theorem has_newsM (W : World) (bs : List UInt8) (fr : Nat × Nat) (n : Nat) (hn : n = W.heap.size) : Has (W.alloc (.cells (bs.map byt).toArray 5 fr)) (.slice (some ⟨n, 0, none⟩) bs.length bs.length) bs := by
  subst hn
  refine .inr ⟨_, _, rfl, Nat.le_refl _, fun i u hu => ?_⟩
  rw [add_plain, cell_of_row _ _ i _ 5 fr (heap_alloc_new W _)]
  simp [hu]

section
variable {P : Program} {ops : Array Oper} {Q : Exit → Act → World → Prop} {md : Region.Mode} {S : World → Prop}

theorem op_run {i : Nat} {o : Oper} (hi : ops[i]? = some o) (hg : o.guard = none) {K : Act → World → Prop} {a : Act} {w : World} (op : Op) (ho : o.op = op) (d : Nat) (hd : o.dst = some d) (v : Value) (w1 : World)
    (hrun : ∀ o' : Oper, o'.op = op → (execOp a.eval o').run P w = .ok (.value v) w1) (h : K (a.put (some d) v) w1) : wpOp P ops Q i K a w := by
  refine op_wp hi hg ?_
  unfold Oper.wp
  rw [hrun o ho]
  simp only [Oper.upon]
  rw [hd]
  exact h
end

theorem two_all {W : World} {a b : Value} {xa xb : List UInt8} (h1 : Has W a xa) (h2 : Has W b xb) : ∀ p ∈ [(a, xa), (b, xb)], Has W p.1 p.2 := by
  intro p hp
  simp only [List.mem_cons, List.not_mem_nil, or_false] at hp
  rcases hp with rfl | rfl
  · exact h1
  · exact h2
theorem three_all {W : World} {a b c : Value} {xa xb xc : List UInt8} (h1 : Has W a xa) (h2 : Has W b xb) (h3 : Has W c xc) : ∀ p ∈ [(a, xa), (b, xb), (c, xc)], Has W p.1 p.2 := by
  intro p hp
  simp only [List.mem_cons, List.not_mem_nil, or_false] at hp
  rcases hp with rfl | rfl | rfl
  · exact h1
  · exact h2
  · exact h3
theorem Tu.has {w wx : World} {p : Nat} {L : List UInt8} (h : Tu w wx p L) (n : Nat) (hn : L.length = n) : Has wx (.slice (some ⟨p, 0, none⟩) n n) L := h.bl.has n hn
theorem Blk.there {w : World} {g : Nat} {cs : List Value} {t : TypeId} (h : Blk w g cs t) (n : Nat) (hn : n ≤ cs.length) : w.there g 0 n := fun j hj =>
  ⟨by rw [h.cell, List.getElem?_eq_getElem (by omega)]; rfl, h.frozen _⟩
theorem Blk.all {w : World} {g : Nat} {cs : List Value} {t : TypeId} (h : Blk w g cs t) (vs : List Value) (hn : vs.length = cs.length) : Blk (w.setCells g 0 vs) g vs t := by
  have := Blk.setCells vs 0 w cs h (by omega)
  rwa [List.take_zero, List.nil_append, Nat.zero_add, List.drop_eq_nil_of_le (by omega), List.append_nil] at this
/-- A digest in its place. -/
structure Dgt (w x : World) (d : Nat) (D : List UInt8) : Prop where
  bl : Blk x d (D.map byt) 57
  be : Below w.heap.size w x
  ld : w.heap.size ≤ d
theorem Dgt.new {w x : World} (h : Below w.heap.size w x) : Dgt w (x.alloc (.cells (z32.map byt).toArray 57)) x.heap.size z32 := ⟨Blk.new x _ _, h.alloc h.size _, h.size⟩
theorem Dgt.row {w x : World} {d : Nat} {D E : List UInt8} (h : Dgt w x d D) : Dgt w (x.setRow d (E.map byt).toArray) d E := ⟨h.bl.setRow _, below_setRow h.be _ _ h.ld, h.ld⟩
theorem Dgt.has {w x : World} {d : Nat} {D : List UInt8} (h : Dgt w x d D) (n : Nat) (hn : D.length = n) : Has x (.slice (some ⟨d, 0, none⟩) n n) D := h.bl.has n hn
/-- Two digests in their places. -/
structure Dg2 (w x : World) (d e : Nat) (D : List UInt8) : Prop where
  bl : Blk x d (D.map byt) 57
  bm : Blk x e (D.map byt) 57
  be : Below w.heap.size w x
/-- The world holds the document's first words. -/
def Bst (w : World) : Prop := ∀ t, t < 8 → w.cell? ⟨2, t, none⟩ = some (.int .u64 (wn (iv.getD t 0)))
theorem Bst.lt {w : World} (h : Bst w) : 2 < w.heap.size := cell_lt (h 0 (by omega))
theorem Bst.below {w w' : World} {n : Nat} (h : Bst w) (hb : Below n w w') (hn : 2 < n) : Bst w' := fun t ht => (hb.cell (p := ⟨2, t, none⟩) hn).trans (h t ht)

def bgs : Nat → List (BitVec 32)
  | 0 => z8
  | n + 1 => (bgs n).set n (iv.getD n 0)
theorem bgs_length : ∀ n, (bgs n).length = 8
  | 0 => by rw [bgs, z8, List.length_replicate]
  | n + 1 => by rw [bgs, List.length_set, bgs_length n]
theorem bgs8 : bgs 8 = iv := by kernel_rfl

/-- A result of the function at g, a row that is filled at d. -/
structure Fl (w x : World) (g d : Nat) (Z L : List Value) (t : TypeId) : Prop where
  re : Blk x g Z t
  bl : Blk x d L t
  be : Below w.heap.size w x
  lg : w.heap.size ≤ g
  gd : g < d
theorem Fl.set {w x : World} {g d : Nat} {Z L : List Value} {t : TypeId} (h : Fl w x g d Z L t) (j : Nat) (v : Value) : Fl w (x.setCell ⟨d, j, none⟩ v) g d Z (L.set j v) t :=
  ⟨h.re.setOther _ _ _ (by have := h.gd; omega), h.bl.set j v, h.be.setCell (by have := h.lg; have := h.gd; show _ ≤ d; omega) _, h.lg, h.gd⟩
theorem Fl.two (w : World) (Z : List Value) (t : TypeId) : Fl w ((w.alloc (.cells Z.toArray t)).alloc (.cells Z.toArray t)) w.heap.size (w.heap.size + 1) Z Z t := by
  have h2 := Blk.new (w.alloc (.cells Z.toArray t)) Z t
  rw [show (w.alloc (.cells Z.toArray t)).heap.size = w.heap.size + 1 by simp] at h2
  exact ⟨(Blk.new w _ _).alloc _, h2, bel_two w _ _ _ ⟨rfl, rfl, rfl, rfl⟩, Nat.le_refl _, by omega⟩

set_option maxHeartbeats 400000 in
set_option maxRecDepth 100000 in
theorem rbegin_any (w : World) (hB : Bst w) : Calls Tryd.prog 92 #[] w fun e w' => e = .returned (.agg (wvs iv).toArray) ∧ Below w.heap.size w w' := by
  have HB := hide hB
  clear hB
  have hF : Hid (Fl w ((w.alloc (.cells (wvs z8).toArray 117)).alloc (.cells (wvs z8).toArray 117)) w.heap.size (w.heap.size + 1) (wvs z8) (wvs (bgs 0)) 117) := Fl.two w (wvs z8) 117
  have hsz := info39 iv iv_length
  go_enter Tryd.func92, Tryd.ntmps92
  go_wp2_with (first
    | (refine wpList_newAt rfl 117 rfl (wvs z8) zero39 w.heap.size rfl ?_)
    | (refine wpList_newAt rfl 117 rfl (wvs z8) zero39 (w.heap.size + 1) (by simp) ?_; generalize (w.alloc (.cells (wvs z8).toArray 117)).alloc (.cells (wvs z8).toArray 117) = w0 at hF ⊢)
    | fail)
  obtain ⟨d, hd⟩ : ∃ d, d = w.heap.size + 1 := ⟨_, rfl⟩
  rw [← hd] at hF ⊢
  clear hd
  go_loopw [2] (fun i wr => ∃ k : Nat, k ≤ 8 ∧ i = .int .i64 (k : Int) ∧ Hid (Fl w wr w.heap.size d (wvs z8) (wvs (bgs k)) 117)) (fun i _ => 8 - (intOf i).toNat)
  case atStart => exact ⟨0, by omega, rfl, hF⟩
  case round =>
    obtain ⟨k, hk, rfl, hx⟩ := hrel
    by_cases hlt : k < 8
    · have hlz : (k : Int) < 8 := by omega
      have hcb : wr.cell? ⟨2, k, none⟩ = some (.int .u64 (wn (iv.getD k 0))) := (HB.out.below hx.out.be HB.out.lt) k hlt
      have hc2 : ∃ v, wr.cell? ⟨d, k, none⟩ = some v := ⟨_, by rw [hx.out.bl.cell, wvs_at _ _ (by rw [bgs_length]; exact hlt)]⟩
      have hfz := hx.out.bl.frozen k
      obtain ⟨v2, hc2⟩ := hc2
      have hnx : Hid (Fl w (wr.setCell ⟨d, k, none⟩ (.int .u32 (wn (iv.getD k 0)))) w.heap.size d (wvs z8) (wvs (bgs (k + 1))) 117) := by
        have := hx.out.set k (.int .u32 (wn (iv.getD k 0)))
        rw [wvs_set] at this
        exact this
      generalize iv.getD k 0 = y at *
      have e7 := wmod y
      go_wp2
      go_roundw
      case rel => exact ⟨k + 1, by omega, by go_num, hnx⟩
      case measure => simp [intOf]; omega
    · obtain rfl : k = 8 := by omega
      rw [bgs8] at hx
      go_wp2_with (first
        | (refine wpList_load_row rfl 117 (.tmp 1) rfl d rfl 117 (wvs iv).toArray (0, 0) _ hx.out.bl Tryd.underlying117 rfl hsz ?_)
        | (refine wpList_store_row rfl 117 (.tmp 0) (.tmp 13) rfl w.heap.size (wvs iv).toArray rfl rfl 117 (wvs z8).toArray hx.out.re hsz rfl (wvs_one _) ?_))
      refine bodyPost_ret (v := .agg (wvs iv).toArray) ?_ rfl ⟨rfl, below_setRow hx.out.be _ _ (Nat.le_refl _)⟩
      exact results_cell_row Tryd.results92 _ _ w.heap.size 117 _ (0, 0) _ rfl (hx.out.re.setRow _) Tryd.underlying117 rfl hsz

/-- The block so far. -/
def atk (B : List UInt8) (i k : Nat) : List UInt8 := (B.drop (64 * i)).take k ++ List.replicate (64 - k) 0
theorem atk_length (B : List UInt8) (i k : Nat) (h : 64 * i + 64 ≤ B.length) (hk : k ≤ 64) : (atk B i k).length = 64 := by
  unfold atk
  rw [List.length_append, List.length_take, List.length_drop, List.length_replicate]; omega
theorem atk_zero (B : List UInt8) (i : Nat) : atk B i 0 = z64b := by simp [atk, z64b]
theorem atk_all (B : List UInt8) (i : Nat) : atk B i 64 = blk B i := by simp [atk, blk]
theorem atk_succ (B : List UInt8) (i k : Nat) (h : 64 * i + 64 ≤ B.length) (hk : k < 64) : (atk B i k).set k (B.getD (64 * i + k) 0) = atk B i (k + 1) := by
  have hl : ((B.drop (64 * i)).take k).length = k := by rw [List.length_take, List.length_drop]; omega
  have hd : k < (B.drop (64 * i)).length := by rw [List.length_drop]; omega
  unfold atk
  rw [List.set_append_right _ _ (by omega), hl, Nat.sub_self, show 64 - k = (64 - (k + 1)) + 1 by omega, List.replicate_succ, List.set_cons_zero, List.take_succ_eq_append_getElem hd, List.append_assoc, List.getElem_drop, List.getD_eq_getElem?_getD, List.getElem?_eq_getElem (by omega)]
  rfl

set_option maxHeartbeats 400000 in
set_option maxRecDepth 100000 in
theorem at_any (v : Value) (B : List UInt8) (i : Nat) (w : World) (hv : Has w v B) (hi : 64 * i + 64 ≤ B.length) (hl : B.length ≤ 1152921504606846976) :
    Calls Tryd.prog 94 #[v, .int .i64 (i : Int)] w fun e w' => e = .returned (.agg ((blk B i).map byt).toArray) ∧ Below w.heap.size w w' := by
  rcases hv with ⟨rfl, rfl⟩ | ⟨ad, cap, rfl, h2, h3⟩
  · simp at hi
  have H3 := hide h3
  obtain ⟨n, hn⟩ : ∃ n, B.length = n := ⟨_, rfl⟩
  rw [hn] at hi hl ⊢
  have Hn := hide hn
  have hbl : (blk B i).length = 64 := by unfold blk; rw [List.length_take, List.length_drop]; omega
  have hsz := info42 (blk B i) hbl
  clear h2 h3 hn
  have hF : Hid (Fl w ((w.alloc (.cells (z64b.map byt).toArray 31)).alloc (.cells (z64b.map byt).toArray 31)) w.heap.size (w.heap.size + 1) (z64b.map byt) ((atk B i 0).map byt) 31) := by
    rw [atk_zero]
    exact Fl.two w (z64b.map byt) 31
  obtain ⟨d, hd⟩ : ∃ d, d = w.heap.size + 1 := ⟨_, rfl⟩
  rw [← hd] at hF
  go_enter Tryd.func94, Tryd.ntmps94
  go_wp2_with (first
    | (refine wpList_newAt rfl 31 rfl (z64b.map byt) zero35 w.heap.size rfl ?_)
    | (refine wpList_newAt rfl 31 rfl (z64b.map byt) zero35 d (by rw [hd]; simp) ?_; clear hd; generalize (w.alloc (.cells (z64b.map byt).toArray 31)).alloc (.cells (z64b.map byt).toArray 31) = w0 at hF ⊢)
    | fail)
  go_loopw [6] (fun j wr => ∃ k : Nat, k ≤ 64 ∧ j = .int .i64 (k : Int) ∧ Hid (Fl w wr w.heap.size d (z64b.map byt) ((atk B i k).map byt) 31)) (fun j _ => 64 - (intOf j).toNat)
  case atStart => exact ⟨0, by omega, rfl, hF⟩
  case round =>
    obtain ⟨k, hk, rfl, hx⟩ := hrel
    by_cases hlt : k < 64
    · have hlz : (k : Int) < 64 := by omega
      have hBk : 64 * i + k < B.length := by rw [Hn.out]; omega
      have hc0 := H3.out (64 * i + k) B[64 * i + k] (List.getElem?_eq_getElem hBk)
      have hc : wr.cell? (ad.add (64 * i + k)) = some (.int .u8 ((B.getD (64 * i + k) 0).toNat : Int)) := by
        rw [List.getD_eq_getElem?_getD, List.getElem?_eq_getElem hBk]
        exact (hx.out.be.cell (cell_lt hc0)).trans hc0
      have hc2 : ∃ v, wr.cell? ⟨d, k, none⟩ = some v := ⟨_, by rw [hx.out.bl.cell, byts_at _ _ (by rw [atk_length B i k (by rw [Hn.out]; exact hi) hk]; exact hlt)]⟩
      obtain ⟨v2, hc2⟩ := hc2
      have hfz := hx.out.bl.frozen k
      have hnx : Hid (Fl w (wr.setCell ⟨d, k, none⟩ (.int .u8 ((B.getD (64 * i + k) 0).toNat : Int))) w.heap.size d (z64b.map byt) ((atk B i (k + 1)).map byt) 31) := by
        have := hx.out.set k (.int .u8 ((B.getD (64 * i + k) 0).toNat : Int))
        rw [byts_set, atk_succ B i k (by rw [Hn.out]; exact hi) hlt] at this
        exact this
      have hw1 : wrap64 (64 * (i : Int)) = 64 * (i : Int) := Go.IntWalk.wrap64_in _ (by omega)
      have hw2 : wrap64 (64 * (i : Int) + (k : Int)) = 64 * (i : Int) + (k : Int) := Go.IntWalk.wrap64_in _ (by omega)
      have ht : (64 * (i : Int) + (k : Int)).toNat = 64 * i + k := by omega
      have hi0 : (0 : Int) ≤ 64 * (i : Int) + (k : Int) := by omega
      have hi1 : 64 * (i : Int) + (k : Int) < (n : Int) := by omega
      generalize B.getD (64 * i + k) 0 = u at *
      clear hc0 hBk
      go_wp2
      go_roundw
      case rel => exact ⟨k + 1, by omega, by go_num, hnx⟩
      case measure => simp [intOf]; omega
    · obtain rfl : k = 64 := by omega
      rw [atk_all] at hx
      go_wp2_with (first
        | (refine wpList_load_row rfl 31 (.tmp 5) rfl d rfl 31 ((blk B i).map byt).toArray (0, 0) _ hx.out.bl Tryd.underlying31 rfl hsz ?_)
        | (refine wpList_store_row rfl 31 (.tmp 4) (.tmp 20) rfl w.heap.size ((blk B i).map byt).toArray rfl rfl 31 (z64b.map byt).toArray hx.out.re hsz (by rw [List.size_toArray, List.size_toArray, List.length_map, List.length_map, hbl, z64b_length]) (byts_one _) ?_))
      refine bodyPost_ret (v := .agg ((blk B i).map byt).toArray) ?_ rfl ⟨rfl, below_setRow hx.out.be _ _ (Nat.le_refl _)⟩
      exact results_cell_row Tryd.results94 _ _ w.heap.size 31 _ (0, 0) _ rfl (hx.out.re.setRow _) Tryd.underlying31 rfl hsz
end Go.Proofs.YtoceepmehmacbaaDoor
set_option linter.unusedVariables false
set_option linter.unusedSimpArgs false
namespace Go.Proofs.YtoceepmehmacbaaDoor
open Go.RowKit
theorem Blk.on {w w' : World} {g : Nat} {cs : List Value} {t : TypeId} (h : Blk w g cs t) (hb : Below w.heap.size w w') : Blk w' g cs t := h.below hb h.lt

section
variable {P : Program} {ops : Array Oper} {Q : Exit → Act → World → Prop} {md : Region.Mode} {S : World → Prop} {T : Nat}

/-- In state a the operation o yields v in every world of S; a call may make blocks. -/
def Uni (P : Program) (ops : Array Oper) (S : World → Prop) (o : Oper) (v : Value) (a : Act) : Prop :=
  (Region.wanted o (yielded ops a.tmps) = true ∧ ((∀ w, S w → (execOp a.eval o).run P w = .ok (.value v) w) ∨
    ∃ f args, (∀ w, S w → (execOp a.eval o).run P w = .ok (.enter f args) w) ∧ ∀ w, S w → Calls P f args w (fun e w' => e = .returned v ∧ Below w.heap.size w w'))) ∨
  (Region.wanted o (yielded ops a.tmps) = false ∧ v = undef)

/-- Have the first T come up? -/
def full (T : Nat) (listed : Array Bool) : Bool := (List.range T).all fun i => listed.getD i true

theorem full_set {listed : Array Bool} {i : Nat} (h : full T listed = true) : full T (listed.setIfInBounds i true) = true := by
  simp only [full, List.all_eq_true, List.mem_range] at *
  intro j hj
  by_cases hij : i = j
  · subst hij
    rcases Nat.lt_or_ge i listed.size with hl | hl
    · simp [hl]
    · simp [hl]
  · rw [getD_set_ne true hij]; exact h j hj

/-- Does number k wait for number i? -/
def waits (md : Region.Mode) (ops : Array Oper) (k i : Nat) : Bool := match ops[k]? with
  | some o => o.after.any fun e => Region.binds md e && e.on == i
  | none => false
/-- Where i is the last of the first T to come up, none of the others can come ahead of it. -/
def lastOk (md : Region.Mode) (ops : Array Oper) (T i : Nat) : Bool :=
  (List.range T).any (fun k => k != i && waits md ops k i) ||
    (List.range ops.size).all fun j => decide (j < T) || waits md ops j i || (List.range j).any fun k => decide (T ≤ k) && waits md ops j k

def Closed (md : Region.Mode) (ops : Array Oper) (listed : Array Bool) : Prop :=
  ∀ j o, ops[j]? = some o → listed.getD j false = true → ∀ e ∈ o.after, Region.binds md e = true → listed.getD e.on false = true

theorem waits_spec {k i : Nat} (h : waits md ops k i = true) : ∃ o, ops[k]? = some o ∧ ∃ e ∈ o.after, Region.binds md e = true ∧ e.on = i := by
  unfold waits at h
  split at h
  · rename_i o ho
    obtain ⟨e, he, hb⟩ := Array.any_eq_true'.1 h
    simp only [Bool.and_eq_true, beq_iff_eq] at hb
    exact ⟨o, ho, e, he, hb⟩
  · cases h

theorem getD_conv {l : Array Bool} {k : Nat} (hk : k < l.size) (h : l.getD k true = true) : l.getD k false = true := by
  simpa [hk] using h
theorem getD_no {l : Array Bool} {k : Nat} (h : l.getD k true = false) : ¬ l.getD k false = true := by
  rcases Nat.lt_or_ge k l.size with hl | hl
  · simp [hl] at h ⊢; exact h
  · simp [hl] at h

theorem Closed.set {l : Array Bool} {i : Nat} (h : Closed md ops l) (hi : i ∈ Region.ready md ops l) : Closed md ops (l.setIfInBounds i true) := by
  intro j o hj hl e he hb
  obtain ⟨hun, oi, hoi, hall⟩ := mem_ready.1 hi
  by_cases hij : i = j
  · subst hij
    obtain rfl : oi = o := Option.some.inj (hoi.symm.trans hj)
    exact getD_set_true (hall e he hb)
  · rw [getD_set_ne false hij] at hl
    exact getD_set_true (h j o hj hl e he hb)

theorem last_one {l : Array Bool} {i : Nat} (hc : Closed md ops l) (hsz : l.size = ops.size) (hT : T ≤ ops.size) (hok : lastOk md ops T i = true) (hr : i ∈ Region.ready md ops l) (hfl : full T (l.setIfInBounds i true) = true) :
    ∀ j ∈ Region.ready md ops l, j = i := by
  have hun := (mem_ready.1 hr).1
  have hno := getD_no hun
  have hall : ∀ k, k < T → k ≠ i → l.getD k false = true := fun k hk hki => by
    simp only [full, List.all_eq_true, List.mem_range] at hfl
    have := hfl k hk
    rw [getD_set_ne true (Ne.symm hki)] at this
    exact getD_conv (by omega) this
  unfold lastOk at hok
  rw [Bool.or_eq_true] at hok
  rcases hok with hok | hok
  · obtain ⟨k, hk, hkw⟩ := List.any_eq_true.1 hok
    simp only [Bool.and_eq_true, bne_iff_ne, List.mem_range] at hkw hk
    obtain ⟨o, ho, e, he, hb, hon⟩ := waits_spec hkw.2
    exact absurd (hon ▸ hc k o ho (hall k hk hkw.1) e he hb) hno
  · have tail : ∀ n j, j < n → T ≤ j → ∀ o, ops[j]? = some o → (∀ e ∈ o.after, Region.binds md e = true → l.getD e.on false = true) → False := by
      intro n
      induction n with
      | zero => intro j hj; omega
      | succ n ih =>
        intro j hj hTj o ho hal
        have hlt : j < ops.size := (Array.getElem?_eq_some_iff.1 ho).1
        have := List.all_eq_true.1 hok j (List.mem_range.2 hlt)
        simp only [Bool.or_eq_true, decide_eq_true_eq] at this
        rcases this with (h | h) | h
        · omega
        · obtain ⟨o', ho', e, he, hb, hon⟩ := waits_spec h
          obtain rfl : o = o' := Option.some.inj (ho.symm.trans ho')
          exact hno (hon ▸ hal e he hb)
        · obtain ⟨k, hk, hkw⟩ := List.any_eq_true.1 h
          simp only [Bool.and_eq_true, decide_eq_true_eq, List.mem_range] at hkw hk
          obtain ⟨o', ho', e, he, hb, hon⟩ := waits_spec hkw.2
          obtain rfl : o = o' := Option.some.inj (ho.symm.trans ho')
          have hkl := hon ▸ hal e he hb
          obtain ⟨ok, hok'⟩ : ∃ ok, ops[k]? = some ok := ⟨ops[k]'(by omega), by simp [show k < ops.size by omega]⟩
          exact ih k (by omega) hkw.1 ok hok' (hc k ok hok' hkl)
    intro j hj
    obtain ⟨hjun, oj, hoj, hja⟩ := mem_ready.1 hj
    by_cases hji : j = i
    · exact hji
    · exfalso
      rcases Nat.lt_or_ge j T with hjT | hjT
      · exact getD_no hjun (hall j hjT hji)
      · exact tail (j + 1) j (by omega) hjT oj hoj hja

theorem not_full {l : Array Bool} {i : Nat} (hi : i < T) (hr : i ∈ Region.ready md ops l) : full T l = false := by
  cases h : full T l with
  | false => rfl
  | true =>
    simp only [full, List.all_eq_true, List.mem_range] at h
    have h1 := h i hi
    rw [(mem_ready.1 hr).1] at h1
    cases h1

/-- The first operations, of one value each, in the text's order. -/
def wpLex (P : Program) (ops : Array Oper) (S : World → Prop) (K : Act → Prop) : List Oper → Act → Prop
  | [], a => K a
  | o :: rest, a => ∃ v, Uni P ops S o v a ∧ wpLex P ops S K rest (a.put o.dst v)

theorem closed_none (n : Nat) : Closed md ops (Array.replicate n false) := fun j o _ h => by
  rcases Nat.lt_or_ge j n with hl | hl
  · simp [hl] at h
  · simp [hl] at h
end
end Go.Proofs.YtoceepmehmacbaaDoor
set_option linter.unusedVariables false
set_option linter.unusedSimpArgs false
namespace Go.Proofs.YtoceepmehmacbaaDoor
open Go.RowKit
section
variable {P : Program} {ops : Array Oper} {Q : Exit → Act → World → Prop} {md : Region.Mode} {S : World → Prop}
end

section
variable {P : Program} {ops : Array Oper} {Q : Exit → Act → World → Prop} {md : Region.Mode} {S : World → Prop}

theorem run_enter {f : FuncId} {fn : Func} (hf : P.funcs[f]? = some fn) (hname : (fn.name == "runtime.NumGoroutine") = false) (hb : fn.body.isNone = false) (args : Array Value) (w : World) :
    (callFunc f args).run P w = .ok (.enter f args) w := by
  have h1 : fn.name ≠ "runtime.NumGoroutine" := by simpa using hname
  have h2 : ¬ fn.body = none := by intro h; simp [h] at hb
  simp [callFunc, hf, h1, h2]
theorem below_drawn (w : World) : Below w.heap.size w { w with drawn := w.drawn + 1 } := (Below.refl _ _).drew

def none_ (n : Nat) : Array Bool := Array.replicate n false

end
end Go.Proofs.YtoceepmehmacbaaDoor
set_option linter.unusedVariables false
set_option linter.unusedSimpArgs false
namespace Go.Proofs.YtoceepmehmacbaaDoor
open Go.RowKit
theorem enter7 (args : Array Value) (W : World) : (callFunc 7 args).run Tryd.prog W = .ok (.enter 7 args) W := run_enter Tryd.func7 (by kernel_rfl) (by kernel_rfl) args W
theorem enter8 (args : Array Value) (W : World) : (callFunc 8 args).run Tryd.prog W = .ok (.enter 8 args) W := run_enter Tryd.func8 (by kernel_rfl) (by kernel_rfl) args W
theorem enter9 (args : Array Value) (W : World) : (callFunc 9 args).run Tryd.prog W = .ok (.enter 9 args) W := run_enter Tryd.func9 (by kernel_rfl) (by kernel_rfl) args W
theorem enter11 (args : Array Value) (W : World) : (callFunc 11 args).run Tryd.prog W = .ok (.enter 11 args) W := run_enter Tryd.func11 (by kernel_rfl) (by kernel_rfl) args W
theorem enter12 (args : Array Value) (W : World) : (callFunc 12 args).run Tryd.prog W = .ok (.enter 12 args) W := run_enter Tryd.func12 (by kernel_rfl) (by kernel_rfl) args W
theorem enter13 (args : Array Value) (W : World) : (callFunc 13 args).run Tryd.prog W = .ok (.enter 13 args) W := run_enter Tryd.func13 (by kernel_rfl) (by kernel_rfl) args W
theorem enter14 (args : Array Value) (W : World) : (callFunc 14 args).run Tryd.prog W = .ok (.enter 14 args) W := run_enter Tryd.func14 (by kernel_rfl) (by kernel_rfl) args W
theorem enter20 (args : Array Value) (W : World) : (callFunc 20 args).run Tryd.prog W = .ok (.enter 20 args) W := run_enter Tryd.func20 (by kernel_rfl) (by kernel_rfl) args W
theorem enter21 (args : Array Value) (W : World) : (callFunc 21 args).run Tryd.prog W = .ok (.enter 21 args) W := run_enter Tryd.func21 (by kernel_rfl) (by kernel_rfl) args W
theorem enter22 (args : Array Value) (W : World) : (callFunc 22 args).run Tryd.prog W = .ok (.enter 22 args) W := run_enter Tryd.func22 (by kernel_rfl) (by kernel_rfl) args W
theorem enter23 (args : Array Value) (W : World) : (callFunc 23 args).run Tryd.prog W = .ok (.enter 23 args) W := run_enter Tryd.func23 (by kernel_rfl) (by kernel_rfl) args W
theorem enter24 (args : Array Value) (W : World) : (callFunc 24 args).run Tryd.prog W = .ok (.enter 24 args) W := run_enter Tryd.func24 (by kernel_rfl) (by kernel_rfl) args W
theorem enter31 (args : Array Value) (W : World) : (callFunc 31 args).run Tryd.prog W = .ok (.enter 31 args) W := run_enter Tryd.func31 (by kernel_rfl) (by kernel_rfl) args W
theorem enter32 (args : Array Value) (W : World) : (callFunc 32 args).run Tryd.prog W = .ok (.enter 32 args) W := run_enter Tryd.func32 (by kernel_rfl) (by kernel_rfl) args W
theorem enter33 (args : Array Value) (W : World) : (callFunc 33 args).run Tryd.prog W = .ok (.enter 33 args) W := run_enter Tryd.func33 (by kernel_rfl) (by kernel_rfl) args W
theorem enter46 (args : Array Value) (W : World) : (callFunc 46 args).run Tryd.prog W = .ok (.enter 46 args) W := run_enter Tryd.func46 (by kernel_rfl) (by kernel_rfl) args W
theorem enter47 (args : Array Value) (W : World) : (callFunc 47 args).run Tryd.prog W = .ok (.enter 47 args) W := run_enter Tryd.func47 (by kernel_rfl) (by kernel_rfl) args W
theorem enter48 (args : Array Value) (W : World) : (callFunc 48 args).run Tryd.prog W = .ok (.enter 48 args) W := run_enter Tryd.func48 (by kernel_rfl) (by kernel_rfl) args W
theorem enter49 (args : Array Value) (W : World) : (callFunc 49 args).run Tryd.prog W = .ok (.enter 49 args) W := run_enter Tryd.func49 (by kernel_rfl) (by kernel_rfl) args W
theorem enter50 (args : Array Value) (W : World) : (callFunc 50 args).run Tryd.prog W = .ok (.enter 50 args) W := run_enter Tryd.func50 (by kernel_rfl) (by kernel_rfl) args W
theorem enter68 (args : Array Value) (W : World) : (callFunc 68 args).run Tryd.prog W = .ok (.enter 68 args) W := run_enter Tryd.func68 (by kernel_rfl) (by kernel_rfl) args W
theorem enter69 (args : Array Value) (W : World) : (callFunc 69 args).run Tryd.prog W = .ok (.enter 69 args) W := run_enter Tryd.func69 (by kernel_rfl) (by kernel_rfl) args W
end Go.Proofs.YtoceepmehmacbaaDoor
set_option linter.unusedVariables false
set_option linter.unusedSimpArgs false
namespace Go.Proofs.YtoceepmehmacbaaDoor
open Go.RowKit

section
variable {P : Program} {ops : Array Oper} {Q : Exit → Act → World → Prop} {md : Region.Mode} {S : World → Prop} {T : Nat}

/-- In state a the operation o yields v in every world of S, which stays. -/
def UniV (P : Program) (ops : Array Oper) (S : World → Prop) (o : Oper) (v : Value) (a : Act) : Prop :=
  (Region.wanted o (yielded ops a.tmps) = true ∧ ∀ w, S w → (execOp a.eval o).run P w = .ok (.value v) w) ∨
  (Region.wanted o (yielded ops a.tmps) = false ∧ v = undef)
theorem UniV.of_same {o : Oper} {v : Value} {a a' : Act} (hy : UniV P ops S o v a) (he : execOp a'.eval o = execOp a.eval o)
    (hw : Region.wanted o (yielded ops a'.tmps) = Region.wanted o (yielded ops a.tmps)) : UniV P ops S o v a' := by
  unfold UniV at *
  rw [he, hw]
  exact hy
end
end Go.Proofs.YtoceepmehmacbaaDoor
set_option linter.unusedVariables false
set_option linter.unusedSimpArgs false
namespace Go.Proofs.YtoceepmehmacbaaDoor
open Go.RowKit

section
variable {P : Program} {ops : Array Oper} {Q : Exit → Act → World → Prop} {S : World → Prop}
end
end Go.Proofs.YtoceepmehmacbaaDoor
set_option linter.unusedVariables false
set_option linter.unusedSimpArgs false
namespace Go.Proofs.YtoceepmehmacbaaDoor
open Go.RowKit

section
variable {P : Program} {ops : Array Oper} {Q : Exit → Act → World → Prop} {md : Region.Mode}

theorem UniV.sub {S C : World → Prop} {o : Oper} {v : Value} {a : Act} (h : UniV P ops S o v a) (hC : ∀ w, C w → S w) : UniV P ops C o v a := by
  rcases h with ⟨h1, h2⟩ | h
  · exact .inl ⟨h1, fun w hw => h2 w (hC w hw)⟩
  · exact .inr h
end
end Go.Proofs.YtoceepmehmacbaaDoor
