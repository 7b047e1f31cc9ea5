import Derived.Test.YtiefgmgjlhjjhaaDoorRblk
import Derived.Test.YtiefgmgjlhjjhaaDoorRunG
namespace Go.Proofs.YtiefgmgjlhjjhaaDoor
open Go.RowKit

/-- The world holds the document's first words. -/
def Bst (w : World) : Prop := ∀ t, t < 8 → w.cell? ⟨1, t, none⟩ = some (.int .u64 (wn (iv.getD t 0)))
theorem Bst.lt {w : World} (h : Bst w) : 1 < w.heap.size := cell_lt (h 0 (by omega))
theorem Bst.below {w w' : World} {n : Nat} (h : Bst w) (hb : Below n w w') (hn : 1 < n) : Bst w' := fun t ht => (hb.cell (p := ⟨1, t, none⟩) hn).trans (h t ht)

def bgs : Nat → List (BitVec 32)
  | 0 => z8
  | n + 1 => (bgs n).set n (iv.getD n 0)
theorem bgs_length : ∀ n, (bgs n).length = 8
  | 0 => by rw [bgs, z8, List.length_replicate]
  | n + 1 => by rw [bgs, List.length_set, bgs_length n]
theorem bgs8 : bgs 8 = iv := by kernel_rfl

/-- A result of the function at g, a row that is filled at d. -/
structure Fl (w x : World) (g d : Nat) (Z L : List Value) (t : TypeId) : Prop where
  re : Blk x g Z t
  bl : Blk x d L t
  be : Below w.heap.size w x
  lg : w.heap.size ≤ g
  gd : g < d
theorem Fl.set {w x : World} {g d : Nat} {Z L : List Value} {t : TypeId} (h : Fl w x g d Z L t) (j : Nat) (v : Value) : Fl w (x.setCell ⟨d, j, none⟩ v) g d Z (L.set j v) t :=
  ⟨h.re.setOther _ _ _ (by have := h.gd; omega), h.bl.set j v, h.be.setCell (by have := h.lg; have := h.gd; show _ ≤ d; omega) _, h.lg, h.gd⟩
theorem Fl.two (w : World) (Z : List Value) (t : TypeId) : Fl w ((w.alloc (.cells Z.toArray t)).alloc (.cells Z.toArray t)) w.heap.size (w.heap.size + 1) Z Z t := by
  have h2 := Blk.new (w.alloc (.cells Z.toArray t)) Z t
  rw [show (w.alloc (.cells Z.toArray t)).heap.size = w.heap.size + 1 by simp] at h2
  exact ⟨(Blk.new w _ _).alloc _, h2, bel_two w _ _ _ ⟨rfl, rfl, rfl, rfl⟩, Nat.le_refl _, by omega⟩

set_option maxHeartbeats 400000 in
set_option maxRecDepth 100000 in
theorem rbegin_any (w : World) (hB : Bst w) : Calls Tryd.prog 69 #[] w fun e w' => e = .returned (.agg (wvs iv).toArray) ∧ Below w.heap.size w w' := by
  have HB := hide hB
  clear hB
  have hF : Hid (Fl w ((w.alloc (.cells (wvs z8).toArray 132)).alloc (.cells (wvs z8).toArray 132)) w.heap.size (w.heap.size + 1) (wvs z8) (wvs (bgs 0)) 132) := Fl.two w (wvs z8) 132
  have hsz := info39 iv iv_length
  go_enter Tryd.func69, Tryd.ntmps69
  go_wp2_with (first
    | (refine wpList_newAt rfl 132 rfl (wvs z8) zero39 w.heap.size rfl ?_)
    | (refine wpList_newAt rfl 132 rfl (wvs z8) zero39 (w.heap.size + 1) (by simp) ?_; generalize (w.alloc (.cells (wvs z8).toArray 132)).alloc (.cells (wvs z8).toArray 132) = w0 at hF ⊢)
    | fail)
  obtain ⟨d, hd⟩ : ∃ d, d = w.heap.size + 1 := ⟨_, rfl⟩
  rw [← hd] at hF ⊢
  clear hd
  go_loopw [2] (fun i wr => ∃ k : Nat, k ≤ 8 ∧ i = .int .i64 (k : Int) ∧ Hid (Fl w wr w.heap.size d (wvs z8) (wvs (bgs k)) 132)) (fun i _ => 8 - (intOf i).toNat)
  case atStart => exact ⟨0, by omega, rfl, hF⟩
  case round =>
    obtain ⟨k, hk, rfl, hx⟩ := hrel
    by_cases hlt : k < 8
    · have hlz : (k : Int) < 8 := by omega
      have hcb : wr.cell? ⟨1, k, none⟩ = some (.int .u64 (wn (iv.getD k 0))) := (HB.out.below hx.out.be HB.out.lt) k hlt
      have hc2 : ∃ v, wr.cell? ⟨d, k, none⟩ = some v := ⟨_, by rw [hx.out.bl.cell, wvs_at _ _ (by rw [bgs_length]; exact hlt)]⟩
      have hfz := hx.out.bl.frozen k
      obtain ⟨v2, hc2⟩ := hc2
      have hnx : Hid (Fl w (wr.setCell ⟨d, k, none⟩ (.int .u32 (wn (iv.getD k 0)))) w.heap.size d (wvs z8) (wvs (bgs (k + 1))) 132) := by
        have := hx.out.set k (.int .u32 (wn (iv.getD k 0)))
        rw [wvs_set] at this
        exact this
      generalize iv.getD k 0 = y at *
      have e7 := wmod y
      go_wp2
      go_roundw
      case rel => exact ⟨k + 1, by omega, by go_num, hnx⟩
      case measure => simp [intOf]; omega
    · obtain rfl : k = 8 := by omega
      rw [bgs8] at hx
      go_wp2_with (first
        | (refine wpList_load_row rfl 132 (.tmp 1) rfl d rfl 132 (wvs iv).toArray (0, 0) _ hx.out.bl Tryd.underlying132 rfl hsz ?_)
        | (refine wpList_store_row rfl 132 (.tmp 0) (.tmp 13) rfl w.heap.size (wvs iv).toArray rfl rfl 132 (wvs z8).toArray hx.out.re hsz rfl (wvs_one _) ?_))
      refine bodyPost_ret (v := .agg (wvs iv).toArray) ?_ rfl ⟨rfl, below_setRow hx.out.be _ _ (Nat.le_refl _)⟩
      exact results_cell_row Tryd.results69 _ _ w.heap.size 132 _ (0, 0) _ rfl (hx.out.re.setRow _) Tryd.underlying132 rfl hsz

/-- The block so far. -/
def atk (B : List UInt8) (i k : Nat) : List UInt8 := (B.drop (64 * i)).take k ++ List.replicate (64 - k) 0
theorem atk_length (B : List UInt8) (i k : Nat) (h : 64 * i + 64 ≤ B.length) (hk : k ≤ 64) : (atk B i k).length = 64 := by
  unfold atk
  rw [List.length_append, List.length_take, List.length_drop, List.length_replicate]; omega
theorem atk_zero (B : List UInt8) (i : Nat) : atk B i 0 = z64b := by simp [atk, z64b]
theorem atk_all (B : List UInt8) (i : Nat) : atk B i 64 = blk B i := by simp [atk, blk]
theorem atk_succ (B : List UInt8) (i k : Nat) (h : 64 * i + 64 ≤ B.length) (hk : k < 64) : (atk B i k).set k (B.getD (64 * i + k) 0) = atk B i (k + 1) := by
  have hl : ((B.drop (64 * i)).take k).length = k := by rw [List.length_take, List.length_drop]; omega
  have hd : k < (B.drop (64 * i)).length := by rw [List.length_drop]; omega
  unfold atk
  rw [List.set_append_right _ _ (by omega), hl, Nat.sub_self, show 64 - k = (64 - (k + 1)) + 1 by omega, List.replicate_succ, List.set_cons_zero, List.take_succ_eq_append_getElem hd, List.append_assoc, List.getElem_drop, List.getD_eq_getElem?_getD, List.getElem?_eq_getElem (by omega)]
  rfl

set_option maxHeartbeats 400000 in
set_option maxRecDepth 100000 in
theorem at_any (v : Value) (B : List UInt8) (i : Nat) (w : World) (hv : Has w v B) (hi : 64 * i + 64 ≤ B.length) (hl : B.length ≤ 1152921504606846976) :
    Calls Tryd.prog 71 #[v, .int .i64 (i : Int)] w fun e w' => e = .returned (.agg ((blk B i).map byt).toArray) ∧ Below w.heap.size w w' := by
  rcases hv with ⟨rfl, rfl⟩ | ⟨ad, cap, rfl, h2, h3⟩
  · simp at hi
  have H3 := hide h3
  obtain ⟨n, hn⟩ : ∃ n, B.length = n := ⟨_, rfl⟩
  rw [hn] at hi hl ⊢
  have Hn := hide hn
  have hbl : (blk B i).length = 64 := by unfold blk; rw [List.length_take, List.length_drop]; omega
  have hsz := info42 (blk B i) hbl
  clear h2 h3 hn
  have hF : Hid (Fl w ((w.alloc (.cells (z64b.map byt).toArray 134)).alloc (.cells (z64b.map byt).toArray 134)) w.heap.size (w.heap.size + 1) (z64b.map byt) ((atk B i 0).map byt) 134) := by
    rw [atk_zero]
    exact Fl.two w (z64b.map byt) 134
  obtain ⟨d, hd⟩ : ∃ d, d = w.heap.size + 1 := ⟨_, rfl⟩
  rw [← hd] at hF
  go_enter Tryd.func71, Tryd.ntmps71
  go_wp2_with (first
    | (refine wpList_newAt rfl 134 rfl (z64b.map byt) zero35 w.heap.size rfl ?_)
    | (refine wpList_newAt rfl 134 rfl (z64b.map byt) zero35 d (by rw [hd]; simp) ?_; clear hd; generalize (w.alloc (.cells (z64b.map byt).toArray 134)).alloc (.cells (z64b.map byt).toArray 134) = w0 at hF ⊢)
    | fail)
  go_loopw [6] (fun j wr => ∃ k : Nat, k ≤ 64 ∧ j = .int .i64 (k : Int) ∧ Hid (Fl w wr w.heap.size d (z64b.map byt) ((atk B i k).map byt) 134)) (fun j _ => 64 - (intOf j).toNat)
  case atStart => exact ⟨0, by omega, rfl, hF⟩
  case round =>
    obtain ⟨k, hk, rfl, hx⟩ := hrel
    by_cases hlt : k < 64
    · have hlz : (k : Int) < 64 := by omega
      have hBk : 64 * i + k < B.length := by rw [Hn.out]; omega
      have hc0 := H3.out (64 * i + k) B[64 * i + k] (List.getElem?_eq_getElem hBk)
      have hc : wr.cell? (ad.add (64 * i + k)) = some (.int .u8 ((B.getD (64 * i + k) 0).toNat : Int)) := by
        rw [List.getD_eq_getElem?_getD, List.getElem?_eq_getElem hBk]
        exact (hx.out.be.cell (cell_lt hc0)).trans hc0
      have hc2 : ∃ v, wr.cell? ⟨d, k, none⟩ = some v := ⟨_, by rw [hx.out.bl.cell, byts_at _ _ (by rw [atk_length B i k (by rw [Hn.out]; exact hi) hk]; exact hlt)]⟩
      obtain ⟨v2, hc2⟩ := hc2
      have hfz := hx.out.bl.frozen k
      have hnx : Hid (Fl w (wr.setCell ⟨d, k, none⟩ (.int .u8 ((B.getD (64 * i + k) 0).toNat : Int))) w.heap.size d (z64b.map byt) ((atk B i (k + 1)).map byt) 134) := by
        have := hx.out.set k (.int .u8 ((B.getD (64 * i + k) 0).toNat : Int))
        rw [byts_set, atk_succ B i k (by rw [Hn.out]; exact hi) hlt] at this
        exact this
      have hw1 : wrap64 (64 * (i : Int)) = 64 * (i : Int) := Go.IntWalk.wrap64_in _ (by omega)
      have hw2 : wrap64 (64 * (i : Int) + (k : Int)) = 64 * (i : Int) + (k : Int) := Go.IntWalk.wrap64_in _ (by omega)
      have ht : (64 * (i : Int) + (k : Int)).toNat = 64 * i + k := by omega
      have hi0 : (0 : Int) ≤ 64 * (i : Int) + (k : Int) := by omega
      have hi1 : 64 * (i : Int) + (k : Int) < (n : Int) := by omega
      generalize B.getD (64 * i + k) 0 = u at *
      clear hc0 hBk
      go_wp2
      go_roundw
      case rel => exact ⟨k + 1, by omega, by go_num, hnx⟩
      case measure => simp [intOf]; omega
    · obtain rfl : k = 64 := by omega
      rw [atk_all] at hx
      go_wp2_with (first
        | (refine wpList_load_row rfl 134 (.tmp 5) rfl d rfl 134 ((blk B i).map byt).toArray (0, 0) _ hx.out.bl Tryd.underlying134 rfl hsz ?_)
        | (refine wpList_store_row rfl 134 (.tmp 4) (.tmp 20) rfl w.heap.size ((blk B i).map byt).toArray rfl rfl 134 (z64b.map byt).toArray hx.out.re hsz (by rw [List.size_toArray, List.size_toArray, List.length_map, List.length_map, hbl, z64b_length]) (byts_one _) ?_))
      refine bodyPost_ret (v := .agg ((blk B i).map byt).toArray) ?_ rfl ⟨rfl, below_setRow hx.out.be _ _ (Nat.le_refl _)⟩
      exact results_cell_row Tryd.results71 _ _ w.heap.size 134 _ (0, 0) _ rfl (hx.out.re.setRow _) Tryd.underlying134 rfl hsz
end Go.Proofs.YtiefgmgjlhjjhaaDoor
