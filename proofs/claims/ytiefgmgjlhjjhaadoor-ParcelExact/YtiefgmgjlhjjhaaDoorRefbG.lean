import Derived.Test.YtiefgmgjlhjjhaaDoorRblk
import Derived.Test.YtiefgmgjlhjjhaaDoorLexG
namespace Go.Proofs.YtiefgmgjlhjjhaaDoor
open Go.RowKit

/-- The world holds the document's first words. -/
def Bst (w : World) : Prop := ∀ t, t < 8 → w.cell? ⟨1, t, none⟩ = some (.int .u64 (wn (iv.getD t 0)))
theorem Bst.lt {w : World} (h : Bst w) : 1 < w.heap.size := cell_lt (h 0 (by omega))
theorem Bst.below {w w' : World} {n : Nat} (h : Bst w) (hb : Below n w w') (hn : 1 < n) : Bst w' := fun t ht => (hb.cell (p := ⟨1, t, none⟩) hn).trans (h t ht)

def bgs : Nat → List (BitVec 32)
  | 0 => z8
  | n + 1 => (bgs n).set n (iv.getD n 0)
theorem bgs_length : ∀ n, (bgs n).length = 8
  | 0 => by rw [bgs, z8, List.length_replicate]
  | n + 1 => by rw [bgs, List.length_set, bgs_length n]
theorem bgs8 : bgs 8 = iv := by kernel_rfl

/-- A result of the function at g, a row that is filled at d. -/
structure Fl (w x : World) (g d : Nat) (Z L : List Value) (t : TypeId) : Prop where
  re : Blk x g Z t
  bl : Blk x d L t
  be : Below w.heap.size w x
  lg : w.heap.size ≤ g
  gd : g < d
theorem Fl.set {w x : World} {g d : Nat} {Z L : List Value} {t : TypeId} (h : Fl w x g d Z L t) (j : Nat) (v : Value) : Fl w (x.setCell ⟨d, j, none⟩ v) g d Z (L.set j v) t :=
  ⟨h.re.setOther _ _ _ (by have := h.gd; omega), h.bl.set j v, h.be.setCell (by have := h.lg; have := h.gd; show _ ≤ d; omega) _, h.lg, h.gd⟩
theorem Fl.two (w : World) (Z : List Value) (t : TypeId) : Fl w ((w.alloc (.cells Z.toArray t)).alloc (.cells Z.toArray t)) w.heap.size (w.heap.size + 1) Z Z t := by
  have h2 := Blk.new (w.alloc (.cells Z.toArray t)) Z t
  rw [show (w.alloc (.cells Z.toArray t)).heap.size = w.heap.size + 1 by simp] at h2
  exact ⟨(Blk.new w _ _).alloc _, h2, bel_two w _ _ _ ⟨rfl, rfl, rfl, rfl⟩, Nat.le_refl _, by omega⟩

set_option maxHeartbeats 400000 in
set_option maxRecDepth 100000 in
theorem rbegin_any (w : World) (hB : Bst w) : Calls Tryd.prog 69 #[] w fun e w' => e = .returned (.agg (wvs iv).toArray) ∧ Below w.heap.size w w' := by
  have HB := hide hB
  clear hB
  have hF : Hid (Fl w ((w.alloc (.cells (wvs z8).toArray 132)).alloc (.cells (wvs z8).toArray 132)) w.heap.size (w.heap.size + 1) (wvs z8) (wvs (bgs 0)) 132) := Fl.two w (wvs z8) 132
  have hsz := info39 iv iv_length
  go_enter Tryd.func69, Tryd.ntmps69
  go_wp2_with (first
    | (refine wpList_newAt rfl 132 rfl (wvs z8) zero39 w.heap.size rfl ?_)
    | (refine wpList_newAt rfl 132 rfl (wvs z8) zero39 (w.heap.size + 1) (by simp) ?_; generalize (w.alloc (.cells (wvs z8).toArray 132)).alloc (.cells (wvs z8).toArray 132) = w0 at hF ⊢)
    | fail)
  obtain ⟨d, hd⟩ : ∃ d, d = w.heap.size + 1 := ⟨_, rfl⟩
  rw [← hd] at hF ⊢
  clear hd
  go_loopw [2] (fun i wr => ∃ k : Nat, k ≤ 8 ∧ i = .int .i64 (k : Int) ∧ Hid (Fl w wr w.heap.size d (wvs z8) (wvs (bgs k)) 132)) (fun i _ => 8 - (intOf i).toNat)
  case atStart => exact ⟨0, by omega, rfl, hF⟩
  case round =>
    obtain ⟨k, hk, rfl, hx⟩ := hrel
    by_cases hlt : k < 8
    · have hlz : (k : Int) < 8 := by omega
      have hcb : wr.cell? ⟨1, k, none⟩ = some (.int .u64 (wn (iv.getD k 0))) := (HB.out.below hx.out.be HB.out.lt) k hlt
      have hc2 : ∃ v, wr.cell? ⟨d, k, none⟩ = some v := ⟨_, by rw [hx.out.bl.cell, wvs_at _ _ (by rw [bgs_length]; exact hlt)]⟩
      have hfz := hx.out.bl.frozen k
      obtain ⟨v2, hc2⟩ := hc2
      have hnx : Hid (Fl w (wr.setCell ⟨d, k, none⟩ (.int .u32 (wn (iv.getD k 0)))) w.heap.size d (wvs z8) (wvs (bgs (k + 1))) 132) := by
        have := hx.out.set k (.int .u32 (wn (iv.getD k 0)))
        rw [wvs_set] at this
        exact this
      generalize iv.getD k 0 = y at *
      have e7 := wmod y
      go_wp2
      go_roundw
      case rel => exact ⟨k + 1, by omega, by go_num, hnx⟩
      case measure => simp [intOf]; omega
    · obtain rfl : k = 8 := by omega
      rw [bgs8] at hx
      go_wp2_with (first
        | (refine wpList_load_row rfl 132 (.tmp 1) rfl d rfl 132 (wvs iv).toArray (0, 0) _ hx.out.bl Tryd.underlying132 rfl hsz ?_)
        | (refine wpList_store_row rfl 132 (.tmp 0) (.tmp 13) rfl w.heap.size (wvs iv).toArray rfl rfl 132 (wvs z8).toArray hx.out.re hsz rfl (wvs_one _) ?_))
      refine bodyPost_ret (v := .agg (wvs iv).toArray) ?_ rfl ⟨rfl, below_setRow hx.out.be _ _ (Nat.le_refl _)⟩
      exact results_cell_row Tryd.results69 _ _ w.heap.size 132 _ (0, 0) _ rfl (hx.out.re.setRow _) Tryd.underlying132 rfl hsz

/-- The block so far. -/
def atk (B : List UInt8) (i k : Nat) : List UInt8 := (B.drop (64 * i)).take k ++ List.replicate (64 - k) 0
theorem atk_length (B : List UInt8) (i k : Nat) (h : 64 * i + 64 ≤ B.length) (hk : k ≤ 64) : (atk B i k).length = 64 := by
  unfold atk
  rw [List.length_append, List.length_take, List.length_drop, List.length_replicate]; omega
theorem atk_zero (B : List UInt8) (i : Nat) : atk B i 0 = z64b := by simp [atk, z64b]
theorem atk_all (B : List UInt8) (i : Nat) : atk B i 64 = blk B i := by simp [atk, blk]
theorem atk_succ (B : List UInt8) (i k : Nat) (h : 64 * i + 64 ≤ B.length) (hk : k < 64) : (atk B i k).set k (B.getD (64 * i + k) 0) = atk B i (k + 1) := by
  have hl : ((B.drop (64 * i)).take k).length = k := by rw [List.length_take, List.length_drop]; omega
  have hd : k < (B.drop (64 * i)).length := by rw [List.length_drop]; omega
  unfold atk
  rw [List.set_append_right _ _ (by omega), hl, Nat.sub_self, show 64 - k = (64 - (k + 1)) + 1 by omega, List.replicate_succ, List.set_cons_zero, List.take_succ_eq_append_getElem hd, List.append_assoc, List.getElem_drop, List.getD_eq_getElem?_getD, List.getElem?_eq_getElem (by omega)]
  rfl

set_option maxHeartbeats 400000 in
set_option maxRecDepth 100000 in
theorem at_any (v : Value) (B : List UInt8) (i : Nat) (w : World) (hv : Has w v B) (hi : 64 * i + 64 ≤ B.length) (hl : B.length ≤ 1152921504606846976) :
    Calls Tryd.prog 71 #[v, .int .i64 (i : Int)] w fun e w' => e = .returned (.agg ((blk B i).map byt).toArray) ∧ Below w.heap.size w w' := by
  rcases hv with ⟨rfl, rfl⟩ | ⟨ad, cap, rfl, h2, h3⟩
  · simp at hi
  have H3 := hide h3
  obtain ⟨n, hn⟩ : ∃ n, B.length = n := ⟨_, rfl⟩
  rw [hn] at hi hl ⊢
  have Hn := hide hn
  have hbl : (blk B i).length = 64 := by unfold blk; rw [List.length_take, List.length_drop]; omega
  have hsz := info42 (blk B i) hbl
  clear h2 h3 hn
  have hF : Hid (Fl w ((w.alloc (.cells (z64b.map byt).toArray 134)).alloc (.cells (z64b.map byt).toArray 134)) w.heap.size (w.heap.size + 1) (z64b.map byt) ((atk B i 0).map byt) 134) := by
    rw [atk_zero]
    exact Fl.two w (z64b.map byt) 134
  obtain ⟨d, hd⟩ : ∃ d, d = w.heap.size + 1 := ⟨_, rfl⟩
  rw [← hd] at hF
  go_enter Tryd.func71, Tryd.ntmps71
  go_wp2_with (first
    | (refine wpList_newAt rfl 134 rfl (z64b.map byt) zero35 w.heap.size rfl ?_)
    | (refine wpList_newAt rfl 134 rfl (z64b.map byt) zero35 d (by rw [hd]; simp) ?_; clear hd; generalize (w.alloc (.cells (z64b.map byt).toArray 134)).alloc (.cells (z64b.map byt).toArray 134) = w0 at hF ⊢)
    | fail)
  go_loopw [6] (fun j wr => ∃ k : Nat, k ≤ 64 ∧ j = .int .i64 (k : Int) ∧ Hid (Fl w wr w.heap.size d (z64b.map byt) ((atk B i k).map byt) 134)) (fun j _ => 64 - (intOf j).toNat)
  case atStart => exact ⟨0, by omega, rfl, hF⟩
  case round =>
    obtain ⟨k, hk, rfl, hx⟩ := hrel
    by_cases hlt : k < 64
    · have hlz : (k : Int) < 64 := by omega
      have hBk : 64 * i + k < B.length := by rw [Hn.out]; omega
      have hc0 := H3.out (64 * i + k) B[64 * i + k] (List.getElem?_eq_getElem hBk)
      have hc : wr.cell? (ad.add (64 * i + k)) = some (.int .u8 ((B.getD (64 * i + k) 0).toNat : Int)) := by
        rw [List.getD_eq_getElem?_getD, List.getElem?_eq_getElem hBk]
        exact (hx.out.be.cell (cell_lt hc0)).trans hc0
      have hc2 : ∃ v, wr.cell? ⟨d, k, none⟩ = some v := ⟨_, by rw [hx.out.bl.cell, byts_at _ _ (by rw [atk_length B i k (by rw [Hn.out]; exact hi) hk]; exact hlt)]⟩
      obtain ⟨v2, hc2⟩ := hc2
      have hfz := hx.out.bl.frozen k
      have hnx : Hid (Fl w (wr.setCell ⟨d, k, none⟩ (.int .u8 ((B.getD (64 * i + k) 0).toNat : Int))) w.heap.size d (z64b.map byt) ((atk B i (k + 1)).map byt) 134) := by
        have := hx.out.set k (.int .u8 ((B.getD (64 * i + k) 0).toNat : Int))
        rw [byts_set, atk_succ B i k (by rw [Hn.out]; exact hi) hlt] at this
        exact this
      have hw1 : wrap64 (64 * (i : Int)) = 64 * (i : Int) := Go.IntWalk.wrap64_in _ (by omega)
      have hw2 : wrap64 (64 * (i : Int) + (k : Int)) = 64 * (i : Int) + (k : Int) := Go.IntWalk.wrap64_in _ (by omega)
      have ht : (64 * (i : Int) + (k : Int)).toNat = 64 * i + k := by omega
      have hi0 : (0 : Int) ≤ 64 * (i : Int) + (k : Int) := by omega
      have hi1 : 64 * (i : Int) + (k : Int) < (n : Int) := by omega
      generalize B.getD (64 * i + k) 0 = u at *
      clear hc0 hBk
      go_wp2
      go_roundw
      case rel => exact ⟨k + 1, by omega, by go_num, hnx⟩
      case measure => simp [intOf]; omega
    · obtain rfl : k = 64 := by omega
      rw [atk_all] at hx
      go_wp2_with (first
        | (refine wpList_load_row rfl 134 (.tmp 5) rfl d rfl 134 ((blk B i).map byt).toArray (0, 0) _ hx.out.bl Tryd.underlying134 rfl hsz ?_)
        | (refine wpList_store_row rfl 134 (.tmp 4) (.tmp 20) rfl w.heap.size ((blk B i).map byt).toArray rfl rfl 134 (z64b.map byt).toArray hx.out.re hsz (by rw [List.size_toArray, List.size_toArray, List.length_map, List.length_map, hbl, z64b_length]) (byts_one _) ?_))
      refine bodyPost_ret (v := .agg ((blk B i).map byt).toArray) ?_ rfl ⟨rfl, below_setRow hx.out.be _ _ (Nat.le_refl _)⟩
      exact results_cell_row Tryd.results71 _ _ w.heap.size 134 _ (0, 0) _ rfl (hx.out.re.setRow _) Tryd.underlying134 rfl hsz
theorem zero41 (w : World) : (zeroValue 91).run Tryd.prog w = .ok (.agg (z32.map byt).toArray) w := by
  rw [Tryd.zeroValue91]; rfl
theorem info41 (L : List UInt8) (hl : L.length = 32) : (Tryd.prog.info? 91).map (·.size) = some (L.map byt).toArray.size := by
  rw [List.size_toArray, List.length_map, hl]; kernel_rfl

/-- An equation that the walk does not look into. -/
structure Lk {α : Type} (a b : α) : Prop where
  h : a = b

/-- What is left of a word, and the byte that goes. -/
def vq (x : BitVec 32) (j : Nat) : Int := wn x / ((256 ^ j : Nat) : Int)
theorem vq_zero (x : BitVec 32) : vq x 0 = wn x := by simp [vq]
theorem vq_nonneg (x : BitVec 32) (j : Nat) : 0 ≤ vq x j := Int.ediv_nonneg (wn_nonneg x) (Int.natCast_nonneg _)
theorem vq_lt (x : BitVec 32) (j : Nat) : vq x j < 4294967296 := Int.lt_of_le_of_lt (Int.ediv_le_self _ (wn_nonneg x)) (wn_lt x)
theorem vq_rem (x : BitVec 32) (j : Nat) : (vq x j).tmod 256 = ((bo x (256 ^ j)).toNat : Int) := by
  rw [Int.tmod_eq_emod_of_nonneg (vq_nonneg x j)]
  exact bo_wn x (256 ^ j)
theorem vq_quo (x : BitVec 32) (j : Nat) : (vq x j).tdiv 256 = vq x (j + 1) := by
  rw [Int.tdiv_eq_ediv_of_nonneg (vq_nonneg x j)]
  unfold vq
  rw [Int.ediv_ediv_of_nonneg (Int.natCast_nonneg _), Nat.pow_succ]
  rfl
def bys (L : List UInt8) (i : Nat) (x : BitVec 32) : Nat → List UInt8
  | 0 => L
  | j + 1 => (bys L i x j).set (4 * i + 3 - j) (bo x (256 ^ j))
theorem bys_length (L : List UInt8) (i : Nat) (x : BitVec 32) : ∀ j, (bys L i x j).length = L.length
  | 0 => rfl
  | j + 1 => by rw [bys, List.length_set, bys_length L i x j]
theorem sets4 (L : List UInt8) (p0 p1 p2 p3 : Nat) (a b c d : UInt8) (h01 : p0 ≠ p1) (h02 : p0 ≠ p2) (h03 : p0 ≠ p3) (h12 : p1 ≠ p2) (h13 : p1 ≠ p3) (h23 : p2 ≠ p3) :
    (((L.set p3 d).set p2 c).set p1 b).set p0 a = (((L.set p0 a).set p1 b).set p2 c).set p3 d := by
  apply List.ext_getElem?
  intro j
  simp only [List.getElem?_set, List.length_set]
  by_cases e0 : p0 = j
  · subst e0; simp [h01.symm, h02.symm, h03.symm]
  · by_cases e1 : p1 = j
    · subst e1; simp [e0, h12.symm, h13.symm]
    · by_cases e2 : p2 = j
      · subst e2; simp [e0, e1, h23.symm]
      · simp [e0, e1, e2]
theorem bys4 (L : List UInt8) (i : Nat) (x : BitVec 32) : bys L i x 4 = put4 L i x := by
  unfold put4
  rw [← sets4 L (4 * i) (4 * i + 1) (4 * i + 2) (4 * i + 3) _ _ _ _ (by omega) (by omega) (by omega) (by omega) (by omega) (by omega)]
  simp only [bys]
  rw [show 4 * i + 3 - 0 = 4 * i + 3 by omega, show 4 * i + 3 - 1 = 4 * i + 2 by omega, show 4 * i + 3 - 2 = 4 * i + 1 by omega, show 4 * i + 3 - 3 = 4 * i by omega]

/-- The blocks of the document's 'bytesOf'. -/
structure Bo (w x : World) (s : List (BitVec 32)) (L : List UInt8) : Prop where
  st : Blk x w.heap.size (wvs s) 132
  re : Blk x (w.heap.size + 1) (z32.map byt) 91
  bl : Blk x (w.heap.size + 1 + 1) (L.map byt) 91
  be : Below w.heap.size w x
theorem Bo.set {w x : World} {s : List (BitVec 32)} {L : List UInt8} (h : Bo w x s L) (j : Nat) (u : UInt8) : Bo w (x.setCell ⟨w.heap.size + 1 + 1, j, none⟩ (.int .u8 (u.toNat : Int))) s (L.set j u) :=
  ⟨h.st.setOther _ _ _ (by omega), h.re.setOther _ _ _ (by omega), by rw [← byts_set]; exact h.bl.set j _, h.be.setCell (by show _ ≤ w.heap.size + 1 + 1; omega) _⟩

set_option maxHeartbeats 400000 in
set_option maxRecDepth 100000 in
theorem rbytes_any (s : List (BitVec 32)) (hs : s.length = 8) (w : World) : Calls Tryd.prog 72 #[.agg (wvs s).toArray] w fun e w' => e = .returned (.agg ((digOf s).map byt).toArray) ∧ Below w.heap.size w w' := by
  have HS := hide hs
  clear hs
  have hF : Hid (Bo w (((w.alloc (.cells (wvs s).toArray 132)).alloc (.cells (z32.map byt).toArray 91)).alloc (.cells (z32.map byt).toArray 91)) s (dgs s 0)) := by
    have b1 := Blk.new (w.alloc (.cells (wvs s).toArray 132)) (z32.map byt) 91
    rw [show (w.alloc (.cells (wvs s).toArray 132)).heap.size = w.heap.size + 1 by simp] at b1
    have b2 := Blk.new ((w.alloc (.cells (wvs s).toArray 132)).alloc (.cells (z32.map byt).toArray 91)) (z32.map byt) 91
    rw [show ((w.alloc (.cells (wvs s).toArray 132)).alloc (.cells (z32.map byt).toArray 91)).heap.size = w.heap.size + 1 + 1 by simp] at b2
    exact ⟨((Blk.new w _ _).alloc _).alloc _, b1.alloc _, b2, (bel_two w _ _ _ ⟨rfl, rfl, rfl, rfl⟩).alloc (by simp; omega) _⟩
  obtain ⟨D, hD⟩ : ∃ D, digOf s = D := ⟨_, rfl⟩
  have h32 : D.length = 32 := by rw [← hD]; exact digOf_length s
  have hsz := info41 D h32
  rw [hD]
  have HD : Lk (digOf s) D := ⟨hD⟩
  have H32 := hide h32
  clear hD h32
  have s1 : (w.alloc (.cells (wvs s).toArray 132)).heap.size = w.heap.size + 1 := by simp
  have s2 : ((w.alloc (.cells (wvs s).toArray 132)).alloc (.cells (z32.map byt).toArray 91)).heap.size = w.heap.size + 1 + 1 := by simp
  have S1 := hide s1
  have S2 := hide s2
  clear s1 s2
  go_enter Tryd.func72, Tryd.ntmps72
  go_wp2_with (first
    | (refine wpList_boxAt rfl 132 _ rfl (wvs s) rfl w.heap.size rfl ?_)
    | (refine wpList_newAt rfl 91 rfl (z32.map byt) zero41 (w.heap.size + 1) S1.out ?_)
    | (refine wpList_newAt rfl 91 rfl (z32.map byt) zero41 (w.heap.size + 1 + 1) S2.out ?_; clear S1 S2; generalize ((w.alloc (.cells (wvs s).toArray 132)).alloc (.cells (z32.map byt).toArray 91)).alloc (.cells (z32.map byt).toArray 91) = w0 at hF ⊢)
    | fail)
  go_loopw [4] (fun i wr => ∃ n : Nat, n ≤ 8 ∧ i = .int .i64 (n : Int) ∧ Hid (Bo w wr s (dgs s n))) (fun i _ => 8 - (intOf i).toNat)
  case atStart => exact ⟨0, by omega, rfl, hF⟩
  case round =>
    obtain ⟨n, hn, rfl, hx⟩ := hrel
    by_cases hlt : n < 8
    · have hlz : (n : Int) < 8 := by omega
      have hc : wr.cell? ⟨w.heap.size, n, none⟩ = some (.int .u32 (wn (s.getD n 0))) := by rw [hx.out.st.cell, wvs_at s n (by rw [HS.out]; exact hlt)]
      obtain ⟨x, hX⟩ : ∃ x, s.getD n 0 = x := ⟨_, rfl⟩
      have HX : Lk (s.getD n 0) x := ⟨hX⟩
      rw [hX] at hc
      clear hX
      go_wp2
      have hx0 : Hid (Bo w wr s (bys (dgs s n) n x 0)) := hx
      clear hx
      go_loopw [5, 6] (fun v i wx => ∃ j : Nat, j ≤ 4 ∧ i = .int .i64 (3 - (j : Int)) ∧ v = .int .u32 (vq x j) ∧ Hid (Bo w wx s (bys (dgs s n) n x j))) (fun _ i _ => (intOf i + 1).toNat)
      case atStart => exact ⟨0, by omega, rfl, by rw [vq_zero], hx0⟩
      case round =>
        obtain ⟨j, hj, rfl, rfl, hy⟩ := hrel
        by_cases hj4 : j < 4
        · have hz : (0 : Int) ≤ 3 - (j : Int) := by omega
          obtain ⟨p, hp⟩ : ∃ p, 4 * n + 3 - j = p := ⟨_, rfl⟩
          have hpz : 4 * (n : Int) + (3 - (j : Int)) = (p : Int) := by omega
          have hp32 : p < 32 := by omega
          have hpi : (p : Int) < 32 := by omega
          have hr := vq_rem x j
          have hq := vq_quo x j
          have hv0 := vq_nonneg x j
          have hv1 := vq_lt x j
          have hu0 : IntKind.u8.wrap ((bo x (256 ^ j)).toNat : Int) = ((bo x (256 ^ j)).toNat : Int) := wraps_u8 _ (Int.natCast_nonneg _) (by have := (bo x (256 ^ j)).toNat_lt; omega)
          have hc2 : ∃ v, wr.cell? ⟨w.heap.size + 1 + 1, p, none⟩ = some v := ⟨_, by rw [hy.out.bl.cell, byts_at _ _ (by rw [bys_length, dgs_length]; exact hp32)]⟩
          obtain ⟨v2, hc2⟩ := hc2
          have hfz := hy.out.bl.frozen p
          have hnx : Hid (Bo w (wr.setCell ⟨w.heap.size + 1 + 1, p, none⟩ (.int .u8 ((bo x (256 ^ j)).toNat : Int))) s (bys (dgs s n) n x (j + 1))) := by
            have := hy.out.set p (bo x (256 ^ j))
            rw [← hp] at this ⊢
            exact this
          have hwv : IntKind.u32.wrap (vq x (j + 1)) = vq x (j + 1) := by
            have h1 := vq_nonneg x (j + 1)
            have h2 := vq_lt x (j + 1)
            rw [IntKind.wrap_u32]; omega
          generalize bo x (256 ^ j) = u at *
          generalize vq x j = V0 at *
          obtain ⟨V1, HV1⟩ : ∃ V1, Lk (vq x (j + 1)) V1 := ⟨_, ⟨rfl⟩⟩
          rw [HV1.h] at hq hwv
          clear hp
          go_wp2
          go_roundw
          case rel => exact ⟨j + 1, by omega, by go_num, by rw [HV1.h], hnx⟩
          case measure => simp [intOf]; omega
        · obtain rfl : j = 4 := by omega
          rw [bys4, ← HX.h] at hy
          generalize vq x 4 = V4
          rw [show (3 : Int) - ((4 : Nat) : Int) = -1 from rfl]
          go_wp2
          go_roundw
          case rel =>
            exact ⟨n + 1, by omega, by go_num, hy⟩
          case measure => simp [intOf]; omega
    · obtain rfl : n = 8 := by omega
      have hx8 : Hid (Bo w wr s D) := by rw [← HD.h]; exact hx
      clear hx
      go_wp2_with (first
        | (refine wpList_load_row rfl 91 (.tmp 3) rfl (w.heap.size + 1 + 1) rfl 91 (D.map byt).toArray (0, 0) _ hx8.out.bl Tryd.underlying91 rfl hsz ?_)
        | (refine wpList_store_row rfl 91 (.tmp 2) (.tmp 28) rfl (w.heap.size + 1) (D.map byt).toArray rfl rfl 91 (z32.map byt).toArray hx8.out.re hsz (by rw [List.size_toArray, List.size_toArray, List.length_map, List.length_map, H32.out]; rfl) (byts_one _) ?_))
      refine bodyPost_ret (v := .agg (D.map byt).toArray) ?_ rfl ⟨rfl, below_setRow hx8.out.be _ _ (by omega)⟩
      exact results_cell_row Tryd.results72 _ _ (w.heap.size + 1) 91 _ (0, 0) _ rfl (hx8.out.re.setRow _) Tryd.underlying91 rfl hsz
end Go.Proofs.YtiefgmgjlhjjhaaDoor
