import Derived.Test.YtiefgmgjlhjjhaaDoorRefa
namespace Go.Proofs.YtiefgmgjlhjjhaaDoor
open Go.RowKit

theorem zero41 (w : World) : (zeroValue 91).run Tryd.prog w = .ok (.agg (z32.map byt).toArray) w := by
  rw [Tryd.zeroValue91]; rfl
theorem info41 (L : List UInt8) (hl : L.length = 32) : (Tryd.prog.info? 91).map (·.size) = some (L.map byt).toArray.size := by
  rw [List.size_toArray, List.length_map, hl]; kernel_rfl

/-- An equation that the walk does not look into. -/
structure Lk {α : Type} (a b : α) : Prop where
  h : a = b

/-- What is left of a word, and the byte that goes. -/
def vq (x : BitVec 32) (j : Nat) : Int := wn x / ((256 ^ j : Nat) : Int)
theorem vq_zero (x : BitVec 32) : vq x 0 = wn x := by simp [vq]
theorem vq_nonneg (x : BitVec 32) (j : Nat) : 0 ≤ vq x j := Int.ediv_nonneg (wn_nonneg x) (Int.natCast_nonneg _)
theorem vq_lt (x : BitVec 32) (j : Nat) : vq x j < 4294967296 := Int.lt_of_le_of_lt (Int.ediv_le_self _ (wn_nonneg x)) (wn_lt x)
theorem vq_rem (x : BitVec 32) (j : Nat) : (vq x j).tmod 256 = ((bo x (256 ^ j)).toNat : Int) := by
  rw [Int.tmod_eq_emod_of_nonneg (vq_nonneg x j)]
  exact bo_wn x (256 ^ j)
theorem vq_quo (x : BitVec 32) (j : Nat) : (vq x j).tdiv 256 = vq x (j + 1) := by
  rw [Int.tdiv_eq_ediv_of_nonneg (vq_nonneg x j)]
  unfold vq
  rw [Int.ediv_ediv_of_nonneg (Int.natCast_nonneg _), Nat.pow_succ]
  rfl
def bys (L : List UInt8) (i : Nat) (x : BitVec 32) : Nat → List UInt8
  | 0 => L
  | j + 1 => (bys L i x j).set (4 * i + 3 - j) (bo x (256 ^ j))
theorem bys_length (L : List UInt8) (i : Nat) (x : BitVec 32) : ∀ j, (bys L i x j).length = L.length
  | 0 => rfl
  | j + 1 => by rw [bys, List.length_set, bys_length L i x j]
theorem sets4 (L : List UInt8) (p0 p1 p2 p3 : Nat) (a b c d : UInt8) (h01 : p0 ≠ p1) (h02 : p0 ≠ p2) (h03 : p0 ≠ p3) (h12 : p1 ≠ p2) (h13 : p1 ≠ p3) (h23 : p2 ≠ p3) :
    (((L.set p3 d).set p2 c).set p1 b).set p0 a = (((L.set p0 a).set p1 b).set p2 c).set p3 d := by
  apply List.ext_getElem?
  intro j
  simp only [List.getElem?_set, List.length_set]
  by_cases e0 : p0 = j
  · subst e0; simp [h01.symm, h02.symm, h03.symm]
  · by_cases e1 : p1 = j
    · subst e1; simp [e0, h12.symm, h13.symm]
    · by_cases e2 : p2 = j
      · subst e2; simp [e0, e1, h23.symm]
      · simp [e0, e1, e2]
theorem bys4 (L : List UInt8) (i : Nat) (x : BitVec 32) : bys L i x 4 = put4 L i x := by
  unfold put4
  rw [← sets4 L (4 * i) (4 * i + 1) (4 * i + 2) (4 * i + 3) _ _ _ _ (by omega) (by omega) (by omega) (by omega) (by omega) (by omega)]
  simp only [bys]
  rw [show 4 * i + 3 - 0 = 4 * i + 3 by omega, show 4 * i + 3 - 1 = 4 * i + 2 by omega, show 4 * i + 3 - 2 = 4 * i + 1 by omega, show 4 * i + 3 - 3 = 4 * i by omega]

/-- The blocks of the document's 'bytesOf'. -/
structure Bo (w x : World) (s : List (BitVec 32)) (L : List UInt8) : Prop where
  st : Blk x w.heap.size (wvs s) 132
  re : Blk x (w.heap.size + 1) (z32.map byt) 91
  bl : Blk x (w.heap.size + 1 + 1) (L.map byt) 91
  be : Below w.heap.size w x
theorem Bo.set {w x : World} {s : List (BitVec 32)} {L : List UInt8} (h : Bo w x s L) (j : Nat) (u : UInt8) : Bo w (x.setCell ⟨w.heap.size + 1 + 1, j, none⟩ (.int .u8 (u.toNat : Int))) s (L.set j u) :=
  ⟨h.st.setOther _ _ _ (by omega), h.re.setOther _ _ _ (by omega), by rw [← byts_set]; exact h.bl.set j _, h.be.setCell (by show _ ≤ w.heap.size + 1 + 1; omega) _⟩

set_option maxHeartbeats 400000 in
set_option maxRecDepth 100000 in
theorem rbytes_any (s : List (BitVec 32)) (hs : s.length = 8) (w : World) : Calls Tryd.prog 72 #[.agg (wvs s).toArray] w fun e w' => e = .returned (.agg ((digOf s).map byt).toArray) ∧ Below w.heap.size w w' := by
  have HS := hide hs
  clear hs
  have hF : Hid (Bo w (((w.alloc (.cells (wvs s).toArray 132)).alloc (.cells (z32.map byt).toArray 91)).alloc (.cells (z32.map byt).toArray 91)) s (dgs s 0)) := by
    have b1 := Blk.new (w.alloc (.cells (wvs s).toArray 132)) (z32.map byt) 91
    rw [show (w.alloc (.cells (wvs s).toArray 132)).heap.size = w.heap.size + 1 by simp] at b1
    have b2 := Blk.new ((w.alloc (.cells (wvs s).toArray 132)).alloc (.cells (z32.map byt).toArray 91)) (z32.map byt) 91
    rw [show ((w.alloc (.cells (wvs s).toArray 132)).alloc (.cells (z32.map byt).toArray 91)).heap.size = w.heap.size + 1 + 1 by simp] at b2
    exact ⟨((Blk.new w _ _).alloc _).alloc _, b1.alloc _, b2, (bel_two w _ _ _ ⟨rfl, rfl, rfl, rfl⟩).alloc (by simp; omega) _⟩
  obtain ⟨D, hD⟩ : ∃ D, digOf s = D := ⟨_, rfl⟩
  have h32 : D.length = 32 := by rw [← hD]; exact digOf_length s
  have hsz := info41 D h32
  rw [hD]
  have HD : Lk (digOf s) D := ⟨hD⟩
  have H32 := hide h32
  clear hD h32
  have s1 : (w.alloc (.cells (wvs s).toArray 132)).heap.size = w.heap.size + 1 := by simp
  have s2 : ((w.alloc (.cells (wvs s).toArray 132)).alloc (.cells (z32.map byt).toArray 91)).heap.size = w.heap.size + 1 + 1 := by simp
  have S1 := hide s1
  have S2 := hide s2
  clear s1 s2
  go_enter Tryd.func72, Tryd.ntmps72
  go_wp2_with (first
    | (refine wpList_boxAt rfl 132 _ rfl (wvs s) rfl w.heap.size rfl ?_)
    | (refine wpList_newAt rfl 91 rfl (z32.map byt) zero41 (w.heap.size + 1) S1.out ?_)
    | (refine wpList_newAt rfl 91 rfl (z32.map byt) zero41 (w.heap.size + 1 + 1) S2.out ?_; clear S1 S2; generalize ((w.alloc (.cells (wvs s).toArray 132)).alloc (.cells (z32.map byt).toArray 91)).alloc (.cells (z32.map byt).toArray 91) = w0 at hF ⊢)
    | fail)
  go_loopw [4] (fun i wr => ∃ n : Nat, n ≤ 8 ∧ i = .int .i64 (n : Int) ∧ Hid (Bo w wr s (dgs s n))) (fun i _ => 8 - (intOf i).toNat)
  case atStart => exact ⟨0, by omega, rfl, hF⟩
  case round =>
    obtain ⟨n, hn, rfl, hx⟩ := hrel
    by_cases hlt : n < 8
    · have hlz : (n : Int) < 8 := by omega
      have hc : wr.cell? ⟨w.heap.size, n, none⟩ = some (.int .u32 (wn (s.getD n 0))) := by rw [hx.out.st.cell, wvs_at s n (by rw [HS.out]; exact hlt)]
      obtain ⟨x, hX⟩ : ∃ x, s.getD n 0 = x := ⟨_, rfl⟩
      have HX : Lk (s.getD n 0) x := ⟨hX⟩
      rw [hX] at hc
      clear hX
      go_wp2
      have hx0 : Hid (Bo w wr s (bys (dgs s n) n x 0)) := hx
      clear hx
      go_loopw [5, 6] (fun v i wx => ∃ j : Nat, j ≤ 4 ∧ i = .int .i64 (3 - (j : Int)) ∧ v = .int .u32 (vq x j) ∧ Hid (Bo w wx s (bys (dgs s n) n x j))) (fun _ i _ => (intOf i + 1).toNat)
      case atStart => exact ⟨0, by omega, rfl, by rw [vq_zero], hx0⟩
      case round =>
        obtain ⟨j, hj, rfl, rfl, hy⟩ := hrel
        by_cases hj4 : j < 4
        · have hz : (0 : Int) ≤ 3 - (j : Int) := by omega
          obtain ⟨p, hp⟩ : ∃ p, 4 * n + 3 - j = p := ⟨_, rfl⟩
          have hpz : 4 * (n : Int) + (3 - (j : Int)) = (p : Int) := by omega
          have hp32 : p < 32 := by omega
          have hpi : (p : Int) < 32 := by omega
          have hr := vq_rem x j
          have hq := vq_quo x j
          have hv0 := vq_nonneg x j
          have hv1 := vq_lt x j
          have hu0 : IntKind.u8.wrap ((bo x (256 ^ j)).toNat : Int) = ((bo x (256 ^ j)).toNat : Int) := wraps_u8 _ (Int.natCast_nonneg _) (by have := (bo x (256 ^ j)).toNat_lt; omega)
          have hc2 : ∃ v, wr.cell? ⟨w.heap.size + 1 + 1, p, none⟩ = some v := ⟨_, by rw [hy.out.bl.cell, byts_at _ _ (by rw [bys_length, dgs_length]; exact hp32)]⟩
          obtain ⟨v2, hc2⟩ := hc2
          have hfz := hy.out.bl.frozen p
          have hnx : Hid (Bo w (wr.setCell ⟨w.heap.size + 1 + 1, p, none⟩ (.int .u8 ((bo x (256 ^ j)).toNat : Int))) s (bys (dgs s n) n x (j + 1))) := by
            have := hy.out.set p (bo x (256 ^ j))
            rw [← hp] at this ⊢
            exact this
          have hwv : IntKind.u32.wrap (vq x (j + 1)) = vq x (j + 1) := by
            have h1 := vq_nonneg x (j + 1)
            have h2 := vq_lt x (j + 1)
            rw [IntKind.wrap_u32]; omega
          generalize bo x (256 ^ j) = u at *
          generalize vq x j = V0 at *
          obtain ⟨V1, HV1⟩ : ∃ V1, Lk (vq x (j + 1)) V1 := ⟨_, ⟨rfl⟩⟩
          rw [HV1.h] at hq hwv
          clear hp
          go_wp2
          go_roundw
          case rel => exact ⟨j + 1, by omega, by go_num, by rw [HV1.h], hnx⟩
          case measure => simp [intOf]; omega
        · obtain rfl : j = 4 := by omega
          rw [bys4, ← HX.h] at hy
          generalize vq x 4 = V4
          rw [show (3 : Int) - ((4 : Nat) : Int) = -1 from rfl]
          go_wp2
          go_roundw
          case rel =>
            exact ⟨n + 1, by omega, by go_num, hy⟩
          case measure => simp [intOf]; omega
    · obtain rfl : n = 8 := by omega
      have hx8 : Hid (Bo w wr s D) := by rw [← HD.h]; exact hx
      clear hx
      go_wp2_with (first
        | (refine wpList_load_row rfl 91 (.tmp 3) rfl (w.heap.size + 1 + 1) rfl 91 (D.map byt).toArray (0, 0) _ hx8.out.bl Tryd.underlying91 rfl hsz ?_)
        | (refine wpList_store_row rfl 91 (.tmp 2) (.tmp 28) rfl (w.heap.size + 1) (D.map byt).toArray rfl rfl 91 (z32.map byt).toArray hx8.out.re hsz (by rw [List.size_toArray, List.size_toArray, List.length_map, List.length_map, H32.out]; rfl) (byts_one _) ?_))
      refine bodyPost_ret (v := .agg (D.map byt).toArray) ?_ rfl ⟨rfl, below_setRow hx8.out.be _ _ (by omega)⟩
      exact results_cell_row Tryd.results72 _ _ (w.heap.size + 1) 91 _ (0, 0) _ rfl (hx8.out.re.setRow _) Tryd.underlying91 rfl hsz
end Go.Proofs.YtiefgmgjlhjjhaaDoor
