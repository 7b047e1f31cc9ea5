import Derived.Test.YtdkgngmbohdmdaaDoorLaw
import Derived.Test.YtdkgngmbohdmdaaDoorRegH
namespace Go.Proofs.YtdkgngmbohdmdaaDoor
open Go.RowKit

set_option maxHeartbeats 1000000 in
set_option maxRecDepth 100000 in
theorem lbegin_any (w : World) : Calls Tryd.prog 18 #[] w fun e w' => e = .returned (.agg (wvs iv).toArray) ∧ Below w.heap.size w w' := by
  have hsz := info39 iv iv_length
  go_enter Tryd.func18, Tryd.ntmps18
  go_wp2_with (first
    | (refine wpList_newAt rfl 39 rfl (wvs z8) zero39 w.heap.size rfl ?_)
    | (refine wpList_plain rfl fun K hK => ?_; refine wp_build 39 _ rfl (by rw [show _ = some (wvs iv).toArray from built39]; rfl) ?_; rw [show Tryd.prog.built 39 _ = some (wvs iv).toArray from built39]; refine hK _ _ ?_; clear hK K)
    | (refine wpList_store_row rfl 39 (.tmp 0) (.tmp 1) rfl w.heap.size (wvs iv).toArray rfl rfl 39 (wvs z8).toArray (Blk.new w _ _) hsz rfl (wvs_one _) ?_))
  refine bodyPost_ret (v := .agg (wvs iv).toArray) ?_ rfl ⟨rfl, below_setRow ((Below.refl _ _).alloc (Nat.le_refl _) _) _ _ (Nat.le_refl _)⟩
  exact results_cell_row Tryd.results18 _ _ w.heap.size 39 _ (0, 0) _ rfl ((Blk.new w _ _).setRow _) Tryd.underlying39 rfl hsz

/-- The blocks of 'digest': the state's, the result's, the digest's. -/
structure Dl (w wx : World) (s : List (BitVec 32)) (L : List UInt8) : Prop where
  st : Blk wx w.heap.size (wvs s) 39
  dg : Dg w wx (w.heap.size + 1) (w.heap.size + 1 + 1) L
theorem Dl.set {w wx : World} {s : List (BitVec 32)} {L : List UInt8} (h : Dl w wx s L) (j : Nat) (u : UInt8) : Dl w (wx.setCell ⟨w.heap.size + 1 + 1, j, none⟩ (.int .u8 (u.toNat : Int))) s (L.set j u) :=
  ⟨h.st.setOther _ _ _ (by omega), h.dg.set j u⟩

set_option maxHeartbeats 2000000 in
set_option maxRecDepth 100000 in
theorem ldigest_any (s : List (BitVec 32)) (hs : s.length = 8) (w : World) :
    Calls Tryd.prog 20 #[.agg (wvs s).toArray] w fun e w' => e = .returned (.agg ((digOf s).map byt).toArray) ∧ Below w.heap.size w w' := by
  have HS := hide hs
  clear hs
  go_enter Tryd.func20, Tryd.ntmps20
  go_wp2_with (first
    | (refine wpList_boxAt rfl 39 _ rfl (wvs s) rfl w.heap.size rfl ?_)
    | (refine wpList_new rfl 24 rfl (z32.map byt) zero24 ?_))
  have h0 : Hid (Dl w (((w.alloc (.cells (wvs s).toArray 39)).alloc (.cells (z32.map byt).toArray 24)).alloc (.cells (z32.map byt).toArray 24)) s (dgs s 0)) := by
    have b1 : Blk (((w.alloc (.cells (wvs s).toArray 39)).alloc (.cells (z32.map byt).toArray 24)).alloc (.cells (z32.map byt).toArray 24)) (w.heap.size + 1) (z32.map byt) 24 := by
      have := (Blk.new (w.alloc (.cells (wvs s).toArray 39)) (z32.map byt) 24).alloc (.cells (z32.map byt).toArray 24)
      rwa [show (w.alloc (.cells (wvs s).toArray 39)).heap.size = w.heap.size + 1 by simp] at this
    have b2 : Blk (((w.alloc (.cells (wvs s).toArray 39)).alloc (.cells (z32.map byt).toArray 24)).alloc (.cells (z32.map byt).toArray 24)) (w.heap.size + 1 + 1) (z32.map byt) 24 := by
      have := Blk.new ((w.alloc (.cells (wvs s).toArray 39)).alloc (.cells (z32.map byt).toArray 24)) (z32.map byt) 24
      rwa [show ((w.alloc (.cells (wvs s).toArray 39)).alloc (.cells (z32.map byt).toArray 24)).heap.size = w.heap.size + 1 + 1 by simp] at this
    exact ⟨((Blk.new w _ _).alloc _).alloc _, b1, b2, ((((Below.refl w.heap.size w).alloc (Nat.le_refl _) _).alloc (by simp) _).alloc (by simp; omega) _), by omega, by omega⟩
  go_loopw [4] (fun i wr => ∃ k : Nat, k ≤ 8 ∧ i = .int .i64 k ∧ Hid (Dl w wr s (dgs s k))) (fun i _ => 8 - (intOf i).toNat)
  case atStart => exact ⟨0, by omega, rfl, h0⟩
  case round =>
    obtain ⟨k, hk, rfl, hx⟩ := hrel
    by_cases hlt : k < 8
    · have hlz : (k : Int) < 8 := by omega
      have hll := dgs_length s k
      have hcx : wr.cell? ⟨w.heap.size, k, none⟩ = some (.int .u32 (wn (s.getD k 0))) := by
        rw [hx.out.st.cell, wvs_at s k (by rw [HS.out]; exact hlt)]
      obtain ⟨L, hL⟩ : ∃ L, L = dgs s k := ⟨_, rfl⟩
      obtain ⟨x, hX⟩ : ∃ x, x = s.getD k 0 := ⟨_, rfl⟩
      rw [← hL] at hx hll
      rw [← hX] at hcx
      obtain ⟨v0, c0⟩ := hx.out.dg.byte (4 * k) (by omega)
      obtain ⟨v1, c1⟩ := hx.out.dg.byte (4 * k + 1) (by omega)
      obtain ⟨v2, c2⟩ := hx.out.dg.byte (4 * k + 2) (by omega)
      obtain ⟨v3, c3⟩ := hx.out.dg.byte (4 * k + 3) (by omega)
      have f0 := hx.out.dg.di.frozen (4 * k)
      have f1 := hx.out.dg.di.frozen (4 * k + 1)
      have f2 := hx.out.dg.di.frozen (4 * k + 2)
      have f3 := hx.out.dg.di.frozen (4 * k + 3)
      have b0 : wn x / (16777216 : Int) % (256 : Int) = ((bo x 16777216).toNat : Int) := bo_wn x 16777216
      have b1 : wn x / (65536 : Int) % (256 : Int) = ((bo x 65536).toNat : Int) := bo_wn x 65536
      have b2 : wn x / (256 : Int) % (256 : Int) = ((bo x 256).toNat : Int) := bo_wn x 256
      have b3 := bo_one x
      have HL := hide hL
      have HX := hide hX
      clear hL hX hll
      go_wp2
      go_roundw
      case rel =>
        refine ⟨k + 1, by omega, by go_num, ?_⟩
        rw [dgs, put4, ← HL.out, ← HX.out]
        exact (((hx.out.set (4 * k) _).set (4 * k + 1) _).set (4 * k + 2) _).set (4 * k + 3) _
      case measure => simp [intOf]; omega
    · obtain rfl : k = 8 := by omega
      rw [show dgs s 8 = digOf s from rfl] at hx
      have hsz := info24 (digOf s) (digOf_length s)
      go_wp2_with (first
        | (refine wpList_load_row rfl 24 (.tmp 3) rfl (w.heap.size + 1 + 1) rfl 24 ((digOf s).map byt).toArray (0, 0) _ hx.out.dg.di Tryd.underlying24 rfl hsz ?_)
        | (refine wpList_store_row rfl 24 (.tmp 2) (.tmp 43) rfl (w.heap.size + 1) ((digOf s).map byt).toArray rfl rfl 24 (z32.map byt).toArray hx.out.dg.re hsz (by rw [List.size_toArray, List.size_toArray, List.length_map, List.length_map, digOf_length]; rfl) (byts_one _) ?_))
      refine bodyPost_ret (v := .agg ((digOf s).map byt).toArray) ?_ rfl ⟨rfl, below_setRow hx.out.dg.be _ _ (by omega)⟩
      exact results_cell_row Tryd.results20 _ _ (w.heap.size + 1) 24 _ (0, 0) _ rfl (hx.out.dg.re.setRow _) Tryd.underlying24 rfl hsz

theorem be8_small (x : Nat) (h : x ≤ 16000) : be8 x = [0, 0, 0, 0, 0, UInt8.ofNat (x / 65536), UInt8.ofNat (x / 256), UInt8.ofNat x] := by
  have e : ∀ k, 16777216 ≤ k → x / k = 0 := fun k hk => Nat.div_eq_of_lt (by omega)
  simp only [be8, show List.range 8 = [0, 1, 2, 3, 4, 5, 6, 7] from rfl, List.map_cons, List.map_nil]
  rw [e (2 ^ (56 - 8 * 0)) (by decide), e (2 ^ (56 - 8 * 1)) (by decide), e (2 ^ (56 - 8 * 2)) (by decide), e (2 ^ (56 - 8 * 3)) (by decide), e (2 ^ (56 - 8 * 4)) (by decide)]
  simp
end Go.Proofs.YtdkgngmbohdmdaaDoor
