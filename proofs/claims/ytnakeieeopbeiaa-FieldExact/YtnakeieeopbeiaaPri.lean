import Derived.Test.YtnakeieeopbeiaaEqG
set_option linter.unusedVariables false
set_option linter.unusedSimpArgs false
namespace Go.Proofs.Ytnakeieeopbeiaa
open Go.RowKit

def pkl (u : UInt8) : Nat → List UInt8
  | 0 => u :: List.replicate 31 0
  | t + 1 => (pkl u t).set (t + 1) 255
theorem pkl_length (u : UInt8) : ∀ t, (pkl u t).length = 32
  | 0 => by simp [pkl]
  | t + 1 => by rw [pkl, List.length_set, pkl_length u t]
/-- The bytes of the modulus, the lowest one other. -/
def primeK (u : UInt8) : List UInt8 := (pkl u 31).set 31 127
theorem primeK_length (u : UInt8) : (primeK u).length = 32 := by rw [primeK, List.length_set, pkl_length]

theorem sub237 (n : UInt8) (h : n.toNat ≤ 237) : IntKind.u8.wrap ((237 : Int) - (n.toNat : Int)) = ((UInt8.ofNat (237 - n.toNat)).toNat : Int) := by
  rw [IntKind.wrap_u8, UInt8.toNat_ofNat']
  omega
theorem u8_255 : ((255 : UInt8).toNat : Int) = 255 := rfl
theorem u8_127 : ((127 : UInt8).toNat : Int) = 127 := rfl

structure Prst (n : Nat) (w wx : World) (g : Nat) (L : List UInt8) : Prop where
  re : Blk wx n (z32.map byt) 23
  ke : Blk wx g (L.map byt) 23
  be : Below n w wx
  lt : n < g
theorem Prst.set {n : Nat} {w wx : World} {g : Nat} {L : List UInt8} (h : Prst n w wx g L) (j : Nat) (u : UInt8) : Prst n w (wx.setCell ⟨g, j, none⟩ (.int .u8 (u.toNat : Int))) g (L.set j u) :=
  ⟨h.re.setOther _ _ _ (by have := h.lt; omega), by rw [← byt_set]; exact h.ke.set j _, h.be.setCell (by have := h.lt; simp; omega) _, h.lt⟩

set_option maxRecDepth 100000 in
set_option maxHeartbeats 4000000 in
theorem prime_any (n0 : UInt8) (hn0 : n0.toNat ≤ 237) (w : World) :
    Calls Try.prog 13 #[.int .u8 (n0.toNat : Int)] w fun e w' => e = .returned (.agg ((primeK (UInt8.ofNat (237 - n0.toNat))).map byt).toArray) ∧ Below w.heap.size w w' := by
  have hsub := sub237 n0 hn0
  obtain ⟨u, hu⟩ : ∃ u, UInt8.ofNat (237 - n0.toNat) = u := ⟨_, rfl⟩
  rw [hu] at hsub ⊢
  obtain ⟨m, hm⟩ : ∃ m : Int, m = (n0.toNat : Int) := ⟨_, rfl⟩
  rw [← hm] at hsub ⊢
  clear hu hm hn0
  go_enter Try.func13, Try.ntmps13
  go_upto_region 1 with (refine wpList_newAt rfl 23 rfl (z32.map byt) zero23 w.heap.size rfl ?_)
  have b0 : Blk (w.alloc (.cells (z32.map byt).toArray 23)) w.heap.size (z32.map byt) 23 := Blk.new _ _ _
  have be : Below w.heap.size w (w.alloc (.cells (z32.map byt).toArray 23)) := by go_grown
  have hs : (w.alloc (.cells (z32.map byt).toArray 23)).heap.size = w.heap.size + 1 := by simp
  generalize w.alloc (.cells (z32.map byt).toArray 23) = w1 at b0 be hs ⊢
  obtain ⟨n, hn⟩ : ∃ n, w.heap.size = n := ⟨_, rfl⟩
  rw [hn] at b0 be hs ⊢
  have B0 := hide b0
  have BE := hide be
  have HS := hide hs
  clear b0 be hs
  go_upto_region 2 with (first | (refine wpList_newAt rfl 23 rfl (z32.map byt) zero23 (n + 1) HS.out ?_) | (refine wpList_store_row rfl 23 (.tmp 3) (.tmp 7) rfl (n + 1) ((pkl u 0).map byt).toArray rfl rfl 23 (z32.map byt).toArray (HS.out ▸ Blk.new w1 (z32.map byt) 23) (by kernel_rfl) rfl (byts_one _) ?_))
  have h0 : Hid (Prst n w ((w1.alloc (.cells (z32.map byt).toArray 23)).setRow (n + 1) ((pkl u 0).map byt).toArray) (n + 1) (pkl u 0)) := by
    have q := Blk.new w1 (z32.map byt) 23
    rw [HS.out] at q
    exact ⟨(B0.out.alloc _).setRowOther _ _ (by omega), q.setRow _, below_setRow (BE.out.alloc (by have := BE.out.size; omega) _) _ _ (by omega), by omega⟩
  generalize (w1.alloc (.cells (z32.map byt).toArray 23)).setRow (n + 1) ((pkl u 0).map byt).toArray = w2 at h0 ⊢
  clear B0 BE HS
  go_wp2
  go_loopw [4] (fun i wr => ∃ t : Nat, t ≤ 31 ∧ i = .int .i64 ((t : Int) + 1) ∧ Hid (Prst n w wr (n + 1) (pkl u t))) (fun i _ => (32 - (intOf i)).toNat)
  case atStart => exact ⟨0, by omega, rfl, h0⟩
  case round =>
    obtain ⟨t, ht, rfl, hr⟩ := hrel
    have hlen := pkl_length u t
    obtain ⟨L, hL⟩ : ∃ L, pkl u t = L := ⟨_, rfl⟩
    have HL := hide hL
    rw [hL] at hr hlen
    clear hL
    by_cases hlt : t < 31
    · obtain ⟨s, hs⟩ : ∃ s, s = t + 1 := ⟨_, rfl⟩
      have hsi : (t : Int) + 1 = (s : Int) := by omega
      rw [hsi]
      have hs32 : (s : Int) < 32 := by omega
      have hc := hr.out.ke.cell s
      rw [byts_at L s (by omega)] at hc
      have hfz := hr.out.ke.frozen s
      have HSS := hide hs
      clear hsi hs hlen
      go_wp2
      go_roundw
      case rel =>
        refine ⟨t + 1, by omega, by have h := HSS.out; go_num, ?_⟩
        rw [pkl, HL.out, ← HSS.out, ← u8_255]
        exact hr.out.set s 255
      case measure => simp [intOf] <;> omega
    · obtain rfl : t = 31 := by omega
      have hc := hr.out.ke.cell 31
      rw [byts_at L 31 (by omega)] at hc
      have hfz := hr.out.ke.frozen 31
      have hR := hr.out.set 31 127
      have HP : Hid (primeK u = L.set 31 127) := by rw [primeK, HL.out]; exact hide rfl
      have hl2 : (L.set 31 127).length = 32 := by rw [List.length_set]; exact hlen
      rw [u8_127] at hR
      obtain ⟨M, hM⟩ : ∃ M, L.set 31 127 = M := ⟨_, rfl⟩
      rw [hM] at hR HP hl2
      have hsz : (Try.prog.info? 23).map (·.size) = some (M.map byt).length := by rw [List.length_map, hl2]; kernel_rfl
      have HSZ := hide hsz
      have hz : (z32.map byt).toArray.size = (M.map byt).toArray.size := by simp [z32, hl2]
      have HZ := hide hz
      have HR := hide hR
      clear hlen hM hl2 hsz hz hR
      go_wp2_with (first | (refine wpList_load_row rfl 23 (.tmp 3) rfl (n + 1) rfl 23 (M.map byt).toArray (0, 0) _ HR.out.ke Try.underlying23 rfl (by simpa using HSZ.out) ?_) | (refine wpList_store_row rfl 23 (.tmp 2) (.tmp 15) rfl n (M.map byt).toArray rfl rfl 23 (z32.map byt).toArray HR.out.re (by simpa using HSZ.out) HZ.out (byts_one M) ?_))
      refine bodyPost_ret (results_cell_row Try.results13 _ _ n 23 (M.map byt).toArray (0, 0) _ rfl (HR.out.re.setRow _) Try.underlying23 rfl (by simpa using HSZ.out)) rfl ?_
      exact ⟨by rw [HP.out], by rw [hn]; exact below_setRow HR.out.be _ _ (by omega)⟩
end Go.Proofs.Ytnakeieeopbeiaa
