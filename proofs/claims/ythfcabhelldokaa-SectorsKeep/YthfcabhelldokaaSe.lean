import Derived.Test.YthfcabhelldokaaFl
set_option linter.unusedVariables false
set_option linter.unusedSimpArgs false
namespace Go.Proofs.Ythfcabhelldokaa
open Go.RowKit

/-- A sector while it is filled. -/
def secT (f : UInt8) (b : List UInt8) : Nat → List UInt8
  | 0 => List.replicate 512 0
  | t + 1 => (secT f b t).set t (if t < b.length then b.getD t 0 else f)
theorem secT_length (f : UInt8) (b : List UInt8) : ∀ t, (secT f b t).length = 512
  | 0 => by rw [secT, List.length_replicate]
  | t + 1 => by rw [secT, List.length_set, secT_length f b t]
/-- Full of a byte, begun with others. -/
def secL (f : UInt8) (b : List UInt8) : List UInt8 := secT f b 512
theorem secT_at (f : UInt8) (b : List UInt8) : ∀ t, t ≤ 512 → ∀ j, j < t → (secT f b t)[j]? = some (if j < b.length then b.getD j 0 else f)
  | 0, _, j, h => by omega
  | t + 1, ht, j, h => by
    rw [secT]
    by_cases hj : t = j
    · subst hj; rw [List.getElem?_set_self (by rw [secT_length]; omega)]
    · rw [List.getElem?_set_ne hj]; exact secT_at f b t (by omega) j (by omega)
theorem secL_length (f : UInt8) (b : List UInt8) : (secL f b).length = 512 := secT_length f b 512
theorem secL_full (f : UInt8) : secL f [] = List.replicate 512 f := by
  refine List.ext_getElem? fun j => ?_
  rcases Nat.lt_or_ge j 512 with h | h
  · rw [secL, secT_at f [] 512 (Nat.le_refl _) j h, List.getElem?_replicate_of_lt h, if_neg (by simp)]
  · rw [List.getElem?_eq_none (by rw [secL_length]; exact h), List.getElem?_eq_none (by rw [List.length_replicate]; exact h)]
theorem idx34 (ad : Addr) (n cap m : Nat) (h : m < n) (W : World) : (Instr.indexAt 34 (.slice (some ad) n cap) (.int .i64 (m : Int))).run Try.prog W = .ok (.pointer (some (ad.add m))) W := by
  have hm : (m : Int) < (n : Int) := by omega
  go_simp
  try simp
theorem idx34b (g n cap m : Nat) (h : m < n) (W : World) : (Instr.indexAt 34 (.slice (some ⟨g, 0, none⟩) n cap) (.int .i64 (m : Int))).run Try.prog W = .ok (.pointer (some ⟨g, m, none⟩)) W := by
  rw [idx34 ⟨g, 0, none⟩ n cap m h W, add_plain]
theorem byts_set (L : List UInt8) (j : Nat) (u : UInt8) : (L.map byt).set j (.int .u8 (u.toNat : Int)) = (L.set j u).map byt := by
  rw [List.map_set]; rfl
theorem alloc_set (w : World) (L : List UInt8) (g j : Nat) (u : UInt8) (h : w.heap.size = g) : (w.alloc (.cells (L.map byt).toArray 5)).setCell ⟨g, j, none⟩ (.int .u8 (u.toNat : Int)) = w.alloc (.cells ((L.set j u).map byt).toArray 5) := by
  rw [← h, alloc_setCell, byts_set]

set_option maxRecDepth 100000 in
set_option maxHeartbeats 2000000 in
theorem sector_any (f : UInt8) (vb : Value) (b : List UInt8) (hbl : b.length < 9223372036854775808) (w : World) (hv : Has w vb b) : Calls Try.prog 13 #[.int .u8 (f.toNat : Int), vb] w fun e w' =>
    e = .returned (.slice (some ⟨w.heap.size, 0, none⟩) 512 512) ∧ w' = w.alloc (.cells ((secL f b).map byt).toArray 5) := by
  have hmk := run_mk34 w 512 (by omega)
  rw [show ((512 : Nat) : Int) = 512 from rfl] at hmk
  have hlen := hv.len
  have HV := hide hv
  clear hv
  obtain ⟨g, hg⟩ : ∃ g, w.heap.size = g := ⟨_, rfl⟩
  obtain ⟨w1, hw1⟩ : ∃ w1, w.alloc (.cells ((List.replicate 512 (0 : UInt8)).map byt).toArray 5) = w1 := ⟨_, rfl⟩
  rw [hw1, hg] at hmk
  rw [hg]
  have HW1 := hide hw1
  clear hw1
  obtain ⟨m, hm⟩ : ∃ m, b.length = m := ⟨_, rfl⟩
  rw [hm] at hlen
  go_enter Try.func13, Try.ntmps13
  go_wp2
  go_loopw [6] (fun i wr => ∃ t : Nat, t ≤ 512 ∧ i = .int .i64 t ∧ Hid (wr = w.alloc (.cells ((secT f b t).map byt).toArray 5))) (fun i _ => 512 - (intOf i).toNat)
  case atStart => exact ⟨0, by omega, rfl, hide (by rw [← HW1.out]; rfl)⟩
  case round =>
    obtain ⟨t, ht, rfl, hs⟩ := hrel
    by_cases hlt : t < 512
    · have hlz : (t : Int) < 512 := by omega
      have B0 : Blk wr g ((secT f b t).map byt) 5 := by rw [hs.out]; exact Blk.newAt hg
      have hol : ((secT f b t).map byt)[t]? = some (byt ((secT f b t).getD t 0)) := by simp [List.getElem?_eq_getElem (show t < (secT f b t).length by rw [secT_length]; exact hlt)]
      have hold := (B0.cell t).trans hol
      have hfz := B0.frozen t
      have hix := fun W => idx34b g 512 512 t hlt W
      have B1 := B0.set t (.int .u8 (f.toNat : Int))
      have e1 : wr.setCell ⟨g, t, none⟩ (.int .u8 (f.toNat : Int)) = w.alloc (.cells (((secT f b t).set t f).map byt).toArray 5) := by rw [hs.out]; exact alloc_set w _ g t f hg
      obtain ⟨w2, hw2⟩ : ∃ w2, wr.setCell ⟨g, t, none⟩ (.int .u8 (f.toNat : Int)) = w2 := ⟨_, rfl⟩
      rw [hw2] at B1 e1
      by_cases hb : t < m
      · have hbz : (t : Int) < (m : Int) := by omega
        obtain ⟨ad, cap, rfl, hcells⟩ : ∃ ad cap, vb = .slice (some ad) m cap ∧ ∀ i u, b[i]? = some u → w.cell? (ad.add i) = some (byt u) := by
          rcases HV.out with ⟨_, h⟩ | ⟨ad, cap, h1, _, h3⟩
          · rw [h] at hm; simp at hm; omega
          · exact ⟨ad, cap, by rw [h1, hm], h3⟩
        obtain ⟨u, hu⟩ : ∃ u, b.getD t 0 = u := ⟨_, rfl⟩
        have hsrc0 := hcells t u (by rw [← hu, List.getD_eq_getElem?_getD, List.getElem?_eq_getElem (by omega)]; rfl)
        have hsrc : w2.cell? (ad.add t) = some (.int .u8 (u.toNat : Int)) := by
          rw [e1]
          exact ((below_new w _).cell (cell_lt hsrc0)).trans hsrc0
        have hixb := fun W => idx34 ad m cap t hb W
        have hold2 := (B1.cell t).trans (show ((((secT f b t).map byt).set t (.int .u8 (f.toNat : Int)))[t]? = some (.int .u8 (f.toNat : Int))) by rw [List.getElem?_set_self (by rw [List.length_map, secT_length]; exact hlt)])
        have hfz2 := B1.frozen t
        have E1 := hide e1
        have HU := hide hu
        clear hcells hs B0 B1 e1 hol hu hsrc0
        go_wp2
        go_roundw
        case rel =>
          refine ⟨t + 1, by omega, by go_num, hide ?_⟩
          rw [E1.out, alloc_set w _ g t u hg, List.set_set, secT, if_pos (by omega), HU.out]
        case measure => simp [intOf]; omega
      · have hbz : ¬ (t : Int) < (m : Int) := by omega
        have E1 := hide e1
        clear hs B0 B1 e1 hol
        go_wp2
        go_roundw
        case rel =>
          refine ⟨t + 1, by omega, by go_num, hide ?_⟩
          rw [E1.out, secT, if_neg (by omega)]
        case measure => simp [intOf]; omega
    · obtain rfl : t = 512 := by omega
      have HS := hide hs.out
      clear hs
      go_wp2
      go_ret
      exact ⟨rfl, HS.out⟩
end Go.Proofs.Ythfcabhelldokaa
