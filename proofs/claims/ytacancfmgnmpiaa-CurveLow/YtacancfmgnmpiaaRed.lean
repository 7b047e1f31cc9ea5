import Derived.Test.YtacancfmgnmpiaaFix
set_option linter.unusedVariables false
set_option linter.unusedSimpArgs false
namespace Go.Proofs.Ytacancfmgnmpiaa
open Go.RowKit

/-- The bytes of the prime, but for the lowest. -/
def fullB (i : Nat) : UInt8 := if i = 31 then 127 else 255
theorem psum_full {k : List UInt8} (h : ∀ i, i < 31 → k.getD (1 + i) 0 = fullB (1 + i)) : psum k 1 31 = 226156424291633194186662080095093570025917938800079226639565593765455331327 := by
  have e : psum k 1 31 = psum ((List.range 32).map fullB) 1 31 := psum_eq 1 31 fun i hi => by
    rw [h i hi, List.getD_eq_getElem?_getD, List.getElem?_map, List.getElem?_range (by omega)]
    rfl
  rw [e]
  decide +kernel
theorem low_of_full {k : List UInt8} (h : ∀ i, i < 31 → k.getD (1 + i) 0 = fullB (1 + i)) (hk : kn k < Prm.P) : (k.getD 0 0).toNat < 237 := by
  have e : kn k = (k.getD 0 0).toNat + 256 * psum k 1 31 := by
    unfold kn
    have h := psum_add k 0 1 31
    rw [show 1 + 31 = 32 from rfl, show 0 + 1 = 1 from rfl] at h
    rw [h]
    simp [psum]
  rw [psum_full h] at e
  unfold Prm.P at hk
  omega

structure Rdc (n : Nat) (w wx : World) (k : List UInt8) : Prop where
  ke : Blk wx n (k.map byt) 24
  be : Below n w wx

set_option maxRecDepth 100000 in
set_option maxHeartbeats 4000000 in
theorem reduced_yes (k : List UInt8) (hk : k.length = 32) (hlt : kn k < Prm.P) (w : World) : Calls Try.prog 15 #[.agg (k.map byt).toArray] w fun e w' => e = .returned (.bool true) ∧ Below w.heap.size w w' := by
  have h31 : (k.getD 31 0).toNat < 128 := by
    have e := kn_ends k
    unfold Prm.P at hlt
    omega
  have hlow : (∀ i, i < 31 → k.getD (1 + i) 0 = fullB (1 + i)) → (k.getD 0 0).toNat < 237 := fun h => low_of_full h hlt
  have hcells : ∀ i, i < 32 → (k.map byt)[i]? = some (.int .u8 ((k.getD i 0).toNat : Int)) := fun i hi => byts_at k i (by omega)
  have HL := hide hlow
  have HC := hide hcells
  clear hlt hlow hcells
  go_enter Try.func15, Try.ntmps15
  go_upto_region 1 with (first | (refine wpList_boxAt rfl 24 (.tmp 0) rfl (k.map byt) rfl (w.heap.size) rfl ?_))
  have h0 : Hid (Rdc w.heap.size w (w.alloc (.cells (k.map byt).toArray 24)) k) := ⟨Blk.new w (k.map byt) 24, by go_grown⟩
  generalize w.alloc (.cells (k.map byt).toArray 24) = w1 at h0 ⊢
  obtain ⟨n, hn⟩ : ∃ n, w.heap.size = n := ⟨_, rfl⟩
  rw [hn] at h0 ⊢
  obtain ⟨t, ht⟩ : ∃ t, (k.getD 31 0).toNat = t := ⟨_, rfl⟩
  have hc31 : w1.cell? ⟨n, 31, none⟩ = some (.int .u8 (t : Int)) := by rw [h0.out.ke.cell, HC.out 31 (by omega), ht]
  have hnot : ¬ (128 : Int) ≤ (t : Int) := by omega
  have HK := hide hk
  clear hk h31 ht
  go_wp2
  clear hc31 hnot
  go_loopw [3] (fun i wr => ∃ j : Nat, j ≤ 31 ∧ i = .int .i64 (31 - (j : Int)) ∧ Hid ((∀ q, q < j → k.getD (31 - q) 0 = fullB (31 - q)) ∧ wr = w1)) (fun i _ => ((intOf i) + 1).toNat)
  case atStart => exact ⟨0, by omega, rfl, ⟨fun q hq => by omega, rfl⟩⟩
  case round =>
    obtain ⟨j, hj, rfl, hs⟩ := hrel
    obtain ⟨hf, hwr⟩ := hs.out
    subst hwr
    by_cases hlt : j < 31
    · obtain ⟨b, hb⟩ : ∃ b, b = 31 - j := ⟨_, rfl⟩
      have hbi : (31 : Int) - (j : Int) = (b : Int) := by omega
      rw [hbi]
      have hb0 : (0 : Int) < (b : Int) := by omega
      have hb32 : (b : Int) < 32 := by omega
      obtain ⟨y, hy⟩ : ∃ y, k.getD b 0 = y := ⟨_, rfl⟩
      have hcell : wr.cell? ⟨n, b, none⟩ = some (.int .u8 (y.toNat : Int)) := by rw [h0.out.ke.cell, HC.out b (by omega), hy]
      have HF := hide hf
      have HB := hide hb
      have HY := hide hy
      clear hf hb hy hbi
      by_cases h1 : b = 31
      · subst h1
        by_cases h2 : y.toNat = 127
        · have h2' : (y.toNat : Int) = 127 := by omega
          rw [h2'] at hcell
          go_wp2
          go_roundw
          case rel =>
            refine ⟨j + 1, by omega, by have hbb := HB.out; go_num, ⟨fun q hq => ?_, by first | rfl | trivial⟩⟩
            by_cases hqj : q = j
            · rw [hqj, ← HB.out, HY.out]
              exact UInt8.toNat_inj.1 h2
            · exact HF.out q (by omega)
          case measure => simp [intOf] <;> omega
        · have h2' : ¬ (y.toNat : Int) = 127 := by omega
          go_wp2
          go_ret
          exact ⟨rfl, by first | (rw [hn]; exact h0.out.be) | exact h0.out.be⟩
      · have h1' : ¬ (b : Int) = 31 := by omega
        by_cases h2 : y.toNat = 255
        · have h2' : (y.toNat : Int) = 255 := by omega
          rw [h2'] at hcell
          go_wp2
          go_roundw
          case rel =>
            refine ⟨j + 1, by omega, by have hbb := HB.out; go_num, ⟨fun q hq => ?_, by first | rfl | trivial⟩⟩
            by_cases hqj : q = j
            · rw [hqj, ← HB.out, HY.out]
              unfold fullB
              rw [if_neg h1]
              exact UInt8.toNat_inj.1 h2
            · exact HF.out q (by omega)
          case measure => simp [intOf] <;> omega
        · have h2' : ¬ (y.toNat : Int) = 255 := by omega
          go_wp2
          go_ret
          exact ⟨rfl, by first | (rw [hn]; exact h0.out.be) | exact h0.out.be⟩
    · obtain rfl : j = 31 := by omega
      have hl := HL.out (fun i hi => by
        have := hf (30 - i) (by omega)
        rwa [show 31 - (30 - i) = 1 + i by omega] at this)
      obtain ⟨z, hz⟩ : ∃ z, (k.getD 0 0).toNat = z := ⟨_, rfl⟩
      rw [hz] at hl
      have hc0 : wr.cell? ⟨n, 0, none⟩ = some (.int .u8 (z : Int)) := by rw [h0.out.ke.cell, HC.out 0 (by omega), hz]
      have hz2 : (z : Int) < 237 := by omega
      clear hf hz hl
      go_wp2
      go_ret
      exact ⟨rfl, by first | (rw [hn]; exact h0.out.be) | exact h0.out.be⟩
end Go.Proofs.Ytacancfmgnmpiaa
