import Derived.Test.YthlpfpggjkocmaaArmG
set_option linter.unusedVariables false
set_option linter.unusedSimpArgs false
namespace Go.Proofs.Ythlpfpggjkocmaa
open Go.RowKit

set_option maxRecDepth 100000 in
set_option maxHeartbeats 1000000 in
theorem load_ok (v : Value) (img : List UInt8) (n : Nat) (h1 : 1 ≤ n) (h2 : n ≤ 4096) (hl : img.length = n * 512) (w : World) (hv : Has w v img) : Calls Try.prog 14 #[v] w fun e w' =>
    e = .returned (.tuple #[.pointer (some ⟨w.heap.size + 2, 0, none⟩), .int .i64 0]) ∧ w' = newW w n img := by
  have hlen := hv.len
  have hcp := copied_any v img (by omega) w hv
  have hov := over_any w.heap.size n h2 (w.alloc (.cells (img.map byt).toArray 5))
  rw [show (w.alloc (.cells (img.map byt).toArray 5)).heap.size = w.heap.size + 1 by simp] at hov
  have hov2 : Hid (Calls Try.prog 42 #[.slice (some ⟨w.heap.size, 0, none⟩) (n * 512) (n * 512)] (w.alloc (.cells (img.map byt).toArray 5)) fun e w' => e = .returned (.pointer (some ⟨w.heap.size + 2, 0, none⟩)) ∧ w' = newW w n img) := hide hov
  clear hov hv
  rw [hl] at hcp hlen
  have HCP := hide hcp
  clear hcp
  obtain ⟨w1, hw1⟩ : ∃ w1, w.alloc (.cells (img.map byt).toArray 5) = w1 := ⟨_, rfl⟩
  obtain ⟨w2, hw2⟩ : ∃ w2, newW w n img = w2 := ⟨_, rfl⟩
  obtain ⟨g, hg⟩ : ∃ g, w.heap.size = g := ⟨_, rfl⟩
  rw [hw1, hg] at HCP
  rw [hw1, hw2, hg] at hov2
  rw [hw2, hg]
  clear hw1 hw2 hg
  have e1 : (((n * 512 : Nat) : Int)) / 512 = (n : Int) := by omega
  have e2 : (((n * 512 : Nat) : Int)) % 512 = 0 := by omega
  have e3 : wrap64 (n : Int) = (n : Int) := IntWalk.wrap64_in _ (by omega)
  have a1 : ¬ (n : Int) < 1 := by omega
  have a2 : ¬ (4096 : Int) < (n : Int) := by omega
  obtain ⟨N, hN⟩ : ∃ N, n * 512 = N := ⟨_, rfl⟩
  rw [hN] at HCP hov2 e1 e2 hlen
  clear hN hl
  go_enter Try.func14, Try.ntmps14
  go_wp2_with (first
    | (go_at_call 43; refine HCP.out.mono ?_; rintro e wz ⟨rfl, hz⟩; rw [hz]; clear hz wz)
    | (go_at_call 42; refine hov2.out.mono ?_; rintro e wz ⟨rfl, hz⟩; rw [hz]; clear hz wz)
    | fail)
  go_ret2
  exact ⟨rfl, rfl⟩
end Go.Proofs.Ythlpfpggjkocmaa
