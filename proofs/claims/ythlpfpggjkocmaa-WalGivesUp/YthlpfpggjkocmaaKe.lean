import Derived.Test.YthlpfpggjkocmaaSt
set_option linter.unusedVariables false
set_option linter.unusedSimpArgs false
namespace Go.Proofs.Ythlpfpggjkocmaa
open Go.RowKit

/-- Is bit k set? -/
def keptB (ks : List (BitVec 64)) (k : Nat) : Bool := decide (k / 64 < ks.length) && decide (wn ((ks.getD (k / 64) 0 >>> (k % 64)) &&& 1#64) = 1)
theorem idx36 (ad : Addr) (n cap m : Nat) (h : m < n) (W : World) : (Instr.indexAt 86 (.slice (some ad) n cap) (.int .i64 (m : Int))).run Try.prog W = .ok (.pointer (some (ad.add m))) W := by
  have hm : (m : Int) < (n : Int) := by omega
  go_simp
  try simp
theorem wand1 (x : BitVec 64) : bits .and .u64 (wn x) (1 : Int) = wn (x &&& 1#64) := wand x 1#64

theorem kept_any (v : Value) (ks : List (BitVec 64)) (k : Nat) (hk : k < 1000000000000) (w : World) (hv : Has64 w v ks) :
    Calls Try.prog 92 #[v, .int .i64 (k : Int)] w fun e w' => e = .returned (.bool (keptB ks k)) ∧ w' = w := by
  have hlen := hv.len
  have q1 : (k : Int) / 64 = ((k / 64 : Nat) : Int) := by omega
  have q2 : (k : Int) % 64 = ((k % 64 : Nat) : Int) := by omega
  have q3 : k % 64 < 64 := Nat.mod_lt _ (by decide)
  have q4 : k / 64 < 1000000000000 := by omega
  obtain ⟨K, hK⟩ : ∃ K, keptB ks k = K := ⟨_, rfl⟩
  have hK2 := hK
  unfold keptB at hK2
  rw [hK]
  clear hK
  obtain ⟨q, hq⟩ : ∃ q, k / 64 = q := ⟨_, rfl⟩
  obtain ⟨r, hr⟩ : ∃ r, k % 64 = r := ⟨_, rfl⟩
  rw [hq] at q1 hK2 q4
  rw [hr] at q2 hK2 q3
  clear hq hr
  by_cases h1 : q < ks.length
  · have h1z : (q : Int) < (ks.length : Int) := by omega
    rcases hv with ⟨rfl, rfl⟩ | ⟨ad, cap, rfl, h2, h3⟩
    · simp at h1
    · obtain ⟨u, hu⟩ : ∃ u, ks.getD q 0 = u := ⟨_, rfl⟩
      have hcell := h3 q u (by rw [← hu, List.getD_eq_getElem?_getD, List.getElem?_eq_getElem h1]; rfl)
      unfold wv at hcell
      have hix := fun W => idx36 ad ks.length cap q h1 W
      rw [hu, decide_eq_true h1, Bool.true_and] at hK2
      have s1 := wshr u r
      have s2 := wand1 (u >>> r)
      obtain ⟨X, hX⟩ : ∃ X, wn (u >>> r &&& 1#64) = X := ⟨_, rfl⟩
      rw [hX] at s2 hK2
      have s3 := wn_nonneg u
      have HK := hide hK2
      clear h3 hu hX hK2
      go_enter Try.func92, Try.ntmps92
      go_wp2
      go_ret
      refine ⟨?_, rfl⟩
      rw [← HK.out]
      rfl
  · have h1z : ¬ (q : Int) < (ks.length : Int) := by omega
    have hKf : K = false := by rw [← hK2, decide_eq_false h1, Bool.false_and]
    clear hK2
    subst hKf
    go_enter Try.func92, Try.ntmps92
    go_wp2
    go_ret
    exact ⟨rfl, rfl⟩
/-- How many of its first bytes a loss leaves of write number k. -/
def survN (ks : List (BitVec 64)) (torn off : Int) (k : Nat) : Nat := if keptB ks k then 512 else if (k : Int) = torn then (min (max off 0) 512).toNat else 0
theorem surv_le (ks : List (BitVec 64)) (torn off : Int) (k : Nat) : survN ks torn off k ≤ 512 := by
  unfold survN
  split
  · omega
  · split <;> omega
/-- The cells of a loss. -/
def lossC (vk : Value) (torn off : Int) : List Value := [vk, .int .i64 torn, .int .i64 off]
set_option maxRecDepth 100000 in
set_option maxHeartbeats 2000000 in
theorem surviving_any (v : Value) (ks : List (BitVec 64)) (torn off : Int) (k : Nat) (hk : k < 1000000000000) (w : World) (hv : Has64 w v ks) :
    Calls Try.prog 80 #[.agg (lossC v torn off).toArray, .int .i64 (k : Int)] w fun e w' => e = .returned (.int .i64 (survN ks torn off k : Int)) ∧ Below w.heap.size w w' := by
  have b0 : Blk (w.alloc (.cells (lossC v torn off).toArray 88)) w.heap.size (lossC v torn off) 88 := Blk.new w _ _
  have be : Below w.heap.size w (w.alloc (.cells (lossC v torn off).toArray 88)) := below_new w _
  have hkp := hide (kept_any v ks k hk (w.alloc (.cells (lossC v torn off).toArray 88)) (hv.fx (Fx.of_below (S := fun _ => False) be) (fun _ _ h => h)))
  clear hv
  unfold survN
  obtain ⟨K, hK⟩ : ∃ K, keptB ks k = K := ⟨_, rfl⟩
  rw [hK] at hkp ⊢
  clear hK
  have r0 := (b0.cell 0).trans (show (lossC v torn off)[0]? = some v from rfl)
  have r1 := (b0.cell 1).trans (show (lossC v torn off)[1]? = some (.int .i64 torn) from rfl)
  have r2 := (b0.cell 2).trans (show (lossC v torn off)[2]? = some (.int .i64 off) from rfl)
  clear b0
  obtain ⟨g, hg⟩ : ∃ g, w.heap.size = g := ⟨_, rfl⟩
  obtain ⟨w1, hw1⟩ : ∃ w1, w.alloc (.cells (lossC v torn off).toArray 88) = w1 := ⟨_, rfl⟩
  rw [hg, hw1] at r0 r1 r2 be
  rw [hw1] at hkp
  have BE := hide be
  clear be
  cases K with
  | true =>
    go_enter Try.func80, Try.ntmps80
    go_wp2_with (first
      | (refine wpList_boxAt rfl 88 (.tmp 0) rfl (lossC v torn off) rfl g hg ?_; rw [hw1])
      | (go_at_call 92; refine hkp.out.mono ?_; rintro e w3 ⟨rfl, rfl⟩)
      | fail)
    go_ret
    exact ⟨by simp, by first | exact BE.out | (rw [hg]; exact BE.out)⟩
  | false =>
    by_cases ht : (k : Int) = torn
    · subst ht
      by_cases o1 : off < 0
      · skip
        have hM : (((if (false : Bool) = true then 512 else if (k : Int) = (k : Int) then (min (max off 0) 512).toNat else 0 : Nat) : Nat) : Int) = 0 := by rw [if_neg (by decide), if_pos rfl]; omega
        rw [hM]
        clear hM
        go_enter Try.func80, Try.ntmps80
        go_wp2_with (first
          | (refine wpList_boxAt rfl 88 (.tmp 0) rfl (lossC v _ off) rfl g hg ?_; rw [hw1])
          | (go_at_call 92; refine hkp.out.mono ?_; rintro e w3 ⟨rfl, rfl⟩)
          | fail)
        go_ret
        exact ⟨by first | rfl | simp, by first | exact BE.out | (rw [hg]; exact BE.out)⟩
      · by_cases o2 : 512 < off
        · skip
          have hM : (((if (false : Bool) = true then 512 else if (k : Int) = (k : Int) then (min (max off 0) 512).toNat else 0 : Nat) : Nat) : Int) = 512 := by rw [if_neg (by decide), if_pos rfl]; omega
          rw [hM]
          clear hM
          go_enter Try.func80, Try.ntmps80
          go_wp2_with (first
            | (refine wpList_boxAt rfl 88 (.tmp 0) rfl (lossC v _ off) rfl g hg ?_; rw [hw1])
            | (go_at_call 92; refine hkp.out.mono ?_; rintro e w3 ⟨rfl, rfl⟩)
            | fail)
          go_ret
          exact ⟨by first | rfl | simp, by first | exact BE.out | (rw [hg]; exact BE.out)⟩
        · skip
          have hM : (((if (false : Bool) = true then 512 else if (k : Int) = (k : Int) then (min (max off 0) 512).toNat else 0 : Nat) : Nat) : Int) = off := by rw [if_neg (by decide), if_pos rfl]; omega
          rw [hM]
          clear hM
          go_enter Try.func80, Try.ntmps80
          go_wp2_with (first
            | (refine wpList_boxAt rfl 88 (.tmp 0) rfl (lossC v _ off) rfl g hg ?_; rw [hw1])
            | (go_at_call 92; refine hkp.out.mono ?_; rintro e w3 ⟨rfl, rfl⟩)
            | fail)
          go_ret
          exact ⟨by first | rfl | simp, by first | exact BE.out | (rw [hg]; exact BE.out)⟩
    · go_enter Try.func80, Try.ntmps80
      go_wp2_with (first
        | (refine wpList_boxAt rfl 88 (.tmp 0) rfl (lossC v torn off) rfl g hg ?_; rw [hw1])
        | (go_at_call 92; refine hkp.out.mono ?_; rintro e w3 ⟨rfl, rfl⟩)
        | fail)
      go_ret
      exact ⟨by simp [ht], by first | exact BE.out | (rw [hg]; exact BE.out)⟩
end Go.Proofs.Ythlpfpggjkocmaa
