import Derived.Test.YtbghjabojgedaaaDoorExp2
namespace Go.Proofs.YtbghjabojgedaaaDoor
open Go.RowKit

theorem ex_take (prk info : List UInt8) : ∀ j k, j ≤ k → (ex prk info k).take (32 * j) = ex prk info j
  | j, 0, h => by
    obtain rfl : j = 0 := by omega
    rfl
  | j, k + 1, h => by
    rcases Nat.lt_or_ge k j with hlt | hge
    · obtain rfl : j = k + 1 := by omega
      exact List.take_of_length_le (by rw [ex_length]; exact Nat.le_refl _)
    · rw [ex, List.take_append_of_le_length (by rw [ex_length]; omega)]
      exact ex_take prk info j k hge
/-- Fewer bytes are the beginning. -/
theorem exOut_take (prk info : List UInt8) (m n : Nat) (h : m ≤ n) : (exOut prk info n).take m = exOut prk info m := by
  unfold exOut
  rw [List.take_take, Nat.min_eq_left h, ← ex_take prk info ((m + 31) / 32) ((n + 31) / 32) (by omega), List.take_take, Nat.min_eq_left (by omega)]
/-- Block by block. -/
theorem exOut_block (prk info : List UInt8) (n k : Nat) (h : 32 * k < n) : ((exOut prk info n).drop (32 * k)).take (min n (32 * k + 32) - 32 * k) = (tk prk info (k + 1)).take (min 32 (n - 32 * k)) := by
  have h1 : (exOut prk info n).take (min n (32 * k + 32)) = exOut prk info (min n (32 * k + 32)) := exOut_take prk info _ _ (by omega)
  rw [← List.drop_take, h1]
  have h2 : (min n (32 * k + 32) + 31) / 32 = k + 1 := by omega
  unfold exOut
  rw [h2, ex, List.take_append, ex_length, List.take_of_length_le (by rw [ex_length]; omega), List.drop_append, List.drop_eq_nil_of_le (by rw [ex_length]; exact Nat.le_refl _), ex_length, Nat.sub_self, List.drop_zero, List.nil_append]
  congr 1
  omega

set_option maxHeartbeats 400000 in
set_option maxRecDepth 100000 in
/-- 'Derive'. -/
theorem derive_ok (vs vk vi : Value) (salt key info : List UInt8) (n : Nat) (w : World) (hs : Has w vs salt) (hk : Has w vk key) (hi : Has w vi info) (hK : Kst w) (hsl : salt.length ≤ 1152921504606846976) (hkl : key.length ≤ 1000000000000000000) (hil : info.length ≤ 900000000000000000) (hn : n ≤ 8160) :
    Calls Tryd.prog 11 #[vs, vk, vi, .int .i64 (n : Int)] w fun e w' => ∃ g, e = .returned (.tuple #[.slice (some ⟨g, 0, none⟩) n n, .int .i64 0]) ∧ Tu w w' g (exOut (macOf salt key) info n) := by
  have HIL := hide hil
  clear hil
  obtain ⟨D, hD⟩ : ∃ D, macOf salt key = D := ⟨_, rfl⟩
  have l1 : D.length = 32 := by rw [← hD]; exact macOf_length _ _
  have i42 := info24 D l1
  have L1 := hide l1
  have HD := hide hD
  have HS := hide hs
  have HKY := hide hk
  have HI := hide hi
  have HK := hide hK
  have HSL := hide hsl
  have HKL := hide hkl
  clear l1 hD hs hk hi hK hsl hkl
  go_enter Tryd.func11, Tryd.ntmps11
  go_wp2_with fail
  refine (extract_is vs vk salt key D HD.out w HS.out HKY.out HK.out HSL.out HKL.out).mono ?_
  rintro e w1 ⟨rfl, hb1⟩
  have B1 := hide hb1
  clear hb1
  have E2 : Hid (Dgt w ((w1.alloc (.cells (z32.map byt).toArray 32)).setRow w1.heap.size (D.map byt).toArray) w1.heap.size D) := (Dgt.new B1.out).row
  go_upto_region 2 with (first
    | (refine wpList_newAt rfl 32 rfl (z32.map byt) zero24 w1.heap.size rfl ?_)
    | (refine wpList_store_row rfl 32 (.tmp 10) (.tmp 13) rfl w1.heap.size (D.map byt).toArray rfl rfl 32 (z32.map byt).toArray (Blk.new w1 _ _) i42 (by rw [List.size_toArray, List.size_toArray, List.length_map, List.length_map, L1.out]; rfl) (byts_one _) ?_)
    | fail)
  generalize (w1.alloc (.cells (z32.map byt).toArray 32)).setRow w1.heap.size (D.map byt).toArray = w2 at E2 ⊢
  generalize w1.heap.size = d at E2 ⊢
  simp only [Act.put, List.setIfInBounds_toArray, List.set_cons_zero, List.set_cons_succ]
  have hp : Hid (Has w2 (.slice (some ⟨d, 0, none⟩) 32 32) D) := E2.out.has 32 L1.out
  go_wp2_with fail
  refine (expand_ok (.slice (some ⟨d, 0, none⟩) 32 32) vi D info n w2 hp.out (HI.out.below E2.out.be) (HK.out.below E2.out.be HK.out.lt) (by rw [L1.out]; decide) HIL.out hn).mono ?_
  rintro e w3 ⟨g, rfl, hT⟩
  have T3 : Hid (Tu w w3 g (exOut (macOf salt key) info n)) := by
    rw [HD.out]
    exact ⟨hT.bl, E2.out.be.trans (hT.be.mono E2.out.be.size), Nat.le_trans E2.out.be.size hT.lp⟩
  clear hT
  go_wp2
  go_ret2
  exact ⟨g, rfl, T3.out⟩

set_option maxHeartbeats 400000 in
set_option maxRecDepth 100000 in
theorem derive_low (vs vk vi : Value) (salt key info : List UInt8) (n : Int) (h0 : n < 0) (w : World) (hs : Has w vs salt) (hk : Has w vk key) (hi : Has w vi info) (hK : Kst w) (hsl : salt.length ≤ 1152921504606846976) (hkl : key.length ≤ 1000000000000000000) :
    Calls Tryd.prog 11 #[vs, vk, vi, .int .i64 n] w fun e w' => e = .returned (.tuple #[.slice none 0 0, .int .i64 4]) ∧ Below w.heap.size w w' := by
  obtain ⟨D, hD⟩ : ∃ D, macOf salt key = D := ⟨_, rfl⟩
  have l1 : D.length = 32 := by rw [← hD]; exact macOf_length _ _
  have i42 := info24 D l1
  have L1 := hide l1
  have HD := hide hD
  have HS := hide hs
  have HKY := hide hk
  have HI := hide hi
  have HK := hide hK
  have HSL := hide hsl
  have HKL := hide hkl
  clear l1 hD hs hk hi hK hsl hkl
  go_enter Tryd.func11, Tryd.ntmps11
  go_wp2_with fail
  refine (extract_is vs vk salt key D HD.out w HS.out HKY.out HK.out HSL.out HKL.out).mono ?_
  rintro e w1 ⟨rfl, hb1⟩
  have B1 := hide hb1
  clear hb1
  have E2 : Hid (Dgt w ((w1.alloc (.cells (z32.map byt).toArray 32)).setRow w1.heap.size (D.map byt).toArray) w1.heap.size D) := (Dgt.new B1.out).row
  go_upto_region 2 with (first
    | (refine wpList_newAt rfl 32 rfl (z32.map byt) zero24 w1.heap.size rfl ?_)
    | (refine wpList_store_row rfl 32 (.tmp 10) (.tmp 13) rfl w1.heap.size (D.map byt).toArray rfl rfl 32 (z32.map byt).toArray (Blk.new w1 _ _) i42 (by rw [List.size_toArray, List.size_toArray, List.length_map, List.length_map, L1.out]; rfl) (byts_one _) ?_)
    | fail)
  generalize (w1.alloc (.cells (z32.map byt).toArray 32)).setRow w1.heap.size (D.map byt).toArray = w2 at E2 ⊢
  generalize w1.heap.size = d at E2 ⊢
  simp only [Act.put, List.setIfInBounds_toArray, List.set_cons_zero, List.set_cons_succ]
  have hp : Hid (Has w2 (.slice (some ⟨d, 0, none⟩) 32 32) D) := E2.out.has 32 L1.out
  go_wp2_with fail
  refine (expand_low (.slice (some ⟨d, 0, none⟩) 32 32) vi n w2 h0).mono ?_
  rintro e w3 ⟨rfl, hw3⟩
  subst hw3
  go_wp2
  go_ret2
  exact ⟨rfl, E2.out.be⟩

set_option maxHeartbeats 400000 in
set_option maxRecDepth 100000 in
theorem derive_high (vs vk vi : Value) (salt key info : List UInt8) (n : Int) (h0 : 8160 < n) (w : World) (hs : Has w vs salt) (hk : Has w vk key) (hi : Has w vi info) (hK : Kst w) (hsl : salt.length ≤ 1152921504606846976) (hkl : key.length ≤ 1000000000000000000) :
    Calls Tryd.prog 11 #[vs, vk, vi, .int .i64 n] w fun e w' => e = .returned (.tuple #[.slice none 0 0, .int .i64 30]) ∧ Below w.heap.size w w' := by
  obtain ⟨D, hD⟩ : ∃ D, macOf salt key = D := ⟨_, rfl⟩
  have l1 : D.length = 32 := by rw [← hD]; exact macOf_length _ _
  have i42 := info24 D l1
  have L1 := hide l1
  have HD := hide hD
  have HS := hide hs
  have HKY := hide hk
  have HI := hide hi
  have HK := hide hK
  have HSL := hide hsl
  have HKL := hide hkl
  clear l1 hD hs hk hi hK hsl hkl
  go_enter Tryd.func11, Tryd.ntmps11
  go_wp2_with fail
  refine (extract_is vs vk salt key D HD.out w HS.out HKY.out HK.out HSL.out HKL.out).mono ?_
  rintro e w1 ⟨rfl, hb1⟩
  have B1 := hide hb1
  clear hb1
  have E2 : Hid (Dgt w ((w1.alloc (.cells (z32.map byt).toArray 32)).setRow w1.heap.size (D.map byt).toArray) w1.heap.size D) := (Dgt.new B1.out).row
  go_upto_region 2 with (first
    | (refine wpList_newAt rfl 32 rfl (z32.map byt) zero24 w1.heap.size rfl ?_)
    | (refine wpList_store_row rfl 32 (.tmp 10) (.tmp 13) rfl w1.heap.size (D.map byt).toArray rfl rfl 32 (z32.map byt).toArray (Blk.new w1 _ _) i42 (by rw [List.size_toArray, List.size_toArray, List.length_map, List.length_map, L1.out]; rfl) (byts_one _) ?_)
    | fail)
  generalize (w1.alloc (.cells (z32.map byt).toArray 32)).setRow w1.heap.size (D.map byt).toArray = w2 at E2 ⊢
  generalize w1.heap.size = d at E2 ⊢
  simp only [Act.put, List.setIfInBounds_toArray, List.set_cons_zero, List.set_cons_succ]
  have hp : Hid (Has w2 (.slice (some ⟨d, 0, none⟩) 32 32) D) := E2.out.has 32 L1.out
  go_wp2_with fail
  refine (expand_high (.slice (some ⟨d, 0, none⟩) 32 32) vi n w2 h0).mono ?_
  rintro e w3 ⟨rfl, hw3⟩
  subst hw3
  go_wp2
  go_ret2
  exact ⟨rfl, E2.out.be⟩

end Go.Proofs.YtbghjabojgedaaaDoor
