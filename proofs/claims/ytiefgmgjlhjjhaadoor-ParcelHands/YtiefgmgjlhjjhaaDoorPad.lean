import Derived.Test.YtiefgmgjlhjjhaaDoorOwn2
namespace Go.Proofs.YtiefgmgjlhjjhaaDoor
open Go.RowKit

/-- A number in eight bytes, the highest first. -/
def be8 (x : Nat) : List UInt8 := (List.range 8).map fun k => UInt8.ofNat (x / 2 ^ (56 - 8 * k))
/-- What the padded message of n bytes has behind them. -/
def padOf (n : Nat) : List UInt8 := 128 :: List.replicate ((119 - n % 64) % 64) 0 ++ be8 (8 * n)
theorem be8_length (x : Nat) : (be8 x).length = 8 := by simp [be8]
theorem padOf_length (n : Nat) : (padOf n).length = 1 + (119 - n % 64) % 64 + 8 := by simp [padOf, be8_length]; omega
theorem be8_take (x k : Nat) (hk : k < 8) : (be8 x).take (k + 1) = (be8 x).take k ++ [UInt8.ofNat (x / 2 ^ (56 - 8 * k))] := by
  rw [List.take_succ_eq_append_getElem (by rw [be8_length]; exact hk)]
  simp [be8]

set_option maxHeartbeats 2000000 in
set_option maxRecDepth 100000 in
theorem pad_any (n : Nat) (hn : n ≤ 1152921504606846976) (w : World) :
    Calls Tryd.prog 67 #[.int .i64 (n : Int)] w fun e w' => ∃ ao cap, e = .returned (.slice ao (padOf n).length cap) ∧ Own w' w.heap.size (.slice ao (padOf n).length cap) (padOf n) ∧ Below w.heap.size w w' := by
  obtain ⟨r, hr⟩ : ∃ r, r = n % 64 := ⟨_, rfl⟩
  obtain ⟨z, hz⟩ : ∃ z, z = (119 - r) % 64 := ⟨_, rfl⟩
  have hr64 : r < 64 := by omega
  have hz64 : z < 64 := by omega
  have h1 : (n : Int) % 64 = (r : Int) := by omega
  have h2 : (119 - (r : Int)) % 64 = (z : Int) := by omega
  have hz0 : (0 : Int) < 1 + (z : Int) := by omega
  have Hr := hide hr
  have Hz := hide hz
  clear hr hz
  go_enter Tryd.func67, Tryd.ntmps67
  go_wp2_with (refine wpList_mk rfl (.tmp 12) (.tmp 15) rfl (1 + z) (1 + z + 8) (1 + (z : Int)) (1 + (z : Int) + 8) (by omega) (by omega) rfl rfl (by omega) (by omega) w.heap.size (Nat.le_refl _) ?_; intro w1 ho1 hb1; have ho1' := Own.cells (bs := List.replicate (1 + z) 0) (by rw [List.length_replicate]; exact ho1) 0 (by rw [List.length_replicate]; omega); obtain ⟨⟨u0, hu0⟩, hf0⟩ := ho1'; have HO := hide ho1; have HB := hide hb1; clear ho1 hb1)
  obtain ⟨hd, hhd⟩ : ∃ hd : List UInt8, hd = 128 :: List.replicate z 0 := ⟨_, rfl⟩
  have hdl : hd.length = 1 + z := by rw [hhd]; simp; omega
  have HO1 : Hid (Own (w1.setCell ⟨w.heap.size, 0, none⟩ (.int .u8 128)) w.heap.size (.slice (some ⟨w.heap.size, 0, none⟩) (1 + z) (1 + z + 8)) hd) := by
    have hl : (List.replicate (1 + z) (0 : UInt8)).length = 1 + z := List.length_replicate ..
    have hw := Own.write (bs := List.replicate (1 + z) 0) (by rw [hl]; exact HO.out) 0 [128] (by simp)
    rw [hl] at hw
    have e : (List.replicate (1 + z) (0 : UInt8)).take 0 ++ [128] ++ (List.replicate (1 + z) (0 : UInt8)).drop (0 + [(128 : UInt8)].length) = hd := by
      rw [hhd]; simp [List.drop_replicate]
    rw [e] at hw
    exact hw
  have HB1 : Hid (Below w.heap.size w (w1.setCell ⟨w.heap.size, 0, none⟩ (.int .u8 128))) := HB.out.setCell (Nat.le_refl _) _
  have HD := hide hhd
  have HDL := hide hdl
  clear hhd hdl hu0 hf0
  generalize w1.setCell ⟨w.heap.size, 0, none⟩ (.int .u8 128) = w2 at HO1 HB1 ⊢
  go_loopw [4, 6] (fun t s wr => ∃ k : Nat, k ≤ 8 ∧ s = .int .i64 (56 - 8 * (k : Int)) ∧ ∃ ao cap, t = .slice ao (1 + z + k) cap ∧ Hid (Own wr w.heap.size t (hd ++ (be8 (8 * n)).take k)) ∧ Hid (Below w.heap.size w wr)) (fun _ s _ => (intOf s + 8).toNat)
  case atStart => exact ⟨0, by omega, rfl, _, _, rfl, by rw [List.take_zero, List.append_nil]; exact HO1, HB1⟩
  case round =>
    obtain ⟨k, hk, rfl, ao, cap, rfl, ho, hb⟩ := hrel
    by_cases hlt : k < 8
    · obtain ⟨s, hs⟩ : ∃ s, s = 56 - 8 * k := ⟨_, rfl⟩
      have hsz : (56 - 8 * (k : Int)) = (s : Int) := by omega
      have hs0 : s ≤ 56 := by omega
      obtain ⟨u, hu⟩ : ∃ u, u = UInt8.ofNat (8 * n / 2 ^ s) := ⟨_, rfl⟩
      have hbyte : 8 * (n : Int) / 2 ^ s % 256 = (u.toNat : Int) := by
        rw [hu, UInt8.toNat_ofNat']
        rw [Int.natCast_emod, Int.natCast_ediv, Int.natCast_mul, Int.natCast_pow]
        rfl
      rw [hsz]
      have Hs := hide hs
      have Hu := hide hu
      clear hs hu
      have hln : Hid ((hd ++ (be8 (8 * n)).take k).length + [u].length ≤ 150000000000000) := by
        show _ ≤ _
        rw [List.length_append, HDL.out, List.length_take, be8_length]
        simp
        omega
      have hll : Hid ((hd ++ (be8 (8 * n)).take k ++ [u]).length = 1 + z + (k + 1)) := by
        show _ = _
        rw [List.length_append, List.length_append, HDL.out, List.length_take, be8_length]
        simp
        omega
      go_wp2_with (refine wpList_app rfl (.tmp 26) (.tmp 31) rfl w.heap.size (.slice ao (1 + z + k) cap) (hd ++ (be8 (8 * n)).take k) rfl (ho.out.below (below_new wr _)) _ [u] rfl (has_new1 wr u) hln.out (Nat.le_trans hb.out.size (below_new wr _).size) ?_; intro v' w' ho' hg'; obtain ⟨ao', cap', rfl⟩ := ho'.slice; rw [hll.out] at ho' ⊢; have HO' := hide ho'; have HG := hide hg'; clear ho' hg')
      go_roundw
      case rel =>
        refine ⟨k + 1, by omega, ?_, _, _, rfl, ?_, ?_⟩
        · have := Hs.out
          congr 1
          omega
        · rw [be8_take _ k hlt, ← Hs.out, ← Hu.out, ← List.append_assoc]
          exact HO'
        · exact (hb.out.trans ((below_new wr _).mono hb.out.size)).grown HG.out (Nat.le_trans hb.out.size (below_new wr _).size) ho.out.ownBlock
      case measure => simp [intOf]; omega
    · obtain rfl : k = 8 := by omega
      have hfull : hd ++ (be8 (8 * n)).take 8 = padOf n := by
        rw [List.take_of_length_le (by rw [be8_length]; omega), HD.out, Hz.out, Hr.out]
        rfl
      have hpl : (padOf n).length = 1 + z + 8 := by rw [padOf_length, Hz.out, Hr.out]
      rw [hfull] at ho
      go_wp2
      go_ret
      exact ⟨ao, cap, by rw [hpl]; rfl, by rw [hpl]; exact ho.out, hb.out⟩
end Go.Proofs.YtiefgmgjlhjjhaaDoor
