import Derived.Test.YtablmkijlpoaaaaDoorLaw4
namespace Go.Proofs.YtablmkijlpoaaaaDoor
open Go.RowKit

set_option maxHeartbeats 400000 in
set_option maxRecDepth 100000 in
/-- The law's 'turned'. -/
theorem turned_any (v : Value) (key : List UInt8) (x : UInt8) (w : World) (hv : Has w v key) (hn : key.length ≤ 1152921504606846976) (hK : Kst w) :
    Calls Tryd.prog 19 #[v, .int .u8 (x.toNat : Int)] w fun e w' => ∃ g, e = .returned (.slice (some ⟨g, 0, none⟩) 64 64) ∧ Tu w w' g (xr x (kb key)) := by
  obtain ⟨ao, cap, rfl⟩ := hv.slice
  have HV := hide hv
  have HK := hide hK
  have HN := hide hn
  have hlen := hv.len
  have hkb := kb_length key
  clear hv hK hn
  by_cases hlt : 64 < key.length
  · have hz : (64 : Int) < (key.length : Int) := by omega
    have hkk : Hid (kk key = sumOf key) := by unfold kk; rw [if_pos hlt]; exact rfl
    have hs24 := info24 (sumOf key) (sumOf_length key)
    have hD32 := hide (sumOf_length key)
    obtain ⟨D, hD⟩ : ∃ D, sumOf key = D := ⟨_, rfl⟩
    have HD := hide hD
    rw [hD] at hkk hs24 hD32
    clear hD
    go_enter Tryd.func19, Tryd.ntmps19
    go_wp2_with fail
    refine (sum_at w w.heap.size rfl [(Value.slice ao key.length cap, key)] key (one_all HV.out) HK.out (by simp) HN.out (by simp)).mono ?_
    rintro e w1 ⟨he, hb1⟩
    rw [HD.out] at he
    subst he
    have HB1 := hide hb1
    clear hb1
    have hH2 : Hid (Has ((w1.alloc (.cells (z32.map byt).toArray 42)).setRow w1.heap.size (D.map byt).toArray) (.slice (some ⟨w1.heap.size, 0, none⟩) 32 32) D) := ((Blk.new w1 (z32.map byt) 42).setRow (D.map byt)).has 32 hD32.out
    have HBE : Hid (Below w.heap.size w ((w1.alloc (.cells (z32.map byt).toArray 42)).setRow w1.heap.size (D.map byt).toArray)) := below_setRow (HB1.out.alloc HB1.out.size _) _ _ HB1.out.size
    have HLEN : Hid (D.length ≤ 64) := by show _ ≤ _; rw [hD32.out]; decide
    go_wp2_with (first
      | (refine wpList_newAt rfl 42 rfl (z32.map byt) zero24 w1.heap.size rfl ?_)
      | (refine wpList_store_row rfl 42 (.tmp 5) (.tmp 13) rfl w1.heap.size (D.map byt).toArray rfl rfl 42 (z32.map byt).toArray (Blk.new w1 _ _) hs24 (by rw [List.size_toArray, List.size_toArray, List.length_map, List.length_map, hD32.out]; rfl) (byts_one _) ?_)
      | (refine wpList_app rfl (.const (.slice none 0 0)) (.tmp 14) rfl w.heap.size (.slice none 0 0) [] rfl (Own.nil _ _) (.slice (some ⟨w1.heap.size, 0, none⟩) 32 32) D rfl hH2.out (by rw [hD32.out]; decide) HBE.out.size ?_; intro v3 w3 ho3 hg3; rw [List.nil_append] at ho3; obtain ⟨a3, c3, rfl⟩ := ho3.slice; rw [hD32.out] at ho3 ⊢; have HH3 := hide ho3.has; have B3 : Hid (Below w.heap.size w w3) := HBE.out.grown hg3 HBE.out.size (fun k hk => by cases hk); clear ho3 hg3; have hBz : Hid (Blk (w3.alloc (.cells (z64b.map byt).toArray 5)) w3.heap.size (z64b.map byt) 5) := Blk.new w3 _ _; have HHz : Hid (Has (w3.alloc (.cells (z64b.map byt).toArray 5)) (.slice a3 32 c3) D) := HH3.out.below (below_new w3 _); have BB : Hid (Below w.heap.size w (w3.alloc (.cells (z64b.map byt).toArray 5))) := B3.out.alloc B3.out.size _; have LP := hide B3.out.size; clear HH3 B3; obtain ⟨g, hg⟩ : ∃ g, g = w3.heap.size := ⟨_, rfl⟩; rw [← hg] at hBz LP)
      | (refine wpList_mkB rfl (.const (.int .i64 64)) (.const (.int .i64 64)) rfl 64 64 rfl rfl rfl (by decide) g hg ?_; rw [show List.replicate 64 (0 : UInt8) = z64b from rfl]; clear hg; generalize w3.alloc (.cells (z64b.map byt).toArray 5) = w4 at hBz HHz BB ⊢)
      | (refine wpList_cpb rfl (.tmp 17) (.tmp 18) rfl g 0 64 64 rfl (.slice a3 32 c3) D rfl HHz.out z64b 5 hBz.out (by rw [z64b_length]; decide) ?_; intro q wc hbc hfc; have hfin : Hid (Blk wc g ((kb key).map byt) 5) := hide (by rw [kb_of _ HLEN.out, ← hkk.out] at hbc; exact hbc); clear hbc)
      | fail)
    have hG : Hid (Tu w wc g (xrk x (kb key) 0)) := by
      rw [xrk_zero]
      exact ⟨hfin.out, BB.out.trans (hfc.below (fun k hk (e : k = g) => by have := LP.out; omega) BB.out.size), LP.out⟩
    clear hfin hfc BB hBz HHz
    obtain ⟨KB, hKBe⟩ : ∃ KB, kb key = KB := ⟨_, rfl⟩
    have HKBe := hide hKBe
    rw [hKBe] at hkb hG
    clear hKBe
    have HB := hide hkb
    clear hkb
    go_loopw [7] (fun i wr => ∃ k : Nat, k ≤ 64 ∧ i = .int .i64 k ∧ Hid (Tu w wr g (xrk x KB k))) (fun i _ => 64 - (intOf i).toNat)
    case atStart => exact ⟨0, by omega, rfl, hG⟩
    case round =>
      obtain ⟨k, hk, rfl, hx⟩ := hrel
      by_cases hl64 : k < 64
      · have hlz : (k : Int) < 64 := by omega
        have hkb : k < KB.length := by rw [HB.out]; exact hl64
        have hc : wr.cell? ⟨g, k, none⟩ = some (.int .u8 ((KB.getD k 0).toNat : Int)) := by
          rw [hx.out.bl.cell, byts_at _ _ (by rw [xrk_length]; exact hkb), xrk_at x KB k hkb]
        have hf := hx.out.bl.frozen k
        have hxor := xor_u8 (KB.getD k 0) x
        have hnext : Hid (Tu w (wr.setCell ⟨g, k, none⟩ (.int .u8 (((KB.getD k 0) ^^^ x).toNat : Int))) g (xrk x KB (k + 1))) := by
          have := hx.out.set k (KB.getD k 0 ^^^ x)
          rw [xrk_succ x KB k hkb] at this
          exact this
        generalize KB.getD k 0 = u at *
        go_wp2
        go_roundw
        case rel => exact ⟨k + 1, by omega, by go_num, hnext⟩
        case measure => simp [intOf]; omega
      · obtain rfl : k = 64 := by omega
        rw [xrk_all x KB 64 (by rw [HB.out]; exact Nat.le_refl _)] at hx
        go_wp2
        go_ret
        exact ⟨g, rfl, by rw [HKBe.out]; exact hx.out⟩
  · have hz : ¬ (64 : Int) < (key.length : Int) := by omega
    have hkk : Hid (kk key = key) := by unfold kk; rw [if_neg hlt]; exact rfl
    have hBz : Hid (Blk (w.alloc (.cells (z64b.map byt).toArray 5)) w.heap.size (z64b.map byt) 5) := Blk.new w _ _
    have HHz : Hid (Has (w.alloc (.cells (z64b.map byt).toArray 5)) (.slice ao key.length cap) key) := HV.out.below (below_new w _)
    have BB : Hid (Below w.heap.size w (w.alloc (.cells (z64b.map byt).toArray 5))) := below_new w _
    have HLEN : Hid (key.length ≤ 64) := by show _ ≤ _; omega
    obtain ⟨g, hg⟩ : ∃ g, g = w.heap.size := ⟨_, rfl⟩
    have LP : Hid (w.heap.size ≤ g) := by rw [hg]; exact Nat.le_refl _
    rw [← hg] at hBz
    go_enter Tryd.func19, Tryd.ntmps19
    go_wp2_with (first
      | (refine wpList_mkB rfl (.const (.int .i64 64)) (.const (.int .i64 64)) rfl 64 64 rfl rfl rfl (by decide) g hg ?_; rw [show List.replicate 64 (0 : UInt8) = z64b from rfl]; clear hg; generalize w.alloc (.cells (z64b.map byt).toArray 5) = w4 at hBz HHz BB ⊢)
      | (refine wpList_cpb rfl (.tmp 17) (.tmp 18) rfl g 0 64 64 rfl (.slice ao key.length cap) key rfl HHz.out z64b 5 hBz.out (by rw [z64b_length]; decide) ?_; intro q wc hbc hfc; have hfin : Hid (Blk wc g ((kb key).map byt) 5) := hide (by rw [kb_of _ HLEN.out, ← hkk.out] at hbc; exact hbc); clear hbc)
      | fail)
    have hG : Hid (Tu w wc g (xrk x (kb key) 0)) := by
      rw [xrk_zero]
      exact ⟨hfin.out, BB.out.trans (hfc.below (fun k hk (e : k = g) => by have := LP.out; omega) BB.out.size), LP.out⟩
    clear hfin hfc BB hBz HHz
    obtain ⟨KB, hKBe⟩ : ∃ KB, kb key = KB := ⟨_, rfl⟩
    have HKBe := hide hKBe
    rw [hKBe] at hkb hG
    clear hKBe
    have HB := hide hkb
    clear hkb
    go_loopw [7] (fun i wr => ∃ k : Nat, k ≤ 64 ∧ i = .int .i64 k ∧ Hid (Tu w wr g (xrk x KB k))) (fun i _ => 64 - (intOf i).toNat)
    case atStart => exact ⟨0, by omega, rfl, hG⟩
    case round =>
      obtain ⟨k, hk, rfl, hx⟩ := hrel
      by_cases hl64 : k < 64
      · have hlz : (k : Int) < 64 := by omega
        have hkb : k < KB.length := by rw [HB.out]; exact hl64
        have hc : wr.cell? ⟨g, k, none⟩ = some (.int .u8 ((KB.getD k 0).toNat : Int)) := by
          rw [hx.out.bl.cell, byts_at _ _ (by rw [xrk_length]; exact hkb), xrk_at x KB k hkb]
        have hf := hx.out.bl.frozen k
        have hxor := xor_u8 (KB.getD k 0) x
        have hnext : Hid (Tu w (wr.setCell ⟨g, k, none⟩ (.int .u8 (((KB.getD k 0) ^^^ x).toNat : Int))) g (xrk x KB (k + 1))) := by
          have := hx.out.set k (KB.getD k 0 ^^^ x)
          rw [xrk_succ x KB k hkb] at this
          exact this
        generalize KB.getD k 0 = u at *
        go_wp2
        go_roundw
        case rel => exact ⟨k + 1, by omega, by go_num, hnext⟩
        case measure => simp [intOf]; omega
      · obtain rfl : k = 64 := by omega
        rw [xrk_all x KB 64 (by rw [HB.out]; exact Nat.le_refl _)] at hx
        go_wp2
        go_ret
        exact ⟨g, rfl, by rw [HKBe.out]; exact hx.out⟩
end Go.Proofs.YtablmkijlpoaaaaDoor
