import Derived.Test.YtoceepmehmacbaaDoorRjG
namespace Go.Proofs.YtoceepmehmacbaaDoor
open Go.RowKit

theorem idx29 (ad : Addr) (n cap m : Nat) (h : m < n) (W : World) : (Instr.indexAt 40 (.slice (some ad) n cap) (.int .i64 (m : Int))).run Tryd.prog W = .ok (.pointer (some (ad.add m))) W := by
  have hm : (m : Int) < (n : Int) := by omega
  go_simp
theorem has_at {w : World} {ao : Option Addr} {n c : Nat} {bs : List UInt8} (h : Has w (.slice ao n c) bs) (hn : bs.length = n) (k : Nat) (hk : k < n) : ∃ ad, ao = some ad ∧ w.cell? (ad.add k) = some (.int .u8 ((bs.getD k 0).toNat : Int)) := by
  rcases h with ⟨h1, h2⟩ | ⟨ad, cap, h1, h2, h3⟩
  · rw [h2] at hn; simp at hn; omega
  · simp only [Value.slice.injEq] at h1
    refine ⟨ad, h1.1, ?_⟩
    rw [h3 k (bs.getD k 0) (by rw [List.getD_eq_getElem?_getD, List.getElem?_eq_getElem (by omega)]; rfl)]
    rfl

theorem wrap64_id (z : Int) (h0 : -9223372036854775808 ≤ z) (h1 : z < 9223372036854775808) : wrap64 z = z := by
  unfold wrap64
  omega
theorem wrap_div (u b : Nat) (hu : u < 256) : wrap64 ((u : Int) / (b : Int)) = ((u / b : Nat) : Int) := by
  have h : u / b ≤ u := Nat.div_le_self u b
  rw [show ((u : Int) / (b : Int)) = ((u / b : Nat) : Int) from rfl]
  generalize u / b = q at *
  exact wrap64_id _ (by omega) (by omega)
theorem Has.setFar {w : World} {v : Value} {bs : List UInt8} (h : Has w v bs) (g k : Nat) (u : Value) (hn : bs = [] ∨ ∀ q, v.ownBlock = some q → ¬ One g q) : Has (w.setCell ⟨g, k, none⟩ u) v bs :=
  h.fx2 (Fx.setCell (S := One g) w g k u rfl) hn

set_option maxHeartbeats 1000000 in
set_option maxRecDepth 100000 in
/-- The document's 'turned'. -/
theorem rturned_any (v : Value) (key : List UInt8) (x : UInt8) (X : Nat) (hxX : x.toNat = X) (hX : X = 54 ∨ X = 92) (w : World) (hv : Has w v key) (hl : key.length ≤ 100000000) (hR : Rst w) (hS : Bst w) :
    Calls Tryd.prog 90 #[v, .int .i64 (X : Int)] w fun e w' => ∃ g, e = .returned (.slice (some ⟨g, 0, none⟩) 64 64) ∧ Tu w w' g (xr x (kb key)) := by
  obtain ⟨ao, cap, rfl⟩ := hv.slice
  have hlen := hv.len
  have HV := hide hv
  have HR := hide hR
  have HS := hide hS
  have HX := hide hX
  have HXX : Lk x.toNat X := ⟨hxX⟩
  obtain ⟨KB, hKB⟩ : ∃ KB, kb key = KB := ⟨_, rfl⟩
  have HKB : Hid (KB.length = 64) := hide (by rw [← hKB]; exact kb_length key)
  have HKG0 : Hid (∀ k, KB.getD k 0 = if k < (kk key).length then (kk key).getD k 0 else 0) := hide (fun k => by
    rw [← hKB, kb]
    split
    · rw [List.getD_eq_getElem?_getD, List.getElem?_append_left (by assumption), List.getD_eq_getElem?_getD]
    · rw [List.getD_eq_getElem?_getD, List.getElem?_append_right (by omega), List.getElem?_replicate]
      split <;> rfl)
  rw [hKB]
  clear hv hR hS hX hxX hKB
  obtain ⟨g, hg⟩ : ∃ g, g = w.heap.size := ⟨_, rfl⟩
  have LG : Hid (w.heap.size ≤ g) := hide (by omega)
  have Bz : Hid (Blk (w.alloc (.cells (z64b.map byt).toArray 5)) g (z64b.map byt) 5) := hide (by rw [hg]; exact Blk.new w _ _)
  have BB : Hid (Below w.heap.size w (w.alloc (.cells (z64b.map byt).toArray 5))) := hide (below_new w _)
  have HVz : Hid (Has (w.alloc (.cells (z64b.map byt).toArray 5)) (.slice ao key.length cap) key) := hide (HV.out.below (below_new w _))
  go_enter Tryd.func90, Tryd.ntmps90
  go_upto_region 2 with (refine wpList_mkB rfl (.const (.int .i64 64)) (.const (.int .i64 64)) rfl 64 64 rfl rfl rfl (by decide) g hg ?_; rw [show List.replicate 64 (0 : UInt8) = z64b from rfl]; clear hg; generalize w.alloc (.cells (z64b.map byt).toArray 5) = w4 at Bz BB HVz ⊢)
  by_cases hlt : 64 < key.length
  · have hz : (64 : Int) < (key.length : Int) := by omega
    have hkk : kk key = sumOf key := by unfold kk; rw [if_pos hlt]
    have hs35 := info41 (sumOf key) (sumOf_length key)
    have hD32 := hide (sumOf_length key)
    have hcall : Hid (Calls Tryd.prog 89 #[.slice ao key.length cap] w4 fun e w' => e = .returned (.agg ((sumOf key).map byt).toArray) ∧ Below w4.heap.size w4 w') := hide (refsum_any _ key w4 HVz.out (by omega) (HR.out.below BB.out HR.out.lt) (HS.out.below BB.out HS.out.lt))
    rw [hkk] at HKG0
    obtain ⟨K, hK⟩ : ∃ K, sumOf key = K := ⟨_, rfl⟩
    rw [hK] at HKG0 hs35 hD32 hcall
    have hD := hD32.out
    rw [hD] at HKG0
    have HNK : Lk K.length 32 := ⟨hD⟩
    have HKG : Hid (∀ k, k < 32 → KB.getD k 0 = K.getD k 0) := hide (fun k hk => by rw [HKG0.out k, if_pos hk])
    have HKO : Hid (∀ k, ¬ k < 32 → KB.getD k 0 = 0) := hide (fun k hk => by rw [HKG0.out k, if_neg hk])
    clear hkk hK HKG0 hlt hD
    go_wp2_with (first
      | (go_at_call 89; refine hcall.out.mono ?_; rintro e w1 ⟨rfl, hb1⟩; have HB1 := hide hb1; clear hb1)
      | (refine wpList_newAt rfl 22 rfl (z32.map byt) zero41 w1.heap.size rfl ?_)
      | (refine wpList_store_row rfl 22 (.tmp 6) (.tmp 16) rfl w1.heap.size (K.map byt).toArray rfl rfl 22 (z32.map byt).toArray (Blk.new w1 _ _) hs35 (by rw [List.size_toArray, List.size_toArray, List.length_map, List.length_map, hD32.out]; rfl) (byts_one _) ?_)
      | fail)
    have hgl : g < w4.heap.size := Bz.out.lt
    have hsz := HB1.out.size
    have H0 : Hid (Has ((w1.alloc (.cells (z32.map byt).toArray 22)).setRow w1.heap.size (K.map byt).toArray) (.slice (some ⟨w1.heap.size, 0, none⟩) 32 32) K) := hide (((Blk.new w1 (z32.map byt) 22).setRow (K.map byt)).has 32 hD32.out)
    have hb1 : Below w.heap.size w w1 := BB.out.trans (HB1.out.mono BB.out.size)
    have T0 : Hid (Tu w ((w1.alloc (.cells (z32.map byt).toArray 22)).setRow w1.heap.size (K.map byt).toArray) g (tnk x KB 0)) := hide ⟨((Bz.out.below HB1.out hgl).alloc _).setRowOther _ _ (by omega), below_setRow (hb1.alloc hb1.size _) _ _ hb1.size, LG.out⟩
    have HFA : Hid (K = [] ∨ ∀ q, (Value.slice (some ⟨w1.heap.size, 0, none⟩) 32 32).ownBlock = some q → ¬ One g q) := hide (.inr (fun q hq (e : q = g) => by simp [Value.ownBlock] at hq; omega))
    generalize (w1.alloc (.cells (z32.map byt).toArray 22)).setRow w1.heap.size (K.map byt).toArray = w5 at H0 T0 ⊢
    have hlen2 := H0.out.len
    rw [HNK.h] at hlen2
    clear hb1 hsz hgl hcall hs35 hD32 HB1 HVz HV Bz BB hlen
    obtain ⟨a0, ha0⟩ : ∃ a : Option Addr, some ⟨w1.heap.size, 0, none⟩ = a := ⟨_, rfl⟩
    rw [ha0] at H0 HFA hlen2 ⊢
    clear ha0
    obtain ⟨nK, hnK⟩ : ∃ n : Nat, n = 32 := ⟨_, rfl⟩
    rw [← hnK] at HNK HKG HKO
    have e32 : Value.slice a0 32 32 = .slice a0 nK nK := by rw [hnK]
    rw [e32] at H0 HFA hlen2 ⊢
    have e33 : (32 : Int) = (nK : Int) := by omega
    rw [show ((32 : Nat) : Int) = (nK : Int) from by omega] at hlen2
    clear e32 e33 hnK

    go_loopw [7] (fun i wr => ∃ k : Nat, k ≤ 64 ∧ i = .int .i64 k ∧ Hid (Tu w wr g (tnk x KB k)) ∧ Hid (Has wr (.slice a0 nK nK) K)) (fun i _ => 64 - (intOf i).toNat)
    case atStart => exact ⟨0, by omega, rfl, T0, H0⟩
    case round =>
      obtain ⟨k, hk, rfl, hT2, hH2⟩ := hrel
      by_cases hl64 : k < 64
      · have hlz : (k : Int) < 64 := by omega
        by_cases hin : k < nK
        · have hinz : (k : Int) < nK := by omega
          obtain ⟨ad, ha, hc⟩ := has_at hH2.out HNK.h k hin
          subst ha
          have hi := fun W => idx29 ad nK nK k hin W
          have HU : Hid ((K.getD k 0).toNat < 256) := hide (K.getD k 0).toNat_lt
          have HG : Lk (KB.getD k 0) (K.getD k 0) := ⟨HKG.out k hin⟩
          generalize K.getD k 0 = u at *
          obtain ⟨U, hU⟩ : ∃ U, u.toNat = U := ⟨_, rfl⟩
          have HUU : Lk u.toNat U := ⟨hU⟩
          rw [hU] at HU hc
          clear hU
          have hwU : wrap64 (U : Int) = (U : Int) := by have := HU.out; exact wrap64_id _ (by omega) (by omega)
          go_wp2
          go_loopw [9, 10] (fun n b wx => ∃ j : Nat, j ≤ 8 ∧ b = .int .i64 ((2 ^ j : Nat) : Int) ∧ n = .int .i64 (((U ^^^ X) % 2 ^ j : Nat) : Int) ∧ Hid (Tu w wx g (tnk x KB k)) ∧ Hid (Has wx (.slice (some ad) nK nK) K)) (fun _ b _ => 256 - (intOf b).toNat)
          case atStart => exact ⟨0, by omega, rfl, by rw [Nat.pow_zero, Nat.mod_one]; rfl, hT2, hH2⟩
          case round =>
            obtain ⟨j, hj, rfl, rfl, hT, hH⟩ := hrel
            by_cases hj8 : j < 8
            · have hb := bit_at U j X HU.out hj8 HX.out
              have hp2 : 2 ^ (j + 1) = 2 * 2 ^ j := by rw [Nat.pow_succ]; omega
              have hpow : 2 ^ j ≤ 128 := Nat.pow_le_pow_right (by decide) (show j ≤ 7 by omega)
              have hp0 : 0 < 2 ^ j := Nat.pow_pos (by decide)
              have hlt : (U ^^^ X) % 2 ^ j < 2 ^ j := Nat.mod_lt _ hp0
              have HP2 : Lk (2 ^ (j + 1)) (2 * 2 ^ j) := ⟨hp2⟩
              rw [hp2] at hb
              have HB : Lk ((U ^^^ X) % 2 ^ (j + 1)) (if U / 2 ^ j % 2 = X / 2 ^ j % 2 then (U ^^^ X) % 2 ^ j else (U ^^^ X) % 2 ^ j + 2 ^ j) := ⟨by rw [hp2]; exact hb⟩
              clear hb hp2
              obtain ⟨B, hB⟩ : ∃ B, 2 ^ j = B := ⟨_, rfl⟩
              rw [hB] at HP2 HB hpow hp0 hlt ⊢
              generalize (U ^^^ X) % B = N0 at HB hlt ⊢
              have hBz : (B : Int) < 256 := by omega
              have hB0 : ¬ (B : Int) = 0 := by omega
              have hN0 : (N0 : Int) + (B : Int) < 1000 := by omega
              have hb2 : (B : Int) * 2 < 1000 := by omega
              have hqU : wrap64 ((U : Int) / (B : Int)) = ((U / B : Nat) : Int) := wrap_div U B HU.out
              have hqX : wrap64 ((X : Int) / (B : Int)) = ((X / B : Nat) : Int) := wrap_div X B (by rcases HX.out with rfl | rfl <;> decide)
              go_wp2
              go_quiet (fail)
              have hT3 : Hid (Tu w (wr.drewN nq) g (tnk x KB k)) := hide ⟨hT.out.bl.drewN nq, below_drewN hT.out.be nq, hT.out.lp⟩
              have hH3 : Hid (Has (wr.drewN nq) (.slice (some ad) nK nK) K) := hide (hH.out.drewN nq)
              generalize wr.drewN nq = wd at hT3 hH3 ⊢
              clear hT hH
              clear hqX
              by_cases he : U / B % 2 = X / B % 2
              · rw [if_pos he] at HB
                have hcond : ((((U : Int) / (B : Int)).tmod 2) != ((X : Int) / (B : Int)).tmod 2) = false := by rw [show (((U : Int) / (B : Int)).tmod 2) = ((U / B % 2 : Nat) : Int) from rfl, show (((X : Int) / (B : Int)).tmod 2) = ((X / B % 2 : Nat) : Int) from rfl, he]; simp
                rw [hcond]
                clear hcond he
                go_wp2
                go_roundw
                case rel => exact ⟨j + 1, by omega, by rw [HP2.h, Nat.mul_comm]; go_num, by rw [HB.h], hT3, hH3⟩
                case measure => simp [intOf]; omega
              · rw [if_neg he] at HB
                have hcond : ((((U : Int) / (B : Int)).tmod 2) != ((X : Int) / (B : Int)).tmod 2) = true := by rw [show (((U : Int) / (B : Int)).tmod 2) = ((U / B % 2 : Nat) : Int) from rfl, show (((X : Int) / (B : Int)).tmod 2) = ((X / B % 2 : Nat) : Int) from rfl]; simp only [bne_iff_ne, ne_eq]; exact fun e => he (Int.ofNat.inj e)
                rw [hcond]
                clear hcond he
                go_wp2
                go_roundw
                case rel => exact ⟨j + 1, by omega, by rw [HP2.h, Nat.mul_comm]; go_num, by rw [HB.h]; go_num, hT3, hH3⟩
                case measure => simp [intOf]; omega
            · obtain rfl : j = 8 := by omega
              rw [show ((2 ^ 8 : Nat) : Int) = (256 : Int) from rfl]
              have hfin : ((U ^^^ X) % 2 ^ 8 : Nat) = ((KB.getD k 0) ^^^ x).toNat := by rw [HG.h, UInt8.toNat_xor, HXX.h, HUU.h]; exact Nat.mod_eq_of_lt (by have h1 := HU.out; have h2 : X < 2 ^ 8 := (by rcases HX.out with rfl | rfl <;> decide); exact Nat.xor_lt_two_pow h1 h2)
              rw [hfin]
              clear hfin
              have hcg : ∃ v, wr.cell? ⟨g, k, none⟩ = some v := ⟨_, by rw [hT.out.bl.cell, List.getElem?_eq_getElem (by rw [List.length_map, tnk_length x KB HKB.out k hk]; exact hl64)]⟩
              obtain ⟨vg, hcg⟩ := hcg
              have hfg := hT.out.bl.frozen k
              have hnext : Hid (Tu w (wr.setCell ⟨g, k, none⟩ (.int .u8 (((KB.getD k 0) ^^^ x).toNat : Int))) g (tnk x KB (k + 1))) := hide (by
                have := hT.out.set k (KB.getD k 0 ^^^ x)
                rw [tnk_succ x KB HKB.out k hl64] at this
                exact this)
              have hH4 : Hid (Has (wr.setCell ⟨g, k, none⟩ (.int .u8 (((KB.getD k 0) ^^^ x).toNat : Int))) (.slice (some ad) nK nK) K) := hide (hH.out.setFar g k _ HFA.out)
              have hb8 : ((((KB.getD k 0) ^^^ x).toNat : Int)) % 256 = (((KB.getD k 0) ^^^ x).toNat : Int) := by have := ((KB.getD k 0) ^^^ x).toNat_lt; omega
              generalize ((KB.getD k 0) ^^^ x).toNat = R at *
              go_wp2
              go_roundw
              case rel => exact ⟨k + 1, by omega, by go_num, hnext, hH4⟩
              case measure => simp [intOf]; omega

        · have hinz : ¬ (k : Int) < nK := by omega
          have HU : Hid (0 < 256) := hide (by decide)
          have HG : Lk (KB.getD k 0) 0 := ⟨HKO.out k hin⟩
          have HUU : Lk (0 : UInt8).toNat 0 := ⟨rfl⟩
          go_wp2
          go_loopw [9, 10] (fun n b wx => ∃ j : Nat, j ≤ 8 ∧ b = .int .i64 ((2 ^ j : Nat) : Int) ∧ n = .int .i64 (((0 ^^^ X) % 2 ^ j : Nat) : Int) ∧ Hid (Tu w wx g (tnk x KB k)) ∧ Hid (Has wx (.slice a0 nK nK) K)) (fun _ b _ => 256 - (intOf b).toNat)
          case atStart => exact ⟨0, by omega, rfl, by rw [Nat.pow_zero, Nat.mod_one]; rfl, hT2, hH2⟩
          case round =>
            obtain ⟨j, hj, rfl, rfl, hT, hH⟩ := hrel
            by_cases hj8 : j < 8
            · have hb := bit_at 0 j X HU.out hj8 HX.out
              have hp2 : 2 ^ (j + 1) = 2 * 2 ^ j := by rw [Nat.pow_succ]; omega
              have hpow : 2 ^ j ≤ 128 := Nat.pow_le_pow_right (by decide) (show j ≤ 7 by omega)
              have hp0 : 0 < 2 ^ j := Nat.pow_pos (by decide)
              have hlt : (0 ^^^ X) % 2 ^ j < 2 ^ j := Nat.mod_lt _ hp0
              have HP2 : Lk (2 ^ (j + 1)) (2 * 2 ^ j) := ⟨hp2⟩
              rw [hp2] at hb
              have HB : Lk ((0 ^^^ X) % 2 ^ (j + 1)) (if 0 / 2 ^ j % 2 = X / 2 ^ j % 2 then (0 ^^^ X) % 2 ^ j else (0 ^^^ X) % 2 ^ j + 2 ^ j) := ⟨by rw [hp2]; exact hb⟩
              clear hb hp2
              obtain ⟨B, hB⟩ : ∃ B, 2 ^ j = B := ⟨_, rfl⟩
              rw [hB] at HP2 HB hpow hp0 hlt ⊢
              generalize (0 ^^^ X) % B = N0 at HB hlt ⊢
              have hBz : (B : Int) < 256 := by omega
              have hB0 : ¬ (B : Int) = 0 := by omega
              have hN0 : (N0 : Int) + (B : Int) < 1000 := by omega
              have hb2 : (B : Int) * 2 < 1000 := by omega
              have hqX : wrap64 ((X : Int) / (B : Int)) = ((X / B : Nat) : Int) := wrap_div X B (by rcases HX.out with rfl | rfl <;> decide)
              go_wp2
              go_quiet (fail)
              have hT3 : Hid (Tu w (wr.drewN nq) g (tnk x KB k)) := hide ⟨hT.out.bl.drewN nq, below_drewN hT.out.be nq, hT.out.lp⟩
              have hH3 : Hid (Has (wr.drewN nq) (.slice a0 nK nK) K) := hide (hH.out.drewN nq)
              generalize wr.drewN nq = wd at hT3 hH3 ⊢
              clear hT hH
              clear hqX
              by_cases he : 0 / B % 2 = X / B % 2
              · rw [if_pos he] at HB
                have hcond : ((0 : Int) != ((X : Int) / (B : Int)).tmod 2) = false := by rw [show (0 : Int) = ((0 / B % 2 : Nat) : Int) by rw [Nat.zero_div, Nat.zero_mod]; rfl, show (((X : Int) / (B : Int)).tmod 2) = ((X / B % 2 : Nat) : Int) from rfl, he]; simp
                rw [hcond]
                clear hcond he
                go_wp2
                go_roundw
                case rel => exact ⟨j + 1, by omega, by rw [HP2.h, Nat.mul_comm]; go_num, by rw [HB.h], hT3, hH3⟩
                case measure => simp [intOf]; omega
              · rw [if_neg he] at HB
                have hcond : ((0 : Int) != ((X : Int) / (B : Int)).tmod 2) = true := by rw [show (0 : Int) = ((0 / B % 2 : Nat) : Int) by rw [Nat.zero_div, Nat.zero_mod]; rfl, show (((X : Int) / (B : Int)).tmod 2) = ((X / B % 2 : Nat) : Int) from rfl]; simp only [bne_iff_ne, ne_eq]; exact fun e => he (Int.ofNat.inj e)
                rw [hcond]
                clear hcond he
                go_wp2
                go_roundw
                case rel => exact ⟨j + 1, by omega, by rw [HP2.h, Nat.mul_comm]; go_num, by rw [HB.h]; go_num, hT3, hH3⟩
                case measure => simp [intOf]; omega
            · obtain rfl : j = 8 := by omega
              rw [show ((2 ^ 8 : Nat) : Int) = (256 : Int) from rfl]
              have hfin : ((0 ^^^ X) % 2 ^ 8 : Nat) = ((KB.getD k 0) ^^^ x).toNat := by rw [HG.h, UInt8.toNat_xor, HXX.h, HUU.h]; exact Nat.mod_eq_of_lt (by have h1 := HU.out; have h2 : X < 2 ^ 8 := (by rcases HX.out with rfl | rfl <;> decide); exact Nat.xor_lt_two_pow h1 h2)
              rw [hfin]
              clear hfin
              have hcg : ∃ v, wr.cell? ⟨g, k, none⟩ = some v := ⟨_, by rw [hT.out.bl.cell, List.getElem?_eq_getElem (by rw [List.length_map, tnk_length x KB HKB.out k hk]; exact hl64)]⟩
              obtain ⟨vg, hcg⟩ := hcg
              have hfg := hT.out.bl.frozen k
              have hnext : Hid (Tu w (wr.setCell ⟨g, k, none⟩ (.int .u8 (((KB.getD k 0) ^^^ x).toNat : Int))) g (tnk x KB (k + 1))) := hide (by
                have := hT.out.set k (KB.getD k 0 ^^^ x)
                rw [tnk_succ x KB HKB.out k hl64] at this
                exact this)
              have hH4 : Hid (Has (wr.setCell ⟨g, k, none⟩ (.int .u8 (((KB.getD k 0) ^^^ x).toNat : Int))) (.slice a0 nK nK) K) := hide (hH.out.setFar g k _ HFA.out)
              have hb8 : ((((KB.getD k 0) ^^^ x).toNat : Int)) % 256 = (((KB.getD k 0) ^^^ x).toNat : Int) := by have := ((KB.getD k 0) ^^^ x).toNat_lt; omega
              generalize ((KB.getD k 0) ^^^ x).toNat = R at *
              go_wp2
              go_roundw
              case rel => exact ⟨k + 1, by omega, by go_num, hnext, hH4⟩
              case measure => simp [intOf]; omega

      · obtain rfl : k = 64 := by omega
        rw [tnk_all x KB HKB.out] at hT2
        go_wp2
        go_ret
        exact ⟨g, rfl, hT2.out⟩

  · have hz : ¬ (64 : Int) < (key.length : Int) := by omega
    have hkk : kk key = key := by unfold kk; rw [if_neg hlt]
    rw [hkk] at HKG0
    obtain ⟨nK, hnK⟩ : ∃ n, key.length = n := ⟨_, rfl⟩
    have HNK : Lk key.length nK := ⟨hnK⟩
    rw [hnK] at hlen hz HVz HKG0 ⊢
    have HKG : Hid (∀ k, k < nK → KB.getD k 0 = key.getD k 0) := hide (fun k hk => by rw [HKG0.out k, if_pos hk])
    have HKO : Hid (∀ k, ¬ k < nK → KB.getD k 0 = 0) := hide (fun k hk => by rw [HKG0.out k, if_neg hk])
    have HFA : Hid (key = [] ∨ ∀ q, (Value.slice ao nK cap).ownBlock = some q → ¬ One g q) := hide (by
      rcases has_lt HV.out g LG.out with h | h
      · exact .inl h
      · exact .inr (fun q hq (e : q = g) => h (by rw [HNK.h, hq, e])))
    have T0 : Hid (Tu w w4 g (tnk x KB 0)) := hide ⟨Bz.out, BB.out, LG.out⟩
    have H0 := HVz
    clear hkk hnK HKG0 hlt
    obtain ⟨K, hK⟩ : ∃ K, key = K := ⟨_, rfl⟩
    rw [hK] at HNK HKG H0 HFA
    generalize ao = a0 at *
    generalize cap = c0 at *
    clear HVz HV hK
    go_wp2

    go_loopw [7] (fun i wr => ∃ k : Nat, k ≤ 64 ∧ i = .int .i64 k ∧ Hid (Tu w wr g (tnk x KB k)) ∧ Hid (Has wr (.slice a0 nK c0) K)) (fun i _ => 64 - (intOf i).toNat)
    case atStart => exact ⟨0, by omega, rfl, T0, H0⟩
    case round =>
      obtain ⟨k, hk, rfl, hT2, hH2⟩ := hrel
      by_cases hl64 : k < 64
      · have hlz : (k : Int) < 64 := by omega
        by_cases hin : k < nK
        · have hinz : (k : Int) < nK := by omega
          obtain ⟨ad, ha, hc⟩ := has_at hH2.out HNK.h k hin
          subst ha
          have hi := fun W => idx29 ad nK c0 k hin W
          have HU : Hid ((K.getD k 0).toNat < 256) := hide (K.getD k 0).toNat_lt
          have HG : Lk (KB.getD k 0) (K.getD k 0) := ⟨HKG.out k hin⟩
          generalize K.getD k 0 = u at *
          obtain ⟨U, hU⟩ : ∃ U, u.toNat = U := ⟨_, rfl⟩
          have HUU : Lk u.toNat U := ⟨hU⟩
          rw [hU] at HU hc
          clear hU
          have hwU : wrap64 (U : Int) = (U : Int) := by have := HU.out; exact wrap64_id _ (by omega) (by omega)
          go_wp2
          go_loopw [9, 10] (fun n b wx => ∃ j : Nat, j ≤ 8 ∧ b = .int .i64 ((2 ^ j : Nat) : Int) ∧ n = .int .i64 (((U ^^^ X) % 2 ^ j : Nat) : Int) ∧ Hid (Tu w wx g (tnk x KB k)) ∧ Hid (Has wx (.slice (some ad) nK c0) K)) (fun _ b _ => 256 - (intOf b).toNat)
          case atStart => exact ⟨0, by omega, rfl, by rw [Nat.pow_zero, Nat.mod_one]; rfl, hT2, hH2⟩
          case round =>
            obtain ⟨j, hj, rfl, rfl, hT, hH⟩ := hrel
            by_cases hj8 : j < 8
            · have hb := bit_at U j X HU.out hj8 HX.out
              have hp2 : 2 ^ (j + 1) = 2 * 2 ^ j := by rw [Nat.pow_succ]; omega
              have hpow : 2 ^ j ≤ 128 := Nat.pow_le_pow_right (by decide) (show j ≤ 7 by omega)
              have hp0 : 0 < 2 ^ j := Nat.pow_pos (by decide)
              have hlt : (U ^^^ X) % 2 ^ j < 2 ^ j := Nat.mod_lt _ hp0
              have HP2 : Lk (2 ^ (j + 1)) (2 * 2 ^ j) := ⟨hp2⟩
              rw [hp2] at hb
              have HB : Lk ((U ^^^ X) % 2 ^ (j + 1)) (if U / 2 ^ j % 2 = X / 2 ^ j % 2 then (U ^^^ X) % 2 ^ j else (U ^^^ X) % 2 ^ j + 2 ^ j) := ⟨by rw [hp2]; exact hb⟩
              clear hb hp2
              obtain ⟨B, hB⟩ : ∃ B, 2 ^ j = B := ⟨_, rfl⟩
              rw [hB] at HP2 HB hpow hp0 hlt ⊢
              generalize (U ^^^ X) % B = N0 at HB hlt ⊢
              have hBz : (B : Int) < 256 := by omega
              have hB0 : ¬ (B : Int) = 0 := by omega
              have hN0 : (N0 : Int) + (B : Int) < 1000 := by omega
              have hb2 : (B : Int) * 2 < 1000 := by omega
              have hqU : wrap64 ((U : Int) / (B : Int)) = ((U / B : Nat) : Int) := wrap_div U B HU.out
              have hqX : wrap64 ((X : Int) / (B : Int)) = ((X / B : Nat) : Int) := wrap_div X B (by rcases HX.out with rfl | rfl <;> decide)
              go_wp2
              go_quiet (fail)
              have hT3 : Hid (Tu w (wr.drewN nq) g (tnk x KB k)) := hide ⟨hT.out.bl.drewN nq, below_drewN hT.out.be nq, hT.out.lp⟩
              have hH3 : Hid (Has (wr.drewN nq) (.slice (some ad) nK c0) K) := hide (hH.out.drewN nq)
              generalize wr.drewN nq = wd at hT3 hH3 ⊢
              clear hT hH
              clear hqX
              by_cases he : U / B % 2 = X / B % 2
              · rw [if_pos he] at HB
                have hcond : ((((U : Int) / (B : Int)).tmod 2) != ((X : Int) / (B : Int)).tmod 2) = false := by rw [show (((U : Int) / (B : Int)).tmod 2) = ((U / B % 2 : Nat) : Int) from rfl, show (((X : Int) / (B : Int)).tmod 2) = ((X / B % 2 : Nat) : Int) from rfl, he]; simp
                rw [hcond]
                clear hcond he
                go_wp2
                go_roundw
                case rel => exact ⟨j + 1, by omega, by rw [HP2.h, Nat.mul_comm]; go_num, by rw [HB.h], hT3, hH3⟩
                case measure => simp [intOf]; omega
              · rw [if_neg he] at HB
                have hcond : ((((U : Int) / (B : Int)).tmod 2) != ((X : Int) / (B : Int)).tmod 2) = true := by rw [show (((U : Int) / (B : Int)).tmod 2) = ((U / B % 2 : Nat) : Int) from rfl, show (((X : Int) / (B : Int)).tmod 2) = ((X / B % 2 : Nat) : Int) from rfl]; simp only [bne_iff_ne, ne_eq]; exact fun e => he (Int.ofNat.inj e)
                rw [hcond]
                clear hcond he
                go_wp2
                go_roundw
                case rel => exact ⟨j + 1, by omega, by rw [HP2.h, Nat.mul_comm]; go_num, by rw [HB.h]; go_num, hT3, hH3⟩
                case measure => simp [intOf]; omega
            · obtain rfl : j = 8 := by omega
              rw [show ((2 ^ 8 : Nat) : Int) = (256 : Int) from rfl]
              have hfin : ((U ^^^ X) % 2 ^ 8 : Nat) = ((KB.getD k 0) ^^^ x).toNat := by rw [HG.h, UInt8.toNat_xor, HXX.h, HUU.h]; exact Nat.mod_eq_of_lt (by have h1 := HU.out; have h2 : X < 2 ^ 8 := (by rcases HX.out with rfl | rfl <;> decide); exact Nat.xor_lt_two_pow h1 h2)
              rw [hfin]
              clear hfin
              have hcg : ∃ v, wr.cell? ⟨g, k, none⟩ = some v := ⟨_, by rw [hT.out.bl.cell, List.getElem?_eq_getElem (by rw [List.length_map, tnk_length x KB HKB.out k hk]; exact hl64)]⟩
              obtain ⟨vg, hcg⟩ := hcg
              have hfg := hT.out.bl.frozen k
              have hnext : Hid (Tu w (wr.setCell ⟨g, k, none⟩ (.int .u8 (((KB.getD k 0) ^^^ x).toNat : Int))) g (tnk x KB (k + 1))) := hide (by
                have := hT.out.set k (KB.getD k 0 ^^^ x)
                rw [tnk_succ x KB HKB.out k hl64] at this
                exact this)
              have hH4 : Hid (Has (wr.setCell ⟨g, k, none⟩ (.int .u8 (((KB.getD k 0) ^^^ x).toNat : Int))) (.slice (some ad) nK c0) K) := hide (hH.out.setFar g k _ HFA.out)
              have hb8 : ((((KB.getD k 0) ^^^ x).toNat : Int)) % 256 = (((KB.getD k 0) ^^^ x).toNat : Int) := by have := ((KB.getD k 0) ^^^ x).toNat_lt; omega
              generalize ((KB.getD k 0) ^^^ x).toNat = R at *
              go_wp2
              go_roundw
              case rel => exact ⟨k + 1, by omega, by go_num, hnext, hH4⟩
              case measure => simp [intOf]; omega

        · have hinz : ¬ (k : Int) < nK := by omega
          have HU : Hid (0 < 256) := hide (by decide)
          have HG : Lk (KB.getD k 0) 0 := ⟨HKO.out k hin⟩
          have HUU : Lk (0 : UInt8).toNat 0 := ⟨rfl⟩
          go_wp2
          go_loopw [9, 10] (fun n b wx => ∃ j : Nat, j ≤ 8 ∧ b = .int .i64 ((2 ^ j : Nat) : Int) ∧ n = .int .i64 (((0 ^^^ X) % 2 ^ j : Nat) : Int) ∧ Hid (Tu w wx g (tnk x KB k)) ∧ Hid (Has wx (.slice a0 nK c0) K)) (fun _ b _ => 256 - (intOf b).toNat)
          case atStart => exact ⟨0, by omega, rfl, by rw [Nat.pow_zero, Nat.mod_one]; rfl, hT2, hH2⟩
          case round =>
            obtain ⟨j, hj, rfl, rfl, hT, hH⟩ := hrel
            by_cases hj8 : j < 8
            · have hb := bit_at 0 j X HU.out hj8 HX.out
              have hp2 : 2 ^ (j + 1) = 2 * 2 ^ j := by rw [Nat.pow_succ]; omega
              have hpow : 2 ^ j ≤ 128 := Nat.pow_le_pow_right (by decide) (show j ≤ 7 by omega)
              have hp0 : 0 < 2 ^ j := Nat.pow_pos (by decide)
              have hlt : (0 ^^^ X) % 2 ^ j < 2 ^ j := Nat.mod_lt _ hp0
              have HP2 : Lk (2 ^ (j + 1)) (2 * 2 ^ j) := ⟨hp2⟩
              rw [hp2] at hb
              have HB : Lk ((0 ^^^ X) % 2 ^ (j + 1)) (if 0 / 2 ^ j % 2 = X / 2 ^ j % 2 then (0 ^^^ X) % 2 ^ j else (0 ^^^ X) % 2 ^ j + 2 ^ j) := ⟨by rw [hp2]; exact hb⟩
              clear hb hp2
              obtain ⟨B, hB⟩ : ∃ B, 2 ^ j = B := ⟨_, rfl⟩
              rw [hB] at HP2 HB hpow hp0 hlt ⊢
              generalize (0 ^^^ X) % B = N0 at HB hlt ⊢
              have hBz : (B : Int) < 256 := by omega
              have hB0 : ¬ (B : Int) = 0 := by omega
              have hN0 : (N0 : Int) + (B : Int) < 1000 := by omega
              have hb2 : (B : Int) * 2 < 1000 := by omega
              have hqX : wrap64 ((X : Int) / (B : Int)) = ((X / B : Nat) : Int) := wrap_div X B (by rcases HX.out with rfl | rfl <;> decide)
              go_wp2
              go_quiet (fail)
              have hT3 : Hid (Tu w (wr.drewN nq) g (tnk x KB k)) := hide ⟨hT.out.bl.drewN nq, below_drewN hT.out.be nq, hT.out.lp⟩
              have hH3 : Hid (Has (wr.drewN nq) (.slice a0 nK c0) K) := hide (hH.out.drewN nq)
              generalize wr.drewN nq = wd at hT3 hH3 ⊢
              clear hT hH
              clear hqX
              by_cases he : 0 / B % 2 = X / B % 2
              · rw [if_pos he] at HB
                have hcond : ((0 : Int) != ((X : Int) / (B : Int)).tmod 2) = false := by rw [show (0 : Int) = ((0 / B % 2 : Nat) : Int) by rw [Nat.zero_div, Nat.zero_mod]; rfl, show (((X : Int) / (B : Int)).tmod 2) = ((X / B % 2 : Nat) : Int) from rfl, he]; simp
                rw [hcond]
                clear hcond he
                go_wp2
                go_roundw
                case rel => exact ⟨j + 1, by omega, by rw [HP2.h, Nat.mul_comm]; go_num, by rw [HB.h], hT3, hH3⟩
                case measure => simp [intOf]; omega
              · rw [if_neg he] at HB
                have hcond : ((0 : Int) != ((X : Int) / (B : Int)).tmod 2) = true := by rw [show (0 : Int) = ((0 / B % 2 : Nat) : Int) by rw [Nat.zero_div, Nat.zero_mod]; rfl, show (((X : Int) / (B : Int)).tmod 2) = ((X / B % 2 : Nat) : Int) from rfl]; simp only [bne_iff_ne, ne_eq]; exact fun e => he (Int.ofNat.inj e)
                rw [hcond]
                clear hcond he
                go_wp2
                go_roundw
                case rel => exact ⟨j + 1, by omega, by rw [HP2.h, Nat.mul_comm]; go_num, by rw [HB.h]; go_num, hT3, hH3⟩
                case measure => simp [intOf]; omega
            · obtain rfl : j = 8 := by omega
              rw [show ((2 ^ 8 : Nat) : Int) = (256 : Int) from rfl]
              have hfin : ((0 ^^^ X) % 2 ^ 8 : Nat) = ((KB.getD k 0) ^^^ x).toNat := by rw [HG.h, UInt8.toNat_xor, HXX.h, HUU.h]; exact Nat.mod_eq_of_lt (by have h1 := HU.out; have h2 : X < 2 ^ 8 := (by rcases HX.out with rfl | rfl <;> decide); exact Nat.xor_lt_two_pow h1 h2)
              rw [hfin]
              clear hfin
              have hcg : ∃ v, wr.cell? ⟨g, k, none⟩ = some v := ⟨_, by rw [hT.out.bl.cell, List.getElem?_eq_getElem (by rw [List.length_map, tnk_length x KB HKB.out k hk]; exact hl64)]⟩
              obtain ⟨vg, hcg⟩ := hcg
              have hfg := hT.out.bl.frozen k
              have hnext : Hid (Tu w (wr.setCell ⟨g, k, none⟩ (.int .u8 (((KB.getD k 0) ^^^ x).toNat : Int))) g (tnk x KB (k + 1))) := hide (by
                have := hT.out.set k (KB.getD k 0 ^^^ x)
                rw [tnk_succ x KB HKB.out k hl64] at this
                exact this)
              have hH4 : Hid (Has (wr.setCell ⟨g, k, none⟩ (.int .u8 (((KB.getD k 0) ^^^ x).toNat : Int))) (.slice a0 nK c0) K) := hide (hH.out.setFar g k _ HFA.out)
              have hb8 : ((((KB.getD k 0) ^^^ x).toNat : Int)) % 256 = (((KB.getD k 0) ^^^ x).toNat : Int) := by have := ((KB.getD k 0) ^^^ x).toNat_lt; omega
              generalize ((KB.getD k 0) ^^^ x).toNat = R at *
              go_wp2
              go_roundw
              case rel => exact ⟨k + 1, by omega, by go_num, hnext, hH4⟩
              case measure => simp [intOf]; omega

      · obtain rfl : k = 64 := by omega
        rw [tnk_all x KB HKB.out] at hT2
        go_wp2
        go_ret
        exact ⟨g, rfl, hT2.out⟩

end Go.Proofs.YtoceepmehmacbaaDoor
