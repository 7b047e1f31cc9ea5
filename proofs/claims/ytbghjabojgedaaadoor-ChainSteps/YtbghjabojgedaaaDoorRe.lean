import Derived.Test.YtbghjabojgedaaaDoorRm
import Derived.Test.YtbghjabojgedaaaDoorExp3
namespace Go.Proofs.YtbghjabojgedaaaDoor
open Go.RowKit

theorem Fx.grown {S : Nat → Prop} {w w' : World} {row : Option Nat} (hg : w.grownBy w' row) (h : ∀ k, row = some k → S k) : Fx S w w' :=
  ⟨hg.os, hg.tape, hg.output, hg.size, fun k hk hs => hg.block k hk (fun e => hs (h k e.symm))⟩

set_option maxHeartbeats 400000 in
set_option maxRecDepth 100000 in
/-- The document's 'Extract'. -/
theorem rextract_any (vk vt : Value) (key text D : List UInt8) (hD : macOf key text = D) (w : World) (hk : Has w vk key) (ht : Has w vt text) (hkl : key.length ≤ 100000000) (htl : text.length ≤ 10000000) (hR : Rst w) (hS : Bst w) :
    Calls Tryd.prog 31 #[vk, vt] w fun e w' => e = .returned (.agg (D.map byt).toArray) ∧ Below w.heap.size w w' := by
  have hbn : Below w.heap.size w (w.alloc (.cells (z32.map byt).toArray 22)) := below_new w _
  have hcall : Hid (Calls Tryd.prog 24 #[vk, vt] (w.alloc (.cells (z32.map byt).toArray 22)) fun e w' => e = .returned (.agg (D.map byt).toArray) ∧ Below (w.alloc (.cells (z32.map byt).toArray 22)).heap.size (w.alloc (.cells (z32.map byt).toArray 22)) w') := hide (rmac_any vk vt key text D hD _ (hk.below hbn) (ht.below hbn) hkl htl (hR.below hbn hR.lt) (hS.below hbn hS.lt))
  have HDL : Lk D.length 32 := ⟨by rw [← hD]; exact macOf_length _ _⟩
  have hsD := info41 D HDL.h
  have HBN := hide hbn
  have R0 : Hid (Blk (w.alloc (.cells (z32.map byt).toArray 22)) w.heap.size (z32.map byt) 22) := hide (Blk.new w _ _)
  clear hD hk ht hR hS hbn
  go_enter Tryd.func31, Tryd.ntmps31
  go_wp2_with (first
    | (refine wpList_newAt rfl 22 rfl (z32.map byt) zero41 w.heap.size rfl ?_; generalize w.alloc (.cells (z32.map byt).toArray 22) = x0 at hcall HBN R0 ⊢)
    | (go_at_call 24; refine hcall.out.mono ?_; rintro e w1 ⟨rfl, hb⟩; have HB := hide hb; clear hb)
    | (refine wpList_store_row rfl 22 (.tmp 4) (.tmp 7) rfl w.heap.size (D.map byt).toArray rfl rfl 22 (z32.map byt).toArray (R0.out.below HB.out R0.out.lt) hsD (by rw [List.size_toArray, List.size_toArray, List.length_map, List.length_map, HDL.h]; rfl) (byts_one _) ?_)
    | fail)
  have hb1 := HBN.out.trans (HB.out.mono HBN.out.size)
  refine bodyPost_ret (v := .agg (D.map byt).toArray) ?_ rfl ⟨rfl, below_setRow hb1 _ _ (Nat.le_refl _)⟩
  exact results_cell_row Tryd.results31 _ _ w.heap.size 22 _ (0, 0) _ rfl ((R0.out.below HB.out R0.out.lt).setRow _) Tryd.underlying22 rfl hsD

theorem rexpand_low (vk vi : Value) (n : Int) (w : World) (h0 : n < 0) : Calls Tryd.prog 32 #[vk, vi, .int .i64 n] w fun e w' => e = .returned (.tuple #[.slice none 0 0, .int .i64 4]) ∧ w' = w := by
  go_enter Tryd.func32, Tryd.ntmps32
  go_wp2
  go_ret2
  exact ⟨rfl, rfl⟩
theorem rexpand_high (vk vi : Value) (n : Int) (w : World) (h0 : 8160 < n) : Calls Tryd.prog 32 #[vk, vi, .int .i64 n] w fun e w' => e = .returned (.tuple #[.slice none 0 0, .int .i64 30]) ∧ w' = w := by
  have h1 : ¬ n < 0 := by omega
  go_enter Tryd.func32, Tryd.ntmps32
  go_wp2
  go_ret2
  exact ⟨rfl, rfl⟩

/-- The document's bytes so far. -/
structure Rk (w x : World) (vo vt : Value) (L T : List UInt8) : Prop where
  ow : Own x w.heap.size vo L
  ha : Has x vt T
  be : Below w.heap.size w x

set_option maxHeartbeats 1000000 in
set_option maxRecDepth 100000 in
/-- The document's 'Expand'. -/
theorem rexpand_ok (vk vi : Value) (prk info : List UInt8) (n : Nat) (w : World) (hk : Has w vk prk) (hi : Has w vi info) (hpl : prk.length ≤ 100000000) (hil : info.length ≤ 1000000) (hn : n ≤ 8160) (hR : Rst w) (hS : Bst w) :
    Calls Tryd.prog 32 #[vk, vi, .int .i64 (n : Int)] w fun e w' => ∃ ao c, e = .returned (.tuple #[.slice ao n c, .int .i64 0]) ∧ Has w' (.slice ao n c) (exOut prk info n) ∧ Below w.heap.size w w' := by
  obtain ⟨ai, ci, rfl⟩ := hi.slice
  obtain ⟨nI, hnI⟩ : ∃ nI, info.length = nI := ⟨_, rfl⟩
  rw [hnI] at hi hil ⊢
  have HKY := hide hk
  have HI := hide hi
  have HR := hide hR
  have HS := hide hS
  have HPL := hide hpl
  have HIL := hide hil
  have HnI : Lk info.length nI := ⟨hnI⟩
  have hnz : ¬ (8160 : Int) < (n : Int) := by omega
  have hn0 : ¬ (n : Int) < 0 := by omega
  clear hk hi hR hS hpl hil hnI
  go_enter Tryd.func32, Tryd.ntmps32
  go_wp2
  go_loopw [8, 9, 10] (fun o t i wr => ∃ k : Nat, k ≤ (n + 31) / 32 ∧ i = .int .i64 ((k + 1 : Nat) : Int) ∧ ∃ a8 c8 a9 n9 c9, o = .slice a8 (32 * k) c8 ∧ t = .slice a9 n9 c9 ∧ Hid (Rk w wr (.slice a8 (32 * k) c8) (.slice a9 n9 c9) (ex prk info k) (tk prk info k))) (fun _ _ i _ => 256 - (intOf i).toNat)
  case atStart => exact ⟨0, by omega, rfl, none, 0, none, 0, 0, rfl, rfl, hide ⟨Own.nil _ _, Has.nil _, Below.refl _ _⟩⟩
  case round =>
    obtain ⟨k, hk, rfl, a8, c8, a9, n9, c9, rfl, rfl, hx⟩ := hrel
    have hlen := hx.out.ow.has.len
    rw [ex_length] at hlen
    by_cases hlt : 32 * k < n
    · have hlz : ((32 * k : Nat) : Int) < (n : Int) := by omega
      have hk254 : k ≤ 254 := by omega
      obtain ⟨u, hu⟩ : ∃ u : UInt8, u = UInt8.ofNat (k + 1) := ⟨_, rfl⟩
      have huz : (u.toNat : Int) = ((k + 1 : Nat) : Int) := by rw [hu, UInt8.toNat_ofNat']; omega
      have HUZ : Lk ((k : Int) + 1) (u.toNat : Int) := ⟨by omega⟩
      have HU : Lk u (UInt8.ofNat (k + 1)) := ⟨hu⟩
      clear huz hu
      obtain ⟨T, hT⟩ : ∃ T, tk prk info k = T := ⟨_, rfl⟩
      obtain ⟨L, hL⟩ : ∃ L, ex prk info k = L := ⟨_, rfl⟩
      obtain ⟨D, hD⟩ : ∃ D, tk prk info (k + 1) = D := ⟨_, rfl⟩
      have HD : Lk (macOf prk (T ++ info ++ [u])) D := ⟨by rw [← hD, ← hT, HU.h]; rfl⟩
      have DL : Lk D.length 32 := ⟨by rw [← hD]; exact tk_length prk info k⟩
      have LL : Lk L.length (32 * k) := ⟨by rw [← hL]; exact ex_length prk info k⟩
      have TL : Hid (T.length ≤ 32) := by
        rw [← hT]
        cases k with
        | zero => exact Nat.zero_le _
        | succ j => exact Nat.le_of_eq (tk_length prk info j)
      have HNX : Lk (ex prk info (k + 1)) (L ++ D) := ⟨by rw [← hL, ← hD]; rfl⟩
      have HDT : Lk (tk prk info (k + 1)) D := ⟨hD⟩
      have HJ : Hid (∀ a b c : Value, [(a, T), (b, info), (c, [u])].flatMap (·.2) = T ++ info ++ [u]) := hide (fun a b c => by simp)
      have HJL : Hid ((T ++ info ++ [u]).length ≤ 10000000) := hide (by rw [List.length_append, List.length_append]; have := TL.out; have := HIL.out; have := HnI.h; simp; omega)
      generalize T ++ info ++ [u] = J at HD HJ HJL
      rw [hT, hL] at hx
      clear hT hL hD HU
      have hsD := info41 D DL.h
      go_upto_region 10 with fail
      clear hlen
      go_wp2_with fail
      rw [HUZ.h]
      have hz1 : Hid (wr.heap.size + 1 = (wr.alloc (.cells #[byt u] 5)).heap.size) := by show _ = _; simp
      have HB1 : Hid (Below wr.heap.size wr (wr.alloc (.cells #[byt u] 5))) := hide (below_new wr _)
      have hu1 : Hid (Has (wr.alloc (.cells #[byt u] 5)) (.slice (some ⟨wr.heap.size, 0, none⟩) 1 1) [u]) := hide (has_news wr [u])
      refine (joined_at (wr.alloc (.cells #[byt u] 5)) (wr.heap.size + 1) hz1.out [(.slice a9 n9 c9, T), (.slice ai nI ci, info), (.slice (some ⟨wr.heap.size, 0, none⟩) 1 1, [u])] J (HJ.out _ _ _) (three_all (hx.out.ha.below HB1.out) ((HI.out.below hx.out.be).below HB1.out) hu1.out) (by have := HJL.out; omega) (by simp)).mono ?_
      rintro e w2 ⟨uj, rfl, huj, hb2⟩
      have UJ := hide huj
      have E2 : Hid (Below wr.heap.size wr w2) := hide (HB1.out.trans (hb2.mono HB1.out.size))
      have E2w : Hid (Below w.heap.size w w2) := hide (hx.out.be.trans (E2.out.mono hx.out.be.size))
      clear huj hb2 hz1 HB1 hu1
      go_wp2_with fail
      refine (rmac_any vk uj prk J D HD.h w2 (HKY.out.below E2w.out) UJ.out HPL.out HJL.out (HR.out.below E2w.out HR.out.lt) (HS.out.below E2w.out HS.out.lt)).mono ?_
      rintro e w3 ⟨rfl, hb3⟩
      have E3 : Hid (Below wr.heap.size wr w3) := hide (E2.out.trans (hb3.mono E2.out.size))
      have E3w : Hid (Below w.heap.size w w3) := hide (hx.out.be.trans (E3.out.mono hx.out.be.size))
      clear hb3 E2 E2w UJ
      have X4 : Hid (Rk w ((w3.alloc (.cells (z32.map byt).toArray 22)).setRow w3.heap.size (D.map byt).toArray) (.slice a8 (32 * k) c8) (.slice (some ⟨w3.heap.size, 0, none⟩) 32 32) L D) := hide (by
        have b4 : Below w3.heap.size w3 ((w3.alloc (.cells (z32.map byt).toArray 22)).setRow w3.heap.size (D.map byt).toArray) := below_setRow (below_new w3 _) _ _ (Nat.le_refl _)
        exact ⟨(hx.out.ow.below E3.out).below b4, ((Blk.new w3 (z32.map byt) 22).setRow (D.map byt)).has 32 DL.h, E3w.out.trans (b4.mono E3w.out.size)⟩)
      have E8 : Hid (∀ j, (Value.slice a8 (32 * k) c8).ownBlock = some j → j < w3.heap.size) := hide (fun j hj => by have := (hx.out.ow.below E3.out).lt j hj; exact this.2)
      clear hx
      go_upto_region 11 with (first
        | (refine wpList_newAt rfl 22 rfl (z32.map byt) zero41 w3.heap.size rfl ?_)
        | (refine wpList_store_row rfl 22 (.tmp 11) (.tmp 30) rfl w3.heap.size (D.map byt).toArray rfl rfl 22 (z32.map byt).toArray (Blk.new w3 _ _) hsD (by rw [List.size_toArray, List.size_toArray, List.length_map, List.length_map, DL.h]; rfl) (byts_one _) ?_)
        | fail)
      generalize (w3.alloc (.cells (z32.map byt).toArray 22)).setRow w3.heap.size (D.map byt).toArray = w4 at X4 ⊢
      have HNE : Hid (∀ j, (Value.slice (some ⟨w3.heap.size, 0, none⟩) 32 32).ownBlock = some j → a8.map (·.block) = some j → False) := hide (fun j hj e => by
        simp [Value.ownBlock] at hj
        have h8 := E8.out j (by cases a8 <;> simp_all [Value.ownBlock])
        omega)
      generalize w3.heap.size = d at X4 HNE ⊢
      have HA2 : Hid (L.length + D.length ≤ 150000000000000) := hide (by rw [LL.h, DL.h]; omega)
      have HLD : Lk (L ++ D).length (32 * (k + 1)) := ⟨by rw [List.length_append, LL.h, DL.h]; omega⟩
      go_wp2_with (refine wpList_app rfl (.tmp 32) (.tmp 33) rfl w.heap.size (.slice a8 (32 * k) c8) L rfl X4.out.ow (.slice (some ⟨d, 0, none⟩) 32 32) D rfl X4.out.ha HA2.out X4.out.be.size ?_; intro v5 w5 ho5 hg5; obtain ⟨a5, c5, rfl⟩ := ho5.slice; rw [HLD.h] at ho5 ⊢; have O5 := hide ho5; have G5 := hide hg5; clear ho5 hg5)
      go_roundw
      case rel =>
        refine ⟨k + 1, by omega, by go_num, a5, c5, some ⟨d, 0, none⟩, 32, 32, rfl, rfl, hide ?_⟩
        rw [HNX.h, HDT.h]
        exact ⟨O5.out, X4.out.ha.fx (Fx.grown (S := fun j => a8.map (·.block) = some j) G5.out (fun j e => by cases a8 <;> simp_all [Value.ownBlock])) (fun j hj e => HNE.out j hj e), X4.out.be.grown G5.out X4.out.be.size X4.out.ow.ownBlock⟩
      case measure => simp [intOf]; omega
    · have hke : (n + 31) / 32 = k := by omega
      have hlz : ¬ ((32 * k : Nat) : Int) < (n : Int) := by omega
      have hlz2 : (n : Int) ≤ ((32 * k : Nat) : Int) := by omega
      obtain ⟨L, hL⟩ : ∃ L, ex prk info k = L := ⟨_, rfl⟩
      have LL : L.length = 32 * k := by rw [← hL]; exact ex_length prk info k
      have HO : Lk (exOut prk info n) (L.take n) := ⟨by unfold exOut; rw [hke, hL]⟩
      rw [hL] at hx
      have hcut := hx.out.ow.has.cutH n (by omega)
      have HC := hide (hx.out.ow.has.cut 0 n (by omega) (by omega))
      obtain ⟨ac, cc, hshape⟩ := cut_shape hx.out.ow.has 0 n
      rw [hshape] at hcut HC
      rw [List.drop_zero, Nat.sub_zero] at HC
      rw [Nat.sub_zero] at hcut
      clear hshape hke hL LL
      go_wp2
      go_ret2
      exact ⟨ac, cc, rfl, by rw [HO.h]; exact HC.out, hx.out.be⟩

set_option maxHeartbeats 1000000 in
set_option maxRecDepth 100000 in
/-- The document's 'Derive', up to its Expand. -/
theorem rderive_gen (vs vk vi : Value) (salt key D : List UInt8) (n : Int) (hD : macOf salt key = D) (w : World) (hs : Has w vs salt) (hk : Has w vk key) (hsl : salt.length ≤ 100000000) (hkl : key.length ≤ 10000000) (hR : Rst w) (hS : Bst w) (R : Value → Value → World → Prop)
    (hE : ∀ d x, Has x (.slice (some ⟨d, 0, none⟩) 32 32) D → Below w.heap.size w x → Calls Tryd.prog 32 #[.slice (some ⟨d, 0, none⟩) 32 32, vi, .int .i64 n] x fun e w' => ∃ u v, e = .returned (.tuple #[u, v]) ∧ R u v w') :
    Calls Tryd.prog 22 #[vs, vk, vi, .int .i64 n] w fun e w' => ∃ u v, e = .returned (.tuple #[u, v]) ∧ R u v w' := by
  have hcall := hide (rextract_any vs vk salt key D hD w hs hk hsl hkl hR hS)
  have HE := hide hE
  have HDL : Lk D.length 32 := ⟨by rw [← hD]; exact macOf_length _ _⟩
  have hsD := info41 D HDL.h
  clear hD hs hk hR hS hE
  go_enter Tryd.func22, Tryd.ntmps22
  go_upto_region 2 with (first
    | (go_at_call 31; refine hcall.out.mono ?_; rintro e w1 ⟨rfl, hb⟩; have HB := hide hb; clear hb)
    | (refine wpList_newAt rfl 22 rfl (z32.map byt) zero41 w1.heap.size rfl ?_)
    | (refine wpList_store_row rfl 22 (.tmp 10) (.tmp 13) rfl w1.heap.size (D.map byt).toArray rfl rfl 22 (z32.map byt).toArray (Blk.new w1 _ _) hsD (by rw [List.size_toArray, List.size_toArray, List.length_map, List.length_map, HDL.h]; rfl) (byts_one _) ?_)
    | fail)
  have H2 : Hid (Has ((w1.alloc (.cells (z32.map byt).toArray 22)).setRow w1.heap.size (D.map byt).toArray) (.slice (some ⟨w1.heap.size, 0, none⟩) 32 32) D) := hide (((Blk.new w1 (z32.map byt) 22).setRow (D.map byt)).has 32 HDL.h)
  have B2 : Hid (Below w.heap.size w ((w1.alloc (.cells (z32.map byt).toArray 22)).setRow w1.heap.size (D.map byt).toArray)) := hide (below_setRow (HB.out.alloc HB.out.size _) _ _ HB.out.size)
  generalize (w1.alloc (.cells (z32.map byt).toArray 22)).setRow w1.heap.size (D.map byt).toArray = w2 at H2 B2 ⊢
  generalize w1.heap.size = d at H2 ⊢
  go_wp2_with fail
  refine (HE.out d w2 H2.out B2.out).mono ?_
  rintro e w3 ⟨u, v, rfl, hR3⟩
  have R3 := hide hR3
  clear hR3
  go_wp2
  go_ret2
  exact ⟨u, v, rfl, R3.out⟩
end Go.Proofs.YtbghjabojgedaaaDoor
