import Derived.Test.YtablmkijlpoaaaaDoorZeros
namespace Go.Proofs.YtablmkijlpoaaaaDoor
open Go.RowKit

theorem run_mk32 {ev : Operand → Value} {o : Oper} (ho : o.op = .makeSlice 27 (.const (.int .i64 32)) (.const (.int .i64 32))) (h32 : ev (.const (.int .i64 32)) = .int .i64 32) (w : World) : (execOp ev o).run Tryd.prog w = .ok (.value (.slice (some ⟨w.heap.size, 0, none⟩) 32 32)) (w.alloc (.cells (z32.map byt).toArray 5)) := by
  obtain ⟨i0, hi, hz0, hz1, hz2⟩ := info_parts Tryd.info5
  have hrun := run_makeSlice (P := Tryd.prog) w 27 5 i0 (.int .u8 0) Tryd.underlying27 hi hz0 .i64 .i64 32 32 (by decide) (by decide) (by rw [hz1]; decide) (by rw [hz2]; decide) (by decide)
  rw [hz1] at hrun
  have e : madeCells (Value.int .u8 0).cells (Int.toNat 32 * 1) = (z32.map byt).toArray := by
    rw [show Int.toNat 32 * 1 = 32 from rfl, made_zeros]; rfl
  rw [e] at hrun
  simp only [execOp, ho, h32, Sem.run_bind, hrun, Result.andThen_ok]
  rfl

theorem kb_zeros (key : List UInt8) (z : Nat) (h : key.length + z ≤ 64) : kb (key ++ List.replicate z 0) = kb key := by
  have h1 : kk (key ++ List.replicate z 0) = key ++ List.replicate z 0 := by unfold kk; rw [if_neg (by simp; omega)]
  have h2 : kk key = key := by unfold kk; rw [if_neg (by omega)]
  unfold kb
  rw [h1, h2, List.append_assoc, List.replicate_append_replicate, List.length_append, List.length_replicate]
  congr 2
  omega
theorem mac_zeros (key m : List UInt8) (z : Nat) (h : key.length + z ≤ 64) : macOf (key ++ List.replicate z 0) m = macOf key m := by
  unfold macOf
  rw [kb_zeros key z h]
theorem kb_long (key : List UInt8) (h : 64 < key.length) : kb (sumOf key) = kb key := by
  have h1 : kk (sumOf key) = sumOf key := by unfold kk; rw [if_neg (by rw [sumOf_length]; decide)]
  have h2 : kk key = sumOf key := by unfold kk; rw [if_pos h]
  unfold kb
  rw [h1, h2]
theorem mac_long (key m : List UInt8) (h : 64 < key.length) : macOf (sumOf key) m = macOf key m := by
  unfold macOf
  rw [kb_long key h]

set_option maxHeartbeats 400000 in
set_option maxRecDepth 100000 in
theorem pads_any (vk vt : Value) (lk lt : List UInt8) (zeros cut : Int) (w : World) (hk : Has w vk lk) (ht : Has w vt lt) (hK : Kst w) :
    Calls Tryd.prog 4 #[vk, .int .i64 zeros, vt, .int .i64 cut] w fun e w' => e = .returned (.bool true) ∧ Below w.heap.size w w' := by
  have HKY := hide hk
  have HTX := hide ht
  have HK := hide hK
  clear hk ht hK
  go_enter Tryd.func4, Tryd.ntmps4
  go_wp2_with fail
  refine (awake_any _ HK.out).mono ?_
  rintro e w1 ⟨rfl, hb1⟩
  have B1 := hide hb1
  clear hb1
  go_wp2_with fail
  refine (short_any vk lk w1 (HKY.out.below B1.out)).mono ?_
  rintro e w' ⟨⟨uk, rfl, huk⟩, hw'⟩
  subst hw'
  go_wp2_with fail
  refine (short_any vt lt w' (HTX.out.below B1.out)).mono ?_
  rintro e w2 ⟨⟨ut, rfl, hut⟩, hw'⟩
  subst hw'
  obtain ⟨key, hke⟩ : ∃ M, M = lk.take 400 := ⟨_, rfl⟩
  obtain ⟨T, hTe⟩ : ∃ M, M = lt.take 400 := ⟨_, rfl⟩
  rw [← hke] at huk
  rw [← hTe] at hut
  have Lk : key.length ≤ 400 := by rw [hke, List.length_take]; omega
  have Lt : T.length ≤ 400 := by rw [hTe, List.length_take]; omega
  clear hke hTe
  obtain ⟨aK, cK, rfl⟩ := huk.slice
  obtain ⟨aT, cT, rfl⟩ := hut.slice
  obtain ⟨nK, hnK⟩ : ∃ n, key.length = n := ⟨_, rfl⟩
  obtain ⟨nT, hnT⟩ : ∃ n, T.length = n := ⟨_, rfl⟩
  rw [hnK] at huk Lk ⊢
  rw [hnT] at hut Lt ⊢
  have KLn : Hid (key.length ≤ 1152921504606846976) := hide (by rw [hnK]; omega)
  have TLn : Hid (T.length ≤ 1000000000000000000) := hide (by rw [hnT]; omega)
  have HnK := hide hnK
  have UK := hide huk
  have UT := hide hut
  obtain ⟨kN, hkN⟩ : ∃ q : Nat, cut % ((nT : Int) + 1) = (q : Int) := by
    have h1 := Int.emod_nonneg cut (show ((nT : Int) + 1) ≠ 0 by omega)
    exact ⟨(cut % ((nT : Int) + 1)).toNat, by omega⟩
  have hkt : kN ≤ nT := by have := Int.emod_lt_of_pos cut (show 0 < ((nT : Int) + 1) by omega); omega
  have HV1 : Hid (Has w2 (.slice aT kN cT) (T.take kN)) := take_slice hut hnT kN hkt
  obtain ⟨a2, c2, hV2⟩ := cut_shape hut kN nT
  have HV2 : Hid (Has w2 (.slice a2 (nT - kN) c2) (T.drop kN)) := by
    have := hut.cut kN nT hkt (by omega)
    rw [hV2, List.take_of_length_le (by rw [List.length_drop]; omega)] at this
    exact this
  have hcutL := fun W => hut.cutL kN (by omega) W
  rw [hnT, hV2] at hcutL
  have hcapT := has_cap hut
  have hkz : (kN : Int) ≤ (cT : Int) := by omega
  have hkc : kN ≤ cT := by omega
  have hnz : wrap64 ((nT : Int) + 1) = (nT : Int) + 1 := Go.IntWalk.wrap64_in _ (by omega)
  clear huk hut hnK hnT hV2
  obtain ⟨D, hD⟩ : ∃ D, macOf key T = D := ⟨_, rfl⟩
  have HD := hide hD
  have DL : Hid (D.length = 32) := hide (by rw [← hD]; exact macOf_length key T)
  have i42 := info24 D DL.out
  clear hD
  have K2 : Hid (Kst w2) := HK.out.below B1.out HK.out.lt
  have B2 : Hid (Below w2.heap.size w2 w2) := hide (Below.refl _ _)
  go_wp2_with (go_at_call 15; refine (rest_any cut ((nT : Int) + 1) _ (by omega) (by omega)).mono ?_; rintro e wq ⟨rfl, hwq⟩; rw [hkN, hwq])
  refine (mac_at w2 w2.heap.size rfl (.slice aK nK cK) key T D [(.slice aT nT cT, T)] (by simp) HD.out UK.out (one_all UT.out) K2.out KLn.out TLn.out (by simp)).mono ?_
  rintro e w3 ⟨rfl, hb3⟩
  have G4 : Hid (Dgt w2 ((w3.alloc (.cells (z32.map byt).toArray 42)).setRow w3.heap.size (D.map byt).toArray) w3.heap.size D) := (Dgt.new hb3).row
  clear hb3 hwq
  have hu42 := Tryd.underlying42
  have h42l := info42l D DL.out
  have hEQ : ∀ W : World, (Op.equalIn 10000 42 (.agg (D.map byt).toArray) (.agg (D.map byt).toArray)).run Tryd.prog W = .ok true W := fun W => eq42 D DL.out W
  have hGD := guard24
  go_upto_region 6 with (first
    | (refine wpList_newAt rfl 42 rfl (z32.map byt) zero24 w3.heap.size rfl ?_)
    | (refine wpList_store_row rfl 42 (.tmp 10) (.tmp 27) rfl w3.heap.size (D.map byt).toArray rfl rfl 42 (z32.map byt).toArray (Blk.new w3 _ _) i42 (by rw [List.size_toArray, List.size_toArray, List.length_map, List.length_map, DL.out]; rfl) (byts_one _) ?_)
    | fail)
  generalize (w3.alloc (.cells (z32.map byt).toArray 42)).setRow w3.heap.size (D.map byt).toArray = w4 at G4 ⊢
  generalize w3.heap.size = d0 at G4 ⊢
  simp only [Act.put, List.setIfInBounds_toArray, List.set_cons_zero, List.set_cons_succ]
  refine wp_region_noPanic ?_
  refine wp_region_held (S := fun x => x.rangeAt d0 0 (D.map byt)) (by kernel_rfl) ?_
  have Ez0 : Dgt w2 { w4 with drawn := w4.drawn + 1 } d0 D := G4.out.below (Below.refl _ _).drew
  generalize { w4 with drawn := w4.drawn + 1 } = z0 at Ez0 ⊢
  refine takeH (i := 0) rfl (.move (.tmp 0)) rfl 28 rfl (v := (.slice aK nK cK)) (by kernel_rfl) (by kernel_rfl) (by kernel_rfl) (fun _ _ _ h => h) (by rfl) (fun o' ho W hW => by clear hW; go_simp) Ez0.rg ?_
  simp only [Act.put, List.setIfInBounds_toArray, List.set_cons_zero, List.set_cons_succ]
  refine takeH (i := 1) rfl (.move (.tmp 2)) rfl 29 rfl (v := (.slice aT nT cT)) (by kernel_rfl) (by kernel_rfl) (by kernel_rfl) (fun _ _ _ h => h) (by rfl) (fun o' ho W hW => by clear hW; go_simp) Ez0.rg ?_
  simp only [Act.put, List.setIfInBounds_toArray, List.set_cons_zero, List.set_cons_succ]
  refine takeH (i := 2) rfl (.move (.tmp 9)) rfl 30 rfl (v := (.int .i64 (kN : Int))) (by kernel_rfl) (by kernel_rfl) (by kernel_rfl) (fun _ _ _ h => h) (by rfl) (fun o' ho W hW => by clear hW; go_simp) Ez0.rg ?_
  simp only [Act.put, List.setIfInBounds_toArray, List.set_cons_zero, List.set_cons_succ]
  refine takeH (i := 3) rfl (.slice 27 (.tmp 29) none (some (.tmp 30)) none) rfl 31 rfl (v := (.slice aT kN cT)) (by kernel_rfl) (by kernel_rfl) (by kernel_rfl) (fun _ _ _ h => h) (by rfl) (fun o' ho W hW => by clear hW; go_simp) Ez0.rg ?_
  simp only [Act.put, List.setIfInBounds_toArray, List.set_cons_zero, List.set_cons_succ]
  refine takeH (i := 4) rfl (.move (.tmp 2)) rfl 32 rfl (v := (.slice aT nT cT)) (by kernel_rfl) (by kernel_rfl) (by kernel_rfl) (fun _ _ _ h => h) (by rfl) (fun o' ho W hW => by clear hW; go_simp) Ez0.rg ?_
  simp only [Act.put, List.setIfInBounds_toArray, List.set_cons_zero, List.set_cons_succ]
  refine takeH (i := 5) rfl (.move (.tmp 9)) rfl 33 rfl (v := (.int .i64 (kN : Int))) (by kernel_rfl) (by kernel_rfl) (by kernel_rfl) (fun _ _ _ h => h) (by rfl) (fun o' ho W hW => by clear hW; go_simp) Ez0.rg ?_
  simp only [Act.put, List.setIfInBounds_toArray, List.set_cons_zero, List.set_cons_succ]
  refine takeH (i := 6) rfl (.slice 27 (.tmp 32) (some (.tmp 33)) none none) rfl 34 rfl (v := (.slice a2 (nT - kN) c2)) (by kernel_rfl) (by kernel_rfl) (by kernel_rfl) (fun _ _ _ h => h) (by rfl) (fun o' ho W hW => by clear hW; go_simp) Ez0.rg ?_
  simp only [Act.put, List.setIfInBounds_toArray, List.set_cons_zero, List.set_cons_succ]
  refine takeH_load (i := 9) rfl 37 rfl 42 (.tmp 10) rfl (by kernel_rfl) (by kernel_rfl) (by kernel_rfl) (fun _ _ _ h => h) (by rfl) d0 0 rfl (D.map byt) rfl (fun W hW => hW) hu42 rfl h42l Ez0.rg ?_
  simp only [Act.put, List.setIfInBounds_toArray, List.set_cons_zero, List.set_cons_succ]
  refine onlyH (i := 7) (by kernel_rfl) ?_
  refine opG_run rfl (by rfl) (.buildSlice 68 2 #[(0, .tmp 31), (1, .tmp 34)]) rfl 35 rfl (.slice (some ⟨z0.heap.size, 0, none⟩) 2 2) (z0.alloc (.cells #[.slice aT kN cT, .slice a2 (nT - kN) c2] 27)) (fun o' ho => by go_simp) ?_
  refine ⟨(Ez0.alloc _).rg, ?_⟩
  simp only [Act.put, List.setIfInBounds_toArray, List.set_cons_zero, List.set_cons_succ]
  refine onlyH (i := 8) (by kernel_rfl) ?_
  refine opG_call (R := fun v wz => v = .agg (D.map byt).toArray ∧ Dgt w2 wz d0 D) rfl (by rfl) (.call { callee := .value (.func 16), args := #[.tmp 28, .tmp 35], argTypes := #[27, 68] }) rfl 36 rfl 16 #[.slice aK nK cK, .slice (some ⟨z0.heap.size, 0, none⟩) 2 2] (fun o' ho => by go_simp) ((mac_at z0 z0.heap.size rfl (.slice aK nK cK) key T D [(.slice aT kN cT, T.take kN), (.slice a2 (nT - kN) c2, T.drop kN)] (by simp) HD.out (UK.out.below (B2.out.trans (Ez0.be.mono B2.out.size))) (two_all (HV1.out.below (B2.out.trans (Ez0.be.mono B2.out.size))) (HV2.out.below (B2.out.trans (Ez0.be.mono B2.out.size)))) (K2.out.below Ez0.be K2.out.lt) KLn.out TLn.out (by simp)).mono fun e wz ⟨h1, h2⟩ => ⟨_, h1, rfl, Ez0.below h2⟩) ?_
  rintro v z1 ⟨rfl, hz1⟩
  have Ez1 : Dgt w2 z1 d0 D := hz1
  refine ⟨Ez1.rg, ?_⟩
  simp only [Act.put, List.setIfInBounds_toArray, List.set_cons_zero, List.set_cons_succ]
  refine takeH (i := 10) rfl (.binOp .neq 42 (.tmp 36) (.tmp 37) 42) rfl 38 rfl (v := (.bool false)) (by kernel_rfl) (by kernel_rfl) (by kernel_rfl) (fun _ _ _ h => h) (by rfl) (fun o' ho W hW => by clear hW; go_simp) Ez1.rg ?_
  simp only [Act.put, List.setIfInBounds_toArray, List.set_cons_zero, List.set_cons_succ]
  refine wpAnyH_done (by kernel_rfl) (NoPanic.normal ?_) _
  have G5 := hide Ez1
  clear Ez1 hz1
  clear HV1 HV2 hcutL hkz hkc hcapT Ez0
  by_cases hlt : 64 < nK
  · have hltz : (64 : Int) < (nK : Int) := by omega
    obtain ⟨HS, hHS⟩ : ∃ D, sumOf key = D := ⟨_, rfl⟩
    have HSL : Hid (HS.length = 32) := hide (by rw [← hHS]; exact sumOf_length key)
    have HMH : Hid (macOf HS T = D) := hide (by rw [← hHS, mac_long key T (by rw [HnK.out]; exact hlt)]; exact HD.out)
    have HHS := hide hHS
    have iH := info24 HS HSL.out
    clear hHS
    go_wp2_with fail
    refine (sum_is z1 z1.heap.size rfl [(.slice aK nK cK, key)] key HS HHS.out (one_all (UK.out.below G5.out.be)) (K2.out.below G5.out.be K2.out.lt) (by simp) KLn.out (by simp)).mono ?_
    rintro e w6 ⟨rfl, hb6⟩
    have G6 := hide (G5.out.below hb6)
    have lt6 := hide G6.out.bl.lt
    clear hb6
    have G7 : Hid (Dgt w2 ((w6.alloc (.cells (z32.map byt).toArray 42)).setRow w6.heap.size (HS.map byt).toArray) d0 D) := ⟨(G6.out.bl.alloc _).setRowOther _ _ (by have := lt6.out; omega), below_setRow (G6.out.be.alloc G6.out.be.size _) _ _ G6.out.be.size, G6.out.ld⟩
    have F7 : Hid (Dgt w2 ((w6.alloc (.cells (z32.map byt).toArray 42)).setRow w6.heap.size (HS.map byt).toArray) w6.heap.size HS) := (Dgt.new G6.out.be).row
    go_upto_region 10 with (first
      | (refine wpList_newAt rfl 42 rfl (z32.map byt) zero24 w6.heap.size rfl ?_)
      | (refine wpList_store_row rfl 42 (.tmp 11) (.tmp 44) rfl w6.heap.size (HS.map byt).toArray rfl rfl 42 (z32.map byt).toArray (Blk.new w6 _ _) iH (by rw [List.size_toArray, List.size_toArray, List.length_map, List.length_map, HSL.out]; rfl) (byts_one _) ?_)
      | fail)
    generalize (w6.alloc (.cells (z32.map byt).toArray 42)).setRow w6.heap.size (HS.map byt).toArray = w7 at G7 F7 ⊢
    generalize w6.heap.size = d1 at F7 ⊢
    simp only [Act.put, List.setIfInBounds_toArray, List.set_cons_zero, List.set_cons_succ]
    refine wp_region_noPanic ?_
    refine wp_region_held (S := fun x => x.rangeAt d0 0 (D.map byt)) (by kernel_rfl) ?_
    have Ey0 : Dgt w2 { w7 with drawn := w7.drawn + 1 } d0 D := G7.out.below (Below.refl _ _).drew
    have Fy0 : Dgt w2 { w7 with drawn := w7.drawn + 1 } d1 HS := F7.out.below (Below.refl _ _).drew
    generalize { w7 with drawn := w7.drawn + 1 } = y0 at Ey0 Fy0 ⊢
    refine takeH (i := 0) rfl (.slice 42 (.tmp 11) none none none) rfl 45 rfl (v := (.slice (some ⟨d1, 0, none⟩) 32 32)) (by kernel_rfl) (by kernel_rfl) (by kernel_rfl) (fun _ _ _ h => h) (by rfl) (fun o' ho W hW => by clear hW; go_simp) Ey0.rg ?_
    simp only [Act.put, List.setIfInBounds_toArray, List.set_cons_zero, List.set_cons_succ]
    refine takeH (i := 1) rfl (.move (.tmp 2)) rfl 46 rfl (v := (.slice aT nT cT)) (by kernel_rfl) (by kernel_rfl) (by kernel_rfl) (fun _ _ _ h => h) (by rfl) (fun o' ho W hW => by clear hW; go_simp) Ey0.rg ?_
    simp only [Act.put, List.setIfInBounds_toArray, List.set_cons_zero, List.set_cons_succ]
    refine takeH_load (i := 4) rfl 49 rfl 42 (.tmp 10) rfl (by kernel_rfl) (by kernel_rfl) (by kernel_rfl) (fun _ _ _ h => h) (by rfl) d0 0 rfl (D.map byt) rfl (fun W hW => hW) hu42 rfl h42l Ey0.rg ?_
    simp only [Act.put, List.setIfInBounds_toArray, List.set_cons_zero, List.set_cons_succ]
    refine onlyH (i := 2) (by kernel_rfl) ?_
    refine opG_run rfl (by rfl) (.buildSlice 68 1 #[(0, .tmp 46)]) rfl 47 rfl (.slice (some ⟨y0.heap.size, 0, none⟩) 1 1) (y0.alloc (.cells #[.slice aT nT cT] 27)) (fun o' ho => by go_simp) ?_
    refine ⟨(Ey0.alloc _).rg, ?_⟩
    simp only [Act.put, List.setIfInBounds_toArray, List.set_cons_zero, List.set_cons_succ]
    refine onlyH (i := 3) (by kernel_rfl) ?_
    refine opG_call (R := fun v wz => v = .agg (D.map byt).toArray ∧ Dgt w2 wz d0 D) rfl (by rfl) (.call { callee := .value (.func 16), args := #[.tmp 45, .tmp 47], argTypes := #[27, 68] }) rfl 48 rfl 16 #[.slice (some ⟨d1, 0, none⟩) 32 32, .slice (some ⟨y0.heap.size, 0, none⟩) 1 1] (fun o' ho => by go_simp) ((mac_at y0 y0.heap.size rfl (.slice (some ⟨d1, 0, none⟩) 32 32) HS T D [(.slice aT nT cT, T)] (by simp) HMH.out (Fy0.has 32 HSL.out) (one_all (UT.out.below (B2.out.trans (Ey0.be.mono B2.out.size)))) (K2.out.below Ey0.be K2.out.lt) (by rw [HSL.out]; decide) TLn.out (by simp)).mono fun e wz ⟨h1, h2⟩ => ⟨_, h1, rfl, Ey0.below h2⟩) ?_
    rintro v y1 ⟨rfl, hy1⟩
    have Ey1 : Dgt w2 y1 d0 D := hy1
    refine ⟨Ey1.rg, ?_⟩
    simp only [Act.put, List.setIfInBounds_toArray, List.set_cons_zero, List.set_cons_succ]
    refine takeH (i := 5) rfl (.binOp .eql 42 (.tmp 48) (.tmp 49) 42) rfl 50 rfl (v := (.bool true)) (by kernel_rfl) (by kernel_rfl) (by kernel_rfl) (fun _ _ _ h => h) (by rfl) (fun o' ho W hW => by clear hW; go_simp) Ey1.rg ?_
    simp only [Act.put, List.setIfInBounds_toArray, List.set_cons_zero, List.set_cons_succ]
    refine takeH (i := 6) rfl (.assign (.tmp 50)) rfl 8 rfl (v := (.bool true)) (by kernel_rfl) (by kernel_rfl) (by kernel_rfl) (fun _ _ _ h => h) (by rfl) (fun o' ho W hW => by clear hW; go_simp) Ey1.rg ?_
    simp only [Act.put, List.setIfInBounds_toArray, List.set_cons_zero, List.set_cons_succ]
    refine wpAnyH_done (by kernel_rfl) (NoPanic.normal ?_) _
    go_wp2
    go_ret
    exact ⟨rfl, B1.out.trans ((B2.out.trans (Ey1.be.mono B2.out.size)).mono B1.out.size)⟩
  · have hltz : ¬ (64 : Int) < (nK : Int) := by omega
    obtain ⟨zN, hzN⟩ : ∃ q : Nat, zeros % (65 - (nK : Int)) = (q : Int) := by
      have h1 := Int.emod_nonneg zeros (show (65 - (nK : Int)) ≠ 0 by omega)
      exact ⟨(zeros % (65 - (nK : Int))).toNat, by omega⟩
    have hz64 : nK + zN ≤ 64 := by have := Int.emod_lt_of_pos zeros (show 0 < (65 - (nK : Int)) by omega); omega
    obtain ⟨PD, hPD⟩ : ∃ D, key ++ List.replicate zN 0 = D := ⟨_, rfl⟩
    obtain ⟨nP, hnP⟩ : ∃ n, nK + zN = n := ⟨_, rfl⟩
    have HMP : Hid (macOf PD T = D) := hide (by rw [← hPD, mac_zeros key T zN (by rw [HnK.out]; exact hz64)]; exact HD.out)
    have PL : Hid (PD.length = nP) := hide (by rw [← hPD, ← hnP, List.length_append, List.length_replicate, HnK.out])
    have PLn : Hid (PD.length ≤ 1152921504606846976) := hide (by rw [PL.out]; omega)
    have HPD := hide hPD
    obtain ⟨EE, hEE⟩ : ∃ D, macOf [] T = D := ⟨_, rfl⟩
    have HE1 := hide hEE
    have HE2 : Hid (macOf z32 T = EE) := hide (by rw [← hEE, ← mac_zeros [] T 32 (by decide)]; rfl)
    have EL : Hid (EE.length = 32) := hide (by rw [← hEE]; exact macOf_length [] T)
    have hEQ2 : ∀ W : World, (Op.equalIn 10000 42 (.agg (EE.map byt).toArray) (.agg (EE.map byt).toArray)).run Tryd.prog W = .ok true W := fun W => eq42 EE EL.out W
    have hsub : wrap64 (65 - (nK : Int)) = 65 - (nK : Int) := Go.IntWalk.wrap64_in _ (by omega)
    have hlen400 : Hid (key.length ≤ 64) := hide (by rw [HnK.out]; omega)
    clear hPD hEE hnP
    go_upto_region 12 with (first
      | (refine wpList_app rfl (.const (.slice none 0 0)) (.tmp 51) rfl z1.heap.size (.slice none 0 0) [] rfl (Own.nil _ _) (.slice aK nK cK) key rfl (UK.out.below G5.out.be) (by have := hlen400.out; simp; omega) (Nat.le_refl _) ?_; intro v6 w6 ho6 hg6; rw [List.nil_append] at ho6; obtain ⟨a6, c6, rfl⟩ := ho6.slice; rw [HnK.out] at ho6 ⊢; have O6 := hide ho6; have B6 : Hid (Below z1.heap.size z1 w6) := (Below.refl _ _).grown hg6 (Nat.le_refl _) (fun k hk => by cases hk); clear ho6 hg6)
      | (go_at_call 15; refine (rest_any zeros (65 - (nK : Int)) _ (by omega) (by omega)).mono ?_; rintro e w7 ⟨rfl, hw7⟩; subst hw7; rw [hzN])
      | (refine wpList_zeros rfl (.tmp 52) (.tmp 57) rfl z1.heap.size (.slice a6 nK c6) key rfl O6.out zN rfl (by have := hlen400.out; omega) B6.out.size ?_; intro v8 w8 ho8 hg8; rw [HPD.out] at ho8; obtain ⟨aP, cP, rfl⟩ := ho8.slice; rw [PL.out] at ho8 ⊢; have P8 := hide ho8.has; have B8 : Hid (Below z1.heap.size z1 w8) := B6.out.grown hg8 B6.out.size O6.out.ownBlock; clear ho8 hg8)
      | fail)
    have G8 := hide (G5.out.below B8.out)
    refine wp_region_noPanic ?_
    refine wp_region_held (S := fun x => x.rangeAt d0 0 (D.map byt)) (by kernel_rfl) ?_
    have Ey0 : Dgt w2 { w8 with drawn := w8.drawn + 1 } d0 D := G8.out.below (Below.refl _ _).drew
    have Py0 : Has { w8 with drawn := w8.drawn + 1 } (.slice aP nP cP) PD := P8.out.below (Below.refl _ _).drew
    generalize { w8 with drawn := w8.drawn + 1 } = y0 at Ey0 Py0 ⊢
    refine takeH (i := 0) rfl (.move (.tmp 12)) rfl 59 rfl (v := (.slice aP nP cP)) (by kernel_rfl) (by kernel_rfl) (by kernel_rfl) (fun _ _ _ h => h) (by rfl) (fun o' ho W hW => by clear hW; go_simp) Ey0.rg ?_
    simp only [Act.put, List.setIfInBounds_toArray, List.set_cons_zero, List.set_cons_succ]
    refine takeH (i := 1) rfl (.move (.tmp 2)) rfl 60 rfl (v := (.slice aT nT cT)) (by kernel_rfl) (by kernel_rfl) (by kernel_rfl) (fun _ _ _ h => h) (by rfl) (fun o' ho W hW => by clear hW; go_simp) Ey0.rg ?_
    simp only [Act.put, List.setIfInBounds_toArray, List.set_cons_zero, List.set_cons_succ]
    refine takeH_load (i := 4) rfl 63 rfl 42 (.tmp 10) rfl (by kernel_rfl) (by kernel_rfl) (by kernel_rfl) (fun _ _ _ h => h) (by rfl) d0 0 rfl (D.map byt) rfl (fun W hW => hW) hu42 rfl h42l Ey0.rg ?_
    simp only [Act.put, List.setIfInBounds_toArray, List.set_cons_zero, List.set_cons_succ]
    refine onlyH (i := 2) (by kernel_rfl) ?_
    refine opG_run rfl (by rfl) (.buildSlice 68 1 #[(0, .tmp 60)]) rfl 61 rfl (.slice (some ⟨y0.heap.size, 0, none⟩) 1 1) (y0.alloc (.cells #[.slice aT nT cT] 27)) (fun o' ho => by go_simp) ?_
    refine ⟨(Ey0.alloc _).rg, ?_⟩
    simp only [Act.put, List.setIfInBounds_toArray, List.set_cons_zero, List.set_cons_succ]
    refine onlyH (i := 3) (by kernel_rfl) ?_
    refine opG_call (R := fun v wz => v = .agg (D.map byt).toArray ∧ Dgt w2 wz d0 D) rfl (by rfl) (.call { callee := .value (.func 16), args := #[.tmp 59, .tmp 61], argTypes := #[27, 68] }) rfl 62 rfl 16 #[.slice aP nP cP, .slice (some ⟨y0.heap.size, 0, none⟩) 1 1] (fun o' ho => by go_simp) ((mac_at y0 y0.heap.size rfl (.slice aP nP cP) PD T D [(.slice aT nT cT, T)] (by simp) HMP.out Py0 (one_all (UT.out.below (B2.out.trans (Ey0.be.mono B2.out.size)))) (K2.out.below Ey0.be K2.out.lt) PLn.out TLn.out (by simp)).mono fun e wz ⟨h1, h2⟩ => ⟨_, h1, rfl, Ey0.below h2⟩) ?_
    rintro v y1 ⟨rfl, hy1⟩
    have Ey1 : Dgt w2 y1 d0 D := hy1
    refine ⟨Ey1.rg, ?_⟩
    simp only [Act.put, List.setIfInBounds_toArray, List.set_cons_zero, List.set_cons_succ]
    refine takeH (i := 5) rfl (.binOp .eql 42 (.tmp 62) (.tmp 63) 42) rfl 64 rfl (v := (.bool true)) (by kernel_rfl) (by kernel_rfl) (by kernel_rfl) (fun _ _ _ h => h) (by rfl) (fun o' ho W hW => by clear hW; go_simp) Ey1.rg ?_
    simp only [Act.put, List.setIfInBounds_toArray, List.set_cons_zero, List.set_cons_succ]
    refine takeH (i := 6) rfl (.move (.tmp 64)) rfl 65 rfl (v := (.bool true)) (by kernel_rfl) (by kernel_rfl) (by kernel_rfl) (fun _ _ _ h => h) (by rfl) (fun o' ho W hW => by clear hW; go_simp) Ey1.rg ?_
    simp only [Act.put, List.setIfInBounds_toArray, List.set_cons_zero, List.set_cons_succ]
    refine takeH (i := 7) rfl (.move (.tmp 2)) rfl 66 rfl (v := (.slice aT nT cT)) (by kernel_rfl) (by kernel_rfl) (by kernel_rfl) (fun _ _ _ h => h) (by rfl) (fun o' ho W hW => by clear hW; go_simp) Ey1.rg ?_
    simp only [Act.put, List.setIfInBounds_toArray, List.set_cons_zero, List.set_cons_succ]
    refine takeH (i := 10) rfl (.move (.tmp 2)) rfl 69 rfl (v := (.slice aT nT cT)) (by kernel_rfl) (by kernel_rfl) (by kernel_rfl) (fun _ _ _ h => h) (by rfl) (fun o' ho W hW => by clear hW; go_simp) Ey1.rg ?_
    simp only [Act.put, List.setIfInBounds_toArray, List.set_cons_zero, List.set_cons_succ]
    refine eitherH (i := 8) (j := 9) (by kernel_rfl) ?_ ?_
    · skip
      refine opG_call (R := fun v wz => v = .agg (EE.map byt).toArray ∧ Below y1.heap.size y1 wz) rfl (by rfl) (.call { callee := .value (.func 18), args := #[.const (.slice none 0 0), .tmp 66], argTypes := #[27, 27] }) rfl 67 rfl 18 #[.slice none 0 0, .slice aT nT cT] (fun o' ho => by go_simp) ((extract_is (.slice none 0 0) (.slice aT nT cT) [] T EE HE1.out y1 (Has.nil _) (UT.out.below (B2.out.trans (Ey1.be.mono B2.out.size))) (K2.out.below Ey1.be K2.out.lt) (by decide) TLn.out).mono fun e wz ⟨h1, h2⟩ => ⟨_, h1, rfl, h2⟩) ?_
      rintro v y2 ⟨rfl, hy2⟩
      have Ey2 : Dgt w2 y2 d0 D := Ey1.below hy2
      refine ⟨Ey2.rg, ?_⟩
      simp only [Act.put, List.setIfInBounds_toArray, List.set_cons_zero, List.set_cons_succ]
      refine onlyH (i := 9) (by kernel_rfl) ?_
      refine opG_run rfl (by rfl) (.makeSlice 27 (.const (.int .i64 32)) (.const (.int .i64 32))) rfl 68 rfl (.slice (some ⟨y2.heap.size, 0, none⟩) 32 32) (y2.alloc (.cells (z32.map byt).toArray 5)) (fun o' ho => run_mk32 ho rfl y2) ?_
      have Zy3 : Has (y2.alloc (.cells (z32.map byt).toArray 5)) (.slice (some ⟨y2.heap.size, 0, none⟩) 32 32) z32 := (Blk.new y2 (z32.map byt) 5).has 32 rfl
      have Ey3 : Dgt w2 (y2.alloc (.cells (z32.map byt).toArray 5)) d0 D := Ey2.alloc _
      refine ⟨Ey3.rg, ?_⟩
      generalize y2.alloc (.cells (z32.map byt).toArray 5) = y3 at Zy3 Ey3 ⊢
      generalize y2.heap.size = zb at Zy3 ⊢
      simp only [Act.put, List.setIfInBounds_toArray, List.set_cons_zero, List.set_cons_succ]
      refine onlyH (i := 11) (by kernel_rfl) ?_
      refine opG_call (R := fun v wz => v = .agg (EE.map byt).toArray ∧ Below y3.heap.size y3 wz) rfl (by rfl) (.call { callee := .value (.func 18), args := #[.tmp 68, .tmp 69], argTypes := #[27, 27] }) rfl 70 rfl 18 #[.slice (some ⟨zb, 0, none⟩) 32 32, .slice aT nT cT] (fun o' ho => by go_simp) ((extract_is (.slice (some ⟨zb, 0, none⟩) 32 32) (.slice aT nT cT) z32 T EE HE2.out y3 Zy3 (UT.out.below (B2.out.trans (Ey3.be.mono B2.out.size))) (K2.out.below Ey3.be K2.out.lt) (by decide) TLn.out).mono fun e wz ⟨h1, h2⟩ => ⟨_, h1, rfl, h2⟩) ?_
      rintro v y4 ⟨rfl, hy4⟩
      have Ey4 : Dgt w2 y4 d0 D := Ey3.below hy4
      refine ⟨Ey4.rg, ?_⟩
      simp only [Act.put, List.setIfInBounds_toArray, List.set_cons_zero, List.set_cons_succ]
      refine takeH (i := 12) rfl (.binOp .eql 42 (.tmp 67) (.tmp 70) 42) rfl 71 rfl (v := (.bool true)) (by kernel_rfl) (by kernel_rfl) (by kernel_rfl) (fun _ _ _ h => h) (by rfl) (fun o' ho W hW => by clear hW; go_simp) Ey4.rg ?_
      simp only [Act.put, List.setIfInBounds_toArray, List.set_cons_zero, List.set_cons_succ]
      refine takeH (i := 13) rfl (.pick (.tmp 65) (.tmp 71) (.const (.bool false))) rfl 72 rfl (v := (.bool true)) (by kernel_rfl) (by kernel_rfl) (by kernel_rfl) (fun _ _ _ h => h) (by rfl) (fun o' ho W hW => by clear hW; go_simp) Ey4.rg ?_
      simp only [Act.put, List.setIfInBounds_toArray, List.set_cons_zero, List.set_cons_succ]
      refine takeH (i := 14) rfl (.assign (.tmp 72)) rfl 8 rfl (v := (.bool true)) (by kernel_rfl) (by kernel_rfl) (by kernel_rfl) (fun _ _ _ h => h) (by rfl) (fun o' ho W hW => by clear hW; go_simp) Ey4.rg ?_
      simp only [Act.put, List.setIfInBounds_toArray, List.set_cons_zero, List.set_cons_succ]
      refine wpAnyH_done (by kernel_rfl) (NoPanic.normal ?_) _
      go_wp2
      go_ret
      exact ⟨rfl, B1.out.trans ((B2.out.trans (Ey4.be.mono B2.out.size)).mono B1.out.size)⟩
    · skip
      refine opG_run rfl (by rfl) (.makeSlice 27 (.const (.int .i64 32)) (.const (.int .i64 32))) rfl 68 rfl (.slice (some ⟨y1.heap.size, 0, none⟩) 32 32) (y1.alloc (.cells (z32.map byt).toArray 5)) (fun o' ho => run_mk32 ho rfl y1) ?_
      have Zy2 : Has (y1.alloc (.cells (z32.map byt).toArray 5)) (.slice (some ⟨y1.heap.size, 0, none⟩) 32 32) z32 := (Blk.new y1 (z32.map byt) 5).has 32 rfl
      have Ey2 : Dgt w2 (y1.alloc (.cells (z32.map byt).toArray 5)) d0 D := Ey1.alloc _
      refine ⟨Ey2.rg, ?_⟩
      generalize y1.alloc (.cells (z32.map byt).toArray 5) = y2 at Zy2 Ey2 ⊢
      generalize y1.heap.size = zb at Zy2 ⊢
      simp only [Act.put, List.setIfInBounds_toArray, List.set_cons_zero, List.set_cons_succ]
      refine onlyH (i := 8) (by kernel_rfl) ?_
      refine opG_call (R := fun v wz => v = .agg (EE.map byt).toArray ∧ Below y2.heap.size y2 wz) rfl (by rfl) (.call { callee := .value (.func 18), args := #[.const (.slice none 0 0), .tmp 66], argTypes := #[27, 27] }) rfl 67 rfl 18 #[.slice none 0 0, .slice aT nT cT] (fun o' ho => by go_simp) ((extract_is (.slice none 0 0) (.slice aT nT cT) [] T EE HE1.out y2 (Has.nil _) (UT.out.below (B2.out.trans (Ey2.be.mono B2.out.size))) (K2.out.below Ey2.be K2.out.lt) (by decide) TLn.out).mono fun e wz ⟨h1, h2⟩ => ⟨_, h1, rfl, h2⟩) ?_
      rintro v y3 ⟨rfl, hy3⟩
      have Ey3 : Dgt w2 y3 d0 D := Ey2.below hy3
      refine ⟨Ey3.rg, ?_⟩
      simp only [Act.put, List.setIfInBounds_toArray, List.set_cons_zero, List.set_cons_succ]
      have Zy3 := Zy2.below hy3
      refine onlyH (i := 11) (by kernel_rfl) ?_
      refine opG_call (R := fun v wz => v = .agg (EE.map byt).toArray ∧ Below y3.heap.size y3 wz) rfl (by rfl) (.call { callee := .value (.func 18), args := #[.tmp 68, .tmp 69], argTypes := #[27, 27] }) rfl 70 rfl 18 #[.slice (some ⟨zb, 0, none⟩) 32 32, .slice aT nT cT] (fun o' ho => by go_simp) ((extract_is (.slice (some ⟨zb, 0, none⟩) 32 32) (.slice aT nT cT) z32 T EE HE2.out y3 Zy3 (UT.out.below (B2.out.trans (Ey3.be.mono B2.out.size))) (K2.out.below Ey3.be K2.out.lt) (by decide) TLn.out).mono fun e wz ⟨h1, h2⟩ => ⟨_, h1, rfl, h2⟩) ?_
      rintro v y4 ⟨rfl, hy4⟩
      have Ey4 : Dgt w2 y4 d0 D := Ey3.below hy4
      refine ⟨Ey4.rg, ?_⟩
      simp only [Act.put, List.setIfInBounds_toArray, List.set_cons_zero, List.set_cons_succ]
      refine takeH (i := 12) rfl (.binOp .eql 42 (.tmp 67) (.tmp 70) 42) rfl 71 rfl (v := (.bool true)) (by kernel_rfl) (by kernel_rfl) (by kernel_rfl) (fun _ _ _ h => h) (by rfl) (fun o' ho W hW => by clear hW; go_simp) Ey4.rg ?_
      simp only [Act.put, List.setIfInBounds_toArray, List.set_cons_zero, List.set_cons_succ]
      refine takeH (i := 13) rfl (.pick (.tmp 65) (.tmp 71) (.const (.bool false))) rfl 72 rfl (v := (.bool true)) (by kernel_rfl) (by kernel_rfl) (by kernel_rfl) (fun _ _ _ h => h) (by rfl) (fun o' ho W hW => by clear hW; go_simp) Ey4.rg ?_
      simp only [Act.put, List.setIfInBounds_toArray, List.set_cons_zero, List.set_cons_succ]
      refine takeH (i := 14) rfl (.assign (.tmp 72)) rfl 8 rfl (v := (.bool true)) (by kernel_rfl) (by kernel_rfl) (by kernel_rfl) (fun _ _ _ h => h) (by rfl) (fun o' ho W hW => by clear hW; go_simp) Ey4.rg ?_
      simp only [Act.put, List.setIfInBounds_toArray, List.set_cons_zero, List.set_cons_succ]
      refine wpAnyH_done (by kernel_rfl) (NoPanic.normal ?_) _
      go_wp2
      go_ret
      exact ⟨rfl, B1.out.trans ((B2.out.trans (Ey4.be.mono B2.out.size)).mono B1.out.size)⟩
end Go.Proofs.YtablmkijlpoaaaaDoor
