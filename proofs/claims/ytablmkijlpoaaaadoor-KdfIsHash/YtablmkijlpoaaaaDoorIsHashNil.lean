import Derived.Test.YtablmkijlpoaaaaDoorRun
namespace Go.Proofs.YtablmkijlpoaaaaDoor
open Go.RowKit

set_option maxHeartbeats 2000000 in
set_option maxRecDepth 100000 in
theorem ishash_nil (vk va vb : Value) (lk la lb : List UInt8) (hlk : lk.length = 0) (cut : Int) (w : World) (hk : Has w vk lk) (ha : Has w va la) (hb : Has w vb lb) (hK : Kst w) :
    Calls Tryd.prog 5 #[vk, va, vb, .int .i64 cut] w fun e w' => e = .returned (.bool true) ∧ Below w.heap.size w w' := by
  have HKY := hide hk
  have HA := hide ha
  have HB := hide hb
  have HK := hide hK
  clear hk ha hb hK
  go_enter Tryd.func5, Tryd.ntmps5
  go_wp2_with fail
  refine (awake_any _ HK.out).mono ?_
  rintro e w1 ⟨rfl, hb1⟩
  have B1 := hide hb1
  clear hb1
  have K1 : Hid (Kst w1) := HK.out.below B1.out HK.out.lt
  go_wp2_with fail
  refine (short_any vk lk w1 (HKY.out.below B1.out)).mono ?_
  rintro e w' ⟨⟨uk, rfl, huk⟩, hw'⟩
  subst hw'
  go_wp2_with fail
  refine (short_any va la w' (HA.out.below B1.out)).mono ?_
  rintro e w2 ⟨⟨ua, rfl, hua⟩, hw'⟩
  subst hw'
  go_wp2_with fail
  refine (short_any vb lb w2 (HB.out.below B1.out)).mono ?_
  rintro e w3 ⟨⟨ub, rfl, hub⟩, hw'⟩
  subst hw'
  obtain ⟨k0, hk0⟩ : ∃ M, M = lk.take 400 := ⟨_, rfl⟩
  obtain ⟨ma, hma⟩ : ∃ M, M = la.take 400 := ⟨_, rfl⟩
  obtain ⟨mb, hmb⟩ : ∃ M, M = lb.take 400 := ⟨_, rfl⟩
  rw [← hk0] at huk
  rw [← hma] at hua
  rw [← hmb] at hub
  have L0 : k0.length ≤ 400 := by rw [hk0, List.length_take]; omega
  have La : ma.length ≤ 400 := by rw [hma, List.length_take]; omega
  have Lb : mb.length ≤ 400 := by rw [hmb, List.length_take]; omega
  have hk00 : k0.length = 0 := by rw [hk0, List.length_take]; omega
  clear hk0 hma hmb
  obtain ⟨ak, ck, rfl⟩ := huk.slice
  obtain ⟨aa, ca, rfl⟩ := hua.slice
  obtain ⟨ab, cb, rfl⟩ := hub.slice
  obtain ⟨q, hq⟩ : ∃ q : Nat, cut % 2 = (q : Int) := ⟨(cut % 2).toNat, by omega⟩
  have hq2 : q < 2 := by omega
  obtain ⟨n0, hn0⟩ : ∃ n, k0.length = n := ⟨_, rfl⟩
  obtain ⟨nA, hnA⟩ : ∃ n, ma.length = n := ⟨_, rfl⟩
  obtain ⟨nB, hnB⟩ : ∃ n, mb.length = n := ⟨_, rfl⟩
  rw [hn0] at huk L0 hk00 ⊢
  rw [hnA] at hua La ⊢
  rw [hnB] at hub Lb ⊢
  have UA := hide hua
  have UB := hide hub
  have HnA := hide hnA
  have HnB := hide hnB
  have h0 : n0 = 0 := by omega
  clear hk00 hlk
  obtain ⟨nK, hnK⟩ : ∃ nK, nK = n0 := ⟨_, rfl⟩
  have hcap := has_cap huk
  have hle : nK ≤ n0 := by omega
  have UK : Hid (Has w3 (.slice ak nK ck) (k0.take nK)) := take_slice huk hn0 nK hle
  obtain ⟨key, hkey⟩ : ∃ key, k0.take nK = key := ⟨_, rfl⟩
  have LK : Hid (key.length = nK) := by rw [← hkey, List.length_take, hn0]; exact Nat.min_eq_left hle
  rw [hkey] at UK
  clear hkey huk hua hub hn0 hnA hnB
  obtain ⟨T, hT⟩ : ∃ T, ma ++ mb = T := ⟨_, rfl⟩
  obtain ⟨nT, hnT⟩ : ∃ n, nA + nB = n := ⟨_, rfl⟩
  have LT : Hid (T.length = nT) := by rw [← hT, ← hnT, List.length_append, HnA.out, HnB.out]; exact rfl
  have HT := hide hT
  have HnT := hide hnT
  have LT8 : Hid (nT ≤ 800) := by show _ ≤ _; omega
  have LK4 : Hid (nK ≤ 400) := by show _ ≤ _; omega
  obtain ⟨X1, hX1⟩ : ∃ X, xr 54 (kb key) = X := ⟨_, rfl⟩
  obtain ⟨X2, hX2⟩ : ∃ X, xr 92 (kb key) = X := ⟨_, rfl⟩
  obtain ⟨D1, hD1⟩ : ∃ D, sumOf (X1 ++ T) = D := ⟨_, rfl⟩
  obtain ⟨D2, hD2⟩ : ∃ D, sumOf (X2 ++ D1) = D := ⟨_, rfl⟩
  have HX1 := hide hX1
  have HX2 := hide hX2
  have HD1 := hide hD1
  have HD2 := hide hD2
  have XL1 : Hid (X1.length = 64) := by rw [← hX1, xr_length, kb_length]; exact rfl
  have XL2 : Hid (X2.length = 64) := by rw [← hX2, xr_length, kb_length]; exact rfl
  have DL1 : Hid (D1.length = 32) := by rw [← hD1, sumOf_length]; exact rfl
  have DL2 : Hid (D2.length = 32) := by rw [← hD2, sumOf_length]; exact rfl
  have HMAC : Hid (macOf key T = D2) := by rw [← hD2, ← hD1, ← hX1, ← hX2]; exact rfl
  have i1 := info24 D1 DL1.out
  have i2 := info24 D2 DL2.out
  clear hX1 hX2 hD1 hD2 hT hnT
  have hqz : (q : Int) < 2 := by omega
  have hsub : 0 < n0 → wrap64 ((n0 : Int) - (q : Int)) = (n0 : Int) - (q : Int) := fun h => Go.IntWalk.wrap64_in _ (by omega)
  · subst h0
    subst hnK
    obtain ⟨wq, hwq⟩ : ∃ wq, wq = w3 := ⟨_, rfl⟩
    subst hwq
    clear hsub
    go_wp2_with (first
      | (refine wpList_app rfl (.const (.slice none 0 0)) (.tmp 31) rfl wq.heap.size (.slice none 0 0) [] rfl (Own.nil _ _) (.slice aa nA ca) ma rfl UA.out (by rw [HnA.out]; simp; omega) (Nat.le_refl _) ?_; intro v3 w4 ho3 hg3; rw [List.nil_append] at ho3; obtain ⟨a3, c3, rfl⟩ := ho3.slice; rw [HnA.out] at ho3 ⊢; have O3 := hide ho3; have B3 : Hid (Below wq.heap.size wq w4) := (Below.refl _ _).grown hg3 (Nat.le_refl _) (fun k hk => by cases hk); clear ho3 hg3)
      | (refine wpList_app rfl (.tmp 32) (.tmp 33) rfl wq.heap.size (.slice a3 nA c3) ma rfl O3.out (.slice ab nB cb) mb rfl (UB.out.below B3.out) (by rw [HnA.out, HnB.out]; omega) B3.out.size ?_; intro v4 w5 ho4 hg4; rw [HT.out] at ho4; obtain ⟨a4, c4, rfl⟩ := ho4.slice; rw [LT.out] at ho4 ⊢; have HTX := hide ho4.has; have B5 : Hid (Below wq.heap.size wq w5) := B3.out.grown hg4 B3.out.size O3.out.ownBlock; clear ho4 hg4)
      | fail)
    have K5 : Hid (Kst w5) := K1.out.below B5.out K1.out.lt
    refine (turned_is (.slice ak 0 ck) key X1 54 54 rfl HX1.out w5 (UK.out.below B5.out) (by rw [LK.out]; have := LK4.out; omega) K5.out).mono ?_
    rintro e w6 ⟨g1, rfl, hT6⟩
    have T6 := hide hT6
    have B6 : Hid (Below w5.heap.size w5 w6) := hT6.be
    have K6 : Hid (Kst w6) := K5.out.below hT6.be K5.out.lt
    clear hT6
    go_wp2_with fail
    refine (sum_is w6 w6.heap.size rfl [(.slice (some ⟨g1, 0, none⟩) 64 64, X1), (.slice a4 nT c4, T)] (X1 ++ T) D1 HD1.out (two_all (T6.out.has 64 XL1.out) (HTX.out.below B6.out)) K6.out (by simp) (by rw [List.length_append, XL1.out, LT.out]; have := LT8.out; omega) (by simp)).mono ?_
    rintro e w7 ⟨rfl, hb7⟩
    have B7 : Hid (Below w5.heap.size w5 w7) := B6.out.trans (hb7.mono B6.out.size)
    clear hb7 B6 K6 T6
    go_upto_region 8 with (first
      | (refine wpList_newAt rfl 42 rfl (z32.map byt) zero24 w7.heap.size rfl ?_)
      | (refine wpList_store_row rfl 42 (.tmp 10) (.tmp 39) rfl w7.heap.size (D1.map byt).toArray rfl rfl 42 (z32.map byt).toArray (Blk.new w7 _ _) i1 (by rw [List.size_toArray, List.size_toArray, List.length_map, List.length_map, DL1.out]; rfl) (byts_one _) ?_)
      | fail)
    have D8 : Hid (Dgt w5 ((w7.alloc (.cells (z32.map byt).toArray 42)).setRow w7.heap.size (D1.map byt).toArray) w7.heap.size D1) := (Dgt.new B7.out).row
    generalize (w7.alloc (.cells (z32.map byt).toArray 42)).setRow w7.heap.size (D1.map byt).toArray = w8 at D8 ⊢
    generalize w7.heap.size = d1 at D8 ⊢
    simp only [Act.put, List.setIfInBounds_toArray, List.set_cons_zero, List.set_cons_succ]
    go_cut [11] (fun s wx => ∃ d2, s = .pointer (some ⟨d2, 0, none⟩) ∧ Hid (Dgt w5 wx d2 D2))
    case first =>
      refine wp_region_noPanic ?_
      refine wp_region_any (by kernel_rfl) ?_
      have D9 : Dgt w5 { w8 with drawn := w8.drawn + 1 } d1 D1 := D8.out.below (Below.refl _ _).drew
      generalize { w8 with drawn := w8.drawn + 1 } = wz at D9 ⊢
      refine take_any (i := 0) rfl rfl (.move (.tmp 0)) rfl 40 rfl (v := (.slice ak 0 ck)) (by kernel_rfl) (by kernel_rfl) (by kernel_rfl) (fun _ _ _ h => h) (fun o' ho w => by go_simp) ?_
      simp only [Act.put, List.setIfInBounds_toArray, List.set_cons_zero, List.set_cons_succ]
      refine take_any (i := 2) rfl rfl (.slice 42 (.tmp 10) none none none) rfl 42 rfl (v := (.slice (some ⟨d1, 0, none⟩) 32 32)) (by kernel_rfl) (by kernel_rfl) (by kernel_rfl) (fun _ _ _ h => h) (fun o' ho w => by go_simp) ?_
      simp only [Act.put, List.setIfInBounds_toArray, List.set_cons_zero, List.set_cons_succ]
      have Ewz := D9
      refine either (i := 1) (j := 5) (by kernel_rfl) ?_ ?_
      · skip
        refine op_call (R := fun v wx => ∃ g, v = .slice (some ⟨g, 0, none⟩) 64 64 ∧ Tu wz wx g X2) rfl rfl (.call { callee := .value (.func 19), args := #[.tmp 40, .const (.int .u8 92)], argTypes := #[27, 5] }) rfl 41 rfl 19 #[.slice ak 0 ck, .int .u8 92] (fun o' ho => by go_simp) ((turned_is (.slice ak 0 ck) key X2 92 92 rfl HX2.out wz (UK.out.below (B5.out.trans (Ewz.be.mono B5.out.size))) (by rw [LK.out]; have := LK4.out; omega) (K5.out.below Ewz.be K5.out.lt)).mono fun e wx ⟨g, h1, h2⟩ => ⟨_, h1, g, rfl, h2⟩) ?_
        rintro v x1 ⟨g2, rfl, ht2⟩
        have Ex1 : Dgt w5 x1 d1 D1 := Ewz.below ht2.be
        have Xx1 : Has x1 (.slice (some ⟨g2, 0, none⟩) 64 64) X2 := ht2.has 64 XL2.out
        simp only [Act.put, List.setIfInBounds_toArray, List.set_cons_zero, List.set_cons_succ]
        refine either (i := 3) (j := 5) (by kernel_rfl) ?_ ?_
        · skip
          have Px2 : Parts (x1.alloc (.cells #[.slice (some ⟨g2, 0, none⟩) 64 64, .slice (some ⟨d1, 0, none⟩) 32 32] 27)) (.slice (some ⟨x1.heap.size, 0, none⟩) 2 2) [(.slice (some ⟨g2, 0, none⟩) 64 64, X2), (.slice (some ⟨d1, 0, none⟩) 32 32, D1)] := parts_new x1 [(.slice (some ⟨g2, 0, none⟩) 64 64, X2), (.slice (some ⟨d1, 0, none⟩) 32 32, D1)] (two_all Xx1 (Ex1.has 32 DL1.out))
          have Ex2 : Dgt w5 (x1.alloc (.cells #[.slice (some ⟨g2, 0, none⟩) 64 64, .slice (some ⟨d1, 0, none⟩) 32 32] 27)) d1 D1 := Ex1.alloc _
          refine op_run rfl rfl (.buildSlice 68 2 #[(0, .tmp 41), (1, .tmp 42)]) rfl 43 rfl (.slice (some ⟨x1.heap.size, 0, none⟩) 2 2) (x1.alloc (.cells #[.slice (some ⟨g2, 0, none⟩) 64 64, .slice (some ⟨d1, 0, none⟩) 32 32] 27)) (fun o' ho => by go_simp) ?_
          generalize x1.alloc (.cells #[.slice (some ⟨g2, 0, none⟩) 64 64, .slice (some ⟨d1, 0, none⟩) 32 32] 27) = x2 at Px2 Ex2 ⊢
          generalize x1.heap.size = s2 at Px2 ⊢
          simp only [Act.put, List.setIfInBounds_toArray, List.set_cons_zero, List.set_cons_succ]
          refine either (i := 4) (j := 5) (by kernel_rfl) ?_ ?_
          · skip
            refine op_call (R := fun v wx => v = .agg (D2.map byt).toArray ∧ Below x2.heap.size x2 wx) rfl rfl (.call { callee := .value (.func 17), args := #[.tmp 43], argTypes := #[68] }) rfl 44 rfl 17 #[.slice (some ⟨s2, 0, none⟩) 2 2] (fun o' ho => by go_simp) ((sum_gen (.slice (some ⟨s2, 0, none⟩) 2 2) [(.slice (some ⟨g2, 0, none⟩) 64 64, X2), (.slice (some ⟨d1, 0, none⟩) 32 32, D1)] (X2 ++ D1) D2 (by simp) HD2.out x2 Px2 (K5.out.below Ex2.be K5.out.lt) (by rw [List.length_append, XL2.out, DL1.out]; decide) (by simp)).mono fun e wx ⟨h1, h2⟩ => ⟨_, h1, rfl, h2⟩) ?_
            rintro v x3 ⟨rfl, hbx3⟩
            have Ex3 : Dgt w5 x3 d1 D1 := Ex2.below hbx3
            simp only [Act.put, List.setIfInBounds_toArray, List.set_cons_zero, List.set_cons_succ]
            refine only_one (i := 5) (by kernel_rfl) ?_
            refine op_run rfl rfl (.alloc 42) rfl 11 rfl (.pointer (some ⟨x3.heap.size, 0, none⟩)) (x3.alloc (.cells (z32.map byt).toArray 42)) (fun o' ho => run_new42 ho x3) ?_
            have Nx4 : Dgt w5 (x3.alloc (.cells (z32.map byt).toArray 42)) x3.heap.size z32 := Dgt.new Ex3.be
            have Ex4 : Dgt w5 (x3.alloc (.cells (z32.map byt).toArray 42)) d1 D1 := Ex3.alloc _
            generalize x3.alloc (.cells (z32.map byt).toArray 42) = x4 at Nx4 Ex4  ⊢
            generalize x3.heap.size = d2 at Nx4 ⊢
            simp only [Act.put, List.setIfInBounds_toArray, List.set_cons_zero, List.set_cons_succ]
            refine only_one (i := 6) (by kernel_rfl) ?_
            refine op_store rfl rfl rfl 42 (.tmp 11) (.tmp 44) rfl d2 0 (D2.map byt).toArray rfl rfl (Nx4.bl.there _ (by simp [z32, DL2.out])) i2 (byts_one _) ?_
            have F : Dgt w5 (x4.setCells d2 0 (D2.map byt)) d2 D2 := Nx4.put (by rw [DL2.out]; rfl)
            refine wpAny_done (by kernel_rfl) (NoPanic.normal ?_) _
            go_wp2
            go_meet
            exact ⟨d2, rfl, hide F⟩
          · skip
            have Px3 := Px2.below (below_new x2 (.cells (z32.map byt).toArray 42))
            refine op_run rfl rfl (.alloc 42) rfl 11 rfl (.pointer (some ⟨x2.heap.size, 0, none⟩)) (x2.alloc (.cells (z32.map byt).toArray 42)) (fun o' ho => run_new42 ho x2) ?_
            have Nx3 : Dgt w5 (x2.alloc (.cells (z32.map byt).toArray 42)) x2.heap.size z32 := Dgt.new Ex2.be
            have Ex3 : Dgt w5 (x2.alloc (.cells (z32.map byt).toArray 42)) d1 D1 := Ex2.alloc _
            generalize x2.alloc (.cells (z32.map byt).toArray 42) = x3 at Nx3 Ex3 Px3 ⊢
            generalize x2.heap.size = d2 at Nx3 ⊢
            simp only [Act.put, List.setIfInBounds_toArray, List.set_cons_zero, List.set_cons_succ]
            refine only_one (i := 4) (by kernel_rfl) ?_
            refine op_call (R := fun v wx => v = .agg (D2.map byt).toArray ∧ Below x3.heap.size x3 wx) rfl rfl (.call { callee := .value (.func 17), args := #[.tmp 43], argTypes := #[68] }) rfl 44 rfl 17 #[.slice (some ⟨s2, 0, none⟩) 2 2] (fun o' ho => by go_simp) ((sum_gen (.slice (some ⟨s2, 0, none⟩) 2 2) [(.slice (some ⟨g2, 0, none⟩) 64 64, X2), (.slice (some ⟨d1, 0, none⟩) 32 32, D1)] (X2 ++ D1) D2 (by simp) HD2.out x3 Px3 (K5.out.below Ex3.be K5.out.lt) (by rw [List.length_append, XL2.out, DL1.out]; decide) (by simp)).mono fun e wx ⟨h1, h2⟩ => ⟨_, h1, rfl, h2⟩) ?_
            rintro v x4 ⟨rfl, hbx4⟩
            have Ex4 : Dgt w5 x4 d1 D1 := Ex3.below hbx4
            simp only [Act.put, List.setIfInBounds_toArray, List.set_cons_zero, List.set_cons_succ]
            have Nx4 := Nx3.below hbx4
            refine only_one (i := 6) (by kernel_rfl) ?_
            refine op_store rfl rfl rfl 42 (.tmp 11) (.tmp 44) rfl d2 0 (D2.map byt).toArray rfl rfl (Nx4.bl.there _ (by simp [z32, DL2.out])) i2 (byts_one _) ?_
            have F : Dgt w5 (x4.setCells d2 0 (D2.map byt)) d2 D2 := Nx4.put (by rw [DL2.out]; rfl)
            refine wpAny_done (by kernel_rfl) (NoPanic.normal ?_) _
            go_wp2
            go_meet
            exact ⟨d2, rfl, hide F⟩
        · skip
          have Xx2 := Xx1.below (below_new x1 (.cells (z32.map byt).toArray 42))
          refine op_run rfl rfl (.alloc 42) rfl 11 rfl (.pointer (some ⟨x1.heap.size, 0, none⟩)) (x1.alloc (.cells (z32.map byt).toArray 42)) (fun o' ho => run_new42 ho x1) ?_
          have Nx2 : Dgt w5 (x1.alloc (.cells (z32.map byt).toArray 42)) x1.heap.size z32 := Dgt.new Ex1.be
          have Ex2 : Dgt w5 (x1.alloc (.cells (z32.map byt).toArray 42)) d1 D1 := Ex1.alloc _
          generalize x1.alloc (.cells (z32.map byt).toArray 42) = x2 at Nx2 Ex2 Xx2 ⊢
          generalize x1.heap.size = d2 at Nx2 ⊢
          simp only [Act.put, List.setIfInBounds_toArray, List.set_cons_zero, List.set_cons_succ]
          refine only_one (i := 3) (by kernel_rfl) ?_
          have Nx3 := Nx2.alloc (.cells #[.slice (some ⟨g2, 0, none⟩) 64 64, .slice (some ⟨d1, 0, none⟩) 32 32] 27)
          have Px3 : Parts (x2.alloc (.cells #[.slice (some ⟨g2, 0, none⟩) 64 64, .slice (some ⟨d1, 0, none⟩) 32 32] 27)) (.slice (some ⟨x2.heap.size, 0, none⟩) 2 2) [(.slice (some ⟨g2, 0, none⟩) 64 64, X2), (.slice (some ⟨d1, 0, none⟩) 32 32, D1)] := parts_new x2 [(.slice (some ⟨g2, 0, none⟩) 64 64, X2), (.slice (some ⟨d1, 0, none⟩) 32 32, D1)] (two_all Xx2 (Ex2.has 32 DL1.out))
          have Ex3 : Dgt w5 (x2.alloc (.cells #[.slice (some ⟨g2, 0, none⟩) 64 64, .slice (some ⟨d1, 0, none⟩) 32 32] 27)) d1 D1 := Ex2.alloc _
          refine op_run rfl rfl (.buildSlice 68 2 #[(0, .tmp 41), (1, .tmp 42)]) rfl 43 rfl (.slice (some ⟨x2.heap.size, 0, none⟩) 2 2) (x2.alloc (.cells #[.slice (some ⟨g2, 0, none⟩) 64 64, .slice (some ⟨d1, 0, none⟩) 32 32] 27)) (fun o' ho => by go_simp) ?_
          generalize x2.alloc (.cells #[.slice (some ⟨g2, 0, none⟩) 64 64, .slice (some ⟨d1, 0, none⟩) 32 32] 27) = x3 at Px3 Ex3 Nx3 ⊢
          generalize x2.heap.size = s2 at Px3 ⊢
          simp only [Act.put, List.setIfInBounds_toArray, List.set_cons_zero, List.set_cons_succ]
          refine only_one (i := 4) (by kernel_rfl) ?_
          refine op_call (R := fun v wx => v = .agg (D2.map byt).toArray ∧ Below x3.heap.size x3 wx) rfl rfl (.call { callee := .value (.func 17), args := #[.tmp 43], argTypes := #[68] }) rfl 44 rfl 17 #[.slice (some ⟨s2, 0, none⟩) 2 2] (fun o' ho => by go_simp) ((sum_gen (.slice (some ⟨s2, 0, none⟩) 2 2) [(.slice (some ⟨g2, 0, none⟩) 64 64, X2), (.slice (some ⟨d1, 0, none⟩) 32 32, D1)] (X2 ++ D1) D2 (by simp) HD2.out x3 Px3 (K5.out.below Ex3.be K5.out.lt) (by rw [List.length_append, XL2.out, DL1.out]; decide) (by simp)).mono fun e wx ⟨h1, h2⟩ => ⟨_, h1, rfl, h2⟩) ?_
          rintro v x4 ⟨rfl, hbx4⟩
          have Ex4 : Dgt w5 x4 d1 D1 := Ex3.below hbx4
          simp only [Act.put, List.setIfInBounds_toArray, List.set_cons_zero, List.set_cons_succ]
          have Nx4 := Nx3.below hbx4
          refine only_one (i := 6) (by kernel_rfl) ?_
          refine op_store rfl rfl rfl 42 (.tmp 11) (.tmp 44) rfl d2 0 (D2.map byt).toArray rfl rfl (Nx4.bl.there _ (by simp [z32, DL2.out])) i2 (byts_one _) ?_
          have F : Dgt w5 (x4.setCells d2 0 (D2.map byt)) d2 D2 := Nx4.put (by rw [DL2.out]; rfl)
          refine wpAny_done (by kernel_rfl) (NoPanic.normal ?_) _
          go_wp2
          go_meet
          exact ⟨d2, rfl, hide F⟩
      · skip
        refine op_run rfl rfl (.alloc 42) rfl 11 rfl (.pointer (some ⟨wz.heap.size, 0, none⟩)) (wz.alloc (.cells (z32.map byt).toArray 42)) (fun o' ho => run_new42 ho wz) ?_
        have Nx1 : Dgt w5 (wz.alloc (.cells (z32.map byt).toArray 42)) wz.heap.size z32 := Dgt.new Ewz.be
        have Ex1 : Dgt w5 (wz.alloc (.cells (z32.map byt).toArray 42)) d1 D1 := Ewz.alloc _
        generalize wz.alloc (.cells (z32.map byt).toArray 42) = x1 at Nx1 Ex1  ⊢
        generalize wz.heap.size = d2 at Nx1 ⊢
        simp only [Act.put, List.setIfInBounds_toArray, List.set_cons_zero, List.set_cons_succ]
        refine only_one (i := 1) (by kernel_rfl) ?_
        refine op_call (R := fun v wx => ∃ g, v = .slice (some ⟨g, 0, none⟩) 64 64 ∧ Tu x1 wx g X2) rfl rfl (.call { callee := .value (.func 19), args := #[.tmp 40, .const (.int .u8 92)], argTypes := #[27, 5] }) rfl 41 rfl 19 #[.slice ak 0 ck, .int .u8 92] (fun o' ho => by go_simp) ((turned_is (.slice ak 0 ck) key X2 92 92 rfl HX2.out x1 (UK.out.below (B5.out.trans (Ex1.be.mono B5.out.size))) (by rw [LK.out]; have := LK4.out; omega) (K5.out.below Ex1.be K5.out.lt)).mono fun e wx ⟨g, h1, h2⟩ => ⟨_, h1, g, rfl, h2⟩) ?_
        rintro v x2 ⟨g2, rfl, ht2⟩
        have Ex2 : Dgt w5 x2 d1 D1 := Ex1.below ht2.be
        have Xx2 : Has x2 (.slice (some ⟨g2, 0, none⟩) 64 64) X2 := ht2.has 64 XL2.out
        simp only [Act.put, List.setIfInBounds_toArray, List.set_cons_zero, List.set_cons_succ]
        have Nx2 := Nx1.below ht2.be
        refine only_one (i := 3) (by kernel_rfl) ?_
        have Nx3 := Nx2.alloc (.cells #[.slice (some ⟨g2, 0, none⟩) 64 64, .slice (some ⟨d1, 0, none⟩) 32 32] 27)
        have Px3 : Parts (x2.alloc (.cells #[.slice (some ⟨g2, 0, none⟩) 64 64, .slice (some ⟨d1, 0, none⟩) 32 32] 27)) (.slice (some ⟨x2.heap.size, 0, none⟩) 2 2) [(.slice (some ⟨g2, 0, none⟩) 64 64, X2), (.slice (some ⟨d1, 0, none⟩) 32 32, D1)] := parts_new x2 [(.slice (some ⟨g2, 0, none⟩) 64 64, X2), (.slice (some ⟨d1, 0, none⟩) 32 32, D1)] (two_all Xx2 (Ex2.has 32 DL1.out))
        have Ex3 : Dgt w5 (x2.alloc (.cells #[.slice (some ⟨g2, 0, none⟩) 64 64, .slice (some ⟨d1, 0, none⟩) 32 32] 27)) d1 D1 := Ex2.alloc _
        refine op_run rfl rfl (.buildSlice 68 2 #[(0, .tmp 41), (1, .tmp 42)]) rfl 43 rfl (.slice (some ⟨x2.heap.size, 0, none⟩) 2 2) (x2.alloc (.cells #[.slice (some ⟨g2, 0, none⟩) 64 64, .slice (some ⟨d1, 0, none⟩) 32 32] 27)) (fun o' ho => by go_simp) ?_
        generalize x2.alloc (.cells #[.slice (some ⟨g2, 0, none⟩) 64 64, .slice (some ⟨d1, 0, none⟩) 32 32] 27) = x3 at Px3 Ex3 Nx3 ⊢
        generalize x2.heap.size = s2 at Px3 ⊢
        simp only [Act.put, List.setIfInBounds_toArray, List.set_cons_zero, List.set_cons_succ]
        refine only_one (i := 4) (by kernel_rfl) ?_
        refine op_call (R := fun v wx => v = .agg (D2.map byt).toArray ∧ Below x3.heap.size x3 wx) rfl rfl (.call { callee := .value (.func 17), args := #[.tmp 43], argTypes := #[68] }) rfl 44 rfl 17 #[.slice (some ⟨s2, 0, none⟩) 2 2] (fun o' ho => by go_simp) ((sum_gen (.slice (some ⟨s2, 0, none⟩) 2 2) [(.slice (some ⟨g2, 0, none⟩) 64 64, X2), (.slice (some ⟨d1, 0, none⟩) 32 32, D1)] (X2 ++ D1) D2 (by simp) HD2.out x3 Px3 (K5.out.below Ex3.be K5.out.lt) (by rw [List.length_append, XL2.out, DL1.out]; decide) (by simp)).mono fun e wx ⟨h1, h2⟩ => ⟨_, h1, rfl, h2⟩) ?_
        rintro v x4 ⟨rfl, hbx4⟩
        have Ex4 : Dgt w5 x4 d1 D1 := Ex3.below hbx4
        simp only [Act.put, List.setIfInBounds_toArray, List.set_cons_zero, List.set_cons_succ]
        have Nx4 := Nx3.below hbx4
        refine only_one (i := 6) (by kernel_rfl) ?_
        refine op_store rfl rfl rfl 42 (.tmp 11) (.tmp 44) rfl d2 0 (D2.map byt).toArray rfl rfl (Nx4.bl.there _ (by simp [z32, DL2.out])) i2 (byts_one _) ?_
        have F : Dgt w5 (x4.setCells d2 0 (D2.map byt)) d2 D2 := Nx4.put (by rw [DL2.out]; rfl)
        refine wpAny_done (by kernel_rfl) (NoPanic.normal ?_) _
        go_wp2
        go_meet
        exact ⟨d2, rfl, hide F⟩
    case rest =>
      obtain ⟨d2, rfl, hD⟩ := hcut
      have K9 : Hid (Kst wc) := K5.out.below hD.out.be K5.out.lt
      go_wp2_with fail
      refine (mac_at wc wc.heap.size rfl (.slice ak 0 ck) key T D2 [(.slice a4 nT c4, T)] (by simp) HMAC.out (UK.out.below (B5.out.trans (hD.out.be.mono B5.out.size))) (one_all (HTX.out.below hD.out.be)) K9.out (by rw [LK.out]; have := LK4.out; omega) (by rw [LT.out]; have := LT8.out; omega) (by simp)).mono ?_
      rintro e w9 ⟨rfl, hb9⟩
      have D9 := hide (hD.out.below hb9)
      clear hb9 hD
      have hu42 := Tryd.underlying42
      have h42l := info42l D2 DL2.out
      have hEQ : ∀ W : World, (Op.equalIn 10000 42 (.agg (D2.map byt).toArray) (.agg (D2.map byt).toArray)).run Tryd.prog W = .ok true W := fun W => eq42 D2 DL2.out W
      have hGD := guard24
      go_upto_region 10 with (first
        | (refine wpList_newAt rfl 42 rfl (z32.map byt) zero24 w9.heap.size rfl ?_)
        | (refine wpList_store_row rfl 42 (.tmp 12) (.tmp 48) rfl w9.heap.size (D2.map byt).toArray rfl rfl 42 (z32.map byt).toArray (Blk.new w9 _ _) i2 (by rw [List.size_toArray, List.size_toArray, List.length_map, List.length_map, DL2.out]; rfl) (byts_one _) ?_)
        | fail)
      have EY : Hid (Dg2 w5 ((w9.alloc (.cells (z32.map byt).toArray 42)).setRow w9.heap.size (D2.map byt).toArray) d2 w9.heap.size D2) := ⟨(D9.out.bl.alloc _).setRowOther _ _ (by have := D9.out.bl.lt; omega), (Blk.new w9 _ _).setRow _, below_setRow (D9.out.be.alloc D9.out.be.size _) _ _ D9.out.be.size⟩
      generalize (w9.alloc (.cells (z32.map byt).toArray 42)).setRow w9.heap.size (D2.map byt).toArray = wy at EY ⊢
      generalize w9.heap.size = d3 at EY ⊢
      simp only [Act.put, List.setIfInBounds_toArray, List.set_cons_zero, List.set_cons_succ]
      refine wp_region_noPanic ?_
      refine wp_region_held (S := fun x => x.rangeAt d2 0 (D2.map byt) ∧ x.rangeAt d3 0 (D2.map byt)) (by kernel_rfl) ?_
      have Ez0 : Dg2 w5 { wy with drawn := wy.drawn + 1 } d2 d3 D2 := EY.out.below (Below.refl _ _).drew
      generalize { wy with drawn := wy.drawn + 1 } = z0 at Ez0 ⊢
      refine takeH_load (i := 0) rfl 49 rfl 42 (.tmp 12) rfl (by kernel_rfl) (by kernel_rfl) (by kernel_rfl) (fun _ _ _ h => h) (by rfl) d3 0 rfl (D2.map byt) rfl (fun W hW => hW.2) hu42 rfl h42l Ez0.rg ?_
      simp only [Act.put, List.setIfInBounds_toArray, List.set_cons_zero, List.set_cons_succ]
      refine takeH_load (i := 1) rfl 50 rfl 42 (.tmp 11) rfl (by kernel_rfl) (by kernel_rfl) (by kernel_rfl) (fun _ _ _ h => h) (by rfl) d2 0 rfl (D2.map byt) rfl (fun W hW => hW.1) hu42 rfl h42l Ez0.rg ?_
      simp only [Act.put, List.setIfInBounds_toArray, List.set_cons_zero, List.set_cons_succ]
      refine takeH (i := 2) rfl (.binOp .eql 42 (.tmp 49) (.tmp 50) 42) rfl 51 rfl (v := (.bool true)) (by kernel_rfl) (by kernel_rfl) (by kernel_rfl) (fun _ _ _ h => h) (by rfl) (fun o' ho W hW => by clear hW; go_simp) Ez0.rg ?_
      simp only [Act.put, List.setIfInBounds_toArray, List.set_cons_zero, List.set_cons_succ]
      refine takeH (i := 3) rfl (.move (.tmp 51)) rfl 52 rfl (v := (.bool true)) (by kernel_rfl) (by kernel_rfl) (by kernel_rfl) (fun _ _ _ h => h) (by rfl) (fun o' ho W hW => by clear hW; go_simp) Ez0.rg ?_
      simp only [Act.put, List.setIfInBounds_toArray, List.set_cons_zero, List.set_cons_succ]
      refine takeH (i := 4) rfl (.move (.tmp 0)) rfl 53 rfl (v := (.slice ak 0 ck)) (by kernel_rfl) (by kernel_rfl) (by kernel_rfl) (fun _ _ _ h => h) (by rfl) (fun o' ho W hW => by clear hW; go_simp) Ez0.rg ?_
      simp only [Act.put, List.setIfInBounds_toArray, List.set_cons_zero, List.set_cons_succ]
      refine takeH (i := 5) rfl (.move (.tmp 1)) rfl 54 rfl (v := (.slice aa nA ca)) (by kernel_rfl) (by kernel_rfl) (by kernel_rfl) (fun _ _ _ h => h) (by rfl) (fun o' ho W hW => by clear hW; go_simp) Ez0.rg ?_
      simp only [Act.put, List.setIfInBounds_toArray, List.set_cons_zero, List.set_cons_succ]
      refine takeH (i := 6) rfl (.move (.tmp 2)) rfl 55 rfl (v := (.slice ab nB cb)) (by kernel_rfl) (by kernel_rfl) (by kernel_rfl) (fun _ _ _ h => h) (by rfl) (fun o' ho W hW => by clear hW; go_simp) Ez0.rg ?_
      simp only [Act.put, List.setIfInBounds_toArray, List.set_cons_zero, List.set_cons_succ]
      refine takeH_load (i := 9) rfl 58 rfl 42 (.tmp 11) rfl (by kernel_rfl) (by kernel_rfl) (by kernel_rfl) (fun _ _ _ h => h) (by rfl) d2 0 rfl (D2.map byt) rfl (fun W hW => hW.1) hu42 rfl h42l Ez0.rg ?_
      simp only [Act.put, List.setIfInBounds_toArray, List.set_cons_zero, List.set_cons_succ]
      refine onlyH (i := 7) (by kernel_rfl) ?_
      refine opG_run rfl (by rfl) (.buildSlice 68 2 #[(0, .tmp 54), (1, .tmp 55)]) rfl 56 rfl (.slice (some ⟨z0.heap.size, 0, none⟩) 2 2) (z0.alloc (.cells #[.slice aa nA ca, .slice ab nB cb] 27)) (fun o' ho => by go_simp) ?_
      refine ⟨(Ez0.alloc _).rg, ?_⟩
      simp only [Act.put, List.setIfInBounds_toArray, List.set_cons_zero, List.set_cons_succ]
      refine onlyH (i := 8) (by kernel_rfl) ?_
      refine opG_call (R := fun v wz => v = .agg (D2.map byt).toArray ∧ Dg2 w5 wz d2 d3 D2) rfl (by rfl) (.call { callee := .value (.func 16), args := #[.tmp 53, .tmp 56], argTypes := #[27, 68] }) rfl 57 rfl 16 #[.slice ak 0 ck, .slice (some ⟨z0.heap.size, 0, none⟩) 2 2] (fun o' ho => by go_simp) ((mac_at z0 z0.heap.size rfl (.slice ak 0 ck) key T D2 [(.slice aa nA ca, ma), (.slice ab nB cb, mb)] (by simpa using HT.out) HMAC.out (UK.out.below (B5.out.trans (Ez0.be.mono B5.out.size))) (two_all (UA.out.below (B5.out.trans (Ez0.be.mono B5.out.size))) (UB.out.below (B5.out.trans (Ez0.be.mono B5.out.size)))) (K5.out.below Ez0.be K5.out.lt) (by rw [LK.out]; have := LK4.out; omega) (by rw [LT.out]; have := LT8.out; omega) (by simp)).mono fun e wz ⟨h1, h2⟩ => ⟨_, h1, rfl, Ez0.below h2⟩) ?_
      rintro v z1 ⟨rfl, hz1⟩
      have Ez1 : Dg2 w5 z1 d2 d3 D2 := hz1
      refine ⟨Ez1.rg, ?_⟩
      simp only [Act.put, List.setIfInBounds_toArray, List.set_cons_zero, List.set_cons_succ]
      refine takeH (i := 10) rfl (.binOp .eql 42 (.tmp 57) (.tmp 58) 42) rfl 59 rfl (v := (.bool true)) (by kernel_rfl) (by kernel_rfl) (by kernel_rfl) (fun _ _ _ h => h) (by rfl) (fun o' ho W hW => by clear hW; go_simp) Ez1.rg ?_
      simp only [Act.put, List.setIfInBounds_toArray, List.set_cons_zero, List.set_cons_succ]
      refine takeH (i := 11) rfl (.pick (.tmp 52) (.tmp 59) (.const (.bool false))) rfl 60 rfl (v := (.bool true)) (by kernel_rfl) (by kernel_rfl) (by kernel_rfl) (fun _ _ _ h => h) (by rfl) (fun o' ho W hW => by clear hW; go_simp) Ez1.rg ?_
      simp only [Act.put, List.setIfInBounds_toArray, List.set_cons_zero, List.set_cons_succ]
      refine takeH (i := 12) rfl (.move (.tmp 60)) rfl 61 rfl (v := (.bool true)) (by kernel_rfl) (by kernel_rfl) (by kernel_rfl) (fun _ _ _ h => h) (by rfl) (fun o' ho W hW => by clear hW; go_simp) Ez1.rg ?_
      simp only [Act.put, List.setIfInBounds_toArray, List.set_cons_zero, List.set_cons_succ]
      refine takeH (i := 13) rfl (.move (.tmp 0)) rfl 62 rfl (v := (.slice ak 0 ck)) (by kernel_rfl) (by kernel_rfl) (by kernel_rfl) (fun _ _ _ h => h) (by rfl) (fun o' ho W hW => by clear hW; go_simp) Ez1.rg ?_
      simp only [Act.put, List.setIfInBounds_toArray, List.set_cons_zero, List.set_cons_succ]
      refine takeH (i := 14) rfl (.move (.tmp 1)) rfl 63 rfl (v := (.slice aa nA ca)) (by kernel_rfl) (by kernel_rfl) (by kernel_rfl) (fun _ _ _ h => h) (by rfl) (fun o' ho W hW => by clear hW; go_simp) Ez1.rg ?_
      simp only [Act.put, List.setIfInBounds_toArray, List.set_cons_zero, List.set_cons_succ]
      refine takeH (i := 15) rfl (.move (.tmp 2)) rfl 64 rfl (v := (.slice ab nB cb)) (by kernel_rfl) (by kernel_rfl) (by kernel_rfl) (fun _ _ _ h => h) (by rfl) (fun o' ho W hW => by clear hW; go_simp) Ez1.rg ?_
      simp only [Act.put, List.setIfInBounds_toArray, List.set_cons_zero, List.set_cons_succ]
      refine takeH_load (i := 18) rfl 67 rfl 42 (.tmp 11) rfl (by kernel_rfl) (by kernel_rfl) (by kernel_rfl) (fun _ _ _ h => h) (by rfl) d2 0 rfl (D2.map byt) rfl (fun W hW => hW.1) hu42 rfl h42l Ez1.rg ?_
      simp only [Act.put, List.setIfInBounds_toArray, List.set_cons_zero, List.set_cons_succ]
      refine onlyH (i := 16) (by kernel_rfl) ?_
      refine opG_run rfl (by rfl) (.buildSlice 68 5 #[(0, .const (.slice none 0 0)), (1, .tmp 63), (2, .const (.slice none 0 0)), (3, .tmp 64), (4, .const (.slice none 0 0))]) rfl 65 rfl (.slice (some ⟨z1.heap.size, 0, none⟩) 5 5) (z1.alloc (.cells #[.slice none 0 0, .slice aa nA ca, .slice none 0 0, .slice ab nB cb, .slice none 0 0] 27)) (fun o' ho => by go_simp) ?_
      refine ⟨(Ez1.alloc _).rg, ?_⟩
      simp only [Act.put, List.setIfInBounds_toArray, List.set_cons_zero, List.set_cons_succ]
      refine onlyH (i := 17) (by kernel_rfl) ?_
      refine opG_call (R := fun v wz => v = .agg (D2.map byt).toArray ∧ Dg2 w5 wz d2 d3 D2) rfl (by rfl) (.call { callee := .value (.func 16), args := #[.tmp 62, .tmp 65], argTypes := #[27, 68] }) rfl 66 rfl 16 #[.slice ak 0 ck, .slice (some ⟨z1.heap.size, 0, none⟩) 5 5] (fun o' ho => by go_simp) ((mac_at z1 z1.heap.size rfl (.slice ak 0 ck) key T D2 [(.slice none 0 0, []), (.slice aa nA ca, ma), (.slice none 0 0, []), (.slice ab nB cb, mb), (.slice none 0 0, [])] (by simpa using HT.out) HMAC.out (UK.out.below (B5.out.trans (Ez1.be.mono B5.out.size))) (five_all (UA.out.below (B5.out.trans (Ez1.be.mono B5.out.size))) (UB.out.below (B5.out.trans (Ez1.be.mono B5.out.size)))) (K5.out.below Ez1.be K5.out.lt) (by rw [LK.out]; have := LK4.out; omega) (by rw [LT.out]; have := LT8.out; omega) (by simp)).mono fun e wz ⟨h1, h2⟩ => ⟨_, h1, rfl, Ez1.below h2⟩) ?_
      rintro v z2 ⟨rfl, hz2⟩
      have Ez2 : Dg2 w5 z2 d2 d3 D2 := hz2
      refine ⟨Ez2.rg, ?_⟩
      simp only [Act.put, List.setIfInBounds_toArray, List.set_cons_zero, List.set_cons_succ]
      refine takeH (i := 19) rfl (.binOp .eql 42 (.tmp 66) (.tmp 67) 42) rfl 68 rfl (v := (.bool true)) (by kernel_rfl) (by kernel_rfl) (by kernel_rfl) (fun _ _ _ h => h) (by rfl) (fun o' ho W hW => by clear hW; go_simp) Ez2.rg ?_
      simp only [Act.put, List.setIfInBounds_toArray, List.set_cons_zero, List.set_cons_succ]
      refine takeH (i := 20) rfl (.pick (.tmp 61) (.tmp 68) (.const (.bool false))) rfl 69 rfl (v := (.bool true)) (by kernel_rfl) (by kernel_rfl) (by kernel_rfl) (fun _ _ _ h => h) (by rfl) (fun o' ho W hW => by clear hW; go_simp) Ez2.rg ?_
      simp only [Act.put, List.setIfInBounds_toArray, List.set_cons_zero, List.set_cons_succ]
      refine takeH (i := 21) rfl (.move (.tmp 69)) rfl 70 rfl (v := (.bool true)) (by kernel_rfl) (by kernel_rfl) (by kernel_rfl) (fun _ _ _ h => h) (by rfl) (fun o' ho W hW => by clear hW; go_simp) Ez2.rg ?_
      simp only [Act.put, List.setIfInBounds_toArray, List.set_cons_zero, List.set_cons_succ]
      refine takeH (i := 22) rfl (.move (.tmp 0)) rfl 71 rfl (v := (.slice ak 0 ck)) (by kernel_rfl) (by kernel_rfl) (by kernel_rfl) (fun _ _ _ h => h) (by rfl) (fun o' ho W hW => by clear hW; go_simp) Ez2.rg ?_
      simp only [Act.put, List.setIfInBounds_toArray, List.set_cons_zero, List.set_cons_succ]
      refine takeH (i := 23) rfl (.move (.tmp 9)) rfl 72 rfl (v := (.slice a4 nT c4)) (by kernel_rfl) (by kernel_rfl) (by kernel_rfl) (fun _ _ _ h => h) (by rfl) (fun o' ho W hW => by clear hW; go_simp) Ez2.rg ?_
      simp only [Act.put, List.setIfInBounds_toArray, List.set_cons_zero, List.set_cons_succ]
      refine takeH_load (i := 25) rfl 74 rfl 42 (.tmp 11) rfl (by kernel_rfl) (by kernel_rfl) (by kernel_rfl) (fun _ _ _ h => h) (by rfl) d2 0 rfl (D2.map byt) rfl (fun W hW => hW.1) hu42 rfl h42l Ez2.rg ?_
      simp only [Act.put, List.setIfInBounds_toArray, List.set_cons_zero, List.set_cons_succ]
      refine onlyH (i := 24) (by kernel_rfl) ?_
      refine opG_call (R := fun v wz => v = .agg (D2.map byt).toArray ∧ Dg2 w5 wz d2 d3 D2) rfl (by rfl) (.call { callee := .value (.func 18), args := #[.tmp 71, .tmp 72], argTypes := #[27, 27] }) rfl 73 rfl 18 #[.slice ak 0 ck, .slice a4 nT c4] (fun o' ho => by go_simp) ((extract_is (.slice ak 0 ck) (.slice a4 nT c4) key T D2 HMAC.out z2 (UK.out.below (B5.out.trans (Ez2.be.mono B5.out.size))) (HTX.out.below Ez2.be) (K5.out.below Ez2.be K5.out.lt) (by rw [LK.out]; have := LK4.out; omega) (by rw [LT.out]; have := LT8.out; omega)).mono fun e wz ⟨h1, h2⟩ => ⟨_, h1, rfl, Ez2.below h2⟩) ?_
      rintro v z3 ⟨rfl, hz3⟩
      have Ez3 : Dg2 w5 z3 d2 d3 D2 := hz3
      refine ⟨Ez3.rg, ?_⟩
      simp only [Act.put, List.setIfInBounds_toArray, List.set_cons_zero, List.set_cons_succ]
      refine takeH (i := 26) rfl (.binOp .eql 42 (.tmp 73) (.tmp 74) 42) rfl 75 rfl (v := (.bool true)) (by kernel_rfl) (by kernel_rfl) (by kernel_rfl) (fun _ _ _ h => h) (by rfl) (fun o' ho W hW => by clear hW; go_simp) Ez3.rg ?_
      simp only [Act.put, List.setIfInBounds_toArray, List.set_cons_zero, List.set_cons_succ]
      refine takeH (i := 27) rfl (.pick (.tmp 70) (.tmp 75) (.const (.bool false))) rfl 76 rfl (v := (.bool true)) (by kernel_rfl) (by kernel_rfl) (by kernel_rfl) (fun _ _ _ h => h) (by rfl) (fun o' ho W hW => by clear hW; go_simp) Ez3.rg ?_
      simp only [Act.put, List.setIfInBounds_toArray, List.set_cons_zero, List.set_cons_succ]
      refine takeH (i := 28) rfl (.assign (.tmp 76)) rfl 8 rfl (v := (.bool true)) (by kernel_rfl) (by kernel_rfl) (by kernel_rfl) (fun _ _ _ h => h) (by rfl) (fun o' ho W hW => by clear hW; go_simp) Ez3.rg ?_
      simp only [Act.put, List.setIfInBounds_toArray, List.set_cons_zero, List.set_cons_succ]
      refine wpAnyH_done (by kernel_rfl) (NoPanic.normal ?_) _
      go_wp2
      go_ret
      exact ⟨rfl, B1.out.trans ((B5.out.trans (Ez3.be.mono B5.out.size)).mono B1.out.size)⟩
end Go.Proofs.YtablmkijlpoaaaaDoor
