import Derived.Test.YtbghjabojgedaaaDoorRt
namespace Go.Proofs.YtbghjabojgedaaaDoor
open Go.RowKit

theorem refsum_is (v : Value) (M D : List UInt8) (hD : sumOf M = D) (w : World) (hv : Has w v M) (hM : M.length ≤ 100000000000000) (hR : Rst w) (hB : Bst w) :
    Calls Tryd.prog 33 #[v] w fun e w' => e = .returned (.agg (D.map byt).toArray) ∧ Below w.heap.size w w' := by
  subst hD
  exact refsum_any v M w hv hM hR hB

/-- The result's place and the first digest's. -/
structure Mg (w x : World) (r d : Nat) (D : List UInt8) : Prop where
  br : Blk x r (z32.map byt) 22
  bd : Blk x d (D.map byt) 22
  be : Below w.heap.size w x
  lr : w.heap.size ≤ r
theorem Mg.below {w x y : World} {r d : Nat} {D : List UInt8} (h : Mg w x r d D) (hb : Below x.heap.size x y) : Mg w y r d D := ⟨h.br.below hb h.br.lt, h.bd.below hb h.bd.lt, h.be.trans (hb.mono h.be.size), h.lr⟩

set_option maxHeartbeats 1000000 in
set_option maxRecDepth 100000 in
/-- The document's 'Mac'. -/
theorem rmac_any (vk vt : Value) (key text D : List UInt8) (hD : macOf key text = D) (w : World) (hk : Has w vk key) (ht : Has w vt text) (hkl : key.length ≤ 100000000) (htl : text.length ≤ 10000000) (hR : Rst w) (hS : Bst w) :
    Calls Tryd.prog 24 #[vk, vt] w fun e w' => e = .returned (.agg (D.map byt).toArray) ∧ Below w.heap.size w w' := by
  obtain ⟨ak, ck, rfl⟩ := hk.slice
  obtain ⟨at_, ct, rfl⟩ := ht.slice
  have TU : Hid (∀ (x : UInt8) (X : Nat) (Y : List UInt8), x.toNat = X → (X = 54 ∨ X = 92) → xr x (kb key) = Y → ∀ z, Below w.heap.size w z → Calls Tryd.prog 35 #[.slice ak key.length ck, .int .i64 (X : Int)] z fun e w' => ∃ g, e = .returned (.slice (some ⟨g, 0, none⟩) 64 64) ∧ Tu z w' g Y) := hide (fun x X Y h1 h2 h3 z hz => by
    subst h3
    exact rturned_any _ key x X h1 h2 z (hk.below hz) hkl (hR.below hz hR.lt) (hS.below hz hS.lt))
  obtain ⟨X1, hX1⟩ : ∃ X, xr 54 (kb key) = X := ⟨_, rfl⟩
  obtain ⟨X2, hX2⟩ : ∃ X, xr 92 (kb key) = X := ⟨_, rfl⟩
  have HX1 : Lk (xr 54 (kb key)) X1 := ⟨hX1⟩
  have HX2 : Lk (xr 92 (kb key)) X2 := ⟨hX2⟩
  have HL1 : Lk X1.length 64 := ⟨by rw [← hX1, xr_length]; exact kb_length key⟩
  have HL2 : Lk X2.length 64 := ⟨by rw [← hX2, xr_length]; exact kb_length key⟩
  unfold macOf at hD
  rw [hX1, hX2] at hD
  obtain ⟨M1, hM1⟩ : ∃ M, X1 ++ text = M := ⟨_, rfl⟩
  rw [hM1] at hD
  obtain ⟨D1, hD1⟩ : ∃ M, sumOf M1 = M := ⟨_, rfl⟩
  rw [hD1] at hD
  obtain ⟨M2, hM2⟩ : ∃ M, X2 ++ D1 = M := ⟨_, rfl⟩
  rw [hM2] at hD
  have HML1 : Hid (M1.length ≤ 10000064) := hide (by rw [← hM1, List.length_append, HL1.h]; omega)
  have HD1 : Lk D1.length 32 := ⟨by rw [← hD1]; exact sumOf_length _⟩
  have HML2 : Hid (M2.length ≤ 96) := hide (by rw [← hM2, List.length_append, HL2.h, HD1.h]; exact Nat.le_refl _)
  have HM1 : Hid (∀ a b : Value, [(a, X1), (b, text)].flatMap (·.2) = M1) := hide (fun a b => by rw [← hM1]; simp)
  have HM2 : Hid (∀ a b : Value, [(a, X2), (b, D1)].flatMap (·.2) = M2) := hide (fun a b => by rw [← hM2]; simp)
  have HS1 : Lk (sumOf M1) D1 := ⟨hD1⟩
  have HD2 : Lk (sumOf M2) D := ⟨hD⟩
  have HDL : Lk D.length 32 := ⟨by rw [← hD]; exact sumOf_length _⟩
  have hsD := info41 D HDL.h
  have hsD1 := info41 D1 HD1.h
  have HT := hide ht
  have HR := hide hR
  have HS := hide hS
  clear hk ht hR hS hX1 hX2 hM1 hD1 hM2 hD
  obtain ⟨nk, hnk⟩ : ∃ n, key.length = n := ⟨_, rfl⟩
  rw [hnk] at TU ⊢
  obtain ⟨nt, hnt⟩ : ∃ n, text.length = n := ⟨_, rfl⟩
  rw [hnt] at HT ⊢
  clear hnk hnt hkl htl
  obtain ⟨r, hr⟩ : ∃ r, r = w.heap.size := ⟨_, rfl⟩
  have R0 : Hid (Blk (w.alloc (.cells (z32.map byt).toArray 22)) r (z32.map byt) 22) := hide (by rw [hr]; exact Blk.new w _ _)
  have B0 : Hid (Below w.heap.size w (w.alloc (.cells (z32.map byt).toArray 22))) := hide (below_new w _)
  have LR : Hid (w.heap.size ≤ r) := hide (by omega)
  go_enter Tryd.func24, Tryd.ntmps24
  go_upto_region 1 with (refine wpList_newAt rfl 22 rfl (z32.map byt) zero41 r hr.symm ?_; generalize w.alloc (.cells (z32.map byt).toArray 22) = x0 at R0 B0 ⊢; clear hr)
  go_upto_region 2 with (first
    | (go_at_call 35; refine (TU.out 54 54 X1 rfl (.inl rfl) HX1.h x0 B0.out).mono ?_; rintro e x1 ⟨g1, rfl, hT1⟩; have T1 := hide hT1; clear hT1)
    | (go_at_call 34; go_loud (refine (joined_at x1 x1.heap.size rfl [(.slice (some ⟨g1, 0, none⟩) 64 64, X1), (.slice at_ nt ct, text)] M1 (HM1.out _ _) (two_all (T1.out.has 64 HL1.h) ((HT.out.below B0.out).below T1.out.be)) (by have := HML1.out; omega) (by simp)).mono ?_); rintro e x2 ⟨u1, rfl, hu1, hb2⟩; have U1 := hide hu1; have B2 := hide hb2; clear hu1 hb2)
    | (go_at_call 33; refine (refsum_is u1 M1 D1 HS1.h x2 U1.out (by have := HML1.out; omega) (HR.out.below ((B0.out.trans (T1.out.be.mono B0.out.size)).trans (B2.out.mono (Nat.le_trans B0.out.size T1.out.be.size))) HR.out.lt) (HS.out.below ((B0.out.trans (T1.out.be.mono B0.out.size)).trans (B2.out.mono (Nat.le_trans B0.out.size T1.out.be.size))) HS.out.lt)).mono ?_; rintro e x3 ⟨rfl, hb3⟩; have B3 := hide hb3; clear hb3)
    | (refine wpList_newAt rfl 22 rfl (z32.map byt) zero41 x3.heap.size rfl ?_)
    | (refine wpList_store_row rfl 22 (.tmp 5) (.tmp 11) rfl x3.heap.size (D1.map byt).toArray rfl rfl 22 (z32.map byt).toArray (Blk.new x3 _ _) hsD1 (by rw [List.size_toArray, List.size_toArray, List.length_map, List.length_map, HD1.h]; rfl) (byts_one _) ?_)
    | fail)
  have b1 : Below w.heap.size w x1 := B0.out.trans (T1.out.be.mono B0.out.size)
  have b2 : Below w.heap.size w x2 := b1.trans (B2.out.mono b1.size)
  have b3 : Below w.heap.size w x3 := b2.trans (B3.out.mono b2.size)
  have r1 : Blk x1 r (z32.map byt) 22 := R0.out.below T1.out.be R0.out.lt
  have r2 : Blk x2 r (z32.map byt) 22 := r1.below B2.out r1.lt
  have r3 : Blk x3 r (z32.map byt) 22 := r2.below B3.out r2.lt
  have Z : Hid (Mg w ((x3.alloc (.cells (z32.map byt).toArray 22)).setRow x3.heap.size (D1.map byt).toArray) r x3.heap.size D1) := hide ⟨(r3.alloc _).setRowOther _ _ (by have := r3.lt; omega), (Blk.new x3 (z32.map byt) 22).setRow (D1.map byt), below_setRow (b3.alloc b3.size _) _ _ b3.size, LR.out⟩
  generalize (x3.alloc (.cells (z32.map byt).toArray 22)).setRow x3.heap.size (D1.map byt).toArray = x4 at Z ⊢
  generalize x3.heap.size = d at Z ⊢
  clear b1 b2 b3 r1 r2 r3 B3 U1 B2 T1 R0 B0 LR hsD1
  refine wp_region_noPanic ?_
  refine wp_region_any (by kernel_rfl) ?_
  have Z0 : Mg w { x4 with drawn := x4.drawn + 1 } r d D1 := Z.out.below (Below.refl _ _).drew
  generalize { x4 with drawn := x4.drawn + 1 } = z0 at Z0 ⊢
  refine take_any (i := 0) rfl rfl (.move (.tmp 0)) rfl 12 rfl (v := (.slice ak nk ck)) (by kernel_rfl) (by kernel_rfl) (by kernel_rfl) (fun _ _ _ h => h) (fun o' ho w => by go_simp) ?_
  simp only [Act.put, List.setIfInBounds_toArray, List.set_cons_zero, List.set_cons_succ]
  refine take_any (i := 2) rfl rfl (.slice 22 (.tmp 5) none none none) rfl 14 rfl (v := (.slice (some ⟨d, 0, none⟩) 32 32)) (by kernel_rfl) (by kernel_rfl) (by kernel_rfl) (fun _ _ _ h => h) (fun o' ho w => by go_simp) ?_
  simp only [Act.put, List.setIfInBounds_toArray, List.set_cons_zero, List.set_cons_succ]
  refine only_one (i := 1) (by kernel_rfl) ?_
  refine op_call (R := fun v wx => ∃ g, v = .slice (some ⟨g, 0, none⟩) 64 64 ∧ Tu z0 wx g X2) rfl rfl (.call { callee := .value (.func 35), args := #[.tmp 12, .const (.int .i64 92)], argTypes := #[34, 3] }) rfl 13 rfl 35 #[.slice ak nk ck, .int .i64 92] (fun o' ho => by go_simp) ((TU.out 92 92 X2 rfl (.inr rfl) HX2.h z0 (Below.trans Z0.be (Below.refl _ _))).mono fun e wx ⟨g, h1, h2⟩ => ⟨_, h1, g, rfl, h2⟩) ?_
  rintro v z1 ⟨g2, rfl, hT2⟩
  simp only [Act.put, List.setIfInBounds_toArray, List.set_cons_zero, List.set_cons_succ]
  have Z1 := Z0.below hT2.be
  refine only_one (i := 3) (by kernel_rfl) ?_
  refine op_run rfl rfl (.buildSlice 43 2 #[(0, .tmp 13), (1, .tmp 14)]) rfl 15 rfl (.slice (some ⟨z1.heap.size, 0, none⟩) 2 2) (z1.alloc (.cells #[.slice (some ⟨g2, 0, none⟩) 64 64, .slice (some ⟨d, 0, none⟩) 32 32] 34)) (fun o' ho => by go_simp) ?_
  simp only [Act.put, List.setIfInBounds_toArray, List.set_cons_zero, List.set_cons_succ]
  refine only_one (i := 4) (by kernel_rfl) ?_
  refine op_call (R := fun v wx => Has wx v M2 ∧ Below z1.heap.size z1 wx) rfl rfl (.call { callee := .value (.func 34), args := #[.tmp 15], argTypes := #[43] }) rfl 16 rfl 34 #[.slice (some ⟨z1.heap.size, 0, none⟩) 2 2] (fun o' ho => by go_simp) ((joined_at z1 z1.heap.size rfl [(.slice (some ⟨g2, 0, none⟩) 64 64, X2), (.slice (some ⟨d, 0, none⟩) 32 32, D1)] M2 (HM2.out _ _) (two_all (hT2.has 64 HL2.h) (Z1.bd.has 32 HD1.h)) (by have := HML2.out; omega) (by simp)).mono fun e wx ⟨u, h1, h2, h3⟩ => ⟨u, h1, h2, h3⟩) ?_
  rintro u2 z2 ⟨hu2, hb2⟩
  simp only [Act.put, List.setIfInBounds_toArray, List.set_cons_zero, List.set_cons_succ]
  have Z2 := Z1.below hb2
  refine only_one (i := 5) (by kernel_rfl) ?_
  refine op_call (R := fun v wx => v = .agg (D.map byt).toArray ∧ Below z2.heap.size z2 wx) rfl rfl (.call { callee := .value (.func 33), args := #[.tmp 16], argTypes := #[34] }) rfl 17 rfl 33 #[u2] (fun o' ho => by go_simp) ((refsum_is u2 M2 D HD2.h z2 hu2 (by have := HML2.out; omega) (HR.out.below Z2.be HR.out.lt) (HS.out.below Z2.be HS.out.lt)).mono fun e wx ⟨h1, h2⟩ => ⟨_, h1, rfl, h2⟩) ?_
  rintro v z3 ⟨rfl, hb3⟩
  simp only [Act.put, List.setIfInBounds_toArray, List.set_cons_zero, List.set_cons_succ]
  have Z3 := Z2.below hb3
  refine only_one (i := 6) (by kernel_rfl) ?_
  refine op_wp rfl rfl ?_
  refine wp_store_row 22 (.tmp 4) (.tmp 17) rfl r (D.map byt).toArray rfl rfl 22 (z32.map byt).toArray Z3.br hsD (by rw [List.size_toArray, List.size_toArray, List.length_map, List.length_map, HDL.h]; rfl) (byts_one _) ?_
  refine wpAny_done (by kernel_rfl) (NoPanic.normal ?_) _
  go_wp2_with fail
  refine bodyPost_ret (v := .agg (D.map byt).toArray) ?_ rfl ⟨rfl, below_setRow Z3.be _ _ Z3.lr⟩
  exact results_cell_row Tryd.results24 _ _ r 22 _ (0, 0) _ rfl (Z3.br.setRow _) Tryd.underlying22 rfl hsD
end Go.Proofs.YtbghjabojgedaaaDoor
