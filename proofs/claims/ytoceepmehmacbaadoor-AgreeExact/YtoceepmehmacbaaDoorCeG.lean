import Derived.Test.YtoceepmehmacbaaDoorRt
import Derived.Test.YtoceepmehmacbaaDoorRefbG
namespace Go.Proofs.YtoceepmehmacbaaDoor
open Go.RowKit

theorem refsum_is (v : Value) (M D : List UInt8) (hD : sumOf M = D) (w : World) (hv : Has w v M) (hM : M.length ≤ 100000000000000) (hR : Rst w) (hB : Bst w) :
    Calls Tryd.prog 89 #[v] w fun e w' => e = .returned (.agg (D.map byt).toArray) ∧ Below w.heap.size w w' := by
  subst hD
  exact refsum_any v M w hv hM hR hB

/-- The result's place and the first digest's. -/
structure Mg (w x : World) (r d : Nat) (D : List UInt8) : Prop where
  br : Blk x r (z32.map byt) 22
  bd : Blk x d (D.map byt) 22
  be : Below w.heap.size w x
  lr : w.heap.size ≤ r
theorem Mg.below {w x y : World} {r d : Nat} {D : List UInt8} (h : Mg w x r d D) (hb : Below x.heap.size x y) : Mg w y r d D := ⟨h.br.below hb h.br.lt, h.bd.below hb h.bd.lt, h.be.trans (hb.mono h.be.size), h.lr⟩

set_option maxHeartbeats 1000000 in
set_option maxRecDepth 100000 in
/-- The document's 'Mac'. -/
theorem rmac_any (vk vt : Value) (key text D : List UInt8) (hD : macOf key text = D) (w : World) (hk : Has w vk key) (ht : Has w vt text) (hkl : key.length ≤ 100000000) (htl : text.length ≤ 10000000) (hR : Rst w) (hS : Bst w) :
    Calls Tryd.prog 85 #[vk, vt] w fun e w' => e = .returned (.agg (D.map byt).toArray) ∧ Below w.heap.size w w' := by
  obtain ⟨ak, ck, rfl⟩ := hk.slice
  obtain ⟨at_, ct, rfl⟩ := ht.slice
  have TU : Hid (∀ (x : UInt8) (X : Nat) (Y : List UInt8), x.toNat = X → (X = 54 ∨ X = 92) → xr x (kb key) = Y → ∀ z, Below w.heap.size w z → Calls Tryd.prog 90 #[.slice ak key.length ck, .int .i64 (X : Int)] z fun e w' => ∃ g, e = .returned (.slice (some ⟨g, 0, none⟩) 64 64) ∧ Tu z w' g Y) := hide (fun x X Y h1 h2 h3 z hz => by
    subst h3
    exact rturned_any _ key x X h1 h2 z (hk.below hz) hkl (hR.below hz hR.lt) (hS.below hz hS.lt))
  obtain ⟨X1, hX1⟩ : ∃ X, xr 54 (kb key) = X := ⟨_, rfl⟩
  obtain ⟨X2, hX2⟩ : ∃ X, xr 92 (kb key) = X := ⟨_, rfl⟩
  have HX1 : Lk (xr 54 (kb key)) X1 := ⟨hX1⟩
  have HX2 : Lk (xr 92 (kb key)) X2 := ⟨hX2⟩
  have HL1 : Lk X1.length 64 := ⟨by rw [← hX1, xr_length]; exact kb_length key⟩
  have HL2 : Lk X2.length 64 := ⟨by rw [← hX2, xr_length]; exact kb_length key⟩
  unfold macOf at hD
  rw [hX1, hX2] at hD
  obtain ⟨M1, hM1⟩ : ∃ M, X1 ++ text = M := ⟨_, rfl⟩
  rw [hM1] at hD
  obtain ⟨D1, hD1⟩ : ∃ M, sumOf M1 = M := ⟨_, rfl⟩
  rw [hD1] at hD
  obtain ⟨M2, hM2⟩ : ∃ M, X2 ++ D1 = M := ⟨_, rfl⟩
  rw [hM2] at hD
  have HML1 : Hid (M1.length ≤ 10000064) := hide (by rw [← hM1, List.length_append, HL1.h]; omega)
  have HD1 : Lk D1.length 32 := ⟨by rw [← hD1]; exact sumOf_length _⟩
  have HML2 : Hid (M2.length ≤ 96) := hide (by rw [← hM2, List.length_append, HL2.h, HD1.h]; exact Nat.le_refl _)
  have HM1 : Hid (∀ a b : Value, [(a, X1), (b, text)].flatMap (·.2) = M1) := hide (fun a b => by rw [← hM1]; simp)
  have HM2 : Hid (∀ a b : Value, [(a, X2), (b, D1)].flatMap (·.2) = M2) := hide (fun a b => by rw [← hM2]; simp)
  have HS1 : Lk (sumOf M1) D1 := ⟨hD1⟩
  have HD2 : Lk (sumOf M2) D := ⟨hD⟩
  have HDL : Lk D.length 32 := ⟨by rw [← hD]; exact sumOf_length _⟩
  have hsD := info41 D HDL.h
  have hsD1 := info41 D1 HD1.h
  have HT := hide ht
  have HR := hide hR
  have HS := hide hS
  clear hk ht hR hS hX1 hX2 hM1 hD1 hM2 hD
  obtain ⟨nk, hnk⟩ : ∃ n, key.length = n := ⟨_, rfl⟩
  rw [hnk] at TU ⊢
  obtain ⟨nt, hnt⟩ : ∃ n, text.length = n := ⟨_, rfl⟩
  rw [hnt] at HT ⊢
  clear hnk hnt hkl htl
  obtain ⟨r, hr⟩ : ∃ r, r = w.heap.size := ⟨_, rfl⟩
  have R0 : Hid (Blk (w.alloc (.cells (z32.map byt).toArray 22)) r (z32.map byt) 22) := hide (by rw [hr]; exact Blk.new w _ _)
  have B0 : Hid (Below w.heap.size w (w.alloc (.cells (z32.map byt).toArray 22))) := hide (below_new w _)
  have LR : Hid (w.heap.size ≤ r) := hide (by omega)
  go_enter Tryd.func85, Tryd.ntmps85
  go_upto_region 1 with (refine wpList_newAt rfl 22 rfl (z32.map byt) zero41 r hr.symm ?_; generalize w.alloc (.cells (z32.map byt).toArray 22) = x0 at R0 B0 ⊢; clear hr)
  go_upto_region 2 with (first
    | (go_at_call 90; refine (TU.out 54 54 X1 rfl (.inl rfl) HX1.h x0 B0.out).mono ?_; rintro e x1 ⟨g1, rfl, hT1⟩; have T1 := hide hT1; clear hT1)
    | (go_at_call 48; go_loud (refine (joined_at x1 x1.heap.size rfl [(.slice (some ⟨g1, 0, none⟩) 64 64, X1), (.slice at_ nt ct, text)] M1 (HM1.out _ _) (two_all (T1.out.has 64 HL1.h) ((HT.out.below B0.out).below T1.out.be)) (by have := HML1.out; omega) (by simp)).mono ?_); rintro e x2 ⟨u1, rfl, hu1, hb2⟩; have U1 := hide hu1; have B2 := hide hb2; clear hu1 hb2)
    | (go_at_call 89; refine (refsum_is u1 M1 D1 HS1.h x2 U1.out (by have := HML1.out; omega) (HR.out.below ((B0.out.trans (T1.out.be.mono B0.out.size)).trans (B2.out.mono (Nat.le_trans B0.out.size T1.out.be.size))) HR.out.lt) (HS.out.below ((B0.out.trans (T1.out.be.mono B0.out.size)).trans (B2.out.mono (Nat.le_trans B0.out.size T1.out.be.size))) HS.out.lt)).mono ?_; rintro e x3 ⟨rfl, hb3⟩; have B3 := hide hb3; clear hb3)
    | (refine wpList_newAt rfl 22 rfl (z32.map byt) zero41 x3.heap.size rfl ?_)
    | (refine wpList_store_row rfl 22 (.tmp 5) (.tmp 11) rfl x3.heap.size (D1.map byt).toArray rfl rfl 22 (z32.map byt).toArray (Blk.new x3 _ _) hsD1 (by rw [List.size_toArray, List.size_toArray, List.length_map, List.length_map, HD1.h]; rfl) (byts_one _) ?_)
    | fail)
  have b1 : Below w.heap.size w x1 := B0.out.trans (T1.out.be.mono B0.out.size)
  have b2 : Below w.heap.size w x2 := b1.trans (B2.out.mono b1.size)
  have b3 : Below w.heap.size w x3 := b2.trans (B3.out.mono b2.size)
  have r1 : Blk x1 r (z32.map byt) 22 := R0.out.below T1.out.be R0.out.lt
  have r2 : Blk x2 r (z32.map byt) 22 := r1.below B2.out r1.lt
  have r3 : Blk x3 r (z32.map byt) 22 := r2.below B3.out r2.lt
  have Z : Hid (Mg w ((x3.alloc (.cells (z32.map byt).toArray 22)).setRow x3.heap.size (D1.map byt).toArray) r x3.heap.size D1) := hide ⟨(r3.alloc _).setRowOther _ _ (by have := r3.lt; omega), (Blk.new x3 (z32.map byt) 22).setRow (D1.map byt), below_setRow (b3.alloc b3.size _) _ _ b3.size, LR.out⟩
  generalize (x3.alloc (.cells (z32.map byt).toArray 22)).setRow x3.heap.size (D1.map byt).toArray = x4 at Z ⊢
  generalize x3.heap.size = d at Z ⊢
  clear b1 b2 b3 r1 r2 r3 B3 U1 B2 T1 R0 B0 LR hsD1
  refine wp_region_noPanic ?_; refine wp_region_any (by kernel_rfl) ?_
  have Z0 : Mg w { x4 with drawn := x4.drawn + 1 } r d D1 := Z.out.below (Below.refl _ _).drew
  generalize { x4 with drawn := x4.drawn + 1 } = z0 at Z0 ⊢
  refine take_any (i := 0) rfl rfl (.move (.tmp 0)) rfl 12 rfl (v := (.slice ak nk ck)) (by kernel_rfl) (by kernel_rfl) (by kernel_rfl) (fun _ _ _ h => h) (fun o' ho w => by go_simp) ?_
  simp only [Act.put, List.setIfInBounds_toArray, List.set_cons_zero, List.set_cons_succ]
  refine take_any (i := 2) rfl rfl (.slice 22 (.tmp 5) none none none) rfl 14 rfl (v := (.slice (some ⟨d, 0, none⟩) 32 32)) (by kernel_rfl) (by kernel_rfl) (by kernel_rfl) (fun _ _ _ h => h) (fun o' ho w => by go_simp) ?_
  simp only [Act.put, List.setIfInBounds_toArray, List.set_cons_zero, List.set_cons_succ]
  refine only_one (i := 1) (by kernel_rfl) ?_; refine op_call (R := fun v wx => ∃ g, v = .slice (some ⟨g, 0, none⟩) 64 64 ∧ Tu z0 wx g X2) rfl rfl (.call { callee := .value (.func 90), args := #[.tmp 12, .const (.int .i64 92)], argTypes := #[40, 3] }) rfl 13 rfl 90 #[.slice ak nk ck, .int .i64 92] (fun o' ho => by go_simp) ((TU.out 92 92 X2 rfl (.inr rfl) HX2.h z0 (Below.trans Z0.be (Below.refl _ _))).mono fun e wx ⟨g, h1, h2⟩ => ⟨_, h1, g, rfl, h2⟩) ?_
  rintro v z1 ⟨g2, rfl, hT2⟩
  simp only [Act.put, List.setIfInBounds_toArray, List.set_cons_zero, List.set_cons_succ]
  have Z1 := Z0.below hT2.be
  refine only_one (i := 3) (by kernel_rfl) ?_; refine op_run rfl rfl (.buildSlice 95 2 #[(0, .tmp 13), (1, .tmp 14)]) rfl 15 rfl (.slice (some ⟨z1.heap.size, 0, none⟩) 2 2) (z1.alloc (.cells #[.slice (some ⟨g2, 0, none⟩) 64 64, .slice (some ⟨d, 0, none⟩) 32 32] 40)) (fun o' ho => by go_simp) ?_
  simp only [Act.put, List.setIfInBounds_toArray, List.set_cons_zero, List.set_cons_succ]
  refine only_one (i := 4) (by kernel_rfl) ?_; refine op_call (R := fun v wx => Has wx v M2 ∧ Below z1.heap.size z1 wx) rfl rfl (.call { callee := .value (.func 48), args := #[.tmp 15], argTypes := #[95] }) rfl 16 rfl 48 #[.slice (some ⟨z1.heap.size, 0, none⟩) 2 2] (fun o' ho => by go_simp) ((joined_at z1 z1.heap.size rfl [(.slice (some ⟨g2, 0, none⟩) 64 64, X2), (.slice (some ⟨d, 0, none⟩) 32 32, D1)] M2 (HM2.out _ _) (two_all (hT2.has 64 HL2.h) (Z1.bd.has 32 HD1.h)) (by have := HML2.out; omega) (by simp)).mono fun e wx ⟨u, h1, h2, h3⟩ => ⟨u, h1, h2, h3⟩) ?_
  rintro u2 z2 ⟨hu2, hb2⟩
  simp only [Act.put, List.setIfInBounds_toArray, List.set_cons_zero, List.set_cons_succ]
  have Z2 := Z1.below hb2
  refine only_one (i := 5) (by kernel_rfl) ?_; refine op_call (R := fun v wx => v = .agg (D.map byt).toArray ∧ Below z2.heap.size z2 wx) rfl rfl (.call { callee := .value (.func 89), args := #[.tmp 16], argTypes := #[40] }) rfl 17 rfl 89 #[u2] (fun o' ho => by go_simp) ((refsum_is u2 M2 D HD2.h z2 hu2 (by have := HML2.out; omega) (HR.out.below Z2.be HR.out.lt) (HS.out.below Z2.be HS.out.lt)).mono fun e wx ⟨h1, h2⟩ => ⟨_, h1, rfl, h2⟩) ?_
  rintro v z3 ⟨rfl, hb3⟩
  simp only [Act.put, List.setIfInBounds_toArray, List.set_cons_zero, List.set_cons_succ]
  have Z3 := Z2.below hb3
  refine only_one (i := 6) (by kernel_rfl) ?_; refine op_wp rfl rfl ?_; refine wp_store_row 22 (.tmp 4) (.tmp 17) rfl r (D.map byt).toArray rfl rfl 22 (z32.map byt).toArray Z3.br hsD (by rw [List.size_toArray, List.size_toArray, List.length_map, List.length_map, HDL.h]; rfl) (byts_one _) ?_; refine wpAny_done (by kernel_rfl) (NoPanic.normal ?_) _
  go_wp2_with fail
  refine bodyPost_ret (v := .agg (D.map byt).toArray) ?_ rfl ⟨rfl, below_setRow Z3.be _ _ Z3.lr⟩
  exact results_cell_row Tryd.results85 _ _ r 22 _ (0, 0) _ rfl (Z3.br.setRow _) Tryd.underlying22 rfl hsD
theorem Fx.grown {S : Nat → Prop} {w w' : World} {row : Option Nat} (hg : w.grownBy w' row) (h : ∀ k, row = some k → S k) : Fx S w w' :=
  ⟨hg.os, hg.tape, hg.output, hg.size, fun k hk hs => hg.block k hk (fun e => hs (h k e.symm))⟩

set_option maxHeartbeats 400000 in
set_option maxRecDepth 100000 in
/-- The document's 'Extract'. -/
theorem rextract_any (vk vt : Value) (key text D : List UInt8) (hD : macOf key text = D) (w : World) (hk : Has w vk key) (ht : Has w vt text) (hkl : key.length ≤ 100000000) (htl : text.length ≤ 10000000) (hR : Rst w) (hS : Bst w) :
    Calls Tryd.prog 66 #[vk, vt] w fun e w' => e = .returned (.agg (D.map byt).toArray) ∧ Below w.heap.size w w' := by
  have hbn : Below w.heap.size w (w.alloc (.cells (z32.map byt).toArray 22)) := below_new w _
  have hcall : Hid (Calls Tryd.prog 85 #[vk, vt] (w.alloc (.cells (z32.map byt).toArray 22)) fun e w' => e = .returned (.agg (D.map byt).toArray) ∧ Below (w.alloc (.cells (z32.map byt).toArray 22)).heap.size (w.alloc (.cells (z32.map byt).toArray 22)) w') := hide (rmac_any vk vt key text D hD _ (hk.below hbn) (ht.below hbn) hkl htl (hR.below hbn hR.lt) (hS.below hbn hS.lt))
  have HDL : Lk D.length 32 := ⟨by rw [← hD]; exact macOf_length _ _⟩
  have hsD := info41 D HDL.h
  have HBN := hide hbn
  have R0 : Hid (Blk (w.alloc (.cells (z32.map byt).toArray 22)) w.heap.size (z32.map byt) 22) := hide (Blk.new w _ _)
  clear hD hk ht hR hS hbn
  go_enter Tryd.func66, Tryd.ntmps66
  go_wp2_with (first
    | (refine wpList_newAt rfl 22 rfl (z32.map byt) zero41 w.heap.size rfl ?_; generalize w.alloc (.cells (z32.map byt).toArray 22) = x0 at hcall HBN R0 ⊢)
    | (go_at_call 85; refine hcall.out.mono ?_; rintro e w1 ⟨rfl, hb⟩; have HB := hide hb; clear hb)
    | (refine wpList_store_row rfl 22 (.tmp 4) (.tmp 7) rfl w.heap.size (D.map byt).toArray rfl rfl 22 (z32.map byt).toArray (R0.out.below HB.out R0.out.lt) hsD (by rw [List.size_toArray, List.size_toArray, List.length_map, List.length_map, HDL.h]; rfl) (byts_one _) ?_)
    | fail)
  have hb1 := HBN.out.trans (HB.out.mono HBN.out.size)
  refine bodyPost_ret (v := .agg (D.map byt).toArray) ?_ rfl ⟨rfl, below_setRow hb1 _ _ (Nat.le_refl _)⟩
  exact results_cell_row Tryd.results66 _ _ w.heap.size 22 _ (0, 0) _ rfl ((R0.out.below HB.out R0.out.lt).setRow _) Tryd.underlying22 rfl hsD

/-- The document's bytes so far. -/
structure Rk (w x : World) (vo vt : Value) (L T : List UInt8) : Prop where
  ow : Own x w.heap.size vo L
  ha : Has x vt T
  be : Below w.heap.size w x

set_option maxHeartbeats 1000000 in
set_option maxRecDepth 100000 in
/-- The document's 'Expand'. -/
theorem rexpand_ok (vk vi : Value) (prk info : List UInt8) (n : Nat) (w : World) (hk : Has w vk prk) (hi : Has w vi info) (hpl : prk.length ≤ 100000000) (hil : info.length ≤ 1000000) (hn : n ≤ 8160) (hR : Rst w) (hS : Bst w) :
    Calls Tryd.prog 67 #[vk, vi, .int .i64 (n : Int)] w fun e w' => ∃ ao c, e = .returned (.tuple #[.slice ao n c, .int .i64 0]) ∧ Has w' (.slice ao n c) (exOut prk info n) ∧ Below w.heap.size w w' := by
  obtain ⟨ai, ci, rfl⟩ := hi.slice
  obtain ⟨nI, hnI⟩ : ∃ nI, info.length = nI := ⟨_, rfl⟩
  rw [hnI] at hi hil ⊢
  have HKY := hide hk
  have HI := hide hi
  have HR := hide hR
  have HS := hide hS
  have HPL := hide hpl
  have HIL := hide hil
  have HnI : Lk info.length nI := ⟨hnI⟩
  have hnz : ¬ (8160 : Int) < (n : Int) := by omega
  have hn0 : ¬ (n : Int) < 0 := by omega
  clear hk hi hR hS hpl hil hnI
  go_enter Tryd.func67, Tryd.ntmps67
  go_wp2
  go_loopw [8, 9, 10] (fun o t i wr => ∃ k : Nat, k ≤ (n + 31) / 32 ∧ i = .int .i64 ((k + 1 : Nat) : Int) ∧ ∃ a8 c8 a9 n9 c9, o = .slice a8 (32 * k) c8 ∧ t = .slice a9 n9 c9 ∧ Hid (Rk w wr (.slice a8 (32 * k) c8) (.slice a9 n9 c9) (ex prk info k) (tk prk info k))) (fun _ _ i _ => 256 - (intOf i).toNat)
  case atStart => exact ⟨0, by omega, rfl, none, 0, none, 0, 0, rfl, rfl, hide ⟨Own.nil _ _, Has.nil _, Below.refl _ _⟩⟩
  case round =>
    obtain ⟨k, hk, rfl, a8, c8, a9, n9, c9, rfl, rfl, hx⟩ := hrel
    have hlen := hx.out.ow.has.len
    rw [ex_length] at hlen
    by_cases hlt : 32 * k < n
    · have hlz : ((32 * k : Nat) : Int) < (n : Int) := by omega
      have hk254 : k ≤ 254 := by omega
      obtain ⟨u, hu⟩ : ∃ u : UInt8, u = UInt8.ofNat (k + 1) := ⟨_, rfl⟩
      have huz : (u.toNat : Int) = ((k + 1 : Nat) : Int) := by rw [hu, UInt8.toNat_ofNat']; omega
      have HUZ : Lk ((k : Int) + 1) (u.toNat : Int) := ⟨by omega⟩
      have HU : Lk u (UInt8.ofNat (k + 1)) := ⟨hu⟩
      clear huz hu
      obtain ⟨T, hT⟩ : ∃ T, tk prk info k = T := ⟨_, rfl⟩
      obtain ⟨L, hL⟩ : ∃ L, ex prk info k = L := ⟨_, rfl⟩
      obtain ⟨D, hD⟩ : ∃ D, tk prk info (k + 1) = D := ⟨_, rfl⟩
      have HD : Lk (macOf prk (T ++ info ++ [u])) D := ⟨by rw [← hD, ← hT, HU.h]; rfl⟩
      have DL : Lk D.length 32 := ⟨by rw [← hD]; exact tk_length prk info k⟩
      have LL : Lk L.length (32 * k) := ⟨by rw [← hL]; exact ex_length prk info k⟩
      have TL : Hid (T.length ≤ 32) := by
        rw [← hT]
        cases k with
        | zero => exact Nat.zero_le _
        | succ j => exact Nat.le_of_eq (tk_length prk info j)
      have HNX : Lk (ex prk info (k + 1)) (L ++ D) := ⟨by rw [← hL, ← hD]; rfl⟩
      have HDT : Lk (tk prk info (k + 1)) D := ⟨hD⟩
      have HJ : Hid (∀ a b c : Value, [(a, T), (b, info), (c, [u])].flatMap (·.2) = T ++ info ++ [u]) := hide (fun a b c => by simp)
      have HJL : Hid ((T ++ info ++ [u]).length ≤ 10000000) := hide (by rw [List.length_append, List.length_append]; have := TL.out; have := HIL.out; have := HnI.h; simp; omega)
      generalize T ++ info ++ [u] = J at HD HJ HJL
      rw [hT, hL] at hx
      clear hT hL hD HU
      have hsD := info41 D DL.h
      go_upto_region 10 with fail
      clear hlen
      go_wp2_with fail
      rw [HUZ.h]
      have hz1 : Hid (wr.heap.size + 1 = (wr.alloc (.cells #[byt u] 5)).heap.size) := by show _ = _; simp
      have HB1 : Hid (Below wr.heap.size wr (wr.alloc (.cells #[byt u] 5))) := hide (below_new wr _)
      have hu1 : Hid (Has (wr.alloc (.cells #[byt u] 5)) (.slice (some ⟨wr.heap.size, 0, none⟩) 1 1) [u]) := hide (has_news wr [u])
      refine (joined_at (wr.alloc (.cells #[byt u] 5)) (wr.heap.size + 1) hz1.out [(.slice a9 n9 c9, T), (.slice ai nI ci, info), (.slice (some ⟨wr.heap.size, 0, none⟩) 1 1, [u])] J (HJ.out _ _ _) (three_all (hx.out.ha.below HB1.out) ((HI.out.below hx.out.be).below HB1.out) hu1.out) (by have := HJL.out; omega) (by simp)).mono ?_
      rintro e w2 ⟨uj, rfl, huj, hb2⟩
      have UJ := hide huj
      have E2 : Hid (Below wr.heap.size wr w2) := hide (HB1.out.trans (hb2.mono HB1.out.size))
      have E2w : Hid (Below w.heap.size w w2) := hide (hx.out.be.trans (E2.out.mono hx.out.be.size))
      clear huj hb2 hz1 HB1 hu1
      go_wp2_with fail
      refine (rmac_any vk uj prk J D HD.h w2 (HKY.out.below E2w.out) UJ.out HPL.out HJL.out (HR.out.below E2w.out HR.out.lt) (HS.out.below E2w.out HS.out.lt)).mono ?_
      rintro e w3 ⟨rfl, hb3⟩
      have E3 : Hid (Below wr.heap.size wr w3) := hide (E2.out.trans (hb3.mono E2.out.size))
      have E3w : Hid (Below w.heap.size w w3) := hide (hx.out.be.trans (E3.out.mono hx.out.be.size))
      clear hb3 E2 E2w UJ
      have X4 : Hid (Rk w ((w3.alloc (.cells (z32.map byt).toArray 22)).setRow w3.heap.size (D.map byt).toArray) (.slice a8 (32 * k) c8) (.slice (some ⟨w3.heap.size, 0, none⟩) 32 32) L D) := hide (by
        have b4 : Below w3.heap.size w3 ((w3.alloc (.cells (z32.map byt).toArray 22)).setRow w3.heap.size (D.map byt).toArray) := below_setRow (below_new w3 _) _ _ (Nat.le_refl _)
        exact ⟨(hx.out.ow.below E3.out).below b4, ((Blk.new w3 (z32.map byt) 22).setRow (D.map byt)).has 32 DL.h, E3w.out.trans (b4.mono E3w.out.size)⟩)
      have E8 : Hid (∀ j, (Value.slice a8 (32 * k) c8).ownBlock = some j → j < w3.heap.size) := hide (fun j hj => by have := (hx.out.ow.below E3.out).lt j hj; exact this.2)
      clear hx
      go_upto_region 11 with (first
        | (refine wpList_newAt rfl 22 rfl (z32.map byt) zero41 w3.heap.size rfl ?_)
        | (refine wpList_store_row rfl 22 (.tmp 11) (.tmp 30) rfl w3.heap.size (D.map byt).toArray rfl rfl 22 (z32.map byt).toArray (Blk.new w3 _ _) hsD (by rw [List.size_toArray, List.size_toArray, List.length_map, List.length_map, DL.h]; rfl) (byts_one _) ?_)
        | fail)
      generalize (w3.alloc (.cells (z32.map byt).toArray 22)).setRow w3.heap.size (D.map byt).toArray = w4 at X4 ⊢
      have HNE : Hid (∀ j, (Value.slice (some ⟨w3.heap.size, 0, none⟩) 32 32).ownBlock = some j → a8.map (·.block) = some j → False) := hide (fun j hj e => by
        simp [Value.ownBlock] at hj
        have h8 := E8.out j (by cases a8 <;> simp_all [Value.ownBlock])
        omega)
      generalize w3.heap.size = d at X4 HNE ⊢
      have HA2 : Hid (L.length + D.length ≤ 150000000000000) := hide (by rw [LL.h, DL.h]; omega)
      have HLD : Lk (L ++ D).length (32 * (k + 1)) := ⟨by rw [List.length_append, LL.h, DL.h]; omega⟩
      go_wp2_with (refine wpList_app rfl (.tmp 32) (.tmp 33) rfl w.heap.size (.slice a8 (32 * k) c8) L rfl X4.out.ow (.slice (some ⟨d, 0, none⟩) 32 32) D rfl X4.out.ha HA2.out X4.out.be.size ?_; intro v5 w5 ho5 hg5; obtain ⟨a5, c5, rfl⟩ := ho5.slice; rw [HLD.h] at ho5 ⊢; have O5 := hide ho5; have G5 := hide hg5; clear ho5 hg5)
      go_roundw
      case rel =>
        refine ⟨k + 1, by omega, by go_num, a5, c5, some ⟨d, 0, none⟩, 32, 32, rfl, rfl, hide ?_⟩
        rw [HNX.h, HDT.h]
        exact ⟨O5.out, X4.out.ha.fx (Fx.grown (S := fun j => a8.map (·.block) = some j) G5.out (fun j e => by cases a8 <;> simp_all [Value.ownBlock])) (fun j hj e => HNE.out j hj e), X4.out.be.grown G5.out X4.out.be.size X4.out.ow.ownBlock⟩
      case measure => simp [intOf]; omega
    · have hke : (n + 31) / 32 = k := by omega
      have hlz : ¬ ((32 * k : Nat) : Int) < (n : Int) := by omega
      have hlz2 : (n : Int) ≤ ((32 * k : Nat) : Int) := by omega
      obtain ⟨L, hL⟩ : ∃ L, ex prk info k = L := ⟨_, rfl⟩
      have LL : L.length = 32 * k := by rw [← hL]; exact ex_length prk info k
      have HO : Lk (exOut prk info n) (L.take n) := ⟨by unfold exOut; rw [hke, hL]⟩
      rw [hL] at hx
      have hcut := hx.out.ow.has.cutH n (by omega)
      have HC := hide (hx.out.ow.has.cut 0 n (by omega) (by omega))
      obtain ⟨ac, cc, hshape⟩ := cut_shape hx.out.ow.has 0 n
      rw [hshape] at hcut HC
      rw [List.drop_zero, Nat.sub_zero] at HC
      rw [Nat.sub_zero] at hcut
      clear hshape hke hL LL
      go_wp2
      go_ret2
      exact ⟨ac, cc, rfl, by rw [HO.h]; exact HC.out, hx.out.be⟩

set_option maxHeartbeats 1000000 in
set_option maxRecDepth 100000 in
/-- The document's 'Derive', up to its Expand. -/
theorem rderive_gen (vs vk vi : Value) (salt key D : List UInt8) (n : Int) (hD : macOf salt key = D) (w : World) (hs : Has w vs salt) (hk : Has w vk key) (hsl : salt.length ≤ 100000000) (hkl : key.length ≤ 10000000) (hR : Rst w) (hS : Bst w) (R : Value → Value → World → Prop)
    (hE : ∀ d x, Has x (.slice (some ⟨d, 0, none⟩) 32 32) D → Below w.heap.size w x → Calls Tryd.prog 67 #[.slice (some ⟨d, 0, none⟩) 32 32, vi, .int .i64 n] x fun e w' => ∃ u v, e = .returned (.tuple #[u, v]) ∧ R u v w') :
    Calls Tryd.prog 47 #[vs, vk, vi, .int .i64 n] w fun e w' => ∃ u v, e = .returned (.tuple #[u, v]) ∧ R u v w' := by
  have hcall := hide (rextract_any vs vk salt key D hD w hs hk hsl hkl hR hS)
  have HE := hide hE
  have HDL : Lk D.length 32 := ⟨by rw [← hD]; exact macOf_length _ _⟩
  have hsD := info41 D HDL.h
  clear hD hs hk hR hS hE
  go_enter Tryd.func47, Tryd.ntmps47
  go_upto_region 2 with (first
    | (go_at_call 66; refine hcall.out.mono ?_; rintro e w1 ⟨rfl, hb⟩; have HB := hide hb; clear hb)
    | (refine wpList_newAt rfl 22 rfl (z32.map byt) zero41 w1.heap.size rfl ?_)
    | (refine wpList_store_row rfl 22 (.tmp 10) (.tmp 13) rfl w1.heap.size (D.map byt).toArray rfl rfl 22 (z32.map byt).toArray (Blk.new w1 _ _) hsD (by rw [List.size_toArray, List.size_toArray, List.length_map, List.length_map, HDL.h]; rfl) (byts_one _) ?_)
    | fail)
  have H2 : Hid (Has ((w1.alloc (.cells (z32.map byt).toArray 22)).setRow w1.heap.size (D.map byt).toArray) (.slice (some ⟨w1.heap.size, 0, none⟩) 32 32) D) := hide (((Blk.new w1 (z32.map byt) 22).setRow (D.map byt)).has 32 HDL.h)
  have B2 : Hid (Below w.heap.size w ((w1.alloc (.cells (z32.map byt).toArray 22)).setRow w1.heap.size (D.map byt).toArray)) := hide (below_setRow (HB.out.alloc HB.out.size _) _ _ HB.out.size)
  generalize (w1.alloc (.cells (z32.map byt).toArray 22)).setRow w1.heap.size (D.map byt).toArray = w2 at H2 B2 ⊢
  generalize w1.heap.size = d at H2 ⊢
  go_wp2_with fail
  refine (HE.out d w2 H2.out B2.out).mono ?_
  rintro e w3 ⟨u, v, rfl, hR3⟩
  have R3 := hide hR3
  clear hR3
  go_wp2
  go_ret2
  exact ⟨u, v, rfl, R3.out⟩
end Go.Proofs.YtoceepmehmacbaaDoor
set_option linter.unusedVariables false
set_option linter.unusedSimpArgs false
namespace Go.Proofs.YtoceepmehmacbaaDoor
open Go.RowKit

theorem int_lt_d (a b : Int) (W : World) (x y : Operand) : (do eqGuard .lss 3 x y (.int .i64 a) (.int .i64 b); binOp .lss 3 (.int .i64 a) (.int .i64 b) : Sem Value).run Tryd.prog W = .ok (.bool (decide (a < b))) W := by
  by_cases h : a < b
  · rw [decide_eq_true h]; exact int_lt_t h W x y
  · rw [decide_eq_false h]; exact int_lt_f h W x y
theorem int_eq_d {t : TypeId} (a b : Int) (W : World) (x y : Operand) : (do eqGuard .eql t x y (.int .i64 a) (.int .i64 b); binOp .eql t (.int .i64 a) (.int .i64 b) : Sem Value).run Tryd.prog W = .ok (.bool (decide (a = b))) W := by
  by_cases h : a = b
  · rw [decide_eq_true h]; exact int_eq_t h W x y
  · rw [decide_eq_false h]; exact int_eq_f h W x y
theorem int_ne_d {t : TypeId} (a b : Int) (W : World) (x y : Operand) : (do eqGuard .neq t x y (.int .i64 a) (.int .i64 b); binOp .neq t (.int .i64 a) (.int .i64 b) : Sem Value).run Tryd.prog W = .ok (.bool (decide (¬ a = b))) W := by
  by_cases h : a = b
  · rw [decide_eq_false (by simpa using h)]; exact int_ne_f h W x y
  · rw [decide_eq_true h]; exact int_ne_t h W x y
/-- A record's value: its table, its slices and what they hold. -/
theorem idx34 (ad : Addr) (n cap m : Nat) (h : m < n) (W : World) : (Instr.indexAt 40 (.slice (some ad) n cap) (.int .i64 (m : Int))).run Tryd.prog W = .ok (.pointer (some (ad.add m))) W := by
  have hm : (m : Int) < (n : Int) := by omega
  go_simp
theorem idxK (q m : Nat) (h : m < 32) (W : World) : (Instr.indexAt 23 (.pointer (some ⟨q, 0, none⟩)) (.int .i64 (m : Int))).run Tryd.prog W = .ok (.pointer (some ⟨q, m, none⟩)) W := by
  have hm : (m : Int) < 32 := by omega
  go_simp
  try simp
  try rw [add_plain]
theorem Has.item {w : World} {v : Value} {bs : List UInt8} (h : Has w v bs) {i : Nat} {u : UInt8} (hi : bs[i]? = some u) : ∃ ad, (∀ W, (Instr.indexAt 40 v (.int .i64 (i : Int))).run Tryd.prog W = .ok (.pointer (some ad)) W) ∧ (Instr.loadAt 5 (.pointer (some ad))).run Tryd.prog w = .ok (byt u) w := by
  rcases h with ⟨rfl, rfl⟩ | ⟨ad, cap, rfl, h2, h3⟩
  · simp at hi
  · refine ⟨_, fun W => idx34 ad _ cap i (List.getElem?_eq_some_iff.1 hi).1 W, ?_⟩
    have hc := h3 i u hi
    obtain ⟨a2, ha2⟩ : ∃ a2, ad.add i = a2 := ⟨_, rfl⟩
    rw [ha2] at hc ⊢
    unfold byt at *
    go_simp
theorem st5 {w : World} {ad : Addr} {v0 : Value} (u : UInt8) (hc : w.cell? ad = some v0) (hf : w.frozen? ad = false) : (Instr.storeAt 5 (.pointer (some ad)) (byt u)).run Tryd.prog w = .ok () (w.setCell ad (byt u)) := by
  unfold byt
  go_simp
/-- The tables lie there. -/
structure St3 (w : World) : Prop where
  k : Kst w
  r : Rst w
  b : Bst w
theorem St3.on {w w' : World} (h : St3 w) (hb : Below w.heap.size w w') : St3 w' := ⟨h.k.on hb, h.r.below hb h.r.lt, h.b.below hb h.b.lt⟩
end Go.Proofs.YtoceepmehmacbaaDoor
set_option linter.unusedVariables false
set_option linter.unusedSimpArgs false
namespace Go.Proofs.YtoceepmehmacbaaDoor
open Go.RowKit

end Go.Proofs.YtoceepmehmacbaaDoor
