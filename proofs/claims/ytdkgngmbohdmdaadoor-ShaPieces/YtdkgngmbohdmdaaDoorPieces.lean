import Derived.Test.YtdkgngmbohdmdaaDoorApart
import Derived.Test.YtdkgngmbohdmdaaDoorRegH
namespace Go.Proofs.YtdkgngmbohdmdaaDoor
open Go.RowKit

/-- The slice value v holds n numbers. -/
def Ints (w : World) (v : Value) (n : Nat) : Prop := ∃ ao cap, v = .slice ao n cap ∧ ∀ i, i < n → ∃ ad z, ao = some ad ∧ w.cell? (ad.add i) = some (.int .i64 z)

/-- A hash at g, a digest at d, both the call's own. -/
structure PS (w x : World) (g d : Nat) (mg D : List UInt8) : Prop where
  hg : HAt x g mg
  wa : Blk x d (D.map byt) 24
  lg : w.heap.size ≤ g
  ld : w.heap.size ≤ d
  ne : g ≠ d
  be : Below w.heap.size w x
theorem PS.below {w x y : World} {g d : Nat} {mg D : List UInt8} (h : PS w x g d mg D) (hb : Below x.heap.size x y) : PS w y g d mg D :=
  ⟨Blk.below h.hg hb (Blk.lt h.hg), h.wa.below hb h.wa.lt, h.lg, h.ld, h.ne, h.be.trans (hb.mono h.be.size)⟩
theorem PS.put {w x y : World} {g d : Nat} {mg m D : List UInt8} (h : PS w x g d mg D) (hh : HAt y g m) (hf : Fx (One g) x y) : PS w y g d m D :=
  ⟨hh, h.wa.fx hf (fun e => h.ne e.symm), h.lg, h.ld, h.ne, h.be.trans (hf.below (fun j hj (e : j = g) => by have := h.lg; omega) h.be.size)⟩
theorem PS.alloc {w x : World} {g d : Nat} {mg D : List UInt8} (h : PS w x g d mg D) (o : Obj) : PS w (x.alloc o) g d mg D := h.below (below_new x o)
theorem PS.drew {w x : World} {g d : Nat} {mg D : List UInt8} (h : PS w x g d mg D) : PS w x.drew g d mg D := h.below (Below.refl _ _).drew

theorem Parts.below {w x : World} {v : Value} {ps : List (Value × List UInt8)} (h : Parts w v ps) (hb : Below w.heap.size w x) : Parts x v ps := by
  rcases h with h | ⟨ad, cap, rfl, h2, h3⟩
  · exact .inl h
  · exact .inr ⟨ad, cap, rfl, h2, fun i p hp => ⟨(hb.cell (cell_lt (h3 i p hp).1)).trans (h3 i p hp).1, (h3 i p hp).2.below hb⟩⟩

theorem len_is (p n : Nat) (m : List UInt8) (w : World) (h : HAt w p m) (hn : m.length = n) : Calls Tryd.prog 12 #[.pointer (some ⟨p, 0, none⟩)] w fun e w' => e = .returned (.int .i64 (n : Int)) ∧ w' = w := by
  subst hn
  exact len_any p m w h
theorem sum_parts (v : Value) (ps : List (Value × List UInt8)) (M : List UInt8) (w : World) (hP : Parts w v ps) (hK : Kst w) (hM : ps.flatMap (·.2) = M) (hn : M.length ≤ 1152921504606846976) (hl : ps.length ≤ 1000) :
    Calls Tryd.prog 9 #[v] w fun e w' => e = .returned (.agg ((sumOf M).map byt).toArray) ∧ Below w.heap.size w w' := by
  subst hM
  exact sum_any v ps w hP hK hn (by omega)

theorem PS.rg {w x : World} {g d : Nat} {mg D : List UInt8} (h : PS w x g d mg D) : x.rangeAt d 0 (D.map byt) := fun j v hv => by
  rw [Nat.zero_add, h.wa.cell]; exact hv

theorem one_all {W : World} {v : Value} {bs : List UInt8} (h : Has W v bs) : ∀ p ∈ [(v, bs)], Has W p.1 p.2 := by
  intro p hp
  simp only [List.mem_cons, List.not_mem_nil, or_false] at hp
  subst hp
  exact h

theorem three_all {W : World} {a b c : Value} {xa xb xc : List UInt8} (h1 : Has W a xa) (h2 : Has W b xb) (h3 : Has W c xc) : ∀ p ∈ [(a, xa), (b, xb), (c, xc)], Has W p.1 p.2 := by
  intro p hp
  simp only [List.mem_cons, List.not_mem_nil, or_false] at hp
  rcases hp with rfl | rfl | rfl
  · exact h1
  · exact h2
  · exact h3

set_option maxHeartbeats 4000000 in
set_option maxRecDepth 100000 in
theorem pieces_any (vm vc : Value) (lm : List UInt8) (nc : Nat) (w : World) (hm : Has w vm lm) (hc : Ints w vc nc) (nm : lm.length ≤ 9223372036854775807) (hnc : nc ≤ 9223372036854775807) (hK : Kst w) :
    Calls Tryd.prog 4 #[vm, vc] w fun e w' => e = .returned (.bool true) ∧ Below w.heap.size w w' := by
  obtain ⟨ac, cc, rfl, hcell⟩ := hc
  have HM := hide hm
  have HC := hide hcell
  have NM := hide nm
  have NC := hide hnc
  have HK := hide hK
  clear hm hcell nm hnc hK
  go_enter Tryd.func4, Tryd.ntmps4
  go_wp2_with fail
  refine (moves_any _ HK.out).mono ?_
  rintro e w1 ⟨rfl, hb1⟩
  have B1 := hide hb1
  clear hb1
  go_wp2_with fail
  refine (short_any vm lm 3000 w1 (HM.out.below B1.out) (by decide) NM.out).mono ?_
  rintro e w' ⟨⟨um, rfl, hum⟩, hw'⟩
  subst hw'
  obtain ⟨M, hM⟩ : ∃ M, M = lm.take 3000 := ⟨_, rfl⟩
  rw [← hM] at hum
  have LM : Hid (M.length ≤ 3000) := by rw [hM]; show _ ≤ _; rw [List.length_take]; omega
  clear hM
  obtain ⟨am, cm, rfl⟩ := hum.slice
  have UM := hide hum
  have hlm := hum.len
  clear hum
  have KK : Hid (Kst w') := HK.out.below B1.out HK.out.lt
  go_wp2_with fail
  refine (sum_new w' [(Value.slice am M.length cm, M)] M (one_all UM.out) KK.out (by simp) (by have := LM.out; omega) (by simp)).mono ?_
  rintro e w2 ⟨rfl, hb2⟩
  have B2 := hide hb2
  clear hb2
  have hs24 := info24 (sumOf M) (sumOf_length M)
  go_wp2_with (first
    | (refine wpList_newAt rfl 24 rfl (z32.map byt) zero24 w2.heap.size rfl ?_)
    | (refine wpList_store_row rfl 24 (.tmp 5) (.tmp 16) rfl w2.heap.size ((sumOf M).map byt).toArray rfl rfl 24 (z32.map byt).toArray (Blk.new w2 _ _) hs24 (by rw [List.size_toArray, List.size_toArray, List.length_map, List.length_map, sumOf_length]; rfl) (byts_one _) ?_))
  refine (new_any _).mono ?_
  rintro e w3 ⟨g, rfl, hg3, hh3, hb3⟩
  have P3 : PS w' w3 g w2.heap.size [] (sumOf M) := by
    have b2 : Below w'.heap.size w' ((w2.alloc (.cells (z32.map byt).toArray 24)).setRow w2.heap.size ((sumOf M).map byt).toArray) := below_setRow (B2.out.alloc B2.out.size _) _ _ B2.out.size
    have bl : Blk ((w2.alloc (.cells (z32.map byt).toArray 24)).setRow w2.heap.size ((sumOf M).map byt).toArray) w2.heap.size ((sumOf M).map byt) 24 := (Blk.new w2 _ _).setRow _
    have := B2.out.size
    have := bl.lt
    exact ⟨hh3, bl.below hb3 bl.lt, by omega, by omega, by omega, b2.trans (hb3.mono b2.size)⟩
  generalize w2.heap.size = d at P3 ⊢
  clear hg3 hh3 hb3 hs24
  have HP3 := hide P3
  clear P3
  go_wp2_with fail
  go_loopw [7, 8] (fun a i wr => ∃ at_ j : Nat, at_ ≤ M.length ∧ j ≤ nc ∧ j ≤ 40 ∧ a = .int .i64 at_ ∧ i = .int .i64 j ∧ Hid (PS w' wr g d (M.take at_) (sumOf M))) (fun _ i _ => 40 - (intOf i).toNat)
  case atStart => exact ⟨0, 0, by omega, by omega, by omega, rfl, rfl, by rw [List.take_zero]; exact HP3⟩
  case round =>
    obtain ⟨at_, j, hat, hj, hj40, rfl, rfl, hP⟩ := hrel
    have hBw : Hid (Below w.heap.size w wr) := B1.out.trans (hP.out.be.mono B1.out.size)
    by_cases hjj : j < nc ∧ j < 40
    · obtain ⟨h1, h2⟩ := hjj
      have lz1 : (j : Int) < (nc : Int) := by omega
      have lz2 : (j : Int) < 40 := by omega
      obtain ⟨ad, z, rfl, hcz⟩ := HC.out j h1
      have hcz' : wr.cell? (ad.add j) = some (.int .i64 z) := (hBw.out.cell (cell_lt hcz)).trans hcz
      clear hcz
      have lM := LM.out
      have hsplit : ∃ q kN rN : Nat, q ≤ M.length - at_ ∧ (z % 130 = (kN : Int)) ∧ ((M.length : Int) - (at_ : Int) = (rN : Int)) ∧ kN < 130 ∧ rN ≤ 3000 ∧ ((kN = q ∧ q ≤ rN) ∨ (rN = q ∧ q < kN)) := by
        refine ⟨min (z % 130).toNat (M.length - at_), (z % 130).toNat, M.length - at_, ?_, ?_, ?_, ?_, ?_, ?_⟩ <;> omega
      obtain ⟨q, kN, rN, hq, hkN, hrN, hk130, hr3, hcase⟩ := hsplit
      obtain ⟨aN, haN⟩ : ∃ aN, aN = at_ + q := ⟨_, rfl⟩
      have haz : (at_ : Int) + (q : Int) = (aN : Int) := by omega
      have hcut := fun W => UM.out.cutLH at_ aN (by omega) (by omega) W
      obtain ⟨V, hV⟩ : ∃ V, V = cutV (.slice am M.length cm) at_ aN := ⟨_, rfl⟩
      obtain ⟨X, hX⟩ : ∃ X, X = (M.drop at_).take q := ⟨_, rfl⟩
      have HVX : Hid (Has w' V X) := by
        have := UM.out.cut at_ aN (by omega) (by omega)
        rw [← hV, show aN - at_ = q by omega, ← hX] at this
        exact this
      have HXl : Hid (X.length ≤ 130) := by rw [hX]; show _ ≤ _; rw [List.length_take]; omega
      have HT : Hid (M.take at_ ++ X = M.take aN) := by rw [hX, haN]; show _ = _; rw [List.take_add]
      rw [← hV] at hcut
      have hcutH := fun W => UM.out.cutH aN (by omega) W
      obtain ⟨a2, c2, hV2⟩ := cut_shape UM.out 0 aN
      have HV2 : Hid (Has w' (.slice a2 aN c2) (M.take aN)) := by
        have := UM.out.cut 0 aN (by omega) (by omega)
        rw [hV2, Nat.sub_zero, List.drop_zero] at this
        exact this
      rw [hV2, Nat.sub_zero] at hcutH
      have HTl : Hid ((M.take aN).length = aN) := by show _ = _; rw [List.length_take]; omega
      have HLt : Hid (aN ≤ M.length) := by show _ ≤ _; omega
      have ha3 : aN ≤ 3000 := by omega
      have hEQ : ∀ W : World, (Op.equalIn 10000 24 (.agg ((sumOf (M.take aN)).map byt).toArray) (.agg ((sumOf (M.take aN)).map byt).toArray)).run Tryd.prog W = .ok true W := fun W => eq24 _ (sumOf_length _) W
      have hGD := guard24
      have Haz := hide haN
      clear hV hX hV2 haN
      have hcase' : (q = kN ∧ q ≤ rN) ∨ (q = rN ∧ q < kN) := by omega
      clear hcase
      rcases hcase' with ⟨rfl, hle⟩ | ⟨rfl, hle⟩
      all_goals
        have hlez := Int.ofNat_le.2 hle
        go_wp2_with (go_at_call 15; refine (rest_any z 130 _ (by decide) (by decide)).mono ?_; rintro e wq ⟨rfl, hwq⟩; subst hwq; rw [hkN])
        refine (write_any g (M.take at_) X V _ hP.out.hg (HVX.out.below hP.out.be) (has_lt HVX.out g hP.out.lg) (KK.out.below hP.out.be KK.out.lt) (by have := hP.out.lg; have := KK.out.lt; omega) (by have := HXl.out; rw [List.length_take]; omega)).mono ?_
        rintro e x5 ⟨rfl, hh5, hf5⟩
        rw [HT.out] at hh5
        have PD : PS w' x5.drew g d (M.take aN) (sumOf M) := (hP.out.put hh5 hf5).drew
        have KD : Hid (Kst x5.drew) := KK.out.below PD.be KK.out.lt
        clear hh5 hf5
        go_wp2_with fail
        go_region_held3 (fun _ => True) (trivial) (first
          | (go_at_call 12; refine (len_is g aN (M.take aN) _ ?_ ?_).mono ?_; exact PD.hg; exact HTl.out; rintro e wl ⟨rfl, hwl⟩; subst hwl)
          | (go_at_call 13; refine (hsum_any g (M.take aN) _ ?_ ?_ ?_).mono ?_; (first | exact PD.hg | exact (PD.alloc _).hg); (first | exact KD.out | exact KD.out.below (below_new _ _) KD.out.lt); (rw [HTl.out]; omega); rintro e y1 ⟨rfl, hy1⟩)
          | (go_at_call 9; refine (sum_new _ [(Value.slice a2 aN c2, M.take aN)] (M.take aN) ?_ ?_ ?_ ?_ ?_).mono ?_; exact one_all (HV2.out.below (PD.below hy1).be); exact KD.out.below hy1 KD.out.lt; simp; (rw [HTl.out]; omega); simp; rintro e y2 ⟨rfl, hy2⟩)
          | (go_at_call 9; refine (sum_parts _ [(Value.slice a2 aN c2, M.take aN)] (M.take aN) _ ?_ ?_ ?_ ?_ ?_).mono ?_; exact (parts_new' _ [(Value.slice a2 aN c2, M.take aN)] (one_all (HV2.out.below PD.be))).below hy1; exact (KD.out.below (below_new _ _) KD.out.lt).below hy1 (by have := KD.out.lt; simp); simp; (rw [HTl.out]; omega); simp; rintro e y2 ⟨rfl, hy2⟩))
        all_goals
          go_wp2
          go_roundw
          case rel => exact ⟨aN, j + 1, HLt.out, by omega, by omega, rfl, by go_num, hide (by first | exact (PD.below hy1).below hy2 | exact ((PD.alloc _).below hy1).below hy2)⟩
          case measure => simp [intOf]; omega
    · have hs24 : (Tryd.prog.info? 24).map (·.size) = some ((sumOf M).map byt).length := by rw [List.length_map, sumOf_length]; kernel_rfl
      have hu24 := Tryd.underlying24
      have hcutL := fun W => UM.out.cutL at_ hat W
      have hcutH := fun W => UM.out.cutH at_ hat W
      obtain ⟨a3, c3, hV3⟩ := cut_shape UM.out at_ M.length
      obtain ⟨a2, c2, hV2⟩ := cut_shape UM.out 0 at_
      have HV3 : Hid (Has w' (.slice a3 (M.length - at_) c3) (M.drop at_)) := by
        have := UM.out.cut at_ M.length hat (Nat.le_refl _)
        rw [hV3, List.take_of_length_le (by rw [List.length_drop]; omega)] at this
        exact this
      have HV2 : Hid (Has w' (.slice a2 at_ c2) (M.take at_)) := by
        have := UM.out.cut 0 at_ (by omega) hat
        rw [hV2, Nat.sub_zero, List.drop_zero] at this
        exact this
      rw [hV3] at hcutL
      rw [hV2, Nat.sub_zero] at hcutH
      have hEQ : ∀ W : World, (Op.equalIn 10000 24 (.agg ((sumOf M).map byt).toArray) (.agg ((sumOf M).map byt).toArray)).run Tryd.prog W = .ok true W := fun W => eq24 _ (sumOf_length _) W
      have hGD := guard24
      have hatz : (at_ : Int) ≤ (M.length : Int) := by omega
      clear hV2 hV3
      obtain ⟨rN, hrN⟩ : ∃ rN, rN = M.length - at_ := ⟨_, rfl⟩
      rw [← hrN] at hcutL HV3
      have HrN := hide hrN
      clear hrN
      have hsp : ((j : Int) < (nc : Int) ∧ ¬ (j : Int) < 40) ∨ ¬ (j : Int) < (nc : Int) := by omega
      rcases hsp with ⟨g1, g2⟩ | g1
      all_goals
        go_wp2_with fail
        refine (write_any g (M.take at_) (M.drop at_) (.slice a3 rN c3) _ hP.out.hg (HV3.out.below hP.out.be) (has_lt HV3.out g hP.out.lg) (KK.out.below hP.out.be KK.out.lt) (by have := hP.out.lg; have := KK.out.lt; omega) (by have := LM.out; rw [List.length_take, List.length_drop]; omega)).mono ?_
        rintro e x5 ⟨rfl, hh5, hf5⟩
        rw [List.take_append_drop] at hh5
        have PD : PS w' x5.drew g d M (sumOf M) := (hP.out.put hh5 hf5).drew
        clear hh5 hf5
        go_wp2_with fail
        refine wp_region_noPanic ?_
        refine wp_region_held (S := fun x => x.rangeAt d 0 ((sumOf M).map byt)) (by kernel_rfl) ?_
        refine takeH (i := 0) rfl (.move (.tmp 6)) rfl 71 rfl (v := (.pointer (some ⟨g, 0, none⟩))) (by kernel_rfl) (by kernel_rfl) (by kernel_rfl) (fun _ _ _ h => h) (by rfl) (fun o' ho W hW => by clear hW; go_simp) PD.rg ?_
        simp only [Act.put, List.setIfInBounds_toArray, List.set_cons_zero, List.set_cons_succ]
        refine takeH (i := 2) rfl (.move (.tmp 0)) rfl 73 rfl (v := (.slice am M.length cm)) (by kernel_rfl) (by kernel_rfl) (by kernel_rfl) (fun _ _ _ h => h) (by rfl) (fun o' ho W hW => by clear hW; go_simp) PD.rg ?_
        simp only [Act.put, List.setIfInBounds_toArray, List.set_cons_zero, List.set_cons_succ]
        refine takeH (i := 3) rfl (.call { callee := .builtin .len, args := #[.tmp 73], argTypes := #[26] }) rfl 74 rfl (v := (.int .i64 (M.length : Int))) (by kernel_rfl) (by kernel_rfl) (by kernel_rfl) (fun _ _ _ h => h) (by rfl) (fun o' ho W hW => by clear hW; go_simp) PD.rg ?_
        simp only [Act.put, List.setIfInBounds_toArray, List.set_cons_zero, List.set_cons_succ]
        refine onlyH (i := 1) (by kernel_rfl) ?_
        refine opG_call (R := fun v wz => v = .int .i64 (M.length : Int) ∧ PS w' wz g d M (sumOf M)) rfl (by rfl) (.call { callee := .value (.func 12), args := #[.tmp 71], argTypes := #[27] }) rfl 72 rfl 12 #[.pointer (some ⟨g, 0, none⟩)] (fun o' ho => by go_simp) ((len_any g M _ PD.hg).mono fun e wz ⟨h1, h2⟩ => ⟨_, h1, rfl, by rw [h2]; exact PD⟩) ?_
        rintro v z1 ⟨rfl, hz1⟩
        have Pz1 : PS w' z1 g d M (sumOf M) := hz1
        refine ⟨Pz1.rg, ?_⟩
        simp only [Act.put, List.setIfInBounds_toArray, List.set_cons_zero, List.set_cons_succ]
        refine takeH (i := 4) rfl (.binOp .eql 3 (.tmp 72) (.tmp 74) 3) rfl 75 rfl (v := (.bool true)) (by kernel_rfl) (by kernel_rfl) (by kernel_rfl) (fun _ _ _ h => h) (by rfl) (fun o' ho W hW => by clear hW; go_simp) Pz1.rg ?_
        simp only [Act.put, List.setIfInBounds_toArray, List.set_cons_zero, List.set_cons_succ]
        refine takeH (i := 5) rfl (.move (.tmp 75)) rfl 76 rfl (v := (.bool true)) (by kernel_rfl) (by kernel_rfl) (by kernel_rfl) (fun _ _ _ h => h) (by rfl) (fun o' ho W hW => by clear hW; go_simp) Pz1.rg ?_
        simp only [Act.put, List.setIfInBounds_toArray, List.set_cons_zero, List.set_cons_succ]
        refine takeH (i := 6) rfl (.move (.tmp 6)) rfl 77 rfl (v := (.pointer (some ⟨g, 0, none⟩))) (by kernel_rfl) (by kernel_rfl) (by kernel_rfl) (fun _ _ _ h => h) (by rfl) (fun o' ho W hW => by clear hW; go_simp) Pz1.rg ?_
        simp only [Act.put, List.setIfInBounds_toArray, List.set_cons_zero, List.set_cons_succ]
        refine takeH_load (i := 8) rfl 79 rfl 24 (.tmp 5) rfl (by kernel_rfl) (by kernel_rfl) (by kernel_rfl) (fun _ _ _ h => h) (by rfl) d 0 rfl ((sumOf M).map byt) rfl (fun W hW => hW) hu24 rfl hs24 Pz1.rg ?_
        simp only [Act.put, List.setIfInBounds_toArray, List.set_cons_zero, List.set_cons_succ]
        refine onlyH (i := 7) (by kernel_rfl) ?_
        refine opG_call (R := fun v wz => v = .agg ((sumOf M).map byt).toArray ∧ PS w' wz g d M (sumOf M)) rfl (by rfl) (.call { callee := .value (.func 13), args := #[.tmp 77], argTypes := #[27] }) rfl 78 rfl 13 #[.pointer (some ⟨g, 0, none⟩)] (fun o' ho => by go_simp) ((hsum_any g M _ Pz1.hg (KK.out.below Pz1.be KK.out.lt) (by have := LM.out; omega)).mono fun e wz ⟨h1, h2⟩ => ⟨_, h1, rfl, Pz1.below h2⟩) ?_
        rintro v z2 ⟨rfl, hz2⟩
        have Pz2 : PS w' z2 g d M (sumOf M) := hz2
        refine ⟨Pz2.rg, ?_⟩
        simp only [Act.put, List.setIfInBounds_toArray, List.set_cons_zero, List.set_cons_succ]
        refine takeH (i := 9) rfl (.binOp .eql 24 (.tmp 78) (.tmp 79) 24) rfl 80 rfl (v := (.bool true)) (by kernel_rfl) (by kernel_rfl) (by kernel_rfl) (fun _ _ _ h => h) (by rfl) (fun o' ho W hW => by clear hW; go_simp) Pz2.rg ?_
        simp only [Act.put, List.setIfInBounds_toArray, List.set_cons_zero, List.set_cons_succ]
        refine takeH (i := 10) rfl (.pick (.tmp 76) (.tmp 80) (.const (.bool false))) rfl 81 rfl (v := (.bool true)) (by kernel_rfl) (by kernel_rfl) (by kernel_rfl) (fun _ _ _ h => h) (by rfl) (fun o' ho W hW => by clear hW; go_simp) Pz2.rg ?_
        simp only [Act.put, List.setIfInBounds_toArray, List.set_cons_zero, List.set_cons_succ]
        refine takeH (i := 11) rfl (.move (.tmp 81)) rfl 82 rfl (v := (.bool true)) (by kernel_rfl) (by kernel_rfl) (by kernel_rfl) (fun _ _ _ h => h) (by rfl) (fun o' ho W hW => by clear hW; go_simp) Pz2.rg ?_
        simp only [Act.put, List.setIfInBounds_toArray, List.set_cons_zero, List.set_cons_succ]
        refine takeH (i := 12) rfl (.move (.tmp 6)) rfl 83 rfl (v := (.pointer (some ⟨g, 0, none⟩))) (by kernel_rfl) (by kernel_rfl) (by kernel_rfl) (fun _ _ _ h => h) (by rfl) (fun o' ho W hW => by clear hW; go_simp) Pz2.rg ?_
        simp only [Act.put, List.setIfInBounds_toArray, List.set_cons_zero, List.set_cons_succ]
        refine takeH_load (i := 14) rfl 85 rfl 24 (.tmp 5) rfl (by kernel_rfl) (by kernel_rfl) (by kernel_rfl) (fun _ _ _ h => h) (by rfl) d 0 rfl ((sumOf M).map byt) rfl (fun W hW => hW) hu24 rfl hs24 Pz2.rg ?_
        simp only [Act.put, List.setIfInBounds_toArray, List.set_cons_zero, List.set_cons_succ]
        refine onlyH (i := 13) (by kernel_rfl) ?_
        refine opG_call (R := fun v wz => v = .agg ((sumOf M).map byt).toArray ∧ PS w' wz g d M (sumOf M)) rfl (by rfl) (.call { callee := .value (.func 13), args := #[.tmp 83], argTypes := #[27] }) rfl 84 rfl 13 #[.pointer (some ⟨g, 0, none⟩)] (fun o' ho => by go_simp) ((hsum_any g M _ Pz2.hg (KK.out.below Pz2.be KK.out.lt) (by have := LM.out; omega)).mono fun e wz ⟨h1, h2⟩ => ⟨_, h1, rfl, Pz2.below h2⟩) ?_
        rintro v z3 ⟨rfl, hz3⟩
        have Pz3 : PS w' z3 g d M (sumOf M) := hz3
        refine ⟨Pz3.rg, ?_⟩
        simp only [Act.put, List.setIfInBounds_toArray, List.set_cons_zero, List.set_cons_succ]
        refine takeH (i := 15) rfl (.binOp .eql 24 (.tmp 84) (.tmp 85) 24) rfl 86 rfl (v := (.bool true)) (by kernel_rfl) (by kernel_rfl) (by kernel_rfl) (fun _ _ _ h => h) (by rfl) (fun o' ho W hW => by clear hW; go_simp) Pz3.rg ?_
        simp only [Act.put, List.setIfInBounds_toArray, List.set_cons_zero, List.set_cons_succ]
        refine takeH (i := 16) rfl (.pick (.tmp 82) (.tmp 86) (.const (.bool false))) rfl 87 rfl (v := (.bool true)) (by kernel_rfl) (by kernel_rfl) (by kernel_rfl) (fun _ _ _ h => h) (by rfl) (fun o' ho W hW => by clear hW; go_simp) Pz3.rg ?_
        simp only [Act.put, List.setIfInBounds_toArray, List.set_cons_zero, List.set_cons_succ]
        refine takeH (i := 17) rfl (.move (.tmp 87)) rfl 88 rfl (v := (.bool true)) (by kernel_rfl) (by kernel_rfl) (by kernel_rfl) (fun _ _ _ h => h) (by rfl) (fun o' ho W hW => by clear hW; go_simp) Pz3.rg ?_
        simp only [Act.put, List.setIfInBounds_toArray, List.set_cons_zero, List.set_cons_succ]
        refine takeH (i := 18) rfl (.move (.tmp 0)) rfl 89 rfl (v := (.slice am M.length cm)) (by kernel_rfl) (by kernel_rfl) (by kernel_rfl) (fun _ _ _ h => h) (by rfl) (fun o' ho W hW => by clear hW; go_simp) Pz3.rg ?_
        simp only [Act.put, List.setIfInBounds_toArray, List.set_cons_zero, List.set_cons_succ]
        refine takeH (i := 19) rfl (.move (.tmp 7)) rfl 90 rfl (v := (.int .i64 (at_ : Int))) (by kernel_rfl) (by kernel_rfl) (by kernel_rfl) (fun _ _ _ h => h) (by rfl) (fun o' ho W hW => by clear hW; go_simp) Pz3.rg ?_
        simp only [Act.put, List.setIfInBounds_toArray, List.set_cons_zero, List.set_cons_succ]
        refine takeH (i := 20) rfl (.slice 26 (.tmp 89) none (some (.tmp 90)) none) rfl 91 rfl (v := (.slice a2 at_ c2)) (by kernel_rfl) (by kernel_rfl) (by kernel_rfl) (fun _ _ _ h => h) (by rfl) (fun o' ho W hW => by clear hW; go_simp) Pz3.rg ?_
        simp only [Act.put, List.setIfInBounds_toArray, List.set_cons_zero, List.set_cons_succ]
        refine takeH (i := 21) rfl (.move (.tmp 0)) rfl 92 rfl (v := (.slice am M.length cm)) (by kernel_rfl) (by kernel_rfl) (by kernel_rfl) (fun _ _ _ h => h) (by rfl) (fun o' ho W hW => by clear hW; go_simp) Pz3.rg ?_
        simp only [Act.put, List.setIfInBounds_toArray, List.set_cons_zero, List.set_cons_succ]
        refine takeH (i := 22) rfl (.move (.tmp 7)) rfl 93 rfl (v := (.int .i64 (at_ : Int))) (by kernel_rfl) (by kernel_rfl) (by kernel_rfl) (fun _ _ _ h => h) (by rfl) (fun o' ho W hW => by clear hW; go_simp) Pz3.rg ?_
        simp only [Act.put, List.setIfInBounds_toArray, List.set_cons_zero, List.set_cons_succ]
        refine takeH (i := 23) rfl (.slice 26 (.tmp 92) (some (.tmp 93)) none none) rfl 94 rfl (v := (.slice a3 rN c3)) (by kernel_rfl) (by kernel_rfl) (by kernel_rfl) (fun _ _ _ h => h) (by rfl) (fun o' ho W hW => by clear hW; go_simp) Pz3.rg ?_
        simp only [Act.put, List.setIfInBounds_toArray, List.set_cons_zero, List.set_cons_succ]
        refine takeH_load (i := 26) rfl 97 rfl 24 (.tmp 5) rfl (by kernel_rfl) (by kernel_rfl) (by kernel_rfl) (fun _ _ _ h => h) (by rfl) d 0 rfl ((sumOf M).map byt) rfl (fun W hW => hW) hu24 rfl hs24 Pz3.rg ?_
        simp only [Act.put, List.setIfInBounds_toArray, List.set_cons_zero, List.set_cons_succ]
        refine onlyH (i := 24) (by kernel_rfl) ?_
        refine opG_run rfl (by rfl) (.buildSlice 55 3 #[(0, .tmp 91), (1, .const (.slice none 0 0)), (2, .tmp 94)]) rfl 95 rfl (.slice (some ⟨z3.heap.size, 0, none⟩) 3 3) (z3.alloc (.cells #[.slice a2 at_ c2, .slice none 0 0, .slice a3 rN c3] 26)) (fun o' ho => by go_simp) ?_
        refine ⟨(Pz3.alloc _).rg, ?_⟩
        simp only [Act.put, List.setIfInBounds_toArray, List.set_cons_zero, List.set_cons_succ]
        refine onlyH (i := 25) (by kernel_rfl) ?_
        refine opG_call (R := fun v wz => v = .agg ((sumOf M).map byt).toArray ∧ PS w' wz g d M (sumOf M)) rfl (by rfl) (.call { callee := .value (.func 9), args := #[.tmp 95], argTypes := #[55] }) rfl 96 rfl 9 #[.slice (some ⟨z3.heap.size, 0, none⟩) 3 3] (fun o' ho => by go_simp) ((sum_new z3 [(Value.slice a2 at_ c2, M.take at_), (Value.slice none 0 0, []), (Value.slice a3 rN c3, M.drop at_)] M (three_all (HV2.out.below Pz3.be) (Has.nil _) (HV3.out.below Pz3.be)) (KK.out.below Pz3.be KK.out.lt) (by simp) (by have := LM.out; omega) (by simp)).mono fun e wz ⟨h1, h2⟩ => ⟨_, h1, rfl, Pz3.below h2⟩) ?_
        rintro v z4 ⟨rfl, hz4⟩
        have Pz4 : PS w' z4 g d M (sumOf M) := hz4
        refine ⟨Pz4.rg, ?_⟩
        simp only [Act.put, List.setIfInBounds_toArray, List.set_cons_zero, List.set_cons_succ]
        refine takeH (i := 27) rfl (.binOp .eql 24 (.tmp 96) (.tmp 97) 24) rfl 98 rfl (v := (.bool true)) (by kernel_rfl) (by kernel_rfl) (by kernel_rfl) (fun _ _ _ h => h) (by rfl) (fun o' ho W hW => by clear hW; go_simp) Pz4.rg ?_
        simp only [Act.put, List.setIfInBounds_toArray, List.set_cons_zero, List.set_cons_succ]
        refine takeH (i := 28) rfl (.pick (.tmp 88) (.tmp 98) (.const (.bool false))) rfl 99 rfl (v := (.bool true)) (by kernel_rfl) (by kernel_rfl) (by kernel_rfl) (fun _ _ _ h => h) (by rfl) (fun o' ho W hW => by clear hW; go_simp) Pz4.rg ?_
        simp only [Act.put, List.setIfInBounds_toArray, List.set_cons_zero, List.set_cons_succ]
        refine takeH (i := 29) rfl (.assign (.tmp 99)) rfl 4 rfl (v := (.bool true)) (by kernel_rfl) (by kernel_rfl) (by kernel_rfl) (fun _ _ _ h => h) (by rfl) (fun o' ho W hW => by clear hW; go_simp) Pz4.rg ?_
        simp only [Act.put, List.setIfInBounds_toArray, List.set_cons_zero, List.set_cons_succ]
        refine wpAnyH_done (by kernel_rfl) (NoPanic.normal ?_) _
        go_wp2
        go_ret
        exact ⟨rfl, B1.out.trans (Pz4.be.mono B1.out.size)⟩
end Go.Proofs.YtdkgngmbohdmdaaDoor
