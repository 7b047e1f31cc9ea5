import Derived.Test.YtablmkijlpoaaaaDoorExp3
namespace Go.Proofs.YtablmkijlpoaaaaDoor
open Go.RowKit

theorem run_min (ty : TypeId) (a b m : Int) (h : min a b = m) (W : World) : (Builtin.min_ #[3, 3] ty #[.int .i64 a, .int .i64 b]).run Tryd.prog W = .ok (.int .i64 m) W := by
  subst h
  simp [Builtin.min_, Builtin.min2]
  split <;> omega

set_option maxHeartbeats 1000000 in
set_option maxRecDepth 100000 in
theorem expands_any (vp vi : Value) (lp li : List UInt8) (z less : Int) (w : World) (hp : Has w vp lp) (hi : Has w vi li) (hK : Kst w) :
    Calls Tryd.prog 6 #[vp, vi, .int .i64 z, .int .i64 less] w fun e w' => e = .returned (.bool true) ∧ Below w.heap.size w w' := by
  have HP := hide hp
  have HI := hide hi
  have HK := hide hK
  clear hp hi hK
  go_enter Tryd.func6, Tryd.ntmps6
  go_wp2_with fail
  refine (short_any vp lp w HP.out).mono ?_
  rintro e w' ⟨⟨up, rfl, hup⟩, hw'⟩
  subst hw'
  go_wp2_with fail
  refine (short_any vi li w' HI.out).mono ?_
  rintro e w0 ⟨⟨ui, rfl, hui⟩, hw'⟩
  subst hw'
  obtain ⟨P, hPe⟩ : ∃ M, M = lp.take 400 := ⟨_, rfl⟩
  obtain ⟨I, hIe⟩ : ∃ M, M = li.take 400 := ⟨_, rfl⟩
  rw [← hPe] at hup
  rw [← hIe] at hui
  have LP : P.length ≤ 400 := by rw [hPe, List.length_take]; omega
  have LI : I.length ≤ 400 := by rw [hIe, List.length_take]; omega
  clear hPe hIe
  obtain ⟨ap, cp, rfl⟩ := hup.slice
  obtain ⟨ai, ci, rfl⟩ := hui.slice
  obtain ⟨nP, hnP⟩ : ∃ n, P.length = n := ⟨_, rfl⟩
  obtain ⟨nI, hnI⟩ : ∃ n, I.length = n := ⟨_, rfl⟩
  rw [hnP] at hup LP ⊢
  rw [hnI] at hui LI ⊢
  have UP := hide hup
  have UI := hide hui
  have HnP := hide hnP
  have HnI := hide hnI
  have HLP := hide LP
  have HLI := hide LI
  clear hup hui hnP hnI LP LI
  obtain ⟨nN, hnN⟩ : ∃ q : Nat, z % 400 = (q : Int) := ⟨(z % 400).toNat, by omega⟩
  have hn4 : nN < 400 := by omega
  have KL : Hid (P.length ≤ 1152921504606846976) := by show _ ≤ _; rw [HnP.out]; have := HLP.out; omega
  have IL : Hid (I.length ≤ 900000000000000000) := by show _ ≤ _; rw [HnI.out]; have := HLI.out; omega
  go_wp2_with (go_at_call 15; refine (rest_any z 400 _ (by decide) (by decide)).mono ?_; rintro e w1 ⟨rfl, hw1⟩; subst hw1; rw [hnN])
  clear hnN
  refine (expand_ok (.slice ap nP cp) (.slice ai nI ci) P I nN w1 UP.out UI.out HK.out KL.out IL.out (by omega)).mono ?_
  rintro e w2 ⟨g, rfl, hT2⟩
  obtain ⟨X, hX⟩ : ∃ X, exOut P I nN = X := ⟨_, rfl⟩
  rw [hX] at hT2
  have HX := hide hX
  have XL : Hid (X.length = nN) := by rw [← hX]; exact exOut_length P I nN
  have T2 := hide hT2
  clear hT2 hX
  go_wp2_with fail
  go_loopw [11, 12] (fun a i wr => ∃ k : Nat, k ≤ (nN + 31) / 32 ∧ i = .int .i64 (k : Int) ∧ ∃ ao nt c, a = .slice ao nt c ∧ Hid (Has wr (.slice ao nt c) (tk P I k)) ∧ Hid (Tu w1 wr g X)) (fun _ i _ => 400 - (intOf i).toNat)
  case atStart => exact ⟨0, by omega, rfl, none, 0, 0, rfl, hide (Has.nil _), T2⟩
  case round =>
    obtain ⟨k, hk, rfl, ao, nt, c, rfl, hh, hx⟩ := hrel
    have hk13 : k ≤ 13 := by omega
    have hmulz : wrap64 (32 * (k : Int)) = 32 * (k : Int) := Go.IntWalk.wrap64_in _ (by omega)
    by_cases hlt : 32 * k < nN
    · have hlz : 32 * (k : Int) < (nN : Int) := by omega
      obtain ⟨u, hu⟩ : ∃ u : UInt8, u = UInt8.ofNat (k + 1) := ⟨_, rfl⟩
      have huz : (u.toNat : Int) = (k : Int) + 1 := by rw [hu, UInt8.toNat_ofNat']; omega
      have hcv : IntKind.u8.wrap ((k : Int) + 1) = (u.toNat : Int) := by rw [huz]; exact wraps_u8 _ (by omega) (by omega)
      have HU := hide hu
      clear huz hu
      go_upto_region 10 with fail
      obtain ⟨T, hT⟩ : ∃ T, tk P I k = T := ⟨_, rfl⟩
      obtain ⟨D, hD⟩ : ∃ D, tk P I (k + 1) = D := ⟨_, rfl⟩
      have HD : Hid (macOf P (T ++ I ++ [u]) = D) := by rw [← hD, ← hT, HU.out]; exact rfl
      have DL : Hid (D.length = 32) := by rw [← hD]; exact tk_length P I k
      have TL : Hid (T.length ≤ 32) := by
        rw [← hT]
        cases k with
        | zero => exact Nat.zero_le _
        | succ j => exact Nat.le_of_eq (tk_length P I j)
      have HDT := hide hD
      rw [hT] at hh
      clear hT hD HU
      have i42 := info24 D DL.out
      go_wp2_with fail
      have hz1 : Hid (wr.heap.size + 1 = (wr.alloc (.cells #[byt u] 5)).heap.size) := by show _ = _; simp
      refine (mac_at (wr.alloc (.cells #[byt u] 5)) (wr.heap.size + 1) hz1.out (.slice ap nP cp) P (T ++ I ++ [u]) D [(.slice ao nt c, T), (.slice ai nI ci, I), (.slice (some ⟨wr.heap.size, 0, none⟩) 1 1, [u])] (by simp) HD.out ((UP.out.below hx.out.be).below (below_new wr _)) (three_all (hh.out.below (below_new wr _)) ((UI.out.below hx.out.be).below (below_new wr _)) (has_new1 wr u)) ((HK.out.below hx.out.be HK.out.lt).below (below_new wr _) (by have := HK.out.lt; have := hx.out.be.size; omega)) KL.out (by have h1 := TL.out; have h2 := HLI.out; have h3 := HnI.out; simp only [List.length_append, List.length_cons, List.length_nil]; omega) (by simp)).mono ?_
      rintro e w3 ⟨rfl, hb3⟩
      have E3 : Hid (Below wr.heap.size wr w3) := (below_new wr _).trans (hb3.mono (by simp))
      clear hb3 hz1 hh
      have HD4 : Hid (Has ((w3.alloc (.cells (z32.map byt).toArray 42)).setRow w3.heap.size (D.map byt).toArray) (.slice (some ⟨w3.heap.size, 0, none⟩) 32 32) D) := ((Blk.new w3 (z32.map byt) 42).setRow (D.map byt)).has 32 DL.out
      have BD4 : Hid (Below wr.heap.size wr ((w3.alloc (.cells (z32.map byt).toArray 42)).setRow w3.heap.size (D.map byt).toArray)) := below_setRow (E3.out.alloc E3.out.size _) _ _ E3.out.size
      go_upto_region 12 with (first
        | (refine wpList_newAt rfl 42 rfl (z32.map byt) zero24 w3.heap.size rfl ?_)
        | (refine wpList_store_row rfl 42 (.tmp 13) (.tmp 57) rfl w3.heap.size (D.map byt).toArray rfl rfl 42 (z32.map byt).toArray (Blk.new w3 _ _) i42 (by rw [List.size_toArray, List.size_toArray, List.length_map, List.length_map, DL.out]; rfl) (byts_one _) ?_; generalize (w3.alloc (.cells (z32.map byt).toArray 42)).setRow w3.heap.size (D.map byt).toArray = w4 at HD4 BD4 ⊢; generalize w3.heap.size = d at HD4 ⊢)
        | (refine wpList_app rfl (.const (.slice none 0 0)) (.tmp 58) rfl w4.heap.size (.slice none 0 0) [] rfl (Own.nil _ _) (.slice (some ⟨d, 0, none⟩) 32 32) D rfl HD4.out (by rw [DL.out]; decide) (Nat.le_refl _) ?_; intro v5 w5 ho5 hg5; rw [List.nil_append] at ho5; obtain ⟨a4, c4, rfl⟩ := ho5.slice; rw [DL.out] at ho5 ⊢; have O5 := hide ho5.has; have B5 : Hid (Below w4.heap.size w4 w5) := (Below.refl _ _).grown hg5 (Nat.le_refl _) (fun k hk => by cases hk); clear ho5 hg5)
        | fail)
      have X5 : Tu w1 w5 g X := ⟨(hx.out.bl.below BD4.out hx.out.bl.lt).below B5.out (by have := hx.out.bl.lt; have := BD4.out.size; omega), (hx.out.be.trans (BD4.out.mono hx.out.be.size)).trans (B5.out.mono (Nat.le_trans hx.out.be.size BD4.out.size)), hx.out.lp⟩
      obtain ⟨m1, hm1⟩ : ∃ m, min nN (32 * k + 32) = m := ⟨_, rfl⟩
      obtain ⟨m2, hm2⟩ : ∃ m, min 32 (nN - 32 * k) = m := ⟨_, rfl⟩
      refine wp_region_noPanic ?_
      refine wp_region_any (by kernel_rfl) ?_
      have X6 : Tu w1 { w5 with drawn := w5.drawn + 1 } g X := ⟨X5.bl, X5.be.drew, X5.lp⟩
      have O6 : Has { w5 with drawn := w5.drawn + 1 } (.slice a4 32 c4) D := O5.out.below (Below.refl _ _).drew
      generalize { w5 with drawn := w5.drawn + 1 } = w6 at X6 O6 ⊢
      have HC1 : Has w6 (.slice (some ⟨g, 32 * k, none⟩) (m1 - 32 * k) (nN - 32 * k)) (D.take m2) := by
        have h := (X6.has nN XL.out).cut (32 * k) m1 (by omega) (by rw [XL.out]; omega)
        have e : cutV (.slice (some ⟨g, 0, none⟩) nN nN) (32 * k) m1 = .slice (some ⟨g, 32 * k, none⟩) (m1 - 32 * k) (nN - 32 * k) := by
          unfold cutV sliced
          simp only [Nat.mul_one]
          rw [if_neg (by omega)]
          show Value.slice (some ((⟨g, 0, none⟩ : Addr).add (32 * k))) _ _ = _
          rw [add_plain]
        rw [e, ← HX.out, ← hm1, exOut_block P I nN k hlt, hm1, hm2, HDT.out] at h
        exact h
      have HC2 : Has w6 (.slice a4 m2 c4) (D.take m2) := take_slice O6 DL.out m2 (by omega)
      have hcap := has_cap O6
      have q1 : IntKind.i64.wrap (32 * (k : Int)) = 32 * (k : Int) := by rw [IntKind.wrap_i64]; omega
      have q2 : IntKind.i64.wrap (32 * (k : Int) + 32) = 32 * (k : Int) + 32 := by rw [IntKind.wrap_i64]; omega
      have q3 : IntKind.i64.wrap ((nN : Int) - 32 * (k : Int)) = (nN : Int) - 32 * (k : Int) := by rw [IntKind.wrap_i64]; omega
      have mn1 := fun ty W => run_min ty (nN : Int) (32 * (k : Int) + 32) (m1 : Int) (by omega) W
      have mn2 := fun ty W => run_min ty 32 ((nN : Int) - 32 * (k : Int)) (m2 : Int) (by omega) W
      have c1 : (0 : Int) ≤ 32 * (k : Int) := by omega
      have c2 : 32 * (k : Int) ≤ (m1 : Int) := by omega
      have c3 : (m1 : Int) ≤ (nN : Int) := by omega
      have c4' : (32 * (k : Int)).toNat = 32 * k := by omega
      have c5 : ¬ nN = 32 * k := by omega
      have c6 : (m2 : Int) ≤ (c4 : Int) := by omega
      have c7 : m2 ≤ c4 := by omega
      have c8 : m1 ≤ nN := by omega
      clear hm1 hm2 hcv
      refine take_any (i := 0) rfl rfl (.move (.tmp 9)) rfl 60 rfl (v := (.slice (some ⟨g, 0, none⟩) nN nN)) (by kernel_rfl) (by kernel_rfl) (by kernel_rfl) (fun _ _ _ h => h) (fun o' ho w => by go_simp) ?_
      simp only [Act.put, List.setIfInBounds_toArray, List.set_cons_zero, List.set_cons_succ]
      refine take_any (i := 1) rfl rfl (.move (.tmp 12)) rfl 61 rfl (v := (.int .i64 (k : Int))) (by kernel_rfl) (by kernel_rfl) (by kernel_rfl) (fun _ _ _ h => h) (fun o' ho w => by go_simp) ?_
      simp only [Act.put, List.setIfInBounds_toArray, List.set_cons_zero, List.set_cons_succ]
      refine take_any (i := 2) rfl rfl (.binOp .mul 3 (.const (.int .i64 32)) (.tmp 61) 3) rfl 62 rfl (v := (.int .i64 (32 * (k : Int)))) (by kernel_rfl) (by kernel_rfl) (by kernel_rfl) (fun _ _ _ h => h) (fun o' ho w => by go_simp) ?_
      simp only [Act.put, List.setIfInBounds_toArray, List.set_cons_zero, List.set_cons_succ]
      refine take_any (i := 3) rfl rfl (.move (.tmp 2)) rfl 63 rfl (v := (.int .i64 (nN : Int))) (by kernel_rfl) (by kernel_rfl) (by kernel_rfl) (fun _ _ _ h => h) (fun o' ho w => by go_simp) ?_
      simp only [Act.put, List.setIfInBounds_toArray, List.set_cons_zero, List.set_cons_succ]
      refine take_any (i := 4) rfl rfl (.move (.tmp 12)) rfl 64 rfl (v := (.int .i64 (k : Int))) (by kernel_rfl) (by kernel_rfl) (by kernel_rfl) (fun _ _ _ h => h) (fun o' ho w => by go_simp) ?_
      simp only [Act.put, List.setIfInBounds_toArray, List.set_cons_zero, List.set_cons_succ]
      refine take_any (i := 5) rfl rfl (.binOp .mul 3 (.const (.int .i64 32)) (.tmp 64) 3) rfl 65 rfl (v := (.int .i64 (32 * (k : Int)))) (by kernel_rfl) (by kernel_rfl) (by kernel_rfl) (fun _ _ _ h => h) (fun o' ho w => by go_simp) ?_
      simp only [Act.put, List.setIfInBounds_toArray, List.set_cons_zero, List.set_cons_succ]
      refine take_any (i := 6) rfl rfl (.binOp .add 3 (.tmp 65) (.const (.int .i64 32)) 3) rfl 66 rfl (v := (.int .i64 (32 * (k : Int) + 32))) (by kernel_rfl) (by kernel_rfl) (by kernel_rfl) (fun _ _ _ h => h) (fun o' ho w => by go_simp) ?_
      simp only [Act.put, List.setIfInBounds_toArray, List.set_cons_zero, List.set_cons_succ]
      refine take_any (i := 7) rfl rfl (.call { callee := .builtin .min, args := #[.tmp 63, .tmp 66], argTypes := #[3, 3] }) rfl 67 rfl (v := (.int .i64 (m1 : Int))) (by kernel_rfl) (by kernel_rfl) (by kernel_rfl) (fun _ _ _ h => h) (fun o' ho w => by go_simp) ?_
      simp only [Act.put, List.setIfInBounds_toArray, List.set_cons_zero, List.set_cons_succ]
      refine take_any (i := 8) rfl rfl (.slice 27 (.tmp 60) (some (.tmp 62)) (some (.tmp 67)) none) rfl 68 rfl (v := (.slice (some ⟨g, 32 * k, none⟩) (m1 - 32 * k) (nN - 32 * k))) (by kernel_rfl) (by kernel_rfl) (by kernel_rfl) (fun _ _ _ h => h) (fun o' ho w => by go_simp) ?_
      simp only [Act.put, List.setIfInBounds_toArray, List.set_cons_zero, List.set_cons_succ]
      refine take_any (i := 9) rfl rfl (.move (.tmp 11)) rfl 69 rfl (v := (.slice a4 32 c4)) (by kernel_rfl) (by kernel_rfl) (by kernel_rfl) (fun _ _ _ h => h) (fun o' ho w => by go_simp) ?_
      simp only [Act.put, List.setIfInBounds_toArray, List.set_cons_zero, List.set_cons_succ]
      refine take_any (i := 10) rfl rfl (.move (.tmp 2)) rfl 70 rfl (v := (.int .i64 (nN : Int))) (by kernel_rfl) (by kernel_rfl) (by kernel_rfl) (fun _ _ _ h => h) (fun o' ho w => by go_simp) ?_
      simp only [Act.put, List.setIfInBounds_toArray, List.set_cons_zero, List.set_cons_succ]
      refine take_any (i := 11) rfl rfl (.move (.tmp 12)) rfl 71 rfl (v := (.int .i64 (k : Int))) (by kernel_rfl) (by kernel_rfl) (by kernel_rfl) (fun _ _ _ h => h) (fun o' ho w => by go_simp) ?_
      simp only [Act.put, List.setIfInBounds_toArray, List.set_cons_zero, List.set_cons_succ]
      refine take_any (i := 12) rfl rfl (.binOp .mul 3 (.const (.int .i64 32)) (.tmp 71) 3) rfl 72 rfl (v := (.int .i64 (32 * (k : Int)))) (by kernel_rfl) (by kernel_rfl) (by kernel_rfl) (fun _ _ _ h => h) (fun o' ho w => by go_simp) ?_
      simp only [Act.put, List.setIfInBounds_toArray, List.set_cons_zero, List.set_cons_succ]
      refine take_any (i := 13) rfl rfl (.binOp .sub 3 (.tmp 70) (.tmp 72) 3) rfl 73 rfl (v := (.int .i64 ((nN : Int) - 32 * (k : Int)))) (by kernel_rfl) (by kernel_rfl) (by kernel_rfl) (fun _ _ _ h => h) (fun o' ho w => by go_simp) ?_
      simp only [Act.put, List.setIfInBounds_toArray, List.set_cons_zero, List.set_cons_succ]
      refine take_any (i := 14) rfl rfl (.call { callee := .builtin .min, args := #[.const (.int .i64 32), .tmp 73], argTypes := #[3, 3] }) rfl 74 rfl (v := (.int .i64 (m2 : Int))) (by kernel_rfl) (by kernel_rfl) (by kernel_rfl) (fun _ _ _ h => h) (fun o' ho w => by go_simp) ?_
      simp only [Act.put, List.setIfInBounds_toArray, List.set_cons_zero, List.set_cons_succ]
      refine take_any (i := 15) rfl rfl (.slice 27 (.tmp 69) none (some (.tmp 74)) none) rfl 75 rfl (v := (.slice a4 m2 c4)) (by kernel_rfl) (by kernel_rfl) (by kernel_rfl) (fun _ _ _ h => h) (fun o' ho w => by go_simp) ?_
      simp only [Act.put, List.setIfInBounds_toArray, List.set_cons_zero, List.set_cons_succ]
      refine only_one (i := 16) (by kernel_rfl) ?_
      refine op_call (R := fun v wx => v = .bool true ∧ wx = w6) rfl rfl (.call { callee := .value (.func 21), args := #[.tmp 68, .tmp 75], argTypes := #[27, 27] }) rfl 76 rfl 21 #[.slice (some ⟨g, 32 * k, none⟩) (m1 - 32 * k) (nN - 32 * k), .slice a4 m2 c4] (fun o' ho => by go_simp) ((eq_yes _ _ _ w6 HC1 HC2).mono fun e wx ⟨h1, h2⟩ => ⟨_, h1, rfl, h2⟩) ?_
      rintro v w7 ⟨rfl, hw7⟩
      subst hw7
      simp only [Act.put, List.setIfInBounds_toArray, List.set_cons_zero, List.set_cons_succ]
      refine take_any (i := 17) rfl rfl (.unOp .not 4 (.tmp 76)) rfl 77 rfl (v := (.bool false)) (by kernel_rfl) (by kernel_rfl) (by kernel_rfl) (fun _ _ _ h => h) (fun o' ho w => by go_simp) ?_
      simp only [Act.put, List.setIfInBounds_toArray, List.set_cons_zero, List.set_cons_succ]
      refine wpAny_done (by kernel_rfl) (NoPanic.normal ?_) _
      clear q1 q2 q3 mn1 mn2 c1 c2 c3 c4' c5 c6 c7 c8 HC1 HC2 hcap
      go_wp2
      go_roundw
      case rel => exact ⟨k + 1, by omega, by go_num, _, _, _, rfl, by rw [HDT.out]; exact hide O6, hide X6⟩
      case measure => simp [intOf]; omega
    · have hlz : ¬ 32 * (k : Int) < (nN : Int) := by omega
      obtain ⟨mN, hmN⟩ : ∃ q : Nat, less % ((nN : Int) + 1) = (q : Int) := by
        have h1 := Int.emod_nonneg less (show ((nN : Int) + 1) ≠ 0 by omega)
        exact ⟨(less % ((nN : Int) + 1)).toNat, by omega⟩
      have hmn : mN ≤ nN := by have := Int.emod_lt_of_pos less (show 0 < ((nN : Int) + 1) by omega); omega
      have hmz : (mN : Int) ≤ (nN : Int) := by omega
      have KR : Hid (Kst wr) := HK.out.below hx.out.be HK.out.lt
      clear hh hk hk13 hlt
      have hn1 : wrap64 ((nN : Int) + 1) = (nN : Int) + 1 := Go.IntWalk.wrap64_in _ (by omega)
      go_wp2_with (go_at_call 15; refine (rest_any less ((nN : Int) + 1) _ (by omega) (by omega)).mono ?_; rintro e w3 ⟨rfl, hw3⟩; subst hw3; rw [hmN])
      clear hmN hn1
      refine (expand_ok (.slice ap nP cp) (.slice ai nI ci) P I mN w3 (UP.out.below hx.out.be) (UI.out.below hx.out.be) KR.out KL.out IL.out (by omega)).mono ?_
      rintro e w4 ⟨g2, rfl, hT4⟩
      have BE4 : Hid (Below w1.heap.size w1 w4) := hx.out.be.trans (hT4.be.mono hx.out.be.size)
      have HE1 : Hid (Has w4 (.slice (some ⟨g2, 0, none⟩) mN mN) (X.take mN)) := by
        rw [← HX.out, exOut_take P I mN nN hmn]
        exact hT4.has mN (exOut_length P I mN)
      have HE2 : Hid (Has w4 (.slice (some ⟨g, 0, none⟩) mN nN) (X.take mN)) := take_slice ((hx.out.bl.below hT4.be hx.out.bl.lt).has nN XL.out) XL.out mN hmn
      clear hT4
      go_wp2_with (go_at_call 21; refine (eq_yes _ _ _ w4 HE1.out HE2.out).mono ?_; rintro e w5 ⟨rfl, hw5⟩; subst hw5)
      obtain ⟨D, hD⟩ : ∃ D, macOf P I = D := ⟨_, rfl⟩
      have DL : Hid (D.length = 32) := by rw [← hD]; exact macOf_length P I
      have HD := hide hD
      clear hD HE1 HE2
      have K5 : Hid (Kst w5) := HK.out.below BE4.out HK.out.lt
      refine (extract_is (.slice ap nP cp) (.slice ai nI ci) P I D HD.out w5 (UP.out.below BE4.out) (UI.out.below BE4.out) K5.out KL.out (by have := IL.out; omega)).mono ?_
      rintro e w6 ⟨rfl, hb6⟩
      have BE6 : Hid (Below w1.heap.size w1 w6) := BE4.out.trans (hb6.mono BE4.out.size)
      clear hb6
      have i42 := info24 D DL.out
      have G7 : Hid (Dgt w1 ((w6.alloc (.cells (z32.map byt).toArray 42)).setRow w6.heap.size (D.map byt).toArray) w6.heap.size D) := (Dgt.new BE6.out).row
      go_upto_region 19 with (first
        | (refine wpList_newAt rfl 42 rfl (z32.map byt) zero24 w6.heap.size rfl ?_)
        | (refine wpList_store_row rfl 42 (.tmp 17) (.tmp 101) rfl w6.heap.size (D.map byt).toArray rfl rfl 42 (z32.map byt).toArray (Blk.new w6 _ _) i42 (by rw [List.size_toArray, List.size_toArray, List.length_map, List.length_map, DL.out]; rfl) (byts_one _) ?_)
        | fail)
      generalize (w6.alloc (.cells (z32.map byt).toArray 42)).setRow w6.heap.size (D.map byt).toArray = w7 at G7 ⊢
      generalize w6.heap.size = d at G7 ⊢
      simp only [Act.put, List.setIfInBounds_toArray, List.set_cons_zero, List.set_cons_succ]
      have K7 : Hid (Kst w7) := HK.out.below G7.out.be HK.out.lt
      go_wp2_with fail
      refine (derive_ok (.slice ap nP cp) (.slice ai nI ci) (.slice ai nI ci) P I I nN w7 (UP.out.below G7.out.be) (UI.out.below G7.out.be) (UI.out.below G7.out.be) K7.out KL.out (by have := IL.out; omega) IL.out (by omega)).mono ?_
      rintro e w8 ⟨g3, rfl, hT8⟩
      rw [HD.out] at hT8
      obtain ⟨Y, hY⟩ : ∃ Y, exOut D I nN = Y := ⟨_, rfl⟩
      have HY := hide hY
      have YL : Hid (Y.length = nN) := by rw [← hY]; exact exOut_length D I nN
      rw [hY] at hT8
      have T8 := hide hT8
      have G8 := hide (G7.out.below hT8.be)
      have K8 : Hid (Kst w8) := HK.out.below G8.out.be HK.out.lt
      clear hT8 hY
      go_wp2_with fail
      refine (expand_ok (.slice (some ⟨d, 0, none⟩) 32 32) (.slice ai nI ci) D I nN w8 (G8.out.has 32 DL.out) (UI.out.below G8.out.be) K8.out (by rw [DL.out]; decide) IL.out (by omega)).mono ?_
      rintro e w9 ⟨g4, rfl, hT9⟩
      rw [HY.out] at hT9
      have HF1 : Hid (Has w9 (.slice (some ⟨g3, 0, none⟩) nN nN) Y) := ((T8.out.has nN YL.out).below hT9.be)
      have HF2 : Hid (Has w9 (.slice (some ⟨g4, 0, none⟩) nN nN) Y) := hT9.has nN YL.out
      have BE9 : Hid (Below w1.heap.size w1 w9) := G8.out.be.trans (hT9.be.mono G8.out.be.size)
      clear hT9
      go_wp2_with (go_at_call 21; refine (eq_yes _ _ _ w9 HF1.out HF2.out).mono ?_; rintro e wf ⟨rfl, hwf⟩; subst hwf)
      go_ret
      exact ⟨rfl, BE9.out⟩
end Go.Proofs.YtablmkijlpoaaaaDoor
