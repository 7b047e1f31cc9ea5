import Derived.Test.YtablmkijlpoaaaaDoorKeys
namespace Go.Proofs.YtablmkijlpoaaaaDoor
open Go.RowKit

theorem Blk.part {w : World} {g : Nat} {L : List UInt8} {t : TypeId} (h : Blk w g (L.map byt) t) (o n c : Nat) (hn : o + n ≤ L.length) (hc : n ≤ c) : Has w (.slice (some ⟨g, o, none⟩) n c) ((L.drop o).take n) := by
  have hl : ((L.drop o).take n).length = n := by rw [List.length_take, List.length_drop]; omega
  refine .inr ⟨_, c, by rw [hl], by rw [hl]; exact hc, fun i u hu => ?_⟩
  have hi : i < n := by
    rcases Nat.lt_or_ge i n with h | h
    · exact h
    · rw [List.getElem?_eq_none (by omega)] at hu; cases hu
  rw [List.getElem?_take_of_lt hi, List.getElem?_drop] at hu
  have e : (⟨g, o, none⟩ : Addr).add i = ⟨g, o + i, none⟩ := by unfold Addr.add; split <;> simp_all
  rw [e, h.cell, List.getElem?_map, hu]
  rfl

set_option maxHeartbeats 400000 in
set_option maxRecDepth 100000 in
theorem keyslaw_any (vs vk vi : Value) (ls lk li : List UInt8) (z : Int) (w : World) (hs : Has w vs ls) (hk : Has w vk lk) (hi : Has w vi li) (hK : Kst w) :
    Calls Tryd.prog 8 #[vs, vk, vi, .int .i64 z] w fun e w' => e = .returned (.bool true) ∧ Below w.heap.size w w' := by
  have HS := hide hs
  have HKY := hide hk
  have HI := hide hi
  have HK := hide hK
  clear hs hk hi hK
  go_enter Tryd.func8, Tryd.ntmps8
  go_wp2_with fail
  refine (short_any vs ls w HS.out).mono ?_
  rintro e wa ⟨⟨uS, rfl, huS⟩, hw'⟩
  subst hw'
  go_wp2_with fail
  refine (short_any vk lk wa HKY.out).mono ?_
  rintro e wb ⟨⟨uK, rfl, huK⟩, hw'⟩
  subst hw'
  go_wp2_with fail
  refine (short_any vi li wb HI.out).mono ?_
  rintro e wc ⟨⟨uI, rfl, huI⟩, hw'⟩
  subst hw'
  obtain ⟨S, hSe⟩ : ∃ M, M = ls.take 400 := ⟨_, rfl⟩
  rw [← hSe] at huS
  have LS : S.length ≤ 400 := by rw [hSe, List.length_take]; omega
  clear hSe
  obtain ⟨aS, cS, rfl⟩ := huS.slice
  obtain ⟨nS, hnS⟩ : ∃ n, S.length = n := ⟨_, rfl⟩
  rw [hnS] at huS LS ⊢
  have US := hide huS
  have HLS : Hid (S.length ≤ 400) := hide (by rw [hnS]; exact LS)
  clear huS hnS LS
  obtain ⟨K, hKe⟩ : ∃ M, M = lk.take 400 := ⟨_, rfl⟩
  rw [← hKe] at huK
  have LK : K.length ≤ 400 := by rw [hKe, List.length_take]; omega
  clear hKe
  obtain ⟨ak, ck, rfl⟩ := huK.slice
  obtain ⟨nK, hnK⟩ : ∃ n, K.length = n := ⟨_, rfl⟩
  rw [hnK] at huK LK ⊢
  have UK := hide huK
  have HLK : Hid (K.length ≤ 400) := hide (by rw [hnK]; exact LK)
  clear huK hnK LK
  obtain ⟨I, hIe⟩ : ∃ M, M = li.take 400 := ⟨_, rfl⟩
  rw [← hIe] at huI
  have LI : I.length ≤ 400 := by rw [hIe, List.length_take]; omega
  clear hIe
  obtain ⟨ai, ci, rfl⟩ := huI.slice
  obtain ⟨nI, hnI⟩ : ∃ n, I.length = n := ⟨_, rfl⟩
  rw [hnI] at huI LI ⊢
  have UI := hide huI
  have HLI : Hid (I.length ≤ 400) := hide (by rw [hnI]; exact LI)
  clear huI hnI LI
  obtain ⟨n, hnN⟩ : ∃ q : Nat, z % 12 = (q : Int) := ⟨(z % 12).toNat, by omega⟩
  have hn12 : n < 12 := by omega
  obtain ⟨M, hM⟩ : ∃ M, 32 * n = M := ⟨_, rfl⟩
  obtain ⟨X, hX⟩ : ∃ X, exOut (macOf S K) I M = X := ⟨_, rfl⟩
  have XL : Hid (X.length = M) := hide (by rw [← hX]; exact exOut_length (macOf S K) I M)
  have HX := hide hX
  have HM := hide hM
  have HMZ : Hid (32 * (n : Int) = (M : Int)) := hide (by omega)
  have hM4 : Hid (M ≤ 384) := hide (by omega)
  clear hX hM
  have K1 : Hid (S.length ≤ 1152921504606846976) := hide (by have := HLS.out; omega)
  have K2 : Hid (K.length ≤ 1000000000000000000) := hide (by have := HLK.out; omega)
  have K3 : Hid (I.length ≤ 900000000000000000) := hide (by have := HLI.out; omega)
  go_wp2_with (go_at_call 15; refine (rest_any z 12 _ (by decide) (by decide)).mono ?_; rintro e w1 ⟨rfl, hw1⟩; subst hw1; rw [hnN])
  clear hnN
  refine (keys_ok (.slice aS nS cS) (.slice ak nK ck) (.slice ai nI ci) S K I X n w1 US.out UK.out UI.out HK.out K1.out K2.out K3.out (by omega) (by rw [HM.out]; exact HX.out)).mono ?_
  rintro e w2 ⟨gk, rfl, hbk, hbe, hlg⟩
  have BK := hide hbk
  have BE := hide hbe
  clear hbk hbe hlg
  have KW : Hid (Kst w2) := HK.out.below BE.out HK.out.lt
  go_wp2_with fail
  rw [HMZ.out]
  refine (derive_ok (.slice aS nS cS) (.slice ak nK ck) (.slice ai nI ci) S K I M w2 (US.out.below BE.out) (UK.out.below BE.out) (UI.out.below BE.out) KW.out K1.out K2.out K3.out (by have := hM4.out; omega)).mono ?_
  rintro e w3 ⟨g, rfl, hT⟩
  rw [HX.out] at hT
  have T3 := hide hT
  have BK3 := hide (BK.out.below hT.be BK.out.lt)
  have BE3 : Hid (Below w1.heap.size w1 w3) := BE.out.trans (hT.be.mono BE.out.size)
  clear hT BK BE KW
  have hMn := HMZ.out
  go_wp2_with fail
  go_loopw [13] (fun i wr => ∃ k : Nat, k ≤ n ∧ i = .int .i64 (k : Int) ∧ Hid (Below w3.heap.size w3 wr)) (fun i _ => n - (intOf i).toNat)
  case atStart => exact ⟨0, by omega, rfl, hide (Below.refl _ _)⟩
  case round =>
    obtain ⟨k, hk, rfl, hx⟩ := hrel
    by_cases hlt : k < n
    · have hlz : (k : Int) < (n : Int) := by omega
      go_upto_region 10 with fail
      have hMe := HM.out
      refine wp_region_noPanic ?_
      refine wp_region_any (by kernel_rfl) ?_
      have X5 : Below w3.heap.size w3 { wr with drawn := wr.drawn + 1 } := hx.out.drew
      generalize { wr with drawn := wr.drawn + 1 } = w6 at X5 ⊢
      have HC1 : Has w6 (.slice (some ⟨gk, 32 * k, none⟩) 32 32) ((X.drop (32 * k)).take 32) := (BK3.out.below X5 BK3.out.lt).part (32 * k) 32 32 (by rw [XL.out]; omega) (Nat.le_refl _)
      have HC2 : Has w6 (.slice (some ⟨g, 32 * k, none⟩) 32 (M - 32 * k)) ((X.drop (32 * k)).take 32) := (T3.out.bl.below X5 T3.out.bl.lt).part (32 * k) 32 (M - 32 * k) (by rw [XL.out]; omega) (by omega)
      have q1 : IntKind.i64.wrap (32 * (k : Int)) = 32 * (k : Int) := by rw [IntKind.wrap_i64]; omega
      have q2 : IntKind.i64.wrap (32 * (k : Int) + 32) = 32 * (k : Int) + 32 := by rw [IntKind.wrap_i64]; omega
      have c1 : (0 : Int) ≤ 32 * (k : Int) := by omega
      have c2 : 32 * (k : Int) ≤ 32 * (k : Int) + 32 := by omega
      have c2' : 32 * (k : Int) + 32 ≤ (M : Int) := by omega
      have c3 : (32 * (k : Int)).toNat = 32 * k := by omega
      have c3' : (32 * (k : Int) + 32).toNat = 32 * k + 32 := by omega
      have c4 : ¬ M = 32 * k := by omega
      have c5 : k * 32 = 32 * k := by omega
      have c6 : 32 * k + 32 - 32 * k = 32 := by omega
      refine take_any (i := 0) rfl rfl (.move (.tmp 9)) rfl 63 rfl (v := (.slice (some ⟨gk, 0, none⟩) n n)) (by kernel_rfl) (by kernel_rfl) (by kernel_rfl) (fun _ _ _ h => h) (fun o' ho w => by go_simp) ?_
      simp only [Act.put, List.setIfInBounds_toArray, List.set_cons_zero, List.set_cons_succ]
      refine take_any (i := 1) rfl rfl (.move (.tmp 13)) rfl 64 rfl (v := (.int .i64 (k : Int))) (by kernel_rfl) (by kernel_rfl) (by kernel_rfl) (fun _ _ _ h => h) (fun o' ho w => by go_simp) ?_
      simp only [Act.put, List.setIfInBounds_toArray, List.set_cons_zero, List.set_cons_succ]
      refine take_any (i := 2) rfl rfl (.indexAddr 55 (.tmp 63) (.tmp 64)) rfl 65 rfl (v := (.pointer (some ⟨gk, 32 * k, none⟩))) (by kernel_rfl) (by kernel_rfl) (by kernel_rfl) (fun _ _ _ h => h) (fun o' ho w => by go_simp) ?_
      simp only [Act.put, List.setIfInBounds_toArray, List.set_cons_zero, List.set_cons_succ]
      refine take_any (i := 3) rfl rfl (.slice 59 (.tmp 65) none none none) rfl 66 rfl (v := (.slice (some ⟨gk, 32 * k, none⟩) 32 32)) (by kernel_rfl) (by kernel_rfl) (by kernel_rfl) (fun _ _ _ h => h) (fun o' ho w => by go_simp) ?_
      simp only [Act.put, List.setIfInBounds_toArray, List.set_cons_zero, List.set_cons_succ]
      refine take_any (i := 4) rfl rfl (.move (.tmp 11)) rfl 67 rfl (v := (.slice (some ⟨g, 0, none⟩) M M)) (by kernel_rfl) (by kernel_rfl) (by kernel_rfl) (fun _ _ _ h => h) (fun o' ho w => by go_simp) ?_
      simp only [Act.put, List.setIfInBounds_toArray, List.set_cons_zero, List.set_cons_succ]
      refine take_any (i := 5) rfl rfl (.move (.tmp 13)) rfl 68 rfl (v := (.int .i64 (k : Int))) (by kernel_rfl) (by kernel_rfl) (by kernel_rfl) (fun _ _ _ h => h) (fun o' ho w => by go_simp) ?_
      simp only [Act.put, List.setIfInBounds_toArray, List.set_cons_zero, List.set_cons_succ]
      refine take_any (i := 6) rfl rfl (.binOp .mul 3 (.const (.int .i64 32)) (.tmp 68) 3) rfl 69 rfl (v := (.int .i64 (32 * (k : Int)))) (by kernel_rfl) (by kernel_rfl) (by kernel_rfl) (fun _ _ _ h => h) (fun o' ho w => by go_simp) ?_
      simp only [Act.put, List.setIfInBounds_toArray, List.set_cons_zero, List.set_cons_succ]
      refine take_any (i := 7) rfl rfl (.move (.tmp 13)) rfl 70 rfl (v := (.int .i64 (k : Int))) (by kernel_rfl) (by kernel_rfl) (by kernel_rfl) (fun _ _ _ h => h) (fun o' ho w => by go_simp) ?_
      simp only [Act.put, List.setIfInBounds_toArray, List.set_cons_zero, List.set_cons_succ]
      refine take_any (i := 8) rfl rfl (.binOp .mul 3 (.const (.int .i64 32)) (.tmp 70) 3) rfl 71 rfl (v := (.int .i64 (32 * (k : Int)))) (by kernel_rfl) (by kernel_rfl) (by kernel_rfl) (fun _ _ _ h => h) (fun o' ho w => by go_simp) ?_
      simp only [Act.put, List.setIfInBounds_toArray, List.set_cons_zero, List.set_cons_succ]
      refine take_any (i := 9) rfl rfl (.binOp .add 3 (.tmp 71) (.const (.int .i64 32)) 3) rfl 72 rfl (v := (.int .i64 (32 * (k : Int) + 32))) (by kernel_rfl) (by kernel_rfl) (by kernel_rfl) (fun _ _ _ h => h) (fun o' ho w => by go_simp) ?_
      simp only [Act.put, List.setIfInBounds_toArray, List.set_cons_zero, List.set_cons_succ]
      refine take_any (i := 10) rfl rfl (.slice 27 (.tmp 67) (some (.tmp 69)) (some (.tmp 72)) none) rfl 73 rfl (v := (.slice (some ⟨g, 32 * k, none⟩) 32 (M - 32 * k))) (by kernel_rfl) (by kernel_rfl) (by kernel_rfl) (fun _ _ _ h => h) (fun o' ho w => by go_simp) ?_
      simp only [Act.put, List.setIfInBounds_toArray, List.set_cons_zero, List.set_cons_succ]
      refine only_one (i := 11) (by kernel_rfl) ?_
      refine op_call (R := fun v wx => v = .bool true ∧ wx = w6) rfl rfl (.call { callee := .value (.func 21), args := #[.tmp 66, .tmp 73], argTypes := #[27, 27] }) rfl 74 rfl 21 #[.slice (some ⟨gk, 32 * k, none⟩) 32 32, .slice (some ⟨g, 32 * k, none⟩) 32 (M - 32 * k)] (fun o' ho => by go_simp) ((eq_yes _ _ _ w6 HC1 HC2).mono fun e wx ⟨h1, h2⟩ => ⟨_, h1, rfl, h2⟩) ?_
      rintro v w7 ⟨rfl, hw7⟩
      subst hw7
      simp only [Act.put, List.setIfInBounds_toArray, List.set_cons_zero, List.set_cons_succ]
      refine take_any (i := 12) rfl rfl (.unOp .not 4 (.tmp 74)) rfl 75 rfl (v := (.bool false)) (by kernel_rfl) (by kernel_rfl) (by kernel_rfl) (fun _ _ _ h => h) (fun o' ho w => by go_simp) ?_
      simp only [Act.put, List.setIfInBounds_toArray, List.set_cons_zero, List.set_cons_succ]
      refine wpAny_done (by kernel_rfl) (NoPanic.normal ?_) _
      clear q1 q2 c1 c2 c2' c3 c3' c4 c5 c6 HC1 HC2
      go_wp2
      go_roundw
      case rel => exact ⟨k + 1, by omega, by go_num, hide X5⟩
      case measure => simp [intOf]; omega
    · obtain rfl : k = n := by omega
      go_wp2
      go_ret
      exact ⟨rfl, BE3.out.trans (hx.out.mono BE3.out.size)⟩
end Go.Proofs.YtablmkijlpoaaaaDoor
