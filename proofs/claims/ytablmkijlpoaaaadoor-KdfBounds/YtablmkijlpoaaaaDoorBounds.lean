import Derived.Test.YtablmkijlpoaaaaDoorKeysLaw
namespace Go.Proofs.YtablmkijlpoaaaaDoor
open Go.RowKit

theorem expand_is (vk vi : Value) (prk info X : List UInt8) (n : Nat) (ni : Int) (hni : ni = (n : Int)) (hX : exOut prk info n = X) (w : World) (hk : Has w vk prk) (hi : Has w vi info) (hK : Kst w) (hpl : prk.length ≤ 1152921504606846976) (hil : info.length ≤ 900000000000000000) (hn : n ≤ 8160) :
    Calls Tryd.prog 20 #[vk, vi, .int .i64 ni] w fun e w' => ∃ g, e = .returned (.tuple #[.slice (some ⟨g, 0, none⟩) n n, .int .i64 0]) ∧ Tu w w' g X := by
  subst hni hX
  exact expand_ok vk vi prk info n w hk hi hK hpl hil hn
theorem keys_is (vs vk vi : Value) (salt key info X : List UInt8) (n : Nat) (ni : Int) (hni : ni = (n : Int)) (w : World) (hs : Has w vs salt) (hk : Has w vk key) (hi : Has w vi info) (hK : Kst w) (hsl : salt.length ≤ 1152921504606846976) (hkl : key.length ≤ 1000000000000000000) (hil : info.length ≤ 900000000000000000) (hn : n ≤ 255) (hX : exOut (macOf salt key) info (32 * n) = X) :
    Calls Tryd.prog 23 #[vs, vk, vi, .int .i64 ni] w fun e w' => ∃ g, e = .returned (.tuple #[.slice (some ⟨g, 0, none⟩) n n, .int .i64 0]) ∧ Below w.heap.size w w' := by
  subst hni
  exact (keys_ok vs vk vi salt key info X n w hs hk hi hK hsl hkl hil hn hX).mono fun e w' ⟨g, h1, _, h3, _⟩ => ⟨g, h1, h3⟩
theorem derive_is (vs vk vi : Value) (salt key info : List UInt8) (n : Nat) (ni : Int) (hni : ni = (n : Int)) (w : World) (hs : Has w vs salt) (hk : Has w vk key) (hi : Has w vi info) (hK : Kst w) (hsl : salt.length ≤ 1152921504606846976) (hkl : key.length ≤ 1000000000000000000) (hil : info.length ≤ 900000000000000000) (hn : n ≤ 8160) :
    Calls Tryd.prog 22 #[vs, vk, vi, .int .i64 ni] w fun e w' => ∃ g, e = .returned (.tuple #[.slice (some ⟨g, 0, none⟩) n n, .int .i64 0]) ∧ Below w.heap.size w w' := by
  subst hni
  exact (derive_ok vs vk vi salt key info n w hs hk hi hK hsl hkl hil hn).mono fun e w' ⟨g, h1, h2⟩ => ⟨g, h1, h2.be⟩

theorem tk_succ (prk info : List UInt8) (k : Nat) : tk prk info (k + 1) = macOf prk (tk prk info k ++ info ++ [UInt8.ofNat (k + 1)]) := rfl
theorem last_mac (prk : List UInt8) : macOf prk (tk prk [] 254 ++ [255]) = tk prk [] 255 := by
  have h := tk_succ prk [] 254
  rw [List.append_nil, show UInt8.ofNat (254 + 1) = 255 from rfl, show 254 + 1 = 255 from rfl] at h
  exact h.symm
/-- The last blocks of the longest. -/
theorem last_blocks (prk : List UInt8) : ((exOut prk [] 8160).drop 8096).take 32 = tk prk [] 254 ∧ ((exOut prk [] 8160).drop 8128).take 32 = tk prk [] 255 := by
  have h1 := exOut_block prk [] 8160 253 (by decide)
  have h2 := exOut_block prk [] 8160 254 (by decide)
  have l1 := tk_length prk [] 253
  have l2 := tk_length prk [] 254
  rw [show min 8160 (32 * 253 + 32) - 32 * 253 = 32 from rfl, show min 32 (8160 - 32 * 253) = 32 from rfl, show 32 * 253 = 8096 from rfl, show 253 + 1 = 254 from rfl, List.take_of_length_le (l := tk prk [] 254) (by rw [l1]; decide)] at h1
  rw [show min 8160 (32 * 254 + 32) - 32 * 254 = 32 from rfl, show min 32 (8160 - 32 * 254) = 32 from rfl, show 32 * 254 = 8128 from rfl, show 254 + 1 = 255 from rfl, List.take_of_length_le (l := tk prk [] 255) (by rw [l2]; decide)] at h2
  exact ⟨h1, h2⟩

set_option maxHeartbeats 400000 in
set_option maxRecDepth 100000 in
theorem bounds_any (vp : Value) (lp : List UInt8) (z : Int) (w : World) (hp : Has w vp lp) (hK : Kst w) :
    Calls Tryd.prog 7 #[vp, .int .i64 z] w fun e w' => e = .returned (.bool true) ∧ Below w.heap.size w w' := by
  have HP := hide hp
  have HK := hide hK
  clear hp hK
  go_enter Tryd.func7, Tryd.ntmps7
  go_wp2_with fail
  refine (short_any vp lp w HP.out).mono ?_
  rintro e w1 ⟨⟨up, rfl, hup⟩, hw'⟩
  subst hw'
  obtain ⟨P, hPe⟩ : ∃ M, M = lp.take 400 := ⟨_, rfl⟩
  rw [← hPe] at hup
  have LP : P.length ≤ 400 := by rw [hPe, List.length_take]; omega
  clear hPe
  obtain ⟨ap, cp, rfl⟩ := hup.slice
  obtain ⟨nP, hnP⟩ : ∃ n, P.length = n := ⟨_, rfl⟩
  rw [hnP] at hup LP ⊢
  have UP := hide hup
  have KL : Hid (P.length ≤ 1152921504606846976) := hide (by rw [hnP]; omega)
  clear hup hnP LP
  obtain ⟨X, hX⟩ : ∃ X, exOut P [] 8160 = X := ⟨_, rfl⟩
  have XL : Hid (X.length = 8160) := hide (by rw [← hX]; exact exOut_length P [] 8160)
  have hlast := last_blocks P
  rw [hX] at hlast
  obtain ⟨T, hT⟩ : ∃ T, tk P [] 254 = T := ⟨_, rfl⟩
  obtain ⟨D, hD⟩ : ∃ D, tk P [] 255 = D := ⟨_, rfl⟩
  have HMAC : Hid (macOf P (T ++ [255]) = D) := hide (by rw [← hD, ← hT]; exact last_mac P)
  have TL : Hid (T.length = 32) := hide (by rw [← hT]; exact tk_length P [] 253)
  have DL : Hid (D.length = 32) := hide (by rw [← hD]; exact tk_length P [] 254)
  rw [hT, hD] at hlast
  have H1 := hide hlast.1
  have H2 := hide hlast.2
  have HX := hide hX
  have i42 := info24 D DL.out
  clear hlast hT hD hX
  go_wp2_with fail
  refine (expand_is (.slice ap nP cp) (.slice none 0 0) P [] X 8160 8160 rfl HX.out w1 UP.out (Has.nil _) HK.out KL.out (by decide) (Nat.le_refl _)).mono ?_
  rintro e w2 ⟨g, rfl, hT2⟩
  have T2 := hide hT2
  have K2 : Hid (Kst w2) := HK.out.below hT2.be HK.out.lt
  clear hT2 HX
  have hA : Hid (Has (w2.alloc (.cells #[byt 255] 5)) (.slice (some ⟨g, 8096, none⟩) 32 64) T) := by
    have := (T2.out.bl.alloc (.cells #[byt 255] 5)).part 8096 32 64 (by rw [XL.out]; decide) (by decide)
    rw [H1.out] at this
    exact this
  have hz1 : Hid (w2.heap.size + 1 = (w2.alloc (.cells #[byt 255] 5)).heap.size) := hide (by simp)
  go_wp2_with fail
  refine (mac_at (w2.alloc (.cells #[byt 255] 5)) (w2.heap.size + 1) hz1.out (.slice ap nP cp) P (T ++ [255]) D [(.slice (some ⟨g, 8096, none⟩) 32 64, T), (.slice (some ⟨w2.heap.size, 0, none⟩) 1 1, [255])] (by simp) HMAC.out ((UP.out.below T2.out.be).below (below_new w2 _)) (two_all hA.out (has_new1 w2 255)) (K2.out.below (below_new w2 _) K2.out.lt) KL.out (by rw [List.length_append, TL.out]; decide) (by simp)).mono ?_
  rintro e w3 ⟨rfl, hb3⟩
  have E3 : Hid (Below w2.heap.size w2 w3) := (below_new w2 _).trans (hb3.mono (by simp))
  clear hb3 hz1 hA
  have G4 : Hid (Dgt w2 ((w3.alloc (.cells (z32.map byt).toArray 42)).setRow w3.heap.size (D.map byt).toArray) w3.heap.size D) := (Dgt.new E3.out).row
  go_upto_region 6 with (first
    | (refine wpList_newAt rfl 42 rfl (z32.map byt) zero24 w3.heap.size rfl ?_)
    | (refine wpList_store_row rfl 42 (.tmp 7) (.tmp 33) rfl w3.heap.size (D.map byt).toArray rfl rfl 42 (z32.map byt).toArray (Blk.new w3 _ _) i42 (by rw [List.size_toArray, List.size_toArray, List.length_map, List.length_map, DL.out]; rfl) (byts_one _) ?_)
    | fail)
  generalize (w3.alloc (.cells (z32.map byt).toArray 42)).setRow w3.heap.size (D.map byt).toArray = w4 at G4 ⊢
  generalize w3.heap.size = d at G4 ⊢
  simp only [Act.put, List.setIfInBounds_toArray, List.set_cons_zero, List.set_cons_succ]
  refine wp_region_noPanic ?_
  refine wp_region_any (by kernel_rfl) ?_
  have G6 : Dgt w2 { w4 with drawn := w4.drawn + 1 } d D := G4.out.below (Below.refl _ _).drew
  generalize { w4 with drawn := w4.drawn + 1 } = w6 at G6 ⊢
  have HC1 : Has w6 (.slice (some ⟨g, 8128, none⟩) 32 32) D := by
    have := (T2.out.bl.below G6.be T2.out.bl.lt).part 8128 32 32 (by rw [XL.out]; decide) (Nat.le_refl _)
    rw [H2.out] at this
    exact this
  have HC2 : Has w6 (.slice (some ⟨d, 0, none⟩) 32 32) D := G6.has 32 DL.out
  refine take_any (i := 0) rfl rfl (.move (.tmp 5)) rfl 34 rfl (v := (.slice (some ⟨g, 0, none⟩) 8160 8160)) (by kernel_rfl) (by kernel_rfl) (by kernel_rfl) (fun _ _ _ h => h) (fun o' ho w => by go_simp) ?_
  simp only [Act.put, List.setIfInBounds_toArray, List.set_cons_zero, List.set_cons_succ]
  refine take_any (i := 1) rfl rfl (.slice 27 (.tmp 34) (some (.const (.int .i64 8128))) none none) rfl 35 rfl (v := (.slice (some ⟨g, 8128, none⟩) 32 32)) (by kernel_rfl) (by kernel_rfl) (by kernel_rfl) (fun _ _ _ h => h) (fun o' ho w => by go_simp) ?_
  simp only [Act.put, List.setIfInBounds_toArray, List.set_cons_zero, List.set_cons_succ]
  refine take_any (i := 2) rfl rfl (.slice 42 (.tmp 7) none none none) rfl 36 rfl (v := (.slice (some ⟨d, 0, none⟩) 32 32)) (by kernel_rfl) (by kernel_rfl) (by kernel_rfl) (fun _ _ _ h => h) (fun o' ho w => by go_simp) ?_
  simp only [Act.put, List.setIfInBounds_toArray, List.set_cons_zero, List.set_cons_succ]
  refine only_one (i := 3) (by kernel_rfl) ?_
  refine op_call (R := fun v wx => v = .bool true ∧ wx = w6) rfl rfl (.call { callee := .value (.func 21), args := #[.tmp 35, .tmp 36], argTypes := #[27, 27] }) rfl 37 rfl 21 #[.slice (some ⟨g, 8128, none⟩) 32 32, .slice (some ⟨d, 0, none⟩) 32 32] (fun o' ho => by go_simp) ((eq_yes _ _ _ w6 HC1 HC2).mono fun e wx ⟨h1, h2⟩ => ⟨_, h1, rfl, h2⟩) ?_
  rintro v w7 ⟨rfl, hw7⟩
  subst hw7
  simp only [Act.put, List.setIfInBounds_toArray, List.set_cons_zero, List.set_cons_succ]
  refine take_any (i := 4) rfl rfl (.unOp .not 4 (.tmp 37)) rfl 38 rfl (v := (.bool false)) (by kernel_rfl) (by kernel_rfl) (by kernel_rfl) (fun _ _ _ h => h) (fun o' ho w => by go_simp) ?_
  simp only [Act.put, List.setIfInBounds_toArray, List.set_cons_zero, List.set_cons_succ]
  refine wpAny_done (by kernel_rfl) (NoPanic.normal ?_) _
  have BE : Hid (Below w1.heap.size w1 w7) := T2.out.be.trans (G6.be.mono T2.out.be.size)
  have K6 : Hid (Kst w7) := HK.out.below BE.out HK.out.lt
  have UP6 : Hid (Has w7 (.slice ap nP cp) P) := UP.out.below BE.out
  clear HC1 HC2 G6 G4 T2 H1 H2 HMAC E3 i42 UP K2
  by_cases hz : z < 0
  · go_wp2_with fail
    refine (expand_low _ _ z w7 hz).mono ?_
    rintro e w8 ⟨rfl, hw8⟩
    subst hw8
    go_wp2_with fail
    refine (keys_low _ _ _ z w8 hz).mono ?_
    rintro e w9 ⟨rfl, hw9⟩
    subst hw9
    go_wp2_with fail
    refine (derive_low (.slice ap nP cp) (.slice none 0 0) (.slice none 0 0) P [] [] z hz w9 UP6.out (Has.nil _) (Has.nil _) K6.out KL.out (by decide)).mono ?_
    rintro e w10 ⟨rfl, hb10⟩
    have B10 : Hid (Below w1.heap.size w1 w10) := BE.out.trans (hb10.mono BE.out.size)
    clear hb10
    go_wp2
    go_ret
    exact ⟨rfl, B10.out⟩
  · obtain ⟨m, rfl⟩ : ∃ m : Nat, z = (m : Int) := ⟨z.toNat, by omega⟩
    rcases Nat.lt_or_ge 8160 m with hm | hm
    · have hmz : (8160 : Int) < (m : Int) := by omega
      have hm255 : (255 : Int) < (m : Int) := by omega
      have hneg : ¬ (m : Int) < 0 := by omega
      go_wp2_with fail
      refine (expand_high _ _ (m : Int) w7 hmz).mono ?_
      rintro e w8 ⟨rfl, hw8⟩
      subst hw8
      go_wp2_with fail
      refine (keys_high _ _ _ (m : Int) w8 hm255).mono ?_
      rintro e w9 ⟨rfl, hw9⟩
      subst hw9
      go_wp2_with fail
      refine (derive_high (.slice ap nP cp) (.slice none 0 0) (.slice none 0 0) P [] [] (m : Int) hmz w9 UP6.out (Has.nil _) (Has.nil _) K6.out KL.out (by decide)).mono ?_
      rintro e w10 ⟨rfl, hb10⟩
      have B10 : Hid (Below w1.heap.size w1 w10) := BE.out.trans (hb10.mono BE.out.size)
      clear hb10
      go_wp2
      go_ret
      exact ⟨rfl, B10.out⟩
    · have hm0 : ¬ (8160 : Int) < (m : Int) := by omega
      have hneg : ¬ (m : Int) < 0 := by omega
      go_wp2_with fail
      refine (expand_is (.slice ap nP cp) (.slice none 0 0) P [] _ m (m : Int) rfl rfl w7 UP6.out (Has.nil _) K6.out KL.out (by decide) hm).mono ?_
      rintro e w8 ⟨g8, rfl, hT8⟩
      have B8 : Hid (Below w1.heap.size w1 w8) := BE.out.trans (hT8.be.mono BE.out.size)
      have UP8 : Hid (Has w8 (.slice ap nP cp) P) := UP6.out.below hT8.be
      have K8 : Hid (Kst w8) := HK.out.below B8.out HK.out.lt
      clear hT8
      rcases Nat.lt_or_ge 255 m with hq | hq
      · have hqz : (255 : Int) < (m : Int) := by omega
        go_wp2_with fail
        refine (keys_high _ _ _ (m : Int) w8 hqz).mono ?_
        rintro e w9 ⟨rfl, hw9⟩
        subst hw9
        go_wp2_with fail
        refine (derive_is (.slice ap nP cp) (.slice none 0 0) (.slice none 0 0) P [] [] m (m : Int) rfl w9 UP8.out (Has.nil _) (Has.nil _) K8.out KL.out (by decide) (by decide) hm).mono ?_
        rintro e w10 ⟨g10, rfl, hb10⟩
        have B10 : Hid (Below w1.heap.size w1 w10) := B8.out.trans (hb10.mono B8.out.size)
        clear hb10
        go_wp2
        go_ret
        exact ⟨rfl, B10.out⟩
      · have hqz : ¬ (255 : Int) < (m : Int) := by omega
        go_wp2_with fail
        refine (keys_is (.slice ap nP cp) (.slice none 0 0) (.slice none 0 0) P [] [] _ m (m : Int) rfl w8 UP8.out (Has.nil _) (Has.nil _) K8.out KL.out (by decide) (by decide) hq rfl).mono ?_
        rintro e w9 ⟨g9, rfl, hb9⟩
        have B9 : Hid (Below w1.heap.size w1 w9) := B8.out.trans (hb9.mono B8.out.size)
        have UP9 : Hid (Has w9 (.slice ap nP cp) P) := UP8.out.below hb9
        have K9 : Hid (Kst w9) := HK.out.below B9.out HK.out.lt
        clear hb9
        go_wp2_with fail
        refine (derive_is (.slice ap nP cp) (.slice none 0 0) (.slice none 0 0) P [] [] m (m : Int) rfl w9 UP9.out (Has.nil _) (Has.nil _) K9.out KL.out (by decide) (by decide) hm).mono ?_
        rintro e w10 ⟨g10, rfl, hb10⟩
        have B10 : Hid (Below w1.heap.size w1 w10) := B9.out.trans (hb10.mono B9.out.size)
        clear hb10
        go_wp2
        go_ret
        exact ⟨rfl, B10.out⟩
end Go.Proofs.YtablmkijlpoaaaaDoor
