import Derived.Test.YtgfgabgnejnipaaPp1
namespace Go.Proofs.Ytgfgabgnejnipaa
open Go.RowKit

theorem cut_room {w : World} {g cap : Nat} {rs bs : List UInt8} (h : Own w 0 (.slice (some ⟨g, 0, none⟩) rs.length cap) rs) (he : rs = bs ++ marks) (W : World) :
    (Instr.slice 22 (.slice (some ⟨g, 0, none⟩) rs.length cap) none (some (.int .i64 (bs.length : Int))) none).run Try.prog W = .ok (.slice (some ⟨g, 0, none⟩) bs.length cap) W := by
  have hl : rs.length = bs.length + 3 := by rw [he]; simp [marks]
  have hc : rs.length ≤ cap := by
    rcases h.has with ⟨h1, _⟩ | ⟨ad, c, h1, h2, _⟩
    · cases h1
    · simp only [Value.slice.injEq] at h1; obtain ⟨_, _, rfl⟩ := h1; exact h2
  rw [h.has.cutH bs.length (by omega)]
  simp [cutV, sliced, show cap ≠ 0 by omega, Addr.add]

theorem wipe_room {w : World} {g cap : Nat} {rs bs : List UInt8} (h : Own w 0 (.slice (some ⟨g, 0, none⟩) rs.length cap) rs) (he : rs = bs ++ marks) :
    Calls Try.prog 15 #[.slice (some ⟨g, 0, none⟩) bs.length cap] w fun e w' => e = .returned (.tuple #[]) ∧ Own w' 0 (.slice (some ⟨g, 0, none⟩) rs.length cap) (List.replicate bs.length 0 ++ marks) ∧ Only w w' (some g) := by
  have hl : rs.length = bs.length + 3 := by rw [he]; simp [marks]
  by_cases h0 : bs.length = 0
  · have hb : bs = [] := List.eq_nil_of_length_eq_zero h0
    subst hb
    refine (wipe_empty _ cap w).mono ?_
    rintro e w' ⟨rfl, rfl⟩
    refine ⟨rfl, ?_, Only.refl _ _⟩
    simp only [List.length_nil, List.replicate_zero, List.nil_append] at he ⊢
    rw [← he]; exact h
  · refine (wipe_some g bs.length cap w (by omega) (fun j hj => ?_) (fun j hj => ?_)).mono ?_
    · obtain ⟨⟨u, hu⟩, _⟩ := h.cells j (by omega)
      rw [Nat.zero_add, hu]; rfl
    · rw [Nat.zero_add]; exact (h.cells j (by omega)).2
    · rintro e w' ⟨rfl, rfl⟩
      refine ⟨rfl, ?_, setCells_only _ _ _ _⟩
      have h1 := h.write 0 (List.replicate bs.length 0) (by simp; omega)
      rw [List.take_zero, List.nil_append, List.length_replicate, Nat.zero_add, he, List.drop_left, List.map_replicate] at h1
      rw [he]
      exact h1

theorem St.wipeX {w : World} {X0 X : Nat → Thing} {T : Nat} {cs : Array Value} {L V : Value} {ls vs : List Value} {a b : Nat} {YA YB y l : Thing} {g : Nat} {oc : Array Value} {gx cap : Nat} {rs bs : List UInt8} (h : St w X0 X T cs L V ls vs a YA b YB g oc (rowT (.slice (some ⟨gx, 0, none⟩) rs.length cap) rs) y l) (he : rs = bs ++ marks) :
    Calls Try.prog 15 #[.slice (some ⟨gx, 0, none⟩) bs.length cap] w fun e w' => e = .returned (.tuple #[]) ∧ ∃ X', St w' X0 X' T cs L V ls vs a YA b YB g oc (rowT (.slice (some ⟨gx, 0, none⟩) rs.length cap) (List.replicate bs.length 0 ++ marks)) y l := by
  refine (wipe_room h.px he).mono ?_
  rintro e w' ⟨rfl, ho, hO⟩
  obtain ⟨X', f, e, o⟩ := h.fam.turn 12 (rowT (.slice (some ⟨gx, 0, none⟩) rs.length cap) (List.replicate bs.length 0 ++ marks)) _ h.ex (Fx.of_only (S := fun k => k = gx) hO (fun k e => by cases e; rfl)) (fun k _ e => by rw [e]; rfl) ho (fun k hk => .inl hk)
  exact ⟨rfl, X', h.setX f e o⟩

set_option maxRecDepth 100000 in
set_option maxHeartbeats 4000000 in
theorem plain3 (T n : Nat) (X : Nat → Thing) (which N : Int) (B C : Value) (S : ByteArray) (bB bC : List UInt8) (w : World) (fw fr : Nat → Prop) (ht : Tab w T X n fw fr) (hA : Args (X 9) B C bB bC) (_hn9 : n ≤ 900) :
    Calls Try.prog 61 #[.pointer (some ⟨T, 0, none⟩), .agg #[.int .i64 3, .int .i64 which, .int .i64 N, B, C, .string S]] w fun e w' => e = .returned (.bool true) ∧ Left w' T X (n + 2) fw fr := by
  obtain ⟨cs, L, V, ls, vs, hX, hn, hs, hr⟩ := ht.bk
  obtain ⟨X1, h1⟩ := ht.start 0 1 (by omega) (by omega) (by omega) #[.int .i64 3, .int .i64 which, .int .i64 N, B, C, .string S] hX
  have H1 := hide h1
  have HA := hide hA
  have HT := hide ht
  have HX := hide hX
  have HS : Hid (∀ j, j < 2 → fw j → SlotW cs X j) := hs
  have HR : Hid (∀ j, j < 2 → fr j → SlotR cs X j) := hr
  clear h1 hA ht hX hs hr
  go_enter Try.func61, Try.ntmps61
  go_wp2_with fail
  refine (H1.out.roomX B bB (HA.out.1 _ H1.out.arg).1 HA.out.2.1).mono ?_
  rintro e w2 ⟨rx, xo, xc, X2, hrx, rfl, h2⟩
  have d4 := h2.field (o := 4) (u := C) rfl
  have H2 := hide h2
  clear h2 H1
  go_wp2_with fail
  refine (H2.out.roomY C bC (HA.out.1 _ H2.out.arg).2 HA.out.2.2).mono ?_
  rintro e w3 ⟨ry, yo, yc, X3, hry, rfl, h3⟩
  clear d4
  have d0 := h3.field (o := 0) (u := .int .i64 3) rfl
  have d3 := h3.field (o := 3) (u := B) rfl
  have d4 := h3.field (o := 4) (u := C) rfl
  have lB := (HA.out.1 _ h3.arg).1.len
  have lC := (HA.out.1 _ h3.arg).2.len
  have hrl : 0 < rx.length := by rw [hrx.out]; simp [marks]
  obtain ⟨gx, rfl, _⟩ := Own.at h3.px hrl
  have sx := cut_room h3.px hrx.out
  obtain ⟨ya, yk, sy, hy, hy2⟩ := Own.roomcut h3.py hry.out
  have H3 := hide h3
  clear h3 H2 hy hy2 hrl
  have hBl : bB.length ≤ 1048576 := HA.out.2.1
  go_wp2_with fail
  refine (H3.out.wipeX hrx.out).mono ?_
  rintro e w4 ⟨rfl, X4, h4⟩
  have e3 := h4.field (o := 3) (u := B) rfl
  have H4 := hide h4
  obtain ⟨i0, hi, hz0, hz1, hz2⟩ := info_parts Try.info5
  clear h4 H3 sx sy d0 d3 d4
  go_wp2_with (at_make; refine wpList_make_full _ rfl _ _ _ rfl w4.heap.size 5 i0 (.int .u8 0) 1 Try.underlying22 hi hz0 hz1 .i64 .i64 bB.length bB.length bB.length rfl rfl rfl rfl (by rw [hz2]; omega) (by unfold maxLen; omega) (Nat.le_refl _) ?_)
  intro w5 hown5 hg5
  rw [zeros_cells] at hown5
  have HO5 : Hid (Own w5 w4.heap.size (.slice (some ⟨w4.heap.size, 0, none⟩) bB.length bB.length) (List.replicate bB.length 0)) := by
    show Own _ _ _ _
    unfold Own
    rw [List.length_replicate]; exact hown5
  have hb5 := (Below.refl w4.heap.size w4).grown hg5 (Nat.le_refl _) (by intro k hk; cases hk)
  have H5 := hide (H4.out.below hb5)
  have HB5 := hide hb5
  obtain ⟨zs, hzs⟩ : ∃ zs, zs = List.replicate bB.length (0 : UInt8) := ⟨_, rfl⟩
  have hzl : zs.length = bB.length := by rw [hzs]; simp
  have HZS := hide hzs
  rw [← hzs] at HO5
  have HZL := hide hzl
  clear hown5 hg5 hi hz0 hz1 hz2 hb5 H5 e3 hzs hzl lB lC
  go_wp2_with (at_builtin; refine wpList_app rfl _ _ rfl w4.heap.size _ zs rfl (HO5.out.below (below_new _ _)) _ marks rfl (marks_new w5 _ (by exact ⟨rfl, rfl, rfl, rfl⟩)) (by have := HZL.out; simp [marks]; omega) (by have := HB5.out.size; simp; omega) ?_)
  intro v6 w6 hown6 hg6
  have hb6 := ((HB5.out.alloc HB5.out.size (.cells #[.int .u8 209, .int .u8 210, .int .u8 211] 5)).grown hg6 (by have := HB5.out.size; simp; omega) HO5.out.ownBlock)
  have H6 := hide (H4.out.below hb6)
  obtain ⟨ms, hms⟩ : ∃ ms, ms = zs ++ marks := ⟨_, rfl⟩
  rw [← hms] at hown6
  obtain ⟨mo, mc, rfl⟩ := hown6.slice
  have HM := hide hown6.has
  have HE : Hid (List.replicate bB.length 0 ++ marks = ms) := by
    show _ = _
    rw [hms, HZS.out]
  clear hown6 hg6 hb6 H4 HO5 HB5 hms
  rw [HE.out] at H6
  go_wp2_with fail
  refine (eq_yes2 _ _ ms _ (Own.has H6.out.px) HM.out).mono ?_
  rintro e w7 ⟨rfl, rfl⟩
  go_wp2_with fail
  go_ret
  obtain ⟨X7, f7, e7, o7⟩ := H6.out.fam.drop 12
  have h7 := H6.out.setX f7 e7 o7
  obtain ⟨X8, f8, e8, o8⟩ := h7.fam.drop 13
  have h8 := h7.setY f8 e8 o8
  exact ⟨rfl, h8.doneN HT.out HX.out (by omega) HS.out HR.out (fun _ _ => rfl)⟩

end Go.Proofs.Ytgfgabgnejnipaa
