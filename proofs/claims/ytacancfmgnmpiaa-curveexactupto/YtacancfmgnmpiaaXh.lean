import Derived.Test.YtacancfmgnmpiaaXg
import Derived.Test.YtacancfmgnmpiaaXeG
set_option linter.unusedVariables false
set_option linter.unusedSimpArgs false
namespace Go.Proofs.Ytacancfmgnmpiaa
open Go.RowKit

/-- The document's operations, as functions. -/
structure Opn (one zer cc : List Nat) (af sf mf : List Nat → List Nat → List Nat) : Prop where
  d1 : Dg one
  d0 : Dg zer
  dc : Dg cc
  v1 : V one % Prm.P = 1 % Prm.P
  v0 : V zer % Prm.P = 0 % Prm.P
  vc : V cc % Prm.P = 121665 % Prm.P
  c1 : ∀ w, Calls Try.prog 37 #[.int .i64 1] w fun e w' => e = .returned (num one) ∧ Below w.heap.size w w'
  c0 : ∀ w, Calls Try.prog 37 #[.int .i64 0] w fun e w' => e = .returned (num zer) ∧ Below w.heap.size w w'
  ccc : ∀ w, Calls Try.prog 37 #[.int .i64 121665] w fun e w' => e = .returned (num cc) ∧ Below w.heap.size w w'
  ad : ∀ a b, Dg a → Dg b → Dg (af a b)
  av : ∀ a b, Dg a → Dg b → V (af a b) % Prm.P = (V a + V b) % Prm.P
  ac : ∀ a b, Dg a → Dg b → ∀ w, Calls Try.prog 39 #[num a, num b] w fun e w' => e = .returned (num (af a b)) ∧ Below w.heap.size w w'
  sd : ∀ a b, Dg a → Dg b → Dg (sf a b)
  sv : ∀ a b, Dg a → Dg b → (V (sf a b) + V b) % Prm.P = V a % Prm.P
  sc : ∀ a b, Dg a → Dg b → ∀ w, Calls Try.prog 40 #[num a, num b] w fun e w' => e = .returned (num (sf a b)) ∧ Below w.heap.size w w'
  md : ∀ a b, Dg a → Dg b → Dg (mf a b)
  mv : ∀ a b, Dg a → Dg b → V (mf a b) % Prm.P = (V a * V b) % Prm.P
  mc : ∀ a b, Dg a → Dg b → ∀ w, Calls Try.prog 41 #[num a, num b] w fun e w' => e = .returned (num (mf a b)) ∧ Below w.heap.size w w'
theorem two_fun {R : List Nat → List Nat → List Nat → Prop} (h : ∀ a b, Dg a → Dg b → ∃ r, R a b r) : ∃ f : List Nat → List Nat → List Nat, ∀ a b, Dg a → Dg b → R a b (f a b) := by
  classical
  refine ⟨fun a b => if hh : Dg a ∧ Dg b then Classical.choose (h a b hh.1 hh.2) else a, fun a b ha hb => ?_⟩
  have hh : Dg a ∧ Dg b := ⟨ha, hb⟩
  show R a b (dite (Dg a ∧ Dg b) _ _)
  rw [dif_pos hh]
  exact Classical.choose_spec (h a b hh.1 hh.2)
theorem opn : ∃ one zer cc af sf mf, Opn one zer cc af sf mf := by
  obtain ⟨one, d1, v1, c1⟩ := of_ok 1 (by decide)
  obtain ⟨zer, d0, v0, c0⟩ := of_ok 0 (by decide)
  obtain ⟨cc, dc, vc, ccc⟩ := of_ok 121665 (by decide)
  obtain ⟨af, ha⟩ := two_fun add_ok'
  obtain ⟨sf, hs⟩ := two_fun sub_ok'
  obtain ⟨mf, hm⟩ := two_fun mul_ok'
  exact ⟨one, zer, cc, af, sf, mf, d1, d0, dc, v1, v0, vc, c1, c0, ccc, fun a b p q => (ha a b p q).1, fun a b p q => (ha a b p q).2.1, fun a b p q => (ha a b p q).2.2, fun a b p q => (hs a b p q).1, fun a b p q => (hs a b p q).2.1, fun a b p q => (hs a b p q).2.2, fun a b p q => (hm a b p q).1, fun a b p q => (hm a b p q).2.1, fun a b p q => (hm a b p q).2.2⟩

theorem half_st (n m : Nat) : n / m = 2 * (n / (m * 2)) + n / m % 2 := by
  rw [← Nat.div_div_eq_div_mul]; omega
/-- The power p - 2. -/
def ivN (one a : List Nat) (mf : List Nat → List Nat → List Nat) : Nat → List Nat
  | 0 => one
  | j + 1 => if 254 - j = 2 ∨ 254 - j = 4 then mf (ivN one a mf j) (ivN one a mf j) else mf (mf (ivN one a mf j) (ivN one a mf j)) a
section
variable {one zer cc : List Nat} {af sf mf : List Nat → List Nat → List Nat}
theorem iv_dg (O : Opn one zer cc af sf mf) {a : List Nat} (ha : Dg a) : ∀ j, Dg (ivN one a mf j)
  | 0 => O.d1
  | j + 1 => by
    have ih := iv_dg O ha j
    rw [ivN]
    split
    · exact O.md _ _ ih ih
    · exact O.md _ _ (O.md _ _ ih ih) ha
theorem bit_p2 : ∀ i : Fin 255, (Prm.P - 2) / 2 ^ i.val % 2 = if i.val = 2 ∨ i.val = 4 then 0 else 1 := by decide +kernel
theorem iv_val (O : Opn one zer cc af sf mf) {a : List Nat} (ha : Dg a) : ∀ j, j ≤ 255 → V (ivN one a mf j) % Prm.P = V a ^ ((Prm.P - 2) / 2 ^ (255 - j)) % Prm.P
  | 0, _ => by
    have e : (Prm.P - 2) / 2 ^ (255 - 0) = 0 := by decide +kernel
    rw [e, Nat.pow_zero]
    exact O.v1
  | j + 1, hj => by
    have ih := iv_val O ha j (by omega)
    have hd := iv_dg O ha j
    have e1 : 255 - j = (255 - (j + 1)) + 1 := by omega
    have hb := bit_p2 ⟨254 - j, by omega⟩
    have e2 : 254 - j = 255 - (j + 1) := by omega
    simp only at hb
    have hs := half_st (Prm.P - 2) (2 ^ (255 - (j + 1)))
    have e3 : 2 ^ (255 - (j + 1)) * 2 = 2 ^ (255 - j) := by rw [e1, Nat.pow_succ]
    rw [e3, ← e2, hb] at hs
    have sq : V (mf (ivN one a mf j) (ivN one a mf j)) % Prm.P = V a ^ (2 * ((Prm.P - 2) / 2 ^ (255 - j))) % Prm.P := by
      rw [O.mv _ _ hd hd, mul_mod2 ih ih, ← Nat.pow_add, Nat.two_mul]
    rw [← e2, hs, ivN]
    generalize (Prm.P - 2) / 2 ^ (255 - j) = E at *
    split
    · rw [Nat.add_zero]; exact sq
    · rw [O.mv _ _ (O.md _ _ hd hd) ha, mul_mod2 sq rfl, ← Nat.pow_succ]

structure Ivs (n : Nat) (w wx : World) (g : Nat) (a x : List Nat) : Prop where
  va : Blk wx n (a.map dg) 75
  re : Blk wx (n + 1) (z10n.map dg) 75
  xx : Blk wx g (x.map dg) 75
  be : Below n w wx
  lt : n + 1 < g
theorem Ivs.on {n : Nat} {w wx wy : World} {g : Nat} {a x : List Nat} (h : Ivs n w wx g a x) (hb : Below wx.heap.size wx wy) : Ivs n w wy g a x :=
  ⟨h.va.on hb, h.re.on hb, h.xx.on hb, h.be.trans (hb.mono (by have := h.va.lt; omega)), h.lt⟩
theorem Ivs.put {n : Nat} {w wx : World} {g : Nat} {a x : List Nat} (h : Ivs n w wx g a x) (y : List Nat) : Ivs n w (wx.setRow g (y.map dg).toArray) g a y := by
  obtain ⟨p, q, r, s, t⟩ := h
  exact ⟨p.setRowOther _ _ (by omega), q.setRowOther _ _ (by omega), r.setRow _, below_setRow s _ _ (by omega), t⟩
theorem dg_sz {x y : List Nat} (hx : x.length = 10) (hy : y.length = 10) : (x.map dg).toArray.size = (y.map dg).toArray.size := by simp [hx, hy]

set_option maxRecDepth 100000 in
set_option maxHeartbeats 8000000 in
theorem inverse_walk (O : Opn one zer cc af sf mf) (a : List Nat) (ha : Dg a) (w : World) :
    Calls Try.prog 43 #[num a] w fun e w' => e = .returned (num (ivN one a mf 255)) ∧ Below w.heap.size w w' := by
  have la := ha.len
  have HI := hide (iv_dg O ha)
  have HA := hide ha
  have HO := hide O
  have c1 := O.c1
  have l1 := O.d1.len
  clear ha O
  go_enter Try.func43, Try.ntmps43
  go_upto_region 1 with (first | (refine wpList_boxAt rfl 75 (.tmp 0) rfl (a.map dg) rfl (w.heap.size) rfl ?_) | (refine wpList_newAt rfl 75 rfl (z10n.map dg) zero75 (w.heap.size + 1) (size1 _ _) ?_))
  have b0 : Blk ((w.alloc (.cells (a.map dg).toArray 75)).alloc (.cells (z10n.map dg).toArray 75)) w.heap.size (a.map dg) 75 := (Blk.new _ _ _).alloc _
  have b1 : Blk ((w.alloc (.cells (a.map dg).toArray 75)).alloc (.cells (z10n.map dg).toArray 75)) (w.heap.size + 1) (z10n.map dg) 75 := by
    have := Blk.new (w.alloc (.cells (a.map dg).toArray 75)) (z10n.map dg) 75
    simpa using this
  have be : Below w.heap.size w ((w.alloc (.cells (a.map dg).toArray 75)).alloc (.cells (z10n.map dg).toArray 75)) := by go_grown
  generalize (w.alloc (.cells (a.map dg).toArray 75)).alloc (.cells (z10n.map dg).toArray 75) = w1 at b0 b1 be ⊢
  obtain ⟨n, hn⟩ : ∃ n, w.heap.size = n := ⟨_, rfl⟩
  rw [hn] at b0 b1 be ⊢
  have hlow := b1.lt
  refine lst_newT 1 rfl rfl rfl rfl 3 rfl 75 rfl (z10n.map dg) zero75 rfl rfl (.tmp 5) rfl ?_
  simp only [List.take_succ_cons, List.take_zero]
  refine wpLex_cons2 _ (uni_callF (by rfl) 37 [Operand.const (Value.int IntKind.i64 1)] #[3] rfl [Value.int IntKind.i64 1] (num one) rfl enter37 (fun W hW => c1 W)) (by simp only [Act.put, List.setIfInBounds_toArray, List.set_cons_zero, List.set_cons_succ]; rfl) ?_
  refine ⟨one.map dg, rfl, by simp, by simp, nm_info l1, nm_len l1, dgs_one _, fun g w2 lo hW xx => ?_⟩
  simp only [Act.put, List.setIfInBounds_toArray, List.set_cons_zero, List.set_cons_succ]
  have h0 : Hid (Ivs n w w2 g a (ivN one a mf 0)) := ⟨b0.on hW, b1.on hW, xx, be.trans (hW.mono (by have := be.size; omega)), by omega⟩
  clear b0 b1 be hW xx lo hlow c1 w1
  go_wp2
  go_loopw [4] (fun i wr => ∃ j : Nat, j ≤ 255 ∧ i = .int .i64 (254 - (j : Int)) ∧ Hid (Ivs n w wr g a (ivN one a mf j))) (fun i _ => ((intOf i) + 1).toNat)
  case atStart => exact ⟨0, by omega, rfl, h0⟩
  case round =>
    obtain ⟨j, hj, rfl, hs⟩ := hrel
    have hd := HI.out j
    have hpe : Hid (ivN one a mf (j + 1) = if 254 - j = 2 ∨ 254 - j = 4 then mf (ivN one a mf j) (ivN one a mf j) else mf (mf (ivN one a mf j) (ivN one a mf j)) a) := by rw [ivN]; exact hide rfl
    obtain ⟨L, hL⟩ : ∃ L, ivN one a mf j = L := ⟨_, rfl⟩
    have HL := hide hL
    rw [hL] at hs hd hpe
    clear hL
    have lL := hd.len
    by_cases hlt : j < 255
    · obtain ⟨b, hb⟩ : ∃ b, b = 254 - j := ⟨_, rfl⟩
      have hbi : (254 : Int) - (j : Int) = (b : Int) := by omega
      rw [hbi]
      rw [← hb] at hpe
      have hge : (0 : Int) ≤ (b : Int) := by omega
      have hbl : b ≤ 254 := by omega
      have cm := HO.out.mc L L hd hd
      have dY := HO.out.md L L hd hd
      have cm2 := HO.out.mc (mf L L) a dY HA.out
      have dZ := HO.out.md (mf L L) a dY HA.out
      generalize mf (mf L L) a = Z at cm2 dZ hpe
      generalize mf L L = Y at cm cm2 dY hpe
      have lY := dY.len
      have lZ := dZ.len
      have HB := hide hb
      clear hb hbi dY dZ hd
      by_cases h24 : b = 2 ∨ b = 4
      · rw [if_pos h24] at hpe
        have h24z : (b : Int) = 2 ∨ (b : Int) = 4 := by omega
        clear h24
        rcases h24z with hz | hz
        · rw [hz]
          go_wp2_with (first | (refine wpList_load_row rfl 75 (.tmp 3) rfl g rfl 75 (L.map dg).toArray (0, 0) _ hs.out.xx Try.underlying75 rfl (nm_infoA lL) ?_) | (go_at_call 41; refine (cm _).mono ?_; rintro e w3 ⟨rfl, hb3⟩; have B3 := hide hb3; clear hb3) | (refine wpList_store_row rfl 75 (.tmp 3) (.tmp 12) rfl g (Y.map dg).toArray rfl rfl 75 (L.map dg).toArray (hs.out.on B3.out).xx (nm_infoA lY) (dg_sz lL lY) (dgs_one _) ?_))
          go_roundw
          case rel =>
            refine ⟨j + 1, by omega, by have := HB.out; go_num, ?_⟩
            rw [hpe.out]
            exact (hs.out.on B3.out).put _
          case measure => have := HB.out; simp [intOf] <;> omega
        · rw [hz]
          go_wp2_with (first | (refine wpList_load_row rfl 75 (.tmp 3) rfl g rfl 75 (L.map dg).toArray (0, 0) _ hs.out.xx Try.underlying75 rfl (nm_infoA lL) ?_) | (go_at_call 41; refine (cm _).mono ?_; rintro e w3 ⟨rfl, hb3⟩; have B3 := hide hb3; clear hb3) | (refine wpList_store_row rfl 75 (.tmp 3) (.tmp 12) rfl g (Y.map dg).toArray rfl rfl 75 (L.map dg).toArray (hs.out.on B3.out).xx (nm_infoA lY) (dg_sz lL lY) (dgs_one _) ?_))
          go_roundw
          case rel =>
            refine ⟨j + 1, by omega, by have := HB.out; go_num, ?_⟩
            rw [hpe.out]
            exact (hs.out.on B3.out).put _
          case measure => have := HB.out; simp [intOf] <;> omega
      · rw [if_neg h24] at hpe
        have h2 : ((b : Int) == 2) = false := by simp; omega
        have h4 : ((b : Int) == 4) = false := by simp; omega
        have h2' : ((b : Int) != 2) = true := by simp; omega
        have h4' : ((b : Int) != 4) = true := by simp; omega
        clear h24
        go_wp2_with (first | (refine wpList_load_row rfl 75 (.tmp 3) rfl g rfl 75 (L.map dg).toArray (0, 0) _ hs.out.xx Try.underlying75 rfl (nm_infoA lL) ?_) | (go_at_call 41; refine (cm _).mono ?_; rintro e w3 ⟨rfl, hb3⟩; have B3 := hide hb3; clear hb3 cm) | (refine wpList_store_row rfl 75 (.tmp 3) (.tmp 12) rfl g (Y.map dg).toArray rfl rfl 75 (L.map dg).toArray (hs.out.on B3.out).xx (nm_infoA lY) (dg_sz lL lY) (dgs_one _) ?_) | (refine wpList_load_row rfl 75 (.tmp 3) rfl g rfl 75 (Y.map dg).toArray (0, 0) _ ((hs.out.on B3.out).put _).xx Try.underlying75 rfl (nm_infoA lY) ?_) | (refine wpList_load_row rfl 75 (.tmp 1) rfl n rfl 75 (a.map dg).toArray (0, 0) _ ((hs.out.on B3.out).put _).va Try.underlying75 rfl (nm_infoA la) ?_) | (go_at_call 41; refine (cm2 _).mono ?_; rintro e w4 ⟨rfl, hb4⟩; have B4 := hide hb4; clear hb4) | (refine wpList_store_row rfl 75 (.tmp 3) (.tmp 21) rfl g (Z.map dg).toArray rfl rfl 75 (Y.map dg).toArray (((hs.out.on B3.out).put _).on B4.out).xx (nm_infoA lZ) (dg_sz lY lZ) (dgs_one _) ?_))
        go_roundw
        case rel =>
          refine ⟨j + 1, by omega, by have := HB.out; go_num, ?_⟩
          rw [hpe.out]
          exact (((hs.out.on B3.out).put _).on B4.out).put _
        case measure => have := HB.out; simp [intOf] <;> omega
    · obtain rfl : j = 255 := by omega
      clear hpe
      go_wp2_with (first | (refine wpList_load_row rfl 75 (.tmp 3) rfl g rfl 75 (L.map dg).toArray (0, 0) _ hs.out.xx Try.underlying75 rfl (nm_infoA lL) ?_) | (refine wpList_store_row rfl 75 (.tmp 2) (.tmp 22) rfl (n + 1) (L.map dg).toArray rfl rfl 75 (z10n.map dg).toArray hs.out.re (nm_infoA lL) (nm_size lL) (dgs_one _) ?_))
      refine bodyPost_ret (results_cell_row Try.results43 _ _ (n + 1) 75 (L.map dg).toArray (0, 0) _ rfl (hs.out.re.setRow _) Try.underlying75 rfl (nm_infoA lL)) rfl ?_
      exact ⟨by rw [HL.out]; rfl, by first | (rw [hn]; exact below_setRow hs.out.be _ _ (by omega)) | exact below_setRow hs.out.be _ _ (by omega)⟩
end
end Go.Proofs.Ytacancfmgnmpiaa
