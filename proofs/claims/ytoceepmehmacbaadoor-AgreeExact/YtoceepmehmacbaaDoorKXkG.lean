import Derived.Test.YtoceepmehmacbaaDoorKXg
import Derived.Test.YtoceepmehmacbaaDoorKXiG
import Derived.Test.YtoceepmehmacbaaDoorKXnG
import Derived.Test.YtoceepmehmacbaaDoorKXfG
set_option linter.unusedVariables false
set_option linter.unusedSimpArgs false
namespace Go.Proofs.YtoceepmehmacbaaDoor.Cv
open Go.RowKit

/-- The document's operations, as functions. -/
structure Opn (one zer cc : List Nat) (af sf mf : List Nat → List Nat → List Nat) : Prop where
  d1 : Dg one
  d0 : Dg zer
  dc : Dg cc
  v1 : V one % Prm.P = 1 % Prm.P
  v0 : V zer % Prm.P = 0 % Prm.P
  vc : V cc % Prm.P = 121665 % Prm.P
  c1 : ∀ w, Calls Tryd.prog 78 #[.int .i64 1] w fun e w' => e = .returned (num one) ∧ Below w.heap.size w w'
  c0 : ∀ w, Calls Tryd.prog 78 #[.int .i64 0] w fun e w' => e = .returned (num zer) ∧ Below w.heap.size w w'
  ccc : ∀ w, Calls Tryd.prog 78 #[.int .i64 121665] w fun e w' => e = .returned (num cc) ∧ Below w.heap.size w w'
  ad : ∀ a b, Dg a → Dg b → Dg (af a b)
  av : ∀ a b, Dg a → Dg b → V (af a b) % Prm.P = (V a + V b) % Prm.P
  ac : ∀ a b, Dg a → Dg b → ∀ w, Calls Tryd.prog 80 #[num a, num b] w fun e w' => e = .returned (num (af a b)) ∧ Below w.heap.size w w'
  sd : ∀ a b, Dg a → Dg b → Dg (sf a b)
  sv : ∀ a b, Dg a → Dg b → (V (sf a b) + V b) % Prm.P = V a % Prm.P
  sc : ∀ a b, Dg a → Dg b → ∀ w, Calls Tryd.prog 81 #[num a, num b] w fun e w' => e = .returned (num (sf a b)) ∧ Below w.heap.size w w'
  md : ∀ a b, Dg a → Dg b → Dg (mf a b)
  mv : ∀ a b, Dg a → Dg b → V (mf a b) % Prm.P = (V a * V b) % Prm.P
  mc : ∀ a b, Dg a → Dg b → ∀ w, Calls Tryd.prog 82 #[num a, num b] w fun e w' => e = .returned (num (mf a b)) ∧ Below w.heap.size w w'
theorem two_fun {R : List Nat → List Nat → List Nat → Prop} (h : ∀ a b, Dg a → Dg b → ∃ r, R a b r) : ∃ f : List Nat → List Nat → List Nat, ∀ a b, Dg a → Dg b → R a b (f a b) := by
  classical
  refine ⟨fun a b => if hh : Dg a ∧ Dg b then Classical.choose (h a b hh.1 hh.2) else a, fun a b ha hb => ?_⟩
  have hh : Dg a ∧ Dg b := ⟨ha, hb⟩
  show R a b (dite (Dg a ∧ Dg b) _ _)
  rw [dif_pos hh]
  exact Classical.choose_spec (h a b hh.1 hh.2)
theorem opn : ∃ one zer cc af sf mf, Opn one zer cc af sf mf := by
  obtain ⟨one, d1, v1, c1⟩ := of_ok 1 (by decide)
  obtain ⟨zer, d0, v0, c0⟩ := of_ok 0 (by decide)
  obtain ⟨cc, dc, vc, ccc⟩ := of_ok 121665 (by decide)
  obtain ⟨af, ha⟩ := two_fun add_ok'
  obtain ⟨sf, hs⟩ := two_fun sub_ok'
  obtain ⟨mf, hm⟩ := two_fun mul_ok'
  exact ⟨one, zer, cc, af, sf, mf, d1, d0, dc, v1, v0, vc, c1, c0, ccc, fun a b p q => (ha a b p q).1, fun a b p q => (ha a b p q).2.1, fun a b p q => (ha a b p q).2.2, fun a b p q => (hs a b p q).1, fun a b p q => (hs a b p q).2.1, fun a b p q => (hs a b p q).2.2, fun a b p q => (hm a b p q).1, fun a b p q => (hm a b p q).2.1, fun a b p q => (hm a b p q).2.2⟩

theorem half_st (n m : Nat) : n / m = 2 * (n / (m * 2)) + n / m % 2 := by
  rw [← Nat.div_div_eq_div_mul]; omega
/-- The power p - 2. -/
def ivN (one a : List Nat) (mf : List Nat → List Nat → List Nat) : Nat → List Nat
  | 0 => one
  | j + 1 => if 254 - j = 2 ∨ 254 - j = 4 then mf (ivN one a mf j) (ivN one a mf j) else mf (mf (ivN one a mf j) (ivN one a mf j)) a
section
variable {one zer cc : List Nat} {af sf mf : List Nat → List Nat → List Nat}
theorem iv_dg (O : Opn one zer cc af sf mf) {a : List Nat} (ha : Dg a) : ∀ j, Dg (ivN one a mf j)
  | 0 => O.d1
  | j + 1 => by
    have ih := iv_dg O ha j
    rw [ivN]
    split
    · exact O.md _ _ ih ih
    · exact O.md _ _ (O.md _ _ ih ih) ha
theorem bit_p2 : ∀ i : Fin 255, (Prm.P - 2) / 2 ^ i.val % 2 = if i.val = 2 ∨ i.val = 4 then 0 else 1 := by decide +kernel
theorem iv_val (O : Opn one zer cc af sf mf) {a : List Nat} (ha : Dg a) : ∀ j, j ≤ 255 → V (ivN one a mf j) % Prm.P = V a ^ ((Prm.P - 2) / 2 ^ (255 - j)) % Prm.P
  | 0, _ => by
    have e : (Prm.P - 2) / 2 ^ (255 - 0) = 0 := by decide +kernel
    rw [e, Nat.pow_zero]
    exact O.v1
  | j + 1, hj => by
    have ih := iv_val O ha j (by omega)
    have hd := iv_dg O ha j
    have e1 : 255 - j = (255 - (j + 1)) + 1 := by omega
    have hb := bit_p2 ⟨254 - j, by omega⟩
    have e2 : 254 - j = 255 - (j + 1) := by omega
    simp only at hb
    have hs := half_st (Prm.P - 2) (2 ^ (255 - (j + 1)))
    have e3 : 2 ^ (255 - (j + 1)) * 2 = 2 ^ (255 - j) := by rw [e1, Nat.pow_succ]
    rw [e3, ← e2, hb] at hs
    have sq : V (mf (ivN one a mf j) (ivN one a mf j)) % Prm.P = V a ^ (2 * ((Prm.P - 2) / 2 ^ (255 - j))) % Prm.P := by
      rw [O.mv _ _ hd hd, mul_mod2 ih ih, ← Nat.pow_add, Nat.two_mul]
    rw [← e2, hs, ivN]
    generalize (Prm.P - 2) / 2 ^ (255 - j) = E at *
    split
    · rw [Nat.add_zero]; exact sq
    · rw [O.mv _ _ (O.md _ _ hd hd) ha, mul_mod2 sq rfl, ← Nat.pow_succ]

structure Ivs (n : Nat) (w wx : World) (g : Nat) (a x : List Nat) : Prop where
  va : Blk wx n (a.map dg) 134
  re : Blk wx (n + 1) (z10n.map dg) 134
  xx : Blk wx g (x.map dg) 134
  be : Below n w wx
  lt : n + 1 < g
theorem Ivs.on {n : Nat} {w wx wy : World} {g : Nat} {a x : List Nat} (h : Ivs n w wx g a x) (hb : Below wx.heap.size wx wy) : Ivs n w wy g a x :=
  ⟨h.va.on hb, h.re.on hb, h.xx.on hb, h.be.trans (hb.mono (by have := h.va.lt; omega)), h.lt⟩
theorem Ivs.put {n : Nat} {w wx : World} {g : Nat} {a x : List Nat} (h : Ivs n w wx g a x) (y : List Nat) : Ivs n w (wx.setRow g (y.map dg).toArray) g a y := by
  obtain ⟨p, q, r, s, t⟩ := h
  exact ⟨p.setRowOther _ _ (by omega), q.setRowOther _ _ (by omega), r.setRow _, below_setRow s _ _ (by omega), t⟩
theorem dg_sz {x y : List Nat} (hx : x.length = 10) (hy : y.length = 10) : (x.map dg).toArray.size = (y.map dg).toArray.size := by simp [hx, hy]

set_option maxRecDepth 100000 in
set_option maxHeartbeats 8000000 in
theorem inverse_walk (O : Opn one zer cc af sf mf) (a : List Nat) (ha : Dg a) (w : World) :
    Calls Tryd.prog 84 #[num a] w fun e w' => e = .returned (num (ivN one a mf 255)) ∧ Below w.heap.size w w' := by
  have la := ha.len
  have HI := hide (iv_dg O ha)
  have HA := hide ha
  have HO := hide O
  have c1 := O.c1
  have l1 := O.d1.len
  clear ha O
  go_enter Tryd.func84, Tryd.ntmps84
  go_upto_region 1 with (first | (refine wpList_boxAt rfl 134 (.tmp 0) rfl (a.map dg) rfl (w.heap.size) rfl ?_) | (refine wpList_newAt rfl 134 rfl (z10n.map dg) zero75 (w.heap.size + 1) (size1 _ _) ?_))
  have b0 : Blk ((w.alloc (.cells (a.map dg).toArray 134)).alloc (.cells (z10n.map dg).toArray 134)) w.heap.size (a.map dg) 134 := (Blk.new _ _ _).alloc _
  have b1 : Blk ((w.alloc (.cells (a.map dg).toArray 134)).alloc (.cells (z10n.map dg).toArray 134)) (w.heap.size + 1) (z10n.map dg) 134 := by
    have := Blk.new (w.alloc (.cells (a.map dg).toArray 134)) (z10n.map dg) 134
    simpa using this
  have be : Below w.heap.size w ((w.alloc (.cells (a.map dg).toArray 134)).alloc (.cells (z10n.map dg).toArray 134)) := by go_grown
  generalize (w.alloc (.cells (a.map dg).toArray 134)).alloc (.cells (z10n.map dg).toArray 134) = w1 at b0 b1 be ⊢
  obtain ⟨n, hn⟩ : ∃ n, w.heap.size = n := ⟨_, rfl⟩
  rw [hn] at b0 b1 be ⊢
  have hlow := b1.lt
  refine lst_newT 1 rfl rfl rfl rfl 3 rfl 134 rfl (z10n.map dg) zero75 rfl rfl (.tmp 5) rfl ?_
  simp only [List.take_succ_cons, List.take_zero]
  refine wpLex_cons2 _ (uni_callF (by rfl) 78 [Operand.const (Value.int IntKind.i64 1)] #[3] rfl [Value.int IntKind.i64 1] (num one) rfl enter78 (fun W hW => c1 W)) (by simp only [Act.put, List.setIfInBounds_toArray, List.set_cons_zero, List.set_cons_succ]; rfl) ?_; refine ⟨one.map dg, rfl, by simp, by simp, nm_info l1, nm_len l1, dgs_one _, fun g w2 lo hW xx => ?_⟩
  simp only [Act.put, List.setIfInBounds_toArray, List.set_cons_zero, List.set_cons_succ]
  have h0 : Hid (Ivs n w w2 g a (ivN one a mf 0)) := ⟨b0.on hW, b1.on hW, xx, be.trans (hW.mono (by have := be.size; omega)), by omega⟩
  clear b0 b1 be hW xx lo hlow c1 w1
  go_wp2
  go_loopw [4] (fun i wr => ∃ j : Nat, j ≤ 255 ∧ i = .int .i64 (254 - (j : Int)) ∧ Hid (Ivs n w wr g a (ivN one a mf j))) (fun i _ => ((intOf i) + 1).toNat)
  case atStart => exact ⟨0, by omega, rfl, h0⟩
  case round =>
    obtain ⟨j, hj, rfl, hs⟩ := hrel
    have hd := HI.out j
    have hpe : Hid (ivN one a mf (j + 1) = if 254 - j = 2 ∨ 254 - j = 4 then mf (ivN one a mf j) (ivN one a mf j) else mf (mf (ivN one a mf j) (ivN one a mf j)) a) := by rw [ivN]; exact hide rfl
    obtain ⟨L, hL⟩ : ∃ L, ivN one a mf j = L := ⟨_, rfl⟩
    have HL := hide hL
    rw [hL] at hs hd hpe
    clear hL
    have lL := hd.len
    by_cases hlt : j < 255
    · obtain ⟨b, hb⟩ : ∃ b, b = 254 - j := ⟨_, rfl⟩
      have hbi : (254 : Int) - (j : Int) = (b : Int) := by omega
      rw [hbi]
      rw [← hb] at hpe
      have hge : (0 : Int) ≤ (b : Int) := by omega
      have hbl : b ≤ 254 := by omega
      have cm := HO.out.mc L L hd hd
      have dY := HO.out.md L L hd hd
      have cm2 := HO.out.mc (mf L L) a dY HA.out
      have dZ := HO.out.md (mf L L) a dY HA.out
      generalize mf (mf L L) a = Z at cm2 dZ hpe
      generalize mf L L = Y at cm cm2 dY hpe
      have lY := dY.len
      have lZ := dZ.len
      have HB := hide hb
      clear hb hbi dY dZ hd
      by_cases h24 : b = 2 ∨ b = 4
      · rw [if_pos h24] at hpe
        have h24z : (b : Int) = 2 ∨ (b : Int) = 4 := by omega
        clear h24
        rcases h24z with hz | hz
        · rw [hz]
          go_wp2_with (first | (refine wpList_load_row rfl 134 (.tmp 3) rfl g rfl 134 (L.map dg).toArray (0, 0) _ hs.out.xx Tryd.underlying134 rfl (nm_infoA lL) ?_) | (go_at_call 82; refine (cm _).mono ?_; rintro e w3 ⟨rfl, hb3⟩; have B3 := hide hb3; clear hb3) | (refine wpList_store_row rfl 134 (.tmp 3) (.tmp 12) rfl g (Y.map dg).toArray rfl rfl 134 (L.map dg).toArray (hs.out.on B3.out).xx (nm_infoA lY) (dg_sz lL lY) (dgs_one _) ?_))
          go_roundw
          case rel =>
            refine ⟨j + 1, by omega, by have := HB.out; go_num, ?_⟩
            rw [hpe.out]
            exact (hs.out.on B3.out).put _
          case measure => have := HB.out; simp [intOf] <;> omega
        · rw [hz]
          go_wp2_with (first | (refine wpList_load_row rfl 134 (.tmp 3) rfl g rfl 134 (L.map dg).toArray (0, 0) _ hs.out.xx Tryd.underlying134 rfl (nm_infoA lL) ?_) | (go_at_call 82; refine (cm _).mono ?_; rintro e w3 ⟨rfl, hb3⟩; have B3 := hide hb3; clear hb3) | (refine wpList_store_row rfl 134 (.tmp 3) (.tmp 12) rfl g (Y.map dg).toArray rfl rfl 134 (L.map dg).toArray (hs.out.on B3.out).xx (nm_infoA lY) (dg_sz lL lY) (dgs_one _) ?_))
          go_roundw
          case rel =>
            refine ⟨j + 1, by omega, by have := HB.out; go_num, ?_⟩
            rw [hpe.out]
            exact (hs.out.on B3.out).put _
          case measure => have := HB.out; simp [intOf] <;> omega
      · rw [if_neg h24] at hpe
        have h2 : ((b : Int) == 2) = false := by simp; omega
        have h4 : ((b : Int) == 4) = false := by simp; omega
        have h2' : ((b : Int) != 2) = true := by simp; omega
        have h4' : ((b : Int) != 4) = true := by simp; omega
        clear h24
        go_wp2_with (first | (refine wpList_load_row rfl 134 (.tmp 3) rfl g rfl 134 (L.map dg).toArray (0, 0) _ hs.out.xx Tryd.underlying134 rfl (nm_infoA lL) ?_) | (go_at_call 82; refine (cm _).mono ?_; rintro e w3 ⟨rfl, hb3⟩; have B3 := hide hb3; clear hb3 cm) | (refine wpList_store_row rfl 134 (.tmp 3) (.tmp 12) rfl g (Y.map dg).toArray rfl rfl 134 (L.map dg).toArray (hs.out.on B3.out).xx (nm_infoA lY) (dg_sz lL lY) (dgs_one _) ?_) | (refine wpList_load_row rfl 134 (.tmp 3) rfl g rfl 134 (Y.map dg).toArray (0, 0) _ ((hs.out.on B3.out).put _).xx Tryd.underlying134 rfl (nm_infoA lY) ?_) | (refine wpList_load_row rfl 134 (.tmp 1) rfl n rfl 134 (a.map dg).toArray (0, 0) _ ((hs.out.on B3.out).put _).va Tryd.underlying134 rfl (nm_infoA la) ?_) | (go_at_call 82; refine (cm2 _).mono ?_; rintro e w4 ⟨rfl, hb4⟩; have B4 := hide hb4; clear hb4) | (refine wpList_store_row rfl 134 (.tmp 3) (.tmp 21) rfl g (Z.map dg).toArray rfl rfl 134 (Y.map dg).toArray (((hs.out.on B3.out).put _).on B4.out).xx (nm_infoA lZ) (dg_sz lY lZ) (dgs_one _) ?_))
        go_roundw
        case rel =>
          refine ⟨j + 1, by omega, by have := HB.out; go_num, ?_⟩
          rw [hpe.out]
          exact (((hs.out.on B3.out).put _).on B4.out).put _
        case measure => have := HB.out; simp [intOf] <;> omega
    · obtain rfl : j = 255 := by omega
      clear hpe
      go_wp2_with (first | (refine wpList_load_row rfl 134 (.tmp 3) rfl g rfl 134 (L.map dg).toArray (0, 0) _ hs.out.xx Tryd.underlying134 rfl (nm_infoA lL) ?_) | (refine wpList_store_row rfl 134 (.tmp 2) (.tmp 22) rfl (n + 1) (L.map dg).toArray rfl rfl 134 (z10n.map dg).toArray hs.out.re (nm_infoA lL) (nm_size lL) (dgs_one _) ?_))
      refine bodyPost_ret (results_cell_row Tryd.results84 _ _ (n + 1) 134 (L.map dg).toArray (0, 0) _ rfl (hs.out.re.setRow _) Tryd.underlying134 rfl (nm_infoA lL)) rfl ?_
      exact ⟨by rw [HL.out]; rfl, by first | (rw [hn]; exact below_setRow hs.out.be _ _ (by omega)) | exact below_setRow hs.out.be _ _ (by omega)⟩
end
end Go.Proofs.YtoceepmehmacbaaDoor.Cv
set_option linter.unusedVariables false
set_option linter.unusedSimpArgs false
namespace Go.Proofs.YtoceepmehmacbaaDoor.Cv
open Go.RowKit Prm Edw

theorem set_at (k : List UInt8) (i j : Nat) (x : UInt8) (h : i ≠ j) : (k.set i x).getD j 0 = k.getD j 0 := by
  rw [List.getD_eq_getElem?_getD, List.getElem?_set_ne h, ← List.getD_eq_getElem?_getD]
theorem set_in (k : List UInt8) (i : Nat) (x : UInt8) (h : i < k.length) : (k.set i x).getD i 0 = x := by
  rw [List.getD_eq_getElem?_getD, List.getElem?_set_self h]; rfl
end Go.Proofs.YtoceepmehmacbaaDoor.Cv
set_option linter.unusedVariables false
set_option linter.unusedSimpArgs false
namespace Go.Proofs.YtoceepmehmacbaaDoor.Cv
open Go.RowKit

theorem it_exact (t : List Nat) (ht : t.length = 10) (h : V t < 67108864 ^ 10) : V (itL t 3).1 = V t := by
  have i1 : itL t 1 = (psE t, psC t 10) := by rw [itL, if_neg (by simp [itL])]; rfl
  have c0 : psC t 10 = 0 := by rw [(psC_eq t ht).1]; exact Nat.div_eq_of_lt h
  have hst : itL t (1 + 2) = itL t 1 := it_stop t 1 (by rw [i1]; exact c0) 2
  rw [show 3 = 1 + 2 from rfl, hst, i1]
  dsimp only
  rw [psE_val t ht, Nat.div_eq_of_lt h, Nat.mod_eq_of_lt h, Nat.mul_zero, Nat.add_zero]
theorem vs_div {t : List Nat} (h : ∀ i, t.getD i 0 < 67108864) : ∀ r d, d < r → vs t r / 67108864 ^ d % 67108864 = t.getD d 0
  | 0, d, hd => by omega
  | r + 1, d, hd => by
    rw [vs]
    by_cases hq : d = r
    · subst hq
      have hl := vs_lt h d
      rw [Nat.add_mul_div_right _ _ (Nat.pow_pos (by decide)), Nat.div_eq_of_lt hl, Nat.zero_add]
      exact Nat.mod_eq_of_lt (h d)
    · have ih := vs_div h r d (by omega)
      obtain ⟨e, he⟩ : ∃ e, r = d + (e + 1) := ⟨r - d - 1, by omega⟩
      have ee : t.getD r 0 * 67108864 ^ r = t.getD r 0 * 67108864 ^ e * 67108864 * 67108864 ^ d := by
        rw [he, Nat.pow_add, Nat.pow_succ, Nat.mul_comm (67108864 ^ d), ← Nat.mul_assoc, ← Nat.mul_assoc]
      rw [ee, Nat.add_mul_div_right _ _ (Nat.pow_pos (by decide)), Nat.add_mul_mod_self_right, ih]
theorem top_is {t : List Nat} (h : ∀ i, t.getD i 0 < 67108864) : V t / 2 ^ 255 = t.getD 9 0 / 2097152 ∧ V t / 67108864 ^ 9 = t.getD 9 0 := by
  have e1 : V t = vs t 9 + t.getD 9 0 * 67108864 ^ 9 := rfl
  have hl := vs_lt h 9
  have e2 : V t / 67108864 ^ 9 = t.getD 9 0 := by rw [e1, Nat.add_mul_div_right _ _ (Nat.pow_pos (by decide)), Nat.div_eq_of_lt hl, Nat.zero_add]
  refine ⟨?_, e2⟩
  rw [show 2 ^ 255 = 67108864 ^ 9 * 2097152 by decide +kernel, ← Nat.div_div_eq_div_mul, e2]
theorem set_set (t : List Nat) (k x y : Nat) (hy : t.getD k 0 = y) (hk : k < t.length) : (t.set k x).set k y = t := by
  apply List.ext_getElem (by simp)
  intro i h1 h2
  by_cases hi : i = k
  · subst hi
    rw [List.getElem_set_self, ← hy, List.getD_eq_getElem?_getD, List.getElem?_eq_getElem h2]
    rfl
  · rw [List.getElem_set_ne (by omega), List.getElem_set_ne (by omega)]
/-- What is above 2^255 folded. -/
def fw (t : List Nat) : List Nat := (t.set 9 (t.getD 9 0 % 2097152)).set 0 (t.getD 0 0 + 19 * (t.getD 9 0 / 2097152))
theorem fw_len (t : List Nat) : (fw t).length = t.length := by simp [fw]
theorem fw_val (t : List Nat) (ht : t.length = 10) : V (fw t) + (t.getD 9 0 / 2097152) * Prm.P = V t := by
  obtain ⟨q, hq⟩ : ∃ q, t.getD 9 0 / 2097152 = q := ⟨_, rfl⟩
  obtain ⟨r, hr⟩ : ∃ r, t.getD 9 0 % 2097152 = r := ⟨_, rfl⟩
  have h9 : t.getD 9 0 = r + q * 2097152 := by rw [← hq, ← hr]; omega
  have hl : (t.set 9 r).length = 10 := by simp [ht]
  have h0 : (t.set 9 r).getD 0 0 = t.getD 0 0 := setD_at _ _ _ _ (by decide)
  have s1 := vs_setk (t.set 9 r) 9 (q * 2097152) (by omega) 10
  rw [setD_in _ _ _ (by omega), ← h9, set_set t 9 r _ rfl (by omega), if_pos (by decide)] at s1
  have s2 := vs_setk (t.set 9 r) 0 (19 * q) (by omega) 10
  rw [h0, if_pos (by decide), Nat.pow_zero, Nat.mul_one] at s2
  show vs (fw t) 10 + _ = vs t 10
  unfold fw
  rw [hq, hr, s1, s2]
  have hp : 2097152 * 67108864 ^ 9 = Prm.P + 19 := by decide +kernel
  rw [Nat.mul_assoc, hp, Nat.mul_add, Nat.add_assoc, Nat.add_comm (19 * q), Nat.mul_comm 19 q]
def wrL (t : List Nat) : Nat → List Nat
  | 0 => t
  | j + 1 => if 2097152 ≤ (wrL t j).getD 9 0 then (itL (fw (wrL t j)) 3).1 else wrL t j
theorem fw_small {t : List Nat} (ht : Dg t) (i : Nat) : (fw t).getD i 0 ≤ 4611686018427387903 := by
  have h0 := ht.lt 0
  have h9 := ht.lt 9
  have hi := ht.lt i
  have hl := ht.len
  unfold fw
  by_cases e : i = 0
  · subst e
    rw [setD_in _ _ _ (by simp; omega)]
    omega
  · rw [setD_at _ _ _ _ (by omega)]
    by_cases e9 : i = 9
    · subst e9
      rw [setD_in _ _ _ (by omega)]
      omega
    · rw [setD_at _ _ _ _ (by omega)]
      omega
theorem V_lt {t : List Nat} (ht : Dg t) : V t < 67108864 ^ 10 := vs_lt ht.lt 10
theorem wr_step {t : List Nat} (ht : Dg t) : Dg (itL (fw t) 3).1 ∧ V (itL (fw t) 3).1 + (V t / 2 ^ 255) * Prm.P = V t := by
  have hl : (fw t).length = 10 := by rw [fw_len, ht.len]
  have hv := fw_val t ht.len
  refine ⟨it_dg _ hl 2 (it_end _ hl (fw_small ht)), ?_⟩
  rw [it_exact _ hl (by have := V_lt ht; omega), (top_is ht.lt).1]
  exact hv
theorem wr_dg {t : List Nat} (ht : Dg t) : ∀ j, Dg (wrL t j)
  | 0 => ht
  | j + 1 => by
    rw [wrL]
    split
    · exact (wr_step (wr_dg ht j)).1
    · exact wr_dg ht j
theorem wr_mod {t : List Nat} (ht : Dg t) : ∀ j, V (wrL t j) % Prm.P = V t % Prm.P
  | 0 => rfl
  | j + 1 => by
    rw [wrL]
    split
    · have h := (wr_step (wr_dg ht j)).2
      rw [← wr_mod ht j, ← h, Nat.add_mul_mod_self_right]
    · exact wr_mod ht j
theorem wr_num {a b c X Q : Nat} (hX : X = Q + 19) (ha : a < 32 * X) (hQ : 1000 < Q) (hb : b + a / X * Q = a) (h1 : X ≤ b) (hc : c + b / X * Q = b) : c < X := by
  have hq : a / X < 32 := Nat.div_lt_of_lt_mul (by rw [Nat.mul_comm]; exact ha)
  have e := Nat.div_add_mod a X
  have hm := Nat.mod_lt a (show 0 < X by omega)
  have e2 : X * (a / X) = a / X * Q + 19 * (a / X) := by rw [hX, Nat.add_mul, Nat.mul_comm Q]
  have hb2 : b < X + 608 := by omega
  have hb3 : b / X = 1 := by
    have h2 : b / X < 2 := Nat.div_lt_of_lt_mul (by omega)
    have h3 : 1 ≤ b / X := (Nat.le_div_iff_mul_le (by omega)).2 (by omega)
    omega
  rw [hb3, Nat.one_mul] at hc
  omega
theorem wr_end {t : List Nat} (ht : Dg t) : (wrL t 2).getD 9 0 < 2097152 := by
  have key : ∀ s : List Nat, Dg s → (s.getD 9 0 < 2097152 ↔ V s < 2 ^ 255) := fun s hs => by
    have h := (top_is hs.lt).1
    constructor
    · intro h9
      have : V s / 2 ^ 255 = 0 := by rw [h]; omega
      exact (Nat.div_eq_zero_iff.1 this).resolve_left (by decide)
    · intro hv
      rw [Nat.div_eq_of_lt hv] at h
      omega
  have d1 := wr_dg ht 1
  have d2 := wr_dg ht 2
  rw [key _ d2]
  have e2 : wrL t 2 = if 2097152 ≤ (wrL t 1).getD 9 0 then (itL (fw (wrL t 1)) 3).1 else wrL t 1 := by rw [wrL]
  have e1 : wrL t 1 = if 2097152 ≤ t.getD 9 0 then (itL (fw t) 3).1 else t := by rw [wrL]; rfl
  by_cases h1 : 2097152 ≤ (wrL t 1).getD 9 0
  · rw [if_pos h1] at e2
    have hv1 : 2 ^ 255 ≤ V (wrL t 1) := by
      rcases Nat.lt_or_ge (V (wrL t 1)) (2 ^ 255) with h | h
      · have := (key _ d1).2 h; omega
      · exact h
    have s2 := (wr_step d1).2
    rw [← e2] at s2
    by_cases h0 : 2097152 ≤ t.getD 9 0
    · rw [if_pos h0] at e1
      have s1 := (wr_step ht).2
      rw [← e1] at s1
      refine wr_num (Q := Prm.P) (by decide +kernel) ?_ (by decide +kernel) s1 hv1 s2
      have := V_lt ht
      rwa [show 67108864 ^ 10 = 32 * 2 ^ 255 by decide +kernel] at this
    · rw [if_neg h0] at e1
      rw [e1] at h1
      exact absurd h1 h0
  · rw [if_neg h1] at e2
    rw [e2]
    exact (key _ d1).1 (by omega)
theorem wr_stop (t : List Nat) (j : Nat) (h : (wrL t j).getD 9 0 < 2097152) : ∀ k, wrL t (j + k) = wrL t j
  | 0 => rfl
  | k + 1 => by rw [← Nat.add_assoc, wrL, wr_stop t j h k, if_neg (by omega)]
/-- The comparison with the prime. -/
def mm (t : List Nat) : List Nat := (itL (t.set 0 (t.getD 0 0 + 19)) 3).1
def fin (t : List Nat) : List Nat := if 2097152 ≤ (mm t).getD 9 0 then (mm t).set 9 ((mm t).getD 9 0 - 2097152) else t
theorem mm_is {t : List Nat} (ht : Dg t) (hv : V t < 2 ^ 255) : Dg (mm t) ∧ V (mm t) = V t + 19 := by
  have hl : (t.set 0 (t.getD 0 0 + 19)).length = 10 := by rw [List.length_set, ht.len]
  have hV : V (t.set 0 (t.getD 0 0 + 19)) = V t + 19 := vs_set0 t ht.len 19 9
  have hs : ∀ i, (t.set 0 (t.getD 0 0 + 19)).getD i 0 ≤ 4611686018427387903 := fun i => by
    have h0 := ht.lt 0
    have hi := ht.lt i
    have hl := ht.len
    by_cases e : i = 0
    · subst e; rw [setD_in _ _ _ (by omega)]; omega
    · rw [setD_at _ _ _ _ (by omega)]; omega
  refine ⟨it_dg _ hl 2 (it_end _ hl hs), ?_⟩
  unfold mm
  rw [it_exact _ hl, hV]
  rw [hV]
  have : 2 ^ 255 + 19 < 67108864 ^ 10 := by decide +kernel
  omega
theorem fin_is {t : List Nat} (ht : Dg t) (hv : V t < 2 ^ 255) : Dg (fin t) ∧ V (fin t) = V t % Prm.P := by
  obtain ⟨dm, vm⟩ := mm_is ht hv
  have htop := (top_is dm.lt).1
  have hP : 2 ^ 255 = Prm.P + 19 := by decide +kernel
  have hP2 : 1000 < Prm.P := by decide +kernel
  unfold fin
  split
  · rename_i h
    have hge : Prm.P ≤ V t := by
      rcases Nat.lt_or_ge (V t) Prm.P with h1 | h1
      · have : V (mm t) / 2 ^ 255 = 0 := Nat.div_eq_of_lt (by rw [vm, hP]; omega)
        rw [htop] at this
        omega
      · exact h1
    have h9 := dm.lt 9
    have hl := dm.len
    constructor
    · refine ⟨by rw [List.length_set, hl], fun i => ?_⟩
      by_cases e : i = 9
      · subst e; rw [setD_in _ _ _ (by omega)]; omega
      · rw [setD_at _ _ _ _ (by omega)]; exact dm.lt i
    · obtain ⟨x, hx⟩ : ∃ x, (mm t).getD 9 0 - 2097152 = x := ⟨_, rfl⟩
      have h9x : (mm t).getD 9 0 = x + 2097152 := by omega
      have s1 := vs_setk ((mm t).set 9 x) 9 2097152 (by simp; omega) 10
      rw [setD_in _ _ _ (by omega), ← h9x, set_set (mm t) 9 x _ rfl (by omega), if_pos (by decide), show 2097152 * 67108864 ^ 9 = 2 ^ 255 by decide +kernel] at s1
      have s2 : V (mm t) = V ((mm t).set 9 x) + 2 ^ 255 := s1
      rw [hx]
      rw [vm, hP] at s2
      have e : V ((mm t).set 9 x) = V t - Prm.P := by omega
      rw [e, Nat.mod_eq_sub_mod hge, Nat.mod_eq_of_lt (by omega)]
  · rename_i h
    refine ⟨ht, ?_⟩
    have hlt : V t < Prm.P := by
      rcases Nat.lt_or_ge (V t) Prm.P with h1 | h1
      · exact h1
      · have : 1 ≤ V (mm t) / 2 ^ 255 := (Nat.le_div_iff_mul_le (by decide)).2 (by rw [vm, hP]; omega)
        rw [htop] at this
        omega
    exact (Nat.mod_eq_of_lt hlt).symm
/-- One bit more. -/
theorem nb_bit (v i : Nat) (hi : i < 255) (hb : v / 2 ^ i % 2 = 1) : nb (v % 2 ^ (i + 1)) = (nb (v % 2 ^ i)).set (i / 8) (UInt8.ofNat (((nb (v % 2 ^ i)).getD (i / 8) 0).toNat + 2 ^ (i % 8))) ∧ ((nb (v % 2 ^ i)).getD (i / 8) 0).toNat + 2 ^ (i % 8) < 256 := by
  obtain ⟨a, ha⟩ : ∃ a, v % 2 ^ i = a := ⟨_, rfl⟩
  have hal : a < 2 ^ i := by rw [← ha]; exact Nat.mod_lt _ (Nat.two_pow_pos i)
  have e1 : v % 2 ^ (i + 1) = a + 2 ^ i := by rw [Nat.pow_succ, Nat.mod_mul, ha, hb, Nat.mul_one]
  rw [ha, e1]
  have e8 : 2 ^ i = 256 ^ (i / 8) * 2 ^ (i % 8) := by
    rw [show (256 : Nat) = 2 ^ 8 from rfl, ← Nat.pow_mul, ← Nat.pow_add]
    congr 1
    omega
  have hpos : 0 < 256 ^ (i / 8) := Nat.pow_pos (by decide)
  have hr : 2 ^ (i % 8) ≤ 128 := by
    have : 2 ^ (i % 8) ≤ 2 ^ 7 := Nat.pow_le_pow_right (by decide) (by omega)
    exact this
  have hq : a / 256 ^ (i / 8) < 2 ^ (i % 8) := Nat.div_lt_of_lt_mul (by rw [← e8]; exact hal)
  have hbyte : ((nb a).getD (i / 8) 0).toNat = a / 256 ^ (i / 8) := by
    rw [nb_at a _ (by omega), UInt8.toNat_ofNat']
    exact Nat.mod_eq_of_lt (by omega)
  rw [hbyte]
  refine ⟨getD_ext' (nb_length _) (by rw [List.length_set, nb_length]) fun j hj => ?_, by omega⟩
  rw [nb_at _ j hj]
  by_cases hji : i / 8 = j
  · subst hji
    rw [set_in _ _ _ (by rw [nb_length]; omega), e8, Nat.add_mul_div_left _ _ hpos]
  · rw [set_at _ _ _ _ hji, nb_at _ j hj]
    apply UInt8.toNat_inj.1
    rw [UInt8.toNat_ofNat', UInt8.toNat_ofNat']
    rcases Nat.lt_or_ge j (i / 8) with h | h
    · obtain ⟨c, hc⟩ : ∃ c, i / 8 = j + (c + 1) := ⟨i / 8 - j - 1, by omega⟩
      have e9 : 2 ^ i = 256 ^ j * (256 * (256 ^ c * 2 ^ (i % 8))) := by rw [e8, hc, Nat.pow_add, Nat.pow_succ, Nat.mul_comm (256 ^ c), Nat.mul_assoc, Nat.mul_assoc]
      rw [e9, Nat.add_mul_div_left _ _ (Nat.pow_pos (by decide)), Nat.add_mul_mod_self_left]
    · have hj1 : i / 8 + 1 ≤ j := by omega
      have hle : 256 ^ (i / 8 + 1) ≤ 256 ^ j := Nat.pow_le_pow_right (by decide) hj1
      have h256 : a + 2 ^ i < 256 ^ (i / 8 + 1) := by
        rw [Nat.pow_succ]
        have : 2 ^ i ≤ 256 ^ (i / 8) * 128 := by rw [e8]; exact Nat.mul_le_mul_left _ hr
        omega
      rw [Nat.div_eq_of_lt (by omega), Nat.div_eq_of_lt (by omega)]
theorem nb_nobit (v i : Nat) (hb : v / 2 ^ i % 2 = 0) : nb (v % 2 ^ (i + 1)) = nb (v % 2 ^ i) := by
  rw [Nat.pow_succ, Nat.mod_mul, hb, Nat.mul_zero, Nat.add_zero]
theorem dig_bit {t : List Nat} (ht : Dg t) (i : Nat) (hi : i < 255) : t.getD (i / 26) 0 / 2 ^ (i % 26) % 2 = V t / 2 ^ i % 2 := by
  have h := vs_div ht.lt 10 (i / 26) (by omega)
  rw [← h]
  show V t / 67108864 ^ (i / 26) % 67108864 / 2 ^ (i % 26) % 2 = _
  have e : 2 ^ i = 67108864 ^ (i / 26) * 2 ^ (i % 26) := by
    rw [show (67108864 : Nat) = 2 ^ 26 from rfl, ← Nat.pow_mul, ← Nat.pow_add]
    congr 1
    omega
  rw [e, ← Nat.div_div_eq_div_mul]
  generalize V t / 67108864 ^ (i / 26) = x
  have e2 : 67108864 = 2 ^ (i % 26) * 2 ^ (26 - i % 26) := by rw [← Nat.pow_add, show i % 26 + (26 - i % 26) = 26 by omega]
  conv => lhs; lhs; lhs; rw [e2]
  rw [Nat.mod_mul_right_div_self]
  have e3 : 2 ^ (26 - i % 26) = 2 * 2 ^ (25 - i % 26) := by rw [show 26 - i % 26 = (25 - i % 26) + 1 by omega, Nat.pow_succ, Nat.mul_comm]
  rw [e3, Nat.mod_mul_right_mod]
end Go.Proofs.YtoceepmehmacbaaDoor.Cv
