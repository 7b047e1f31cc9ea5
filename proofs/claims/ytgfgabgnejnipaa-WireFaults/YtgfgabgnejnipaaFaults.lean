import Derived.Test.YtgfgabgnejnipaaReads
import Derived.Deep.CutBlock
namespace Go.Proofs.Ytgfgabgnejnipaa
open Go.RowKit

theorem Flds.len {w : World} {v : Value} {fs : List Fd} (h : Flds w v fs) (W : World) (ty : TypeId) : (Builtin.len_ #[34] ty #[v]).run Try.prog W = .ok (.int .i64 fs.length) W := by
  rcases h with ⟨rfl, rfl⟩ | ⟨ad, cap, rfl, h2, h3⟩
  · go_simp
  · go_simp

/-- One field of them: its address, in whatever world; what lies there. -/
theorem Flds.at {w : World} {v : Value} {fs : List Fd} (h : Flds w v fs) (k : Nat) (hk : k < fs.length) :
    ∃ ad : Addr, (∀ W, (Instr.indexAt 34 v (.int .i64 (k : Int))).run Try.prog W = .ok (.pointer (some ad)) W) ∧
      w.cell? ad = some (.int .i64 fs[k].kind) ∧ w.cell? ⟨ad.block, ad.off + 1, none⟩ = some (.int .i64 fs[k].n) ∧ w.cell? ⟨ad.block, ad.off + 2, none⟩ = some fs[k].v ∧ Has w fs[k].v fs[k].bs ∧ fs[k].bs.length ≤ 9223372036854775807 := by
  rcases h with ⟨rfl, rfl⟩ | ⟨ad, cap, rfl, h2, h3⟩
  · simp at hk
  · refine ⟨ad.add (k * 3), fun W => ?_, h3 k fs[k] (List.getElem?_eq_getElem hk)⟩
    have hk' : (k : Int) < (fs.length : Int) := by omega
    go_simp

theorem made_own {w : World} {base g n : Nat} (h : w.ownsRow base 5 1 (.slice (some ⟨g, 0, none⟩) n n) n (madeCells (Value.int .u8 0).cells (n * 1)).toList) : Has w (.slice (some ⟨g, 0, none⟩) n n) (List.replicate n 0) := by
  have e : (madeCells (Value.int .u8 0).cells (n * 1)).toList = (List.replicate n (0 : UInt8)).map byt := by
    rw [List.map_replicate]
    apply List.ext_getElem?
    intro i
    simp [madeCells, Value.cells, List.getElem?_replicate, byt, Nat.mod_one]
    split <;> simp_all
  rw [e] at h
  have h' : Own w base (.slice (some ⟨g, 0, none⟩) (List.replicate n (0 : UInt8)).length n) (List.replicate n 0) := by
    unfold Own
    rw [List.length_replicate]
    exact h
  have := h'.has
  rwa [List.length_replicate] at this

theorem has_new4 (W : World) : Has (W.alloc (.cells #[byt 0, byt 2, byt 9, byt 9] 5)) (.slice (some ⟨W.heap.size, 0, none⟩) 4 4) [0, 2, 9, 9] := by
  refine .inr ⟨_, 4, rfl, Nat.le_refl _, fun i u hu => ?_⟩
  rw [add_plain]
  unfold World.cell?
  dsimp only
  rw [at_new W _ (.cells #[byt 0, byt 2, byt 9, byt 9] 5) ⟨rfl, rfl, rfl, rfl⟩]
  match i, hu with
  | 0, hu => simp at hu; subst hu; simp
  | 1, hu => simp at hu; subst hu; simp
  | 2, hu => simp at hu; subst hu; simp
  | 3, hu => simp at hu; subst hu; simp

theorem rfix_first (E R all : List UInt8) (h : E ++ R = all) : rfix all 0 0 (E.length : Int) = (E, E.length, 0) := by
  subst h
  unfold rfix
  rw [if_neg (by simp), if_neg (by omega), if_neg (by simp; omega)]
  simp

theorem rfix_keep (all : List UInt8) (a : Nat) {j : Int} (n : Int) (h : (j == 0) = false) : rfix all a j n = ([], a, j) := by
  unfold rfix
  rw [if_pos (by simpa using h)]
theorem rrun_keep (all : List UInt8) (a : Nat) {j : Int} (n : Int) (h : (j == 0) = false) : rrun all a j n = ([], a, j) := by
  unfold rrun
  rw [if_pos (by simpa using h)]
theorem rfix_neg (all : List UInt8) (a : Nat) (n : Int) (h : n < 0) : rfix all a 0 n = ([], a, 4) := by
  unfold rfix
  rw [if_neg (by simp), if_pos h]
theorem rrun_two (E all : List UInt8) (h : E ++ [0, 2, 9, 9] = all) : rrun all E.length 0 1 = ([], E.length, 12) := by
  subst h
  have e : ((E ++ [0, 2, 9, 9]).drop E.length).take 2 = [0, 2] := by simp
  unfold rrun
  rw [e, if_neg (by simp), if_neg (by simp; omega), if_pos (by decide)]

theorem flt_keep {k j : Int} (h : (k == 0) = false) : flt k j = k := by
  unfold flt
  rw [if_pos (by simpa using h)]

theorem put1_keep (most : Nat) (bs ys : List UInt8) {k : Int} (h : (k == 0) = false) : put1 most bs k ys = (bs, k) := by
  unfold put1
  rw [if_pos (by simpa using h)]

set_option maxRecDepth 100000 in
set_option maxHeartbeats 2000000 in
theorem faults_any (av bv : Value) (fs gs : List Fd) (kind n : Int) (w : World) (ha : Flds w av fs) (hb : Flds w bv gs) (hfl : fs.length ≤ 9223372036854775807) (_hgl : gs.length ≤ 9223372036854775807) :
    Calls Try.prog 5 #[av, .int .i64 kind, .int .i64 n, bv] w fun e w' => e = .returned (.bool true) ∧ Below w.heap.size w w' := by
  have la := ha.len
  have lb := hb.len
  have HA := hide ha
  have HB := hide hb
  clear ha hb
  go_enter Try.func5, Try.ntmps5
  go_wp2_with fail
  refine (written_any _ fs _ HA.out hfl).mono ?_
  rintro e w1 ⟨ao, cp, rfl, ho1, hb1⟩
  have hE := encs_length fs 20
  have HEK : Hid (∀ k, k ≤ 20 → (encs fs k).length ≤ (encs fs 20).length) := fun k hk => by
    unfold encs
    rw [← List.take_append_drop k (fs.take 20), List.flatMap_append, List.length_append, List.take_take, Nat.min_eq_left hk]
    omega
  have HE20 := hide (encs_all fs)
  generalize hE20 : encs fs 20 = E at *
  have HO1 := hide ho1
  have HB1 := hide hb1
  clear ho1 hb1
  go_wp2_with fail
  refine (newWriter_ok (E.length + 3) _ (by omega)).mono ?_
  rintro e w2 ⟨rfl, hw2, hb2⟩
  have HW2 := hide hw2
  have HB2 := hide (bel_chain HB1.out hb2)
  have HO2 := hide (HO1.out.has.early hb2 (Nat.le_refl _))
  have HP := hide HB1.out.size
  clear hw2 hb2 HO1 HB1
  generalize hp : w1.heap.size = p at *
  clear hp
  have hE3 : E.length ≤ 6040 := by omega
  go_upto_block 0 with fail
  go_cut [13] from 22 to 59 (fun _ wx => (∃ v, Hid (Wr wx p v (E.length + 3) E 0)) ∧ Hid (Below p w2 wx))
  case first =>
    go_wp2_with fail
    go_loopw [13] (fun i wr => ∃ (k : Nat) (v : Value), k ≤ fs.length ∧ k ≤ 20 ∧ i = .int .i64 k ∧ Hid (Wr wr p v (E.length + 3) (encs fs k) 0) ∧ Hid (Below p w2 wr)) (fun i _ => fs.length - (intOf i).toNat)
    case atStart => exact ⟨0, _, Nat.zero_le _, Nat.zero_le _, rfl, HW2, Below.refl _ _⟩
    case round =>
      obtain ⟨k, v, hk, hk20, rfl, hw, hb⟩ := hrel
      by_cases hlt : k < fs.length ∧ k < 20
      · obtain ⟨hl1, hl2⟩ := hlt
        have hl1' : (k : Int) < (fs.length : Int) := by omega
        have hl2' : (k : Int) < 20 := by omega
        have BW := hide (HB2.out.trans (hb.out.mono HP.out))
        obtain ⟨ad, ha, f1, f2, f3, f4, f5⟩ := HA.out.at k hl1
        have c1 := at_below BW.out f1
        have c2 := at_below BW.out f2
        have c3 := at_below BW.out f3
        have hfit : Hid (put1 (E.length + 3) (encs fs k) 0 (enc fs[k].kind fs[k].n fs[k].bs) = (encs fs (k + 1), 0)) := by
          have h1 := HEK.out (k + 1) (by omega)
          have h2 := encs_step fs k hl1
          rw [h2] at h1 ⊢
          rw [List.length_append] at h1
          exact put1_fits _ _ _ (by omega)
        have hekl := HEK.out k hk20
        have hyP := hide (f4.early (p := p) BW.out HP.out)
        clear f1 f2 f3 f4
        go_wp2_with fail
        refine (put_any p v fs[k].v (E.length + 3) (encs fs k) 0 fs[k].kind fs[k].n fs[k].bs _ hw.out (by omega) (by omega) hyP.out f5).mono ?_
        rintro e w3 ⟨rfl, v3, h3, hb3⟩
        rw [hfit.out] at h3
        have HW3 := hide h3
        have HB3 := hide (hb.out.trans hb3)
        clear h3 hb3 c1 c2 c3 ha hw hb BW hyP
        go_wp2
        go_roundw
        case rel => exact ⟨k + 1, v3, by omega, by omega, by go_num, HW3, HB3⟩
        case measure => simp [intOf]; omega
      · have hEk : encs fs k = E := by
          by_cases hh : k < fs.length
          · rw [← hE20, show k = 20 by omega]
          · exact HE20.out k (by omega) hk20
        rw [hEk] at hw
        clear hEk
        by_cases hh : k < fs.length
        · have t1 : (k : Int) < (fs.length : Int) := by omega
          have t2 : ¬ (k : Int) < 20 := by omega
          go_wp2_with fail
          go_meet
          exact ⟨⟨v, hw⟩, hb⟩
        · have t1 : ¬ (k : Int) < (fs.length : Int) := by omega
          go_wp2_with fail
          go_meet
          exact ⟨⟨v, hw⟩, hb⟩
  case rest =>
  obtain ⟨⟨v3, hw3⟩, hb3⟩ := hcut
  rename World => w3
  go_wp2_with fail
  refine (rest_any _ _ _ (by omega) (by omega)).mono ?_
  rintro e w4 ⟨rfl, rfl⟩
  go_wp2_with fail
  refine (rest_any _ _ _ (by omega) (by omega)).mono ?_
  rintro e w5 ⟨rfl, rfl⟩
  go_upto_block 2 with fail
  clear HA HEK HE20 hE20 la HW2
  go_cut [15] from 60 to 90 (fun s wx => (∃ k v, s = .int .i64 k ∧ Hid ((k == 0) = false) ∧ Hid (Wr wx p v (E.length + 3) E k)) ∧ Hid (Below p w5 wx))
  case first =>
    have h5 : kind % 5 = 0 ∨ kind % 5 = 1 ∨ kind % 5 = 2 ∨ kind % 5 = 3 ∨ kind % 5 = 4 := by omega
    clear lb HB HB2 HO2 HP
    rcases h5 with hk | hk | hk | hk | hk
    · go_wp2_with fail
      refine (u8_bad p v3 _ E 0 _ _ hw3.out (.inl (by omega))).mono ?_
      rintro e w6 ⟨rfl, h1, h2⟩
      go_wp2_with fail
      go_meet
      exact ⟨⟨4, v3, rfl, rfl, h1⟩, h2⟩
    · go_wp2_with fail
      refine (rest_any _ _ _ (by omega) (by omega)).mono ?_
      rintro e w6 ⟨rfl, rfl⟩
      go_wp2_with fail
      refine (u8_bad p v3 _ E 0 _ _ hw3.out (.inr (by omega))).mono ?_
      rintro e w7 ⟨rfl, h1, h2⟩
      go_wp2_with fail
      go_meet
      exact ⟨⟨4, v3, rfl, rfl, h1⟩, h2⟩
    · go_wp2_with fail
      refine (rest_any _ _ _ (by omega) (by omega)).mono ?_
      rintro e w6 ⟨rfl, rfl⟩
      go_wp2_with fail
      refine (u16_bad p v3 _ E 0 _ _ hw3.out (.inr (by omega))).mono ?_
      rintro e w7 ⟨rfl, h1, h2⟩
      go_wp2_with fail
      go_meet
      exact ⟨⟨4, v3, rfl, rfl, h1⟩, h2⟩
    · obtain ⟨i0, hi, hz0, hz1, hz2⟩ := info_parts Try.info5
      go_wp2_with (at_make; refine wpList_make_full _ rfl _ _ _ rfl w5.heap.size 5 i0 (.int .u8 0) 1 Try.underlying22 hi hz0 hz1 .i64 .i64 _ _ 65536 rfl rfl (by decide) (by decide) (by rw [hz2]; omega) (by unfold maxLen; omega) (Nat.le_refl _) ?_)
      intro w6 hrow hg
      have hb6 := (Below.refl w5.heap.size w5).grown hg (Nat.le_refl _) (by intro j hj; cases hj)
      have HM := hide (made_own hrow)
      have HW6 := hide (hw3.out.below hb6)
      have HB6 := hide (hb6.mono (Nat.le_of_lt hw3.out.lt))
      clear hrow hg hb6 hi hz0 hz1 hz2 i0
      go_wp2_with fail
      refine (run_bad p v3 _ _ E _ 0 _ HW6.out HM.out (by rw [List.length_replicate]; omega) (by rw [List.length_replicate]; omega)).mono ?_
      rintro e w7 ⟨rfl, h1, h2⟩
      go_wp2_with fail
      go_meet
      exact ⟨⟨12, v3, rfl, rfl, h1⟩, HB6.out.trans h2⟩
    · go_wp2_with fail
      refine (u32_ok p v3 _ E 0 7 _ hw3.out (by omega) (by omega) (by omega)).mono ?_
      rintro e w6 ⟨rfl, v6, h1, h2⟩
      have e1 : put1 (E.length + 3) E 0 (be32 7) = (E, 5) := by
        unfold put1
        rw [if_neg (by simp), if_neg (by simp [be32])]
      rw [e1] at h1
      go_wp2_with fail
      go_meet
      exact ⟨⟨5, v6, rfl, rfl, h1⟩, h2⟩
  case rest =>
  obtain ⟨⟨k, v6, rfl, hk0, hw6⟩, hb6⟩ := hcut
  rename World => w6
  go_upto_block 3 with fail
  have BW6 := hide (HB2.out.trans ((hb3.out.trans hb6.out).mono HP.out))
  go_cut [16] from 91 to 106 (fun _ wx => (∃ v, Hid (Wr wx p v (E.length + 3) E k)) ∧ Hid (Below p w6 wx))
  case first =>
    clear HO2 hb3 hb6 hw3
    go_wp2_with fail
    go_loopw [16] (fun i wr => ∃ (j : Nat) (v : Value), j ≤ gs.length ∧ i = .int .i64 j ∧ Hid (Wr wr p v (E.length + 3) E k) ∧ Hid (Below p w6 wr)) (fun i _ => gs.length - (intOf i).toNat)
    case atStart => exact ⟨0, _, Nat.zero_le _, rfl, hw6, Below.refl _ _⟩
    case round =>
      obtain ⟨j, v, hj, rfl, hw, hb⟩ := hrel
      by_cases hh : j < gs.length
      · have t1 : (j : Int) < (gs.length : Int) := by omega
        by_cases h20 : j < 20
        · have t2 : (j : Int) < 20 := by omega
          have BW := hide (BW6.out.trans (hb.out.mono HP.out))
          obtain ⟨ad, hadr, f1, f2, f3, f4, f5⟩ := HB.out.at j hh
          have c1 := at_below BW.out f1
          have c2 := at_below BW.out f2
          have c3 := at_below BW.out f3
          have hyP := hide (f4.early (p := p) BW.out HP.out)
          clear f1 f2 f3 f4
          go_wp2_with fail
          refine (put_any p v gs[j].v (E.length + 3) E k gs[j].kind gs[j].n gs[j].bs _ hw.out (by omega) (by omega) hyP.out f5).mono ?_
          rintro e w7 ⟨rfl, v7, h7, hb7⟩
          rw [put1_keep _ _ _ hk0.out] at h7
          have HW7 := hide h7
          have HB7 := hide (hb.out.trans hb7)
          clear h7 hb7 c1 c2 c3 hadr hw hb BW hyP
          go_wp2
          go_roundw
          case rel => exact ⟨j + 1, v7, by omega, by go_num, HW7, HB7⟩
          case measure => simp [intOf]; omega
        · have t2 : ¬ (j : Int) < 20 := by omega
          go_wp2_with fail
          go_meet
          exact ⟨⟨v, hw⟩, hb⟩
      · have t1 : ¬ (j : Int) < (gs.length : Int) := by omega
        go_wp2_with fail
        go_meet
        exact ⟨⟨v, hw⟩, hb⟩
  case rest =>
  obtain ⟨⟨v7, hw7⟩, hb7⟩ := hcut
  rename World => w7
  have HO7 := hide (HO2.out.below ((hb3.out.trans hb6.out).trans hb7.out))
  have BW7 := hide (BW6.out.trans (hb7.out.mono HP.out))
  clear hb3 hb6 hw3 hw6 BW6 HB2 HO2
  go_wp2_with fail
  refine (u8_bad p v7 _ E k _ _ hw7.out (.inl (by omega))).mono ?_
  rintro e w8 ⟨rfl, h8, hb8⟩
  rw [flt_keep hk0.out] at h8
  have HW8 := hide h8
  have HB8 := hide hb8
  clear h8 hb8
  go_wp2_with fail
  refine (out_fault p v7 _ E k _ HW8.out hk0.out).mono ?_
  rintro e w9 ⟨rfl, q9, rfl⟩
  have hbd := bel_drewN HB8.out q9
  have HO9 := hide (HO7.out.below hbd)
  have BW9 := hide (BW7.out.trans (hbd.mono HP.out))
  have HPZ := hide (Nat.le_of_lt (Nat.lt_of_lt_of_le hw7.out.lt hbd.size))
  clear hbd HW8 HB8 HO7 BW7 hw7 hb7 lb HB
  generalize w8.drewN q9 = w9 at *
  go_wp2_with (at_builtin; refine wpList_app rfl _ _ rfl w9.heap.size _ [] rfl (Own.nil _ _) _ E rfl HO9.out.has (by simp; omega) (Nat.le_refl _) ?_)
  intro v10 w10 hown10 hg10
  have HB10 := hide ((Below.refl w9.heap.size w9).grown hg10 (Nat.le_refl _) (Own.nil w9 w9.heap.size).ownBlock)
  have HOW10 := hide hown10
  clear hown10 hg10
  go_wp2_with (at_builtin; refine wpList_app rfl _ _ rfl w9.heap.size _ E rfl (HOW10.out.below (below_new _ _)) _ [0, 2, 9, 9] rfl (has_new4 w10) (by simp; omega) (by have := HB10.out.size; simp; omega) ?_)
  intro v11 w11 hown11 hg11
  have HB11 := hide ((HB10.out.alloc HB10.out.size (.cells #[byt 0, byt 2, byt 9, byt 9] 5)).grown hg11 (by have := HB10.out.size; simp; omega) HOW10.out.ownBlock)
  have HOW11 := hide hown11.has
  clear hown11 hg11 HOW10 HB10
  obtain ⟨all, hall⟩ : ∃ all, E ++ [0, 2, 9, 9] = all := ⟨_, rfl⟩
  have hallen : all.length = E.length + 4 := by rw [← hall]; simp
  have HAL := hide hallen
  have HALL := hide hall
  rw [hall] at HOW11
  clear hall hallen
  go_wp2_with fail
  refine (newReader_any _ all _ HOW11.out (by have := HAL.out; omega)).mono ?_
  rintro e w12 ⟨rp, rv, rfl, hr12, hp12, hb12⟩
  have HR12 := hide hr12
  have HB12 := hide (bel_chain HB11.out hb12)
  have HRP := hide (Nat.le_trans HB11.out.size hp12)
  clear hr12 hp12 hb12 HOW11 HB11
  have F1 : Hid (rfix all 0 0 (E.length : Int) = (E, E.length, 0)) := rfix_first _ _ _ HALL.out
  go_wp2_with fail
  refine (rfixed_any rp rv all 0 0 _ _ HR12.out (by have := HAL.out; omega)).mono ?_
  rw [F1.out]
  rintro e w13 ⟨bo, bc, rfl, ho13, hr13, hf13⟩
  have HH13 := hide ho13.has
  have HR13 := hide hr13
  have HF13 := hide hf13
  have HB13 := hide (HB12.out.trans (hf13.below HRP.out HB12.out.size))
  clear ho13 hr13 hf13 HR12 F1
  go_wp2_with fail
  refine (eq_yes _ _ E _ HH13.out (HO9.out _ (HB13.out.mono HPZ.out))).mono ?_
  rintro e w14 ⟨rfl, rfl⟩
  have BW13 := hide (BW9.out.trans (HB13.out.mono BW9.out.size))
  clear HH13 HF13 HB12 HO9
  go_wp2_with fail
  refine (rest_any _ _ _ (by omega) (by omega)).mono ?_
  rintro e w15 ⟨rfl, rfl⟩
  go_upto_if 140 with fail
  go_cut [15] from 138 to 145 (fun s wx => ∃ j, s = .int .i64 j ∧ Hid ((j == 0) = false) ∧ Hid (Rd wx rp rv all E.length j) ∧ Hid (Below w9.heap.size w9 wx))
  case first =>
    by_cases hk2 : kind % 2 = 0
    · have F1 := hide (rfix_neg all E.length (-1 - n % 1000) (by omega))
      go_wp2_with fail
      refine (rfixed_any rp rv all E.length 0 _ _ HR13.out (by have := HAL.out; omega)).mono ?_
      rw [F1.out]
      rintro e w16 ⟨co, cc, rfl, _, hr16, hf16⟩
      go_wp2_with fail
      go_meet
      exact ⟨4, rfl, rfl, hr16, HB13.out.trans (hf16.below HRP.out HB13.out.size)⟩
    · have hk3 : (kind % 2 == 0) = false := beq_eq_false_iff_ne.2 hk2
      have F1 := hide (rrun_two E all HALL.out)
      clear hk2
      go_wp2_with fail
      refine (rrun_any rp rv all E.length 0 _ _ HR13.out (by have := HAL.out; omega)).mono ?_
      rw [F1.out]
      rintro e w16 ⟨co, cc, rfl, _, hr16, hf16⟩
      go_wp2_with fail
      go_meet
      exact ⟨12, rfl, rfl, hr16, HB13.out.trans (hf16.below HRP.out HB13.out.size)⟩
  case rest =>
  obtain ⟨j, rfl, hj0, hr16, hb16⟩ := hcut
  rename World => w16
  clear HR13 HB13
  have hal4 := HAL.out
  have HJN : Hid (¬ (j = 0 ∧ E.length < all.length)) := fun e => by have := hj0.out; rw [e.1] at this; cases this
  have HA4 : Hid (all.length ≤ 140737488355328) := by show _ ≤ _; omega
  clear hal4
  go_wp2_with fail
  refine (end_any rp rv all E.length j _ hr16.out HA4.out).mono ?_
  rw [if_neg HJN.out]
  rintro e w17 ⟨rfl, hr17, hf17⟩
  have HR17 := hide hr17
  have HB17 := hide (hb16.out.trans (hf17.below HRP.out hb16.out.size))
  clear hr17 hf17 hr16 hb16
  go_wp2_with fail
  refine (ru8_any rp rv all E.length j _ HR17.out HA4.out).mono ?_
  rw [rfix_keep _ _ _ hj0.out]
  rintro e w18 ⟨rfl, hr18, hf18⟩
  have HR18 := hide hr18
  have HB18 := hide (HB17.out.trans (hf18.below HRP.out HB17.out.size))
  clear hr18 hf18 HR17 HB17
  go_wp2_with fail
  refine (ru16_any rp rv all E.length j _ HR18.out HA4.out).mono ?_
  rw [rfix_keep _ _ _ hj0.out]
  rintro e w19 ⟨rfl, hr19, hf19⟩
  have HR19 := hide hr19
  have HB19 := hide (HB18.out.trans (hf19.below HRP.out HB18.out.size))
  clear hr19 hf19 HR18 HB18
  go_wp2_with fail
  refine (ru32_any rp rv all E.length j _ HR19.out HA4.out).mono ?_
  rw [rfix_keep _ _ _ hj0.out]
  rintro e w20 ⟨rfl, hr20, hf20⟩
  have HR20 := hide hr20
  have HB20 := hide (HB19.out.trans (hf20.below HRP.out HB19.out.size))
  clear hr20 hf20 HR19 HB19
  go_wp2_with fail
  refine (rfixed_any rp rv all E.length j _ _ HR20.out HA4.out).mono ?_
  rw [rfix_keep _ _ _ hj0.out]
  rintro e w21 ⟨co, cc, rfl, _, hr21, hf21⟩
  have HR21 := hide hr21
  have HB21 := hide (HB20.out.trans (hf21.below HRP.out HB20.out.size))
  clear hr21 hf21 HR20 HB20
  go_wp2_with fail
  refine (rrun_any rp rv all E.length j _ _ HR21.out HA4.out).mono ?_
  rw [rrun_keep _ _ _ hj0.out]
  rintro e w22 ⟨do_, dc, rfl, _, hr22, hf22⟩
  have HR22 := hide hr22
  have HB22 := hide (HB21.out.trans (hf22.below HRP.out HB21.out.size))
  clear hr22 hf22 HR21 HB21
  go_wp2_with fail
  refine (fault_is rp rv all E.length j _ HR22.out hj0.out).mono ?_
  rintro e w23 ⟨rfl, q23, rfl⟩
  go_wp2_with fail
  refine (left_any rp rv all E.length j _ (HR22.out.below (bel_drewN (Below.refl _ _) _)) HA4.out).mono ?_
  rintro e w24 ⟨rfl, q24, rfl⟩
  have HL4 : Hid ((all.length : Int) - E.length = 4) := by have := HAL.out; show _ = _; omega
  rw [HL4.out]
  have HBF := hide (BW9.out.trans ((bel_drewN HB22.out (q23 + q24)).mono BW9.out.size))
  go_wp2_with fail
  go_ret
  exact ⟨rfl, HBF.out⟩

end Go.Proofs.Ytgfgabgnejnipaa
