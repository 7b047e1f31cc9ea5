import Derived.Test.YtgfgabgnejnipaaGot
import Derived.Deep.CutBlock
namespace Go.Proofs.Ytgfgabgnejnipaa
open Go.RowKit

theorem Flds.len {w : World} {v : Value} {fs : List Fd} (h : Flds w v fs) (W : World) (ty : TypeId) : (Builtin.len_ #[34] ty #[v]).run Try.prog W = .ok (.int .i64 fs.length) W := by
  rcases h with ⟨rfl, rfl⟩ | ⟨ad, cap, rfl, h2, h3⟩
  · go_simp
  · go_simp

/-- One field of them: its address, in whatever world; what lies there. -/
theorem Flds.at {w : World} {v : Value} {fs : List Fd} (h : Flds w v fs) (k : Nat) (hk : k < fs.length) :
    ∃ ad : Addr, (∀ W, (Instr.indexAt 34 v (.int .i64 (k : Int))).run Try.prog W = .ok (.pointer (some ad)) W) ∧
      w.cell? ad = some (.int .i64 fs[k].kind) ∧ w.cell? ⟨ad.block, ad.off + 1, none⟩ = some (.int .i64 fs[k].n) ∧ w.cell? ⟨ad.block, ad.off + 2, none⟩ = some fs[k].v ∧ Has w fs[k].v fs[k].bs ∧ fs[k].bs.length ≤ 9223372036854775807 := by
  rcases h with ⟨rfl, rfl⟩ | ⟨ad, cap, rfl, h2, h3⟩
  · simp at hk
  · refine ⟨ad.add (k * 3), fun W => ?_, h3 k fs[k] (List.getElem?_eq_getElem hk)⟩
    have hk' : (k : Int) < (fs.length : Int) := by omega
    go_simp

theorem Has.cutHM {w : World} {v : Value} {bs : List UInt8} (h : Has w v bs) (k : Nat) (hk : k ≤ bs.length) :
    ∃ ao, (∀ W, (Instr.slice 22 v none (some (.int .i64 k)) (some (.int .i64 k))).run Try.prog W = .ok (.slice ao k k) W) ∧ Has w (.slice ao k k) (bs.take k) := by
  have ht : Try.prog.underlying 22 = some (.slice (Try.prog.elem 22)) := by rw [elem22]; exact Try.underlying22
  have hlen : (bs.take k).length = k := by simp; omega
  rcases h with ⟨rfl, rfl⟩ | ⟨ad, cap, rfl, h2, h3⟩
  · simp at hk; subst hk
    refine ⟨none, fun W => ?_, .inl ⟨rfl, rfl⟩⟩
    rw [run_slice_hm W 22 none _ 0 ht .i64 .i64 _ _ (by omega) (by omega) (by omega), elem22, size5]
    simp [Result.andThen, sliced]
  · refine ⟨some ad, fun W => ?_, .inr ⟨ad, k, by rw [hlen], by rw [hlen]; omega, fun i u hu => ?_⟩⟩
    · rw [run_slice_hm W 22 (some ad) _ cap ht .i64 .i64 _ _ (by omega) (by omega) (by omega), elem22, size5]
      simp [Result.andThen, sliced, Addr.add]
    · have hi : i < k := by
        rcases Nat.lt_or_ge i k with h | h
        · exact h
        · rw [List.getElem?_eq_none (by omega)] at hu; cases hu
      rw [List.getElem?_take_of_lt hi] at hu
      exact h3 i u hu

theorem encs_rest (fs : List Fd) (j : Nat) (hj : j < fs.length) (h20 : j < 20) : ∃ R, encs fs 20 = encs fs j ++ (enc fs[j].kind fs[j].n fs[j].bs ++ R) := by
  have h : encs fs 20 = encs fs (j + 1) ++ ((fs.take 20).drop (j + 1)).flatMap fun f => enc f.kind f.n f.bs := by
    unfold encs
    rw [← List.flatMap_append]
    congr 1
    rw [show fs.take (j + 1) = (fs.take 20).take (j + 1) by rw [List.take_take, Nat.min_eq_left (by omega)], List.take_append_drop]
  rw [h, encs_step fs j hj, List.append_assoc]
  exact ⟨_, rfl⟩

theorem drop_whole (E A X R : List UInt8) (h : E = A ++ (X ++ R)) : E.drop A.length = X ++ R := by subst h; simp
theorem drop_tail (E A X R T : List UInt8) (h : E = A ++ (X ++ R)) : (E ++ T).drop A.length = X ++ (R ++ T) := by subst h; simp
theorem drop_fits (E A X R : List UInt8) (k : Nat) (h : E = A ++ (X ++ R)) (hk : A.length + X.length ≤ k) : (E.take k).drop A.length = X ++ R.take (k - A.length - X.length) := by
  subst h
  rw [List.drop_take, List.drop_left, List.take_append, List.take_of_length_le (by omega)]
theorem drop_torn (E A X R : List UInt8) (k : Nat) (h : E = A ++ (X ++ R)) (h1 : A.length ≤ k) (hk : k < A.length + X.length) : X = (E.take k).drop A.length ++ X.drop (k - A.length) := by
  subst h
  rw [List.drop_take, List.drop_left, List.take_append_of_le_length (by omega), List.take_append_drop]

set_option maxRecDepth 100000 in
set_option maxHeartbeats 2000000 in
theorem back_any (av tv : Value) (fs : List Fd) (tail : List UInt8) (cut : Int) (w : World) (ha : Flds w av fs) (hfl : fs.length ≤ 9223372036854775807) (ht : Has w tv tail) (htl : tail.length ≤ 140737488351232) :
    Calls Try.prog 6 #[av, .int .i64 cut, tv] w fun e w' => e = .returned (.bool true) ∧ Below w.heap.size w w' := by
  have la := ha.len
  have lt := ht.len
  have HA := hide ha
  have HT := hide ht
  clear ha ht
  go_enter Try.func6, Try.ntmps6
  go_wp2_with fail
  refine (written_any _ fs _ HA.out hfl).mono ?_
  rintro e w1 ⟨ao, cp, rfl, ho1, hb1⟩
  have hE := encs_length fs 20
  generalize hE20 : encs fs 20 = E at *
  have HE20 := hide hE20
  clear hE20
  have hE3 : E.length ≤ 6040 := by omega
  have HB1 := hide hb1
  have HH1 := hide ho1.has
  clear ho1 hb1 hE
  go_wp2_with fail
  refine (newReader_any _ E _ HH1.out (by omega)).mono ?_
  rintro e w2 ⟨p1, rv1, rfl, hr1, hp1, hb2⟩
  have HB2 := hide (bel_chain HB1.out hb2)
  have HH2 := hide (HH1.out.below hb2)
  have HR1 := hide hr1
  have HP1 := hide (Nat.le_trans HB1.out.size hp1)
  have HL1 := hide hr1.lt
  clear hr1 hp1 hb2 HB1 HH1
  go_wp2_with (at_builtin; refine wpList_app rfl _ _ rfl w2.heap.size _ [] rfl (Own.nil _ _) _ E rfl HH2.out (by simp; omega) (Nat.le_refl _) ?_)
  intro v3 w3 hown3 hg3
  have HB3 := hide ((Below.refl w2.heap.size w2).grown hg3 (Nat.le_refl _) (Own.nil w2 w2.heap.size).ownBlock)
  have HO3 := hide hown3
  clear hown3 hg3
  go_wp2_with (at_builtin; refine wpList_app rfl _ _ rfl w2.heap.size _ E rfl HO3.out _ tail rfl (HT.out.below (bel_chain HB2.out HB3.out)) (by omega) HB3.out.size ?_)
  intro v4 w4 hown4 hg4
  have HB4 := hide (HB3.out.grown hg4 HB3.out.size HO3.out.ownBlock)
  have HH4 := hide hown4.has
  clear hown4 hg4 HO3 HB3
  have hlt2 : (E ++ tail).length ≤ 150000000000000 := by rw [List.length_append]; omega
  have HLT := hide hlt2
  clear hlt2
  go_wp2_with fail
  refine (newReader_any _ (E ++ tail) _ HH4.out HLT.out).mono ?_
  rintro e w5 ⟨p2, rv2, rfl, hr2, hp2, hb5⟩
  have HB5w := hide (bel_chain HB4.out hb5)
  have HB5 := hide (bel_chain HB2.out HB5w.out)
  have HR1' := hide (HR1.out.below HB5w.out)
  have HH5 := hide (HH2.out.below HB5w.out)
  have HR2 := hide hr2
  have HP2 := hide (Nat.lt_of_lt_of_le HL1.out (Nat.le_trans HB4.out.size hp2))
  have HL2 := hide hr2.lt
  clear hr2 hp2 hb5 HB5w HB4 HH4 HH2 HB2 HR1
  obtain ⟨k, hk⟩ : ∃ k : Nat, cut % ((E.length : Int) + 1) = k := ⟨(cut % ((E.length : Int) + 1)).toNat, by have := Int.emod_nonneg cut (b := (E.length : Int) + 1) (by omega); omega⟩
  have hk2 : k ≤ E.length := by have := Int.emod_lt_of_pos cut (b := (E.length : Int) + 1) (by omega); omega
  go_wp2_with fail
  refine (rest_any _ _ _ (by omega) (by omega)).mono ?_
  rintro e w6 ⟨rfl, rfl⟩
  rw [hk]
  clear hk
  obtain ⟨co, hcut, hch⟩ := HH5.out.cutHM k hk2
  have HCH := hide hch
  clear hch
  go_wp2_with fail
  refine (newReader_any _ (E.take k) _ HCH.out (by simp; omega)).mono ?_
  rintro e w7 ⟨p3, rv3, rfl, hr3, hp3, hb7⟩
  have HB7 := hide (bel_chain HB5.out hb7)
  have Q1 := hide (HR1'.out.below hb7)
  have Q2 := hide (HR2.out.below hb7)
  have Q3 := hide hr3
  have P1 := HP1
  have P2 : Hid (w.heap.size ≤ p2) := Nat.le_trans HP1.out (Nat.le_of_lt HP2.out)
  have HP3 := hide (Nat.lt_of_lt_of_le HL2.out hp3)
  have P3 : Hid (w.heap.size ≤ p3) := Nat.le_trans P2.out (Nat.le_of_lt HP3.out)
  have N21 : Hid (p2 ≠ p1) := Nat.ne_of_gt HP2.out
  have N12 : Hid (p1 ≠ p2) := Nat.ne_of_lt HP2.out
  have N32 : Hid (p3 ≠ p2) := Nat.ne_of_gt HP3.out
  have N23 : Hid (p2 ≠ p3) := Nat.ne_of_lt HP3.out
  have N31 : Hid (p3 ≠ p1) := Nat.ne_of_gt (Nat.lt_trans HP2.out HP3.out)
  have N13 : Hid (p1 ≠ p3) := Nat.ne_of_lt (Nat.lt_trans HP2.out HP3.out)
  clear hr3 hp3 hb7 HB5 HR1' HR2 HCH HH5 hcut HL1 HL2 HP1 HP2 HP3 HT
  go_upto_block 0 with fail
  go_cut [13, 14, 15] from 24 to 116 (fun _ tn _ wx => Hid (Rd wx p1 rv1 E E.length 0) ∧ Hid (Rd wx p2 rv2 (E ++ tail) E.length 0) ∧ ((tn = .int .i64 (-1) ∧ Hid (E.length ≤ k ∧ Rd wx p3 rv3 (E.take k) E.length 0)) ∨ ∃ t : Nat, tn = .int .i64 t ∧ Hid (t ≤ k ∧ Rd wx p3 rv3 (E.take k) t 10)) ∧ Hid (Below w.heap.size w wx))
  case first =>
    clear lt
    go_wp2_with fail
    go_loopw [13, 14, 15] (fun s13 tn i wr => ∃ j : Nat, j ≤ fs.length ∧ j ≤ 20 ∧ i = .int .i64 j ∧ s13 = .int .i64 ((encs fs j).length : Int) ∧ Hid (Rd wr p1 rv1 E (encs fs j).length 0) ∧ Hid (Rd wr p2 rv2 (E ++ tail) (encs fs j).length 0) ∧ ((tn = .int .i64 (-1) ∧ Hid ((encs fs j).length ≤ k ∧ Rd wr p3 rv3 (E.take k) (encs fs j).length 0)) ∨ ∃ t : Nat, tn = .int .i64 t ∧ Hid (t ≤ k ∧ Rd wr p3 rv3 (E.take k) t 10)) ∧ Hid (Below w.heap.size w wr)) (fun _ _ i _ => fs.length - (intOf i).toNat)
    case atStart => exact ⟨0, Nat.zero_le _, Nat.zero_le _, rfl, rfl, Q1, Q2, .inl ⟨rfl, Nat.zero_le _, Q3.out⟩, HB7⟩
    case round =>
      obtain ⟨j, hj, hj20, rfl, rfl, hr1, hr2, htn, hb⟩ := hrel
      clear Q1 Q2 Q3 HB7
      by_cases hlt : j < fs.length ∧ j < 20
      · obtain ⟨hl1, hl2⟩ := hlt
        have hl1' : (j : Int) < (fs.length : Int) := by omega
        have hl2' : (j : Int) < 20 := by omega
        obtain ⟨ad, hadr, f1, f2, f3, f4, f5⟩ := HA.out.at j hl1
        have F1 := hide f1
        have F2 := hide f2
        have F3 := hide f3
        have F4 := hide f4
        clear f1 f2 f3 f4
        obtain ⟨R, hR⟩ := encs_rest fs j hl1 hl2
        rw [HE20.out] at hR
        have hst := encs_step fs j hl1
        have hal : (encs fs j).length ≤ E.length := by have := congrArg List.length hR; rw [List.length_append] at this; omega
        have hlen1 : (encs fs (j + 1)).length = (encs fs j).length + (enc fs[j].kind fs[j].n fs[j].bs).length := by rw [hst, List.length_append]
        have G1 : Hid (rgot E (encs fs j).length 0 fs[j].kind fs[j].n (fs[j].bs.take 300) = (true, (encs fs (j + 1)).length, 0)) := by
          rw [hlen1]; exact rgot_whole _ _ _ _ _ R (drop_whole _ _ _ _ hR) hal
        have G2 : Hid (rgot (E ++ tail) (encs fs j).length 0 fs[j].kind fs[j].n (fs[j].bs.take 300) = (true, (encs fs (j + 1)).length, 0)) := by
          rw [hlen1]; exact rgot_whole _ _ _ _ _ (R ++ tail) (drop_tail _ _ _ _ tail hR) (by rw [List.length_append]; omega)
        have hez := enc_length fs[j].kind fs[j].n fs[j].bs
        have HLN : Hid (((encs fs (j + 1)).length : Int) = (encs fs j).length + (enc fs[j].kind fs[j].n fs[j].bs).length) := by rw [hlen1]; show ((_ : Nat) : Int) = _; omega
        have HLN1 := hide hlen1
        have HRR := hide hR
        clear hst hR hlen1
        rcases htn with ⟨rfl, htn⟩ | ⟨t, rfl, htn⟩
        · have hr3 := hide htn.out.2
          by_cases hfit : (encs fs j).length + (enc fs[j].kind fs[j].n fs[j].bs).length ≤ k
          · have G3 : Hid (rgot (E.take k) (encs fs j).length 0 fs[j].kind fs[j].n (fs[j].bs.take 300) = (true, (encs fs (j + 1)).length, 0)) := by
              rw [HLN1.out]; exact rgot_whole _ _ _ _ _ _ (drop_fits _ _ _ _ k HRR.out hfit) hr3.out.2.2
            have hfit' : ¬ (k : Int) < (encs fs j).length + (enc fs[j].kind fs[j].n fs[j].bs).length := by omega
            have c1 := at_below hb.out F1.out
            have c2 := at_below hb.out F2.out
            have c3 := at_below hb.out F3.out
            go_wp2_with fail
            refine (got_any p1 rv1 fs[j].v E (encs fs j).length 0 fs[j].kind fs[j].n fs[j].bs _ hr1.out (by omega) (F4.out.below hb.out) f5).mono ?_
            rw [G1.out]
            rintro e w8 ⟨rfl, h8, hf8⟩
            have R1 := hide h8
            have R2 := hide (hr1.out.other hf8 hr2.out N21.out)
            have R3 := hide (hr1.out.other hf8 hr3.out N31.out)
            have B8 := hide (hb.out.trans (hf8.below P1.out hb.out.size))
            clear h8 hf8 c1 c2 c3 hr1 hr2 hr3 hb
            have c1 := at_below B8.out F1.out
            have c2 := at_below B8.out F2.out
            have c3 := at_below B8.out F3.out
            go_wp2_with fail
            refine (got_any p2 rv2 fs[j].v (E ++ tail) (encs fs j).length 0 fs[j].kind fs[j].n fs[j].bs _ R2.out HLT.out (F4.out.below B8.out) f5).mono ?_
            rw [G2.out]
            rintro e w9 ⟨rfl, h9, hf9⟩
            have S1 := hide (R2.out.other hf9 R1.out N12.out)
            have S2 := hide h9
            have S3 := hide (R2.out.other hf9 R3.out N32.out)
            have B9 := hide (B8.out.trans (hf9.below P2.out B8.out.size))
            clear h9 hf9 c1 c2 c3 R1 R2 R3 B8
            have c1 := at_below B9.out F1.out
            have c2 := at_below B9.out F2.out
            have c3 := at_below B9.out F3.out
            go_wp2_with fail
            refine (got_any p3 rv3 fs[j].v (E.take k) (encs fs j).length 0 fs[j].kind fs[j].n fs[j].bs _ S3.out (by simp; omega) (F4.out.below B9.out) f5).mono ?_
            rw [G3.out]
            rintro e w10 ⟨rfl, h10, hf10⟩
            have T1 := hide (S3.out.other hf10 S1.out N13.out)
            have T2 := hide (S3.out.other hf10 S2.out N23.out)
            have T3 := hide h10
            have B10 := hide (B9.out.trans (hf10.below P3.out B9.out.size))
            clear h10 hf10 c1 c2 c3 S1 S2 S3 B9
            have c1 := at_below B10.out F1.out
            have c2 := at_below B10.out F2.out
            have c3 := at_below B10.out F3.out
            go_wp2_with fail
            refine (size_any fs[j].v fs[j].kind fs[j].n fs[j].bs _ (F4.out.below B10.out) f5).mono ?_
            rintro e w11 ⟨rfl, hb11⟩
            have U111 := hide (T1.out.below hb11)
            have U112 := hide (T2.out.below hb11)
            have U113 := hide (T3.out.below hb11)
            have B11 := hide (bel_chain B10.out hb11)
            clear hb11 c1 c2 c3 T1 T2 T3 B10
            have c1 := at_below B11.out F1.out
            have c2 := at_below B11.out F2.out
            have c3 := at_below B11.out F3.out
            go_wp2_with fail
            refine (size_any fs[j].v fs[j].kind fs[j].n fs[j].bs _ (F4.out.below B11.out) f5).mono ?_
            rintro e w12 ⟨rfl, hb12⟩
            have U121 := hide (U111.out.below hb12)
            have U122 := hide (U112.out.below hb12)
            have U123 := hide (U113.out.below hb12)
            have B12 := hide (bel_chain B11.out hb12)
            clear hb12 c1 c2 c3 U111 U112 U113 B11
            clear G1 G2 G3 HRR F1 F2 F3 F4 hadr HA
            go_wp2
            go_roundw
            case rel => exact ⟨j + 1, by omega, by omega, by go_num, by rw [HLN.out], U121, U122, .inl ⟨rfl, by have := HLN1.out; omega, U123.out⟩, B12⟩
            case measure => simp [intOf]; omega
          · have G3 : Hid ((rgot (E.take k) (encs fs j).length 0 fs[j].kind fs[j].n (fs[j].bs.take 300)).2 = ((encs fs j).length, 10)) := rgot_cut _ _ _ _ _ _ (drop_torn _ _ _ _ k HRR.out htn.out.1 (by omega)) hr3.out.2.2 (by have := htn.out.1; simp; omega)
            have hfit' : (k : Int) < (encs fs j).length + (enc fs[j].kind fs[j].n fs[j].bs).length := by omega
            obtain ⟨bb, hbb⟩ : ∃ bb, rgot (E.take k) (encs fs j).length 0 fs[j].kind fs[j].n (fs[j].bs.take 300) = (bb, (encs fs j).length, 10) := ⟨_, Prod.ext rfl G3.out⟩
            have G3 := hide hbb
            clear hbb
            have c1 := at_below hb.out F1.out
            have c2 := at_below hb.out F2.out
            have c3 := at_below hb.out F3.out
            go_wp2_with fail
            refine (got_any p1 rv1 fs[j].v E (encs fs j).length 0 fs[j].kind fs[j].n fs[j].bs _ hr1.out (by omega) (F4.out.below hb.out) f5).mono ?_
            rw [G1.out]
            rintro e w8 ⟨rfl, h8, hf8⟩
            have R1 := hide h8
            have R2 := hide (hr1.out.other hf8 hr2.out N21.out)
            have R3 := hide (hr1.out.other hf8 hr3.out N31.out)
            have B8 := hide (hb.out.trans (hf8.below P1.out hb.out.size))
            clear h8 hf8 c1 c2 c3 hr1 hr2 hr3 hb
            have c1 := at_below B8.out F1.out
            have c2 := at_below B8.out F2.out
            have c3 := at_below B8.out F3.out
            go_wp2_with fail
            refine (got_any p2 rv2 fs[j].v (E ++ tail) (encs fs j).length 0 fs[j].kind fs[j].n fs[j].bs _ R2.out HLT.out (F4.out.below B8.out) f5).mono ?_
            rw [G2.out]
            rintro e w9 ⟨rfl, h9, hf9⟩
            have S1 := hide (R2.out.other hf9 R1.out N12.out)
            have S2 := hide h9
            have S3 := hide (R2.out.other hf9 R3.out N32.out)
            have B9 := hide (B8.out.trans (hf9.below P2.out B8.out.size))
            clear h9 hf9 c1 c2 c3 R1 R2 R3 B8
            have c1 := at_below B9.out F1.out
            have c2 := at_below B9.out F2.out
            have c3 := at_below B9.out F3.out
            go_wp2_with fail
            refine (got_any p3 rv3 fs[j].v (E.take k) (encs fs j).length 0 fs[j].kind fs[j].n fs[j].bs _ S3.out (by simp; omega) (F4.out.below B9.out) f5).mono ?_
            rw [G3.out]
            rintro e w10 ⟨rfl, h10, hf10⟩
            have T1 := hide (S3.out.other hf10 S1.out N13.out)
            have T2 := hide (S3.out.other hf10 S2.out N23.out)
            have T3 := hide h10
            have B10 := hide (B9.out.trans (hf10.below P3.out B9.out.size))
            clear h10 hf10 c1 c2 c3 S1 S2 S3 B9
            have c1 := at_below B10.out F1.out
            have c2 := at_below B10.out F2.out
            have c3 := at_below B10.out F3.out
            go_wp2_with fail
            refine (size_any fs[j].v fs[j].kind fs[j].n fs[j].bs _ (F4.out.below B10.out) f5).mono ?_
            rintro e w11 ⟨rfl, hb11⟩
            have U111 := hide (T1.out.below hb11)
            have U112 := hide (T2.out.below hb11)
            have U113 := hide (T3.out.below hb11)
            have B11 := hide (bel_chain B10.out hb11)
            clear hb11 c1 c2 c3 T1 T2 T3 B10
            have c1 := at_below B11.out F1.out
            have c2 := at_below B11.out F2.out
            have c3 := at_below B11.out F3.out
            go_wp2_with fail
            refine (size_any fs[j].v fs[j].kind fs[j].n fs[j].bs _ (F4.out.below B11.out) f5).mono ?_
            rintro e w12 ⟨rfl, hb12⟩
            have U121 := hide (U111.out.below hb12)
            have U122 := hide (U112.out.below hb12)
            have U123 := hide (U113.out.below hb12)
            have B12 := hide (bel_chain B11.out hb12)
            clear hb12 c1 c2 c3 U111 U112 U113 B11
            clear G1 G2 G3 HRR F1 F2 F3 F4 hadr HA
            go_wp2
            go_roundw
            case rel => exact ⟨j + 1, by omega, by omega, by go_num, by rw [HLN.out], U121, U122, .inr ⟨_, rfl, htn.out.1, U123.out⟩, B12⟩
            case measure => simp [intOf]; omega
        · have hr3 := hide htn.out.2
          have G3 : Hid ((rgot (E.take k) t 10 fs[j].kind fs[j].n (fs[j].bs.take 300)).2 = (t, 10)) := rgot_keep _ _ _ _ _ rfl
          obtain ⟨bb, hbb⟩ : ∃ bb, rgot (E.take k) t 10 fs[j].kind fs[j].n (fs[j].bs.take 300) = (bb, t, 10) := ⟨_, Prod.ext rfl G3.out⟩
          have G3 := hide hbb
          clear hbb
          have c1 := at_below hb.out F1.out
          have c2 := at_below hb.out F2.out
          have c3 := at_below hb.out F3.out
          go_wp2_with fail
          refine (got_any p1 rv1 fs[j].v E (encs fs j).length 0 fs[j].kind fs[j].n fs[j].bs _ hr1.out (by omega) (F4.out.below hb.out) f5).mono ?_
          rw [G1.out]
          rintro e w8 ⟨rfl, h8, hf8⟩
          have R1 := hide h8
          have R2 := hide (hr1.out.other hf8 hr2.out N21.out)
          have R3 := hide (hr1.out.other hf8 hr3.out N31.out)
          have B8 := hide (hb.out.trans (hf8.below P1.out hb.out.size))
          clear h8 hf8 c1 c2 c3 hr1 hr2 hr3 hb
          have c1 := at_below B8.out F1.out
          have c2 := at_below B8.out F2.out
          have c3 := at_below B8.out F3.out
          go_wp2_with fail
          refine (got_any p2 rv2 fs[j].v (E ++ tail) (encs fs j).length 0 fs[j].kind fs[j].n fs[j].bs _ R2.out HLT.out (F4.out.below B8.out) f5).mono ?_
          rw [G2.out]
          rintro e w9 ⟨rfl, h9, hf9⟩
          have S1 := hide (R2.out.other hf9 R1.out N12.out)
          have S2 := hide h9
          have S3 := hide (R2.out.other hf9 R3.out N32.out)
          have B9 := hide (B8.out.trans (hf9.below P2.out B8.out.size))
          clear h9 hf9 c1 c2 c3 R1 R2 R3 B8
          have c1 := at_below B9.out F1.out
          have c2 := at_below B9.out F2.out
          have c3 := at_below B9.out F3.out
          go_wp2_with fail
          refine (got_any p3 rv3 fs[j].v (E.take k) t 10 fs[j].kind fs[j].n fs[j].bs _ S3.out (by simp; omega) (F4.out.below B9.out) f5).mono ?_
          rw [G3.out]
          rintro e w10 ⟨rfl, h10, hf10⟩
          have T1 := hide (S3.out.other hf10 S1.out N13.out)
          have T2 := hide (S3.out.other hf10 S2.out N23.out)
          have T3 := hide h10
          have B10 := hide (B9.out.trans (hf10.below P3.out B9.out.size))
          clear h10 hf10 c1 c2 c3 S1 S2 S3 B9
          have c1 := at_below B10.out F1.out
          have c2 := at_below B10.out F2.out
          have c3 := at_below B10.out F3.out
          go_wp2_with fail
          refine (size_any fs[j].v fs[j].kind fs[j].n fs[j].bs _ (F4.out.below B10.out) f5).mono ?_
          rintro e w12 ⟨rfl, hb12⟩
          have U121 := hide (T1.out.below hb12)
          have U122 := hide (T2.out.below hb12)
          have U123 := hide (T3.out.below hb12)
          have B12 := hide (bel_chain B10.out hb12)
          clear hb12 c1 c2 c3 T1 T2 T3 B10
          clear G1 G2 G3 HRR F1 F2 F3 F4 hadr HA
          go_wp2
          go_roundw
          case rel => exact ⟨j + 1, by omega, by omega, by go_num, by rw [HLN.out], U121, U122, .inr ⟨t, rfl, htn.out.1, U123.out⟩, B12⟩
          case measure => simp [intOf]; omega
      · have hEj : encs fs j = E := by
          by_cases hh : j < fs.length
          · rw [show j = 20 by omega]; exact HE20.out
          · exact (encs_all fs j (by omega) hj20).trans HE20.out
        rw [hEj] at hr1 hr2 htn
        have HTN := hide htn
        clear hEj htn
        by_cases hh : j < fs.length
        · have t1 : (j : Int) < (fs.length : Int) := by omega
          have t2 : ¬ (j : Int) < 20 := by omega
          go_wp2_with fail
          go_meet
          exact ⟨hr1, hr2, HTN.out, hb⟩
        · have t1 : ¬ (j : Int) < (fs.length : Int) := by omega
          go_wp2_with fail
          go_meet
          exact ⟨hr1, hr2, HTN.out, hb⟩
  case rest =>
  obtain ⟨hr1, hr2, htn, hb⟩ := hcut
  clear Q1 Q2 Q3 HB7 HA la HE20
  have HTL : Hid (((E ++ tail).length : Int) - E.length = tail.length) := by rw [List.length_append]; show _ = _; omega
  rcases htn with ⟨rfl, htn⟩ | ⟨t, rfl, htn⟩
  · have hr3 := hide htn.out.2
    have hkE : k = E.length := by have := htn.out.1; omega
    clear htn hkE
    by_cases hte : tail.length = 0
    · have ht0 : ((tail.length : Int) == 0) = true := by rw [beq_iff_eq]; omega
      go_wp2_with fail
      refine (left_any p1 rv1 E E.length 0 _ hr1.out (by omega)).mono ?_
      rw [Int.sub_self]
      rintro e w8 ⟨rfl, q8, rfl⟩
      have A1 := hide (hr1.out.below (bel_drewN (Below.refl _ _) q8))
      have A2 := hide (hr2.out.below (bel_drewN (Below.refl _ _) q8))
      have A3 := hide (hr3.out.below (bel_drewN (Below.refl _ _) q8))
      have B8 := hide (bel_drewN hb.out q8)
      clear hr1 hr2 hr3 hb
      generalize wc.drewN q8 = w8 at *
      go_wp2_with fail
      refine (left_any p2 rv2 (E ++ tail) E.length 0 _ A2.out HLT.out).mono ?_
      rw [HTL.out]
      rintro e w9 ⟨rfl, q9, rfl⟩
      have C1 := hide (A1.out.below (bel_drewN (Below.refl _ _) q9))
      have C2 := hide (A2.out.below (bel_drewN (Below.refl _ _) q9))
      have C3 := hide (A3.out.below (bel_drewN (Below.refl _ _) q9))
      have B9 := hide (bel_drewN B8.out q9)
      clear A1 A2 A3 B8
      generalize w8.drewN q9 = w9 at *
      go_wp2_with fail
      refine (end_any p1 rv1 E E.length 0 _ C1.out (by omega)).mono ?_
      rw [if_neg (by omega)]
      rintro e w10 ⟨rfl, h10, hf10⟩
      have D1 := hide h10
      have D2 := hide (C1.out.other hf10 C2.out N21.out)
      have D3 := hide (C1.out.other hf10 C3.out N31.out)
      have B10 := hide (B9.out.trans (hf10.below P1.out B9.out.size))
      clear h10 hf10 C1 C2 C3 B9
      go_wp2_with fail
      refine (end_any p2 rv2 (E ++ tail) E.length 0 _ D2.out HLT.out).mono ?_
      rw [if_neg (by rw [List.length_append]; omega)]
      rintro e w11 ⟨rfl, h11, hf11⟩
      have E1 := hide (D2.out.other hf11 D1.out N12.out)
      have E2 := hide h11
      have E3 := hide (D2.out.other hf11 D3.out N32.out)
      have B11 := hide (B10.out.trans (hf11.below P2.out B10.out.size))
      clear h11 hf11 D1 D2 D3 B10
      go_wp2_with fail
      refine (end_any p3 rv3 (E.take k) E.length 0 _ E3.out (by simp; omega)).mono ?_
      rw [if_neg (fun e => by have := e.2; simp at this; omega)]
      rintro e w12 ⟨rfl, h12, hf12⟩
      have G1 := hide (E3.out.other hf12 E1.out N13.out)
      have G2 := hide (E3.out.other hf12 E2.out N23.out)
      have G3 := hide h12
      have B12 := hide (B11.out.trans (hf12.below P3.out B11.out.size))
      clear h12 hf12 E1 E2 E3 B11
      go_wp2_with fail
      refine (fault_ok p1 rv1 E E.length _ G1.out).mono ?_
      rintro e w13 ⟨rfl, rfl⟩
      go_wp2_with fail
      refine (fault_ok p2 rv2 (E ++ tail) E.length _ G2.out).mono ?_
      rintro e w14 ⟨rfl, rfl⟩
      have H3 := G3
      have B14 := B12
      clear G3 B12
      go_wp2_with fail
      refine (fault_ok p3 rv3 (E.take k) E.length _ H3.out).mono ?_
      rintro e w15 ⟨rfl, rfl⟩
      go_wp2_with fail
      go_ret
      exact ⟨rfl, B14.out⟩
    · have ht0 : ((tail.length : Int) == 0) = false := beq_eq_false_iff_ne.2 (by omega)
      go_wp2_with fail
      refine (left_any p1 rv1 E E.length 0 _ hr1.out (by omega)).mono ?_
      rw [Int.sub_self]
      rintro e w8 ⟨rfl, q8, rfl⟩
      have A1 := hide (hr1.out.below (bel_drewN (Below.refl _ _) q8))
      have A2 := hide (hr2.out.below (bel_drewN (Below.refl _ _) q8))
      have A3 := hide (hr3.out.below (bel_drewN (Below.refl _ _) q8))
      have B8 := hide (bel_drewN hb.out q8)
      clear hr1 hr2 hr3 hb
      generalize wc.drewN q8 = w8 at *
      go_wp2_with fail
      refine (left_any p2 rv2 (E ++ tail) E.length 0 _ A2.out HLT.out).mono ?_
      rw [HTL.out]
      rintro e w9 ⟨rfl, q9, rfl⟩
      have C1 := hide (A1.out.below (bel_drewN (Below.refl _ _) q9))
      have C2 := hide (A2.out.below (bel_drewN (Below.refl _ _) q9))
      have C3 := hide (A3.out.below (bel_drewN (Below.refl _ _) q9))
      have B9 := hide (bel_drewN B8.out q9)
      clear A1 A2 A3 B8
      generalize w8.drewN q9 = w9 at *
      go_wp2_with fail
      refine (end_any p1 rv1 E E.length 0 _ C1.out (by omega)).mono ?_
      rw [if_neg (by omega)]
      rintro e w10 ⟨rfl, h10, hf10⟩
      have D1 := hide h10
      have D2 := hide (C1.out.other hf10 C2.out N21.out)
      have D3 := hide (C1.out.other hf10 C3.out N31.out)
      have B10 := hide (B9.out.trans (hf10.below P1.out B9.out.size))
      clear h10 hf10 C1 C2 C3 B9
      go_wp2_with fail
      refine (end_any p2 rv2 (E ++ tail) E.length 0 _ D2.out HLT.out).mono ?_
      rw [if_pos ⟨rfl, by rw [List.length_append]; omega⟩]
      rintro e w11 ⟨rfl, h11, hf11⟩
      have E1 := hide (D2.out.other hf11 D1.out N12.out)
      have E2 := hide h11
      have E3 := hide (D2.out.other hf11 D3.out N32.out)
      have B11 := hide (B10.out.trans (hf11.below P2.out B10.out.size))
      clear h11 hf11 D1 D2 D3 B10
      go_wp2_with fail
      refine (end_any p3 rv3 (E.take k) E.length 0 _ E3.out (by simp; omega)).mono ?_
      rw [if_neg (fun e => by have := e.2; simp at this; omega)]
      rintro e w12 ⟨rfl, h12, hf12⟩
      have G1 := hide (E3.out.other hf12 E1.out N13.out)
      have G2 := hide (E3.out.other hf12 E2.out N23.out)
      have G3 := hide h12
      have B12 := hide (B11.out.trans (hf12.below P3.out B11.out.size))
      clear h12 hf12 E1 E2 E3 B11
      go_wp2_with fail
      refine (fault_ok p1 rv1 E E.length _ G1.out).mono ?_
      rintro e w13 ⟨rfl, rfl⟩
      go_wp2_with fail
      refine (fault_is p2 rv2 (E ++ tail) E.length 11 _ G2.out rfl).mono ?_
      rintro e w14 ⟨rfl, q14, rfl⟩
      have H3 := hide (G3.out.below (bel_drewN (Below.refl _ _) q14))
      have B14 := hide (bel_drewN B12.out q14)
      clear G1 G2 G3 B12
      go_wp2_with fail
      refine (fault_ok p3 rv3 (E.take k) E.length _ H3.out).mono ?_
      rintro e w15 ⟨rfl, rfl⟩
      go_wp2_with fail
      go_ret
      exact ⟨rfl, B14.out⟩
  · have hr3 := hide htn.out.2
    have htk := htn.out.1
    have HKT : Hid (((E.take k).length : Int) - t = k - t) := by show _ = _; simp; omega
    clear htn
    by_cases hte : tail.length = 0
    · have ht0 : ((tail.length : Int) == 0) = true := by rw [beq_iff_eq]; omega
      go_wp2_with fail
      refine (left_any p1 rv1 E E.length 0 _ hr1.out (by omega)).mono ?_
      rw [Int.sub_self]
      rintro e w8 ⟨rfl, q8, rfl⟩
      have A1 := hide (hr1.out.below (bel_drewN (Below.refl _ _) q8))
      have A2 := hide (hr2.out.below (bel_drewN (Below.refl _ _) q8))
      have A3 := hide (hr3.out.below (bel_drewN (Below.refl _ _) q8))
      have B8 := hide (bel_drewN hb.out q8)
      clear hr1 hr2 hr3 hb
      generalize wc.drewN q8 = w8 at *
      go_wp2_with fail
      refine (left_any p2 rv2 (E ++ tail) E.length 0 _ A2.out HLT.out).mono ?_
      rw [HTL.out]
      rintro e w9 ⟨rfl, q9, rfl⟩
      have C1 := hide (A1.out.below (bel_drewN (Below.refl _ _) q9))
      have C2 := hide (A2.out.below (bel_drewN (Below.refl _ _) q9))
      have C3 := hide (A3.out.below (bel_drewN (Below.refl _ _) q9))
      have B9 := hide (bel_drewN B8.out q9)
      clear A1 A2 A3 B8
      generalize w8.drewN q9 = w9 at *
      go_wp2_with fail
      refine (end_any p1 rv1 E E.length 0 _ C1.out (by omega)).mono ?_
      rw [if_neg (by omega)]
      rintro e w10 ⟨rfl, h10, hf10⟩
      have D1 := hide h10
      have D2 := hide (C1.out.other hf10 C2.out N21.out)
      have D3 := hide (C1.out.other hf10 C3.out N31.out)
      have B10 := hide (B9.out.trans (hf10.below P1.out B9.out.size))
      clear h10 hf10 C1 C2 C3 B9
      go_wp2_with fail
      refine (end_any p2 rv2 (E ++ tail) E.length 0 _ D2.out HLT.out).mono ?_
      rw [if_neg (by rw [List.length_append]; omega)]
      rintro e w11 ⟨rfl, h11, hf11⟩
      have E1 := hide (D2.out.other hf11 D1.out N12.out)
      have E2 := hide h11
      have E3 := hide (D2.out.other hf11 D3.out N32.out)
      have B11 := hide (B10.out.trans (hf11.below P2.out B10.out.size))
      clear h11 hf11 D1 D2 D3 B10
      go_wp2_with fail
      refine (end_any p3 rv3 (E.take k) t 10 _ E3.out (by simp; omega)).mono ?_
      rw [if_neg (fun e => by cases e.1)]
      rintro e w12 ⟨rfl, h12, hf12⟩
      have G1 := hide (E3.out.other hf12 E1.out N13.out)
      have G2 := hide (E3.out.other hf12 E2.out N23.out)
      have G3 := hide h12
      have B12 := hide (B11.out.trans (hf12.below P3.out B11.out.size))
      clear h12 hf12 E1 E2 E3 B11
      go_wp2_with fail
      refine (fault_ok p1 rv1 E E.length _ G1.out).mono ?_
      rintro e w13 ⟨rfl, rfl⟩
      go_wp2_with fail
      refine (fault_ok p2 rv2 (E ++ tail) E.length _ G2.out).mono ?_
      rintro e w14 ⟨rfl, rfl⟩
      have H3 := G3
      have B14 := B12
      clear G3 B12
      go_wp2_with fail
      refine (fault_is p3 rv3 (E.take k) t 10 _ H3.out rfl).mono ?_
      rintro e w15 ⟨rfl, q15, rfl⟩
      have I3 := hide (H3.out.below (bel_drewN (Below.refl _ _) q15))
      have B15 := hide (bel_drewN B14.out q15)
      clear H3 B14
      go_wp2_with fail
      refine (left_any p3 rv3 (E.take k) t 10 _ I3.out (by simp; omega)).mono ?_
      rw [HKT.out]
      rintro e w16 ⟨rfl, q16, rfl⟩
      have B16 := hide (bel_drewN B15.out q16)
      go_wp2_with fail
      go_ret
      exact ⟨rfl, by simpa using B16.out⟩
    · have ht0 : ((tail.length : Int) == 0) = false := beq_eq_false_iff_ne.2 (by omega)
      go_wp2_with fail
      refine (left_any p1 rv1 E E.length 0 _ hr1.out (by omega)).mono ?_
      rw [Int.sub_self]
      rintro e w8 ⟨rfl, q8, rfl⟩
      have A1 := hide (hr1.out.below (bel_drewN (Below.refl _ _) q8))
      have A2 := hide (hr2.out.below (bel_drewN (Below.refl _ _) q8))
      have A3 := hide (hr3.out.below (bel_drewN (Below.refl _ _) q8))
      have B8 := hide (bel_drewN hb.out q8)
      clear hr1 hr2 hr3 hb
      generalize wc.drewN q8 = w8 at *
      go_wp2_with fail
      refine (left_any p2 rv2 (E ++ tail) E.length 0 _ A2.out HLT.out).mono ?_
      rw [HTL.out]
      rintro e w9 ⟨rfl, q9, rfl⟩
      have C1 := hide (A1.out.below (bel_drewN (Below.refl _ _) q9))
      have C2 := hide (A2.out.below (bel_drewN (Below.refl _ _) q9))
      have C3 := hide (A3.out.below (bel_drewN (Below.refl _ _) q9))
      have B9 := hide (bel_drewN B8.out q9)
      clear A1 A2 A3 B8
      generalize w8.drewN q9 = w9 at *
      go_wp2_with fail
      refine (end_any p1 rv1 E E.length 0 _ C1.out (by omega)).mono ?_
      rw [if_neg (by omega)]
      rintro e w10 ⟨rfl, h10, hf10⟩
      have D1 := hide h10
      have D2 := hide (C1.out.other hf10 C2.out N21.out)
      have D3 := hide (C1.out.other hf10 C3.out N31.out)
      have B10 := hide (B9.out.trans (hf10.below P1.out B9.out.size))
      clear h10 hf10 C1 C2 C3 B9
      go_wp2_with fail
      refine (end_any p2 rv2 (E ++ tail) E.length 0 _ D2.out HLT.out).mono ?_
      rw [if_pos ⟨rfl, by rw [List.length_append]; omega⟩]
      rintro e w11 ⟨rfl, h11, hf11⟩
      have E1 := hide (D2.out.other hf11 D1.out N12.out)
      have E2 := hide h11
      have E3 := hide (D2.out.other hf11 D3.out N32.out)
      have B11 := hide (B10.out.trans (hf11.below P2.out B10.out.size))
      clear h11 hf11 D1 D2 D3 B10
      go_wp2_with fail
      refine (end_any p3 rv3 (E.take k) t 10 _ E3.out (by simp; omega)).mono ?_
      rw [if_neg (fun e => by cases e.1)]
      rintro e w12 ⟨rfl, h12, hf12⟩
      have G1 := hide (E3.out.other hf12 E1.out N13.out)
      have G2 := hide (E3.out.other hf12 E2.out N23.out)
      have G3 := hide h12
      have B12 := hide (B11.out.trans (hf12.below P3.out B11.out.size))
      clear h12 hf12 E1 E2 E3 B11
      go_wp2_with fail
      refine (fault_ok p1 rv1 E E.length _ G1.out).mono ?_
      rintro e w13 ⟨rfl, rfl⟩
      go_wp2_with fail
      refine (fault_is p2 rv2 (E ++ tail) E.length 11 _ G2.out rfl).mono ?_
      rintro e w14 ⟨rfl, q14, rfl⟩
      have H3 := hide (G3.out.below (bel_drewN (Below.refl _ _) q14))
      have B14 := hide (bel_drewN B12.out q14)
      clear G1 G2 G3 B12
      generalize w12.drewN q14 = w14 at *
      go_wp2_with fail
      refine (fault_is p3 rv3 (E.take k) t 10 _ H3.out rfl).mono ?_
      rintro e w15 ⟨rfl, q15, rfl⟩
      have I3 := hide (H3.out.below (bel_drewN (Below.refl _ _) q15))
      have B15 := hide (bel_drewN B14.out q15)
      clear H3 B14
      go_wp2_with fail
      refine (left_any p3 rv3 (E.take k) t 10 _ I3.out (by simp; omega)).mono ?_
      rw [HKT.out]
      rintro e w16 ⟨rfl, q16, rfl⟩
      have B16 := hide (bel_drewN B15.out q16)
      go_wp2_with fail
      go_ret
      exact ⟨rfl, by simpa using B16.out⟩

end Go.Proofs.Ytgfgabgnejnipaa
