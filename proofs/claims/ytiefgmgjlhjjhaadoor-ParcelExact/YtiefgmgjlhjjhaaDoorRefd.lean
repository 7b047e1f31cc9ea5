import Derived.Test.YtiefgmgjlhjjhaaDoorRefc
namespace Go.Proofs.YtiefgmgjlhjjhaaDoor
open Go.RowKit

theorem at_is (v : Value) (B K : List UInt8) (i : Nat) (hK : blk B i = K) (w : World) (hv : Has w v B) (hi : 64 * i + 64 ≤ B.length) (hl : B.length ≤ 1152921504606846976) :
    Calls Tryd.prog 71 #[v, .int .i64 (i : Int)] w fun e w' => e = .returned (.agg (K.map byt).toArray) ∧ Below w.heap.size w w' := by
  subst hK
  exact at_any v B i w hv hi hl
theorem block_is (s : List (BitVec 32)) (b : List UInt8) (S : List (BitVec 32)) (hS : comp s b = S) (hs : s.length = 8) (hb : b.length = 64) (w : World) (hk : Rst w) :
    Calls Tryd.prog 70 #[.agg (wvs s).toArray, .agg (b.map byt).toArray] w fun e w' => e = .returned (.agg (wvs S).toArray) ∧ Below w.heap.size w w' := by
  subst hS
  exact rblock_any s hs b hb w hk
theorem rbytes_is (s : List (BitVec 32)) (D : List UInt8) (hD : digOf s = D) (hs : s.length = 8) (w : World) : Calls Tryd.prog 72 #[.agg (wvs s).toArray] w fun e w' => e = .returned (.agg (D.map byt).toArray) ∧ Below w.heap.size w w' := by
  subst hD
  exact rbytes_any s hs w

/-- The state of the document's 'Sum' at d, beside the padded bytes and the result. -/
structure Rs (w x : World) (d : Nat) (S : List (BitVec 32)) (PM : List UInt8) (v : Value) : Prop where
  re : Blk x w.heap.size (z32.map byt) 91
  st : Blk x d (wvs S) 132
  ha : Has x v PM
  be : Below w.heap.size w x
  ld : w.heap.size < d
  ne : PM = [] ∨ v.ownBlock ≠ some d
theorem Rs.below {w x y : World} {d : Nat} {S : List (BitVec 32)} {PM : List UInt8} {v : Value} (h : Rs w x d S PM v) (hb : Below x.heap.size x y) : Rs w y d S PM v :=
  ⟨h.re.below hb h.re.lt, h.st.below hb h.st.lt, h.ha.below hb, h.be.trans (hb.mono h.be.size), h.ld, h.ne⟩
theorem Rs.rg {w x : World} {d : Nat} {S : List (BitVec 32)} {PM : List UInt8} {v : Value} (h : Rs w x d S PM v) : x.rangeAt d 0 (wvs S) := fun j v hv => by
  rw [Nat.zero_add, h.st.cell]; exact hv
theorem Has.fx2 {S : Nat → Prop} {w w' : World} {v : Value} {bs : List UInt8} (h : Has w v bs) (hf : Fx S w w') (hd : bs = [] ∨ ∀ k, v.ownBlock = some k → ¬ S k) : Has w' v bs := by
  rcases hd with rfl | hd
  · rcases h with h | ⟨ad, cap, rfl, h2, h3⟩
    · exact .inl h
    · exact .inr ⟨ad, cap, rfl, h2, fun i u hu => by simp at hu⟩
  · exact h.fx hf hd
theorem Rs.put {w x : World} {d : Nat} {S : List (BitVec 32)} {PM : List UInt8} {v : Value} (h : Rs w x d S PM v) (T : List (BitVec 32)) (ht : (wvs T).length = (wvs S).length) : Rs w (x.setCells d 0 (wvs T)) d T PM v := by
  have hf : Fx (One d) x (x.setCells d 0 (wvs T)) := Fx.setCells (S := One d) d rfl _ _ _
  refine ⟨h.re.fx hf (fun e : w.heap.size = d => by have := h.ld; omega), h.st.all _ ht, h.ha.fx2 hf ?_, h.be.trans (hf.below (fun k hk (e : k = d) => by have := h.ld; omega) h.be.size), h.ld, h.ne⟩
  rcases h.ne with e | e
  · exact .inl e
  · exact .inr (fun k hk (q : k = d) => e (by rw [hk, q]))

set_option maxHeartbeats 400000 in
set_option maxRecDepth 100000 in
theorem refsum_any (v : Value) (M : List UInt8) (w : World) (hv : Has w v M) (hM : M.length ≤ 100000000000000) (hR : Rst w) (hB : Bst w) :
    Calls Tryd.prog 63 #[v] w fun e w' => e = .returned (.agg ((sumOf M).map byt).toArray) ∧ Below w.heap.size w w' := by
  have UM := hide hv
  have HR := hide hR
  have HB := hide hB
  have HML := hide hM
  obtain ⟨D, hD⟩ : ∃ D, sumOf M = D := ⟨_, rfl⟩
  have HD : Lk (sumOf M) D := ⟨hD⟩
  have DL : Lk D.length 32 := ⟨by rw [← hD]; exact sumOf_length M⟩
  rw [hD]
  have i41 := info41 D DL.h
  clear hv hR hB hM hD
  go_enter Tryd.func63, Tryd.ntmps63
  go_wp2_with (first
    | (refine wpList_newAt rfl 91 rfl (z32.map byt) zero41 w.heap.size rfl ?_)
    | fail)
  have B0 : Hid (Below w.heap.size w (w.alloc (.cells (z32.map byt).toArray 91))) := below_new w _
  have R0 : Hid (Blk (w.alloc (.cells (z32.map byt).toArray 91)) w.heap.size (z32.map byt) 91) := Blk.new w _ _
  generalize w.alloc (.cells (z32.map byt).toArray 91) = w0 at B0 R0 ⊢
  refine (padded_any v M w0 (UM.out.below B0.out) HML.out).mono ?_
  rintro e w1 ⟨ap, cp, rfl, ho1, hb1⟩
  obtain ⟨PM, hPM⟩ : ∃ PM, M ++ padOf M.length = PM := ⟨_, rfl⟩
  obtain ⟨nP, hnP⟩ : ∃ n, M.length + (padOf M.length).length = n := ⟨_, rfl⟩
  have PL : Lk PM.length nP := ⟨by rw [← hPM, ← hnP, List.length_append]⟩
  have hp64 : ∃ q, nP = 64 * q := ⟨nP / 64, by have := padOf_length M.length; omega⟩
  have HnP : Hid (nP ≤ 100000000000200) := hide (by have := padOf_length M.length; have := HML.out; omega)
  rw [hPM, hnP] at ho1
  rw [hnP]
  obtain ⟨q, hq⟩ := hp64
  have HDD : Lk (digOf (stN PM q)) D := ⟨by
    rw [← HD.h]
    unfold sumOf stt
    rw [hPM, PL.h, hq, Nat.mul_div_cancel_left q (by decide)]⟩
  have HQ : Lk nP (64 * q) := ⟨hq⟩
  have hqb : q ≤ 10000000000000 := by have := HnP.out; omega
  clear hq
  have HP1 : Hid (Has w1 (.slice ap nP cp) PM) := hide ho1.has
  have HNE : Hid (PM = [] ∨ ∀ j, (Value.slice ap nP cp).ownBlock = some j → j < w1.heap.size) := hide (.inr (fun j hj => by
    obtain ⟨_, h | ⟨g, cq, cur, hv, hg, hh, _⟩⟩ := ho1
    · rw [h.1] at hj; cases hj
    · rw [hv] at hj
      have hlt : g < w1.heap.size := Blk.lt (cs := cur.toList) (t := 5) (by unfold Blk; simpa using hh)
      simp [Value.ownBlock] at hj
      omega))
  have B1 : Hid (Below w.heap.size w w1) := B0.out.trans (hb1.mono B0.out.size)
  have R1 : Hid (Blk w1 w.heap.size (z32.map byt) 91) := R0.out.below hb1 R0.out.lt
  clear ho1 hb1 hPM hnP
  go_wp2_with fail
  refine (rbegin_any w1 (HB.out.below B1.out HB.out.lt)).mono ?_
  rintro e w2 ⟨rfl, hb2⟩
  have X3 : Hid (Rs w ((w2.alloc (.cells (wvs z8).toArray 132)).setRow w2.heap.size (wvs iv).toArray) w2.heap.size (stN PM 0) PM (.slice ap nP cp)) := by
    have s2 := hb2.size
    have l1 := R1.out.lt
    have B2 : Below w.heap.size w w2 := B1.out.trans (hb2.mono B1.out.size)
    have bel : Below w2.heap.size w2 ((w2.alloc (.cells (wvs z8).toArray 132)).setRow w2.heap.size (wvs iv).toArray) := below_setRow (below_new w2 _) _ _ (Nat.le_refl _)
    refine ⟨((R1.out.below hb2 l1).alloc _).setRowOther _ _ (by omega), (Blk.new w2 (wvs z8) 132).setRow (wvs iv), (HP1.out.below hb2).below bel, B2.trans (bel.mono B2.size), by omega, ?_⟩
    rcases HNE.out with e | e
    · exact .inl e
    · exact .inr (fun h => by have := e _ h; omega)
  clear hb2 HP1 HNE R1 B1
  go_wp2_with (first
    | (refine wpList_newAt rfl 132 rfl (wvs z8) zero39 w2.heap.size rfl ?_)
    | (refine wpList_store_row rfl 132 (.tmp 4) (.tmp 8) rfl w2.heap.size (wvs iv).toArray rfl rfl 132 (wvs z8).toArray (Blk.new w2 _ _) (info39 iv iv_length) rfl (wvs_one _) ?_; generalize (w2.alloc (.cells (wvs z8).toArray 132)).setRow w2.heap.size (wvs iv).toArray = w3 at X3 ⊢; generalize w2.heap.size = d at X3 ⊢)
    | fail)
  go_loopw [5] (fun i wr => ∃ k : Nat, k ≤ q ∧ i = .int .i64 (k : Int) ∧ Hid (Rs w wr d (stN PM k) PM (.slice ap nP cp))) (fun i _ => q - (intOf i).toNat)
  case atStart => exact ⟨0, by omega, rfl, X3⟩
  case round =>
    obtain ⟨k, hk, rfl, hx⟩ := hrel
    have hqz : ((nP : Int)).tdiv 64 = (q : Int) := by rw [Int.tdiv_eq_ediv_of_nonneg (by omega)]; have := HQ.h; omega
    have hqe : (nP : Int) / 64 = (q : Int) := by have := HQ.h; omega
    by_cases hlt : k < q
    · have hlz : (k : Int) < (q : Int) := by omega
      go_upto_region 6 with fail
      obtain ⟨SK, hSK⟩ : ∃ S, stN PM k = S := ⟨_, rfl⟩
      obtain ⟨BK, hBK⟩ : ∃ B, blk PM k = B := ⟨_, rfl⟩
      obtain ⟨SN, hSN⟩ : ∃ S, comp SK BK = S := ⟨_, rfl⟩
      have HSS : Lk (stN PM (k + 1)) SN := ⟨by rw [← hSN, ← hSK, ← hBK]; rfl⟩
      have SL : Lk SK.length 8 := ⟨by rw [← hSK]; exact stN_length PM k⟩
      have BL : Lk BK.length 64 := ⟨by rw [← hBK]; unfold blk; rw [List.length_take, List.length_drop, PL.h]; have := HQ.h; omega⟩
      have SNL : Lk SN.length 8 := ⟨by rw [← hSN, comp_length]; exact SL.h⟩
      have HBK : Lk (blk PM k) BK := ⟨hBK⟩
      have HSN : Lk (comp SK BK) SN := ⟨hSN⟩
      rw [hSK] at hx
      clear hSK hBK hSN
      have h34l : (Tryd.prog.info? 132).map (·.size) = some (wvs SK).length := by rw [wvs_length, SL.h]; kernel_rfl
      refine wp_region_noPanic ?_
      refine wp_region_any (by kernel_rfl) ?_
      have Rwz : Rs w { wr with drawn := wr.drawn + 1 } d SK PM (.slice ap nP cp) := hx.out.below (Below.refl _ _).drew
      generalize { wr with drawn := wr.drawn + 1 } = wz at Rwz ⊢
      refine take_any (i := 1) rfl rfl (.move (.tmp 3)) rfl 17 rfl (v := (.slice ap nP cp)) (by kernel_rfl) (by kernel_rfl) (by kernel_rfl) (fun _ _ _ h => h) (fun o' ho w => by go_simp) ?_
      simp only [Act.put, List.setIfInBounds_toArray, List.set_cons_zero, List.set_cons_succ]
      refine take_any (i := 2) rfl rfl (.move (.tmp 5)) rfl 18 rfl (v := (.int .i64 (k : Int))) (by kernel_rfl) (by kernel_rfl) (by kernel_rfl) (fun _ _ _ h => h) (fun o' ho w => by go_simp) ?_
      simp only [Act.put, List.setIfInBounds_toArray, List.set_cons_zero, List.set_cons_succ]
      refine either (i := 0) (j := 3) (by kernel_rfl) ?_ ?_
      · skip
        refine op_load rfl rfl 16 rfl 132 (.tmp 4) rfl d 0 rfl (wvs SK) _ (Rwz.rg) Tryd.underlying132 rfl h34l ?_
        simp only [Act.put, List.setIfInBounds_toArray, List.set_cons_zero, List.set_cons_succ]
        refine only_one (i := 3) (by kernel_rfl) ?_
        refine op_call (R := fun v wx => v = .agg (BK.map byt).toArray ∧ Rs w wx d SK PM (.slice ap nP cp)) rfl rfl (.call { callee := .value (.func 71), args := #[.tmp 17, .tmp 18], argTypes := #[24, 3] }) rfl 19 rfl 71 #[.slice ap nP cp, .int .i64 (k : Int)] (fun o' ho => by go_simp) ((at_is (.slice ap nP cp) PM BK k HBK.h wz Rwz.ha (by rw [PL.h]; have := HQ.h; omega) (by rw [PL.h]; have := HnP.out; omega)).mono fun e wx ⟨h1, h2⟩ => ⟨_, h1, rfl, Rwz.below h2⟩) ?_
        rintro v x1 ⟨rfl, Rx1⟩
        simp only [Act.put, List.setIfInBounds_toArray, List.set_cons_zero, List.set_cons_succ]
        refine only_one (i := 4) (by kernel_rfl) ?_
        refine op_call (R := fun v wx => v = .agg (wvs SN).toArray ∧ Rs w wx d SK PM (.slice ap nP cp)) rfl rfl (.call { callee := .value (.func 70), args := #[.tmp 16, .tmp 19], argTypes := #[132, 134] }) rfl 20 rfl 70 #[.agg (wvs SK).toArray, .agg (BK.map byt).toArray] (fun o' ho => by go_simp) ((block_is SK BK SN HSN.h SL.h BL.h x1 (HR.out.below Rx1.be HR.out.lt)).mono fun e wx ⟨h1, h2⟩ => ⟨_, h1, rfl, Rx1.below h2⟩) ?_
        rintro v x2 ⟨rfl, Rx2⟩
        simp only [Act.put, List.setIfInBounds_toArray, List.set_cons_zero, List.set_cons_succ]
        refine only_one (i := 5) (by kernel_rfl) ?_
        refine op_store rfl rfl rfl 132 (.tmp 4) (.tmp 20) rfl d 0 (wvs SN).toArray rfl rfl (Rx2.st.there _ (by simp [wvs_length, SL.h, SNL.h])) (info39 SN SNL.h) (wvs_one _) ?_
        have F : Rs w (x2.setCells d 0 (wvs SN)) d SN PM (.slice ap nP cp) := Rx2.put SN (by rw [wvs_length, wvs_length, SL.h, SNL.h])
        refine wpAny_done (by kernel_rfl) (NoPanic.normal ?_) _
        have HF := hide F
        clear F
        generalize x2.setCells d 0 (wvs SN) = wf at HF ⊢
        go_wp2
        go_roundw
        case rel => exact ⟨k + 1, by omega, by go_num, by rw [HSS.h]; exact HF⟩
        case measure => simp [intOf]; omega
      · skip
        refine op_call (R := fun v wx => v = .agg (BK.map byt).toArray ∧ Rs w wx d SK PM (.slice ap nP cp)) rfl rfl (.call { callee := .value (.func 71), args := #[.tmp 17, .tmp 18], argTypes := #[24, 3] }) rfl 19 rfl 71 #[.slice ap nP cp, .int .i64 (k : Int)] (fun o' ho => by go_simp) ((at_is (.slice ap nP cp) PM BK k HBK.h wz Rwz.ha (by rw [PL.h]; have := HQ.h; omega) (by rw [PL.h]; have := HnP.out; omega)).mono fun e wx ⟨h1, h2⟩ => ⟨_, h1, rfl, Rwz.below h2⟩) ?_
        rintro v x1 ⟨rfl, Rx1⟩
        simp only [Act.put, List.setIfInBounds_toArray, List.set_cons_zero, List.set_cons_succ]
        refine only_one (i := 0) (by kernel_rfl) ?_
        refine op_load rfl rfl 16 rfl 132 (.tmp 4) rfl d 0 rfl (wvs SK) _ (Rx1.rg) Tryd.underlying132 rfl h34l ?_
        simp only [Act.put, List.setIfInBounds_toArray, List.set_cons_zero, List.set_cons_succ]
        refine only_one (i := 4) (by kernel_rfl) ?_
        refine op_call (R := fun v wx => v = .agg (wvs SN).toArray ∧ Rs w wx d SK PM (.slice ap nP cp)) rfl rfl (.call { callee := .value (.func 70), args := #[.tmp 16, .tmp 19], argTypes := #[132, 134] }) rfl 20 rfl 70 #[.agg (wvs SK).toArray, .agg (BK.map byt).toArray] (fun o' ho => by go_simp) ((block_is SK BK SN HSN.h SL.h BL.h x1 (HR.out.below Rx1.be HR.out.lt)).mono fun e wx ⟨h1, h2⟩ => ⟨_, h1, rfl, Rx1.below h2⟩) ?_
        rintro v x2 ⟨rfl, Rx2⟩
        simp only [Act.put, List.setIfInBounds_toArray, List.set_cons_zero, List.set_cons_succ]
        refine only_one (i := 5) (by kernel_rfl) ?_
        refine op_store rfl rfl rfl 132 (.tmp 4) (.tmp 20) rfl d 0 (wvs SN).toArray rfl rfl (Rx2.st.there _ (by simp [wvs_length, SL.h, SNL.h])) (info39 SN SNL.h) (wvs_one _) ?_
        have F : Rs w (x2.setCells d 0 (wvs SN)) d SN PM (.slice ap nP cp) := Rx2.put SN (by rw [wvs_length, wvs_length, SL.h, SNL.h])
        refine wpAny_done (by kernel_rfl) (NoPanic.normal ?_) _
        have HF := hide F
        clear F
        generalize x2.setCells d 0 (wvs SN) = wf at HF ⊢
        go_wp2
        go_roundw
        case rel => exact ⟨k + 1, by omega, by go_num, by rw [HSS.h]; exact HF⟩
        case measure => simp [intOf]; omega
    · obtain rfl : k = q := by omega
      have HX : Lk (stN PM k) (stN PM k) := ⟨rfl⟩
      obtain ⟨SK, hSK⟩ : ∃ S, stN PM k = S := ⟨_, rfl⟩
      rw [hSK] at hx HDD
      have SL : Lk SK.length 8 := ⟨by rw [← hSK]; exact stN_length PM k⟩
      clear hSK HX
      have h34 := info39 SK SL.h
      go_wp2_with (first
        | (refine wpList_load_row rfl 132 (.tmp 4) rfl d rfl 132 (wvs SK).toArray (0, 0) _ hx.out.st Tryd.underlying132 rfl h34 ?_)
        | (go_at_call 72; refine (rbytes_is SK D HDD.h SL.h _).mono ?_; rintro e w8 ⟨rfl, hb8⟩; have X8 := hide (hx.out.below hb8); clear hb8)
        | (refine wpList_store_row rfl 91 (.tmp 2) (.tmp 22) rfl w.heap.size (D.map byt).toArray rfl rfl 91 (z32.map byt).toArray X8.out.re i41 (by rw [List.size_toArray, List.size_toArray, List.length_map, List.length_map, DL.h]; rfl) (byts_one _) ?_)
        | fail)
      refine bodyPost_ret (v := .agg (D.map byt).toArray) ?_ rfl ⟨rfl, below_setRow X8.out.be _ _ (Nat.le_refl _)⟩
      exact results_cell_row Tryd.results63 _ _ w.heap.size 91 _ (0, 0) _ rfl (X8.out.re.setRow _) Tryd.underlying91 rfl i41
end Go.Proofs.YtiefgmgjlhjjhaaDoor
