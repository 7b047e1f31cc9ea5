import Derived.Test.YtoceepmehmacbaaDoorKXkG
set_option linter.unusedVariables false
set_option linter.unusedSimpArgs false
namespace Go.Proofs.YtoceepmehmacbaaDoor.Cv
open Go.RowKit

structure Wra (n : Nat) (w wx : World) (t : List Nat) : Prop where
  va : Blk wx n (t.map dg) 134
  re : Blk wx (n + 1) (z32.map byt) 23
  be : Below n w wx
theorem Wra.set {n : Nat} {w wx : World} {t : List Nat} (h : Wra n w wx t) (j x : Nat) : Wra n w (wx.setCell ⟨n, j, none⟩ (.int .i64 (x : Int))) (t.set j x) :=
  ⟨by rw [← dgs_set]; exact h.va.set j _, h.re.setOther _ _ _ (by omega), h.be.setCell (by simp) _⟩
theorem Wra.on {n : Nat} {w wx wy : World} {t : List Nat} (h : Wra n w wx t) (hb : Below wx.heap.size wx wy) : Wra n w wy t :=
  ⟨h.va.on hb, h.re.on hb, h.be.trans (hb.mono (by have := h.va.lt; omega))⟩
theorem Wra.row {n : Nat} {w wx : World} {t : List Nat} (h : Wra n w wx t) (u : List Nat) : Wra n w (wx.setRow n (u.map dg).toArray) u :=
  ⟨h.va.setRow _, h.re.setRowOther _ _ (by omega), below_setRow h.be _ _ (by omega)⟩
/-- The number, the answer, the number to be compared. -/
structure Wrm (n g : Nat) (w wx : World) (t m : List Nat) : Prop where
  va : Blk wx n (t.map dg) 134
  re : Blk wx (n + 1) (z32.map byt) 23
  ma : Blk wx g (m.map dg) 134
  ng : n + 1 < g
  be : Below n w wx
theorem Wrm.setM {n g : Nat} {w wx : World} {t m : List Nat} (h : Wrm n g w wx t m) (j x : Nat) : Wrm n g w (wx.setCell ⟨g, j, none⟩ (.int .i64 (x : Int))) t (m.set j x) :=
  ⟨h.va.setOther _ _ _ (by have := h.ng; omega), h.re.setOther _ _ _ (by have := h.ng; omega), by rw [← dgs_set]; exact h.ma.set j _, h.ng, h.be.setCell (by have := h.ng; show n ≤ g; omega) _⟩
theorem Wrm.setT {n g : Nat} {w wx : World} {t m : List Nat} (h : Wrm n g w wx t m) (j x : Nat) : Wrm n g w (wx.setCell ⟨n, j, none⟩ (.int .i64 (x : Int))) (t.set j x) m :=
  ⟨by rw [← dgs_set]; exact h.va.set j _, h.re.setOther _ _ _ (by omega), h.ma.setOther _ _ _ (by have := h.ng; omega), h.ng, h.be.setCell (by simp) _⟩
theorem Wrm.on {n g : Nat} {w wx wy : World} {t m : List Nat} (h : Wrm n g w wx t m) (hb : Below wx.heap.size wx wy) : Wrm n g w wy t m :=
  ⟨h.va.on hb, h.re.on hb, h.ma.on hb, h.ng, h.be.trans (hb.mono (by have := h.va.lt; omega))⟩
theorem Wrm.rowM {n g : Nat} {w wx : World} {t m : List Nat} (h : Wrm n g w wx t m) (u : List Nat) : Wrm n g w (wx.setRow g (u.map dg).toArray) t u :=
  ⟨h.va.setRowOther _ _ (by have := h.ng; omega), h.re.setRowOther _ _ (by have := h.ng; omega), h.ma.setRow _, h.ng, below_setRow h.be _ _ (by have := h.ng; omega)⟩
theorem Wrm.rowT {n g : Nat} {w wx : World} {t m : List Nat} (h : Wrm n g w wx t m) (u : List Nat) : Wrm n g w (wx.setRow n (u.map dg).toArray) u m :=
  ⟨h.va.setRow _, h.re.setRowOther _ _ (by omega), h.ma.setRowOther _ _ (by have := h.ng; omega), h.ng, below_setRow h.be _ _ (by omega)⟩
/-- The number, the answer, the key that is filled. -/
structure Wrk (n g : Nat) (w wx : World) (t : List Nat) (k : List UInt8) : Prop where
  va : Blk wx n (t.map dg) 134
  re : Blk wx (n + 1) (z32.map byt) 23
  ke : Blk wx g (k.map byt) 23
  ng : n + 1 < g
  be : Below n w wx
theorem Wrk.on {n g : Nat} {w wx wy : World} {t : List Nat} {k : List UInt8} (h : Wrk n g w wx t k) (hb : Below wx.heap.size wx wy) : Wrk n g w wy t k :=
  ⟨h.va.on hb, h.re.on hb, h.ke.on hb, h.ng, h.be.trans (hb.mono (by have := h.va.lt; omega))⟩
theorem Wrk.set {n g : Nat} {w wx : World} {t : List Nat} {k : List UInt8} (h : Wrk n g w wx t k) (j : Nat) (x : UInt8) : Wrk n g w (wx.setCell ⟨g, j, none⟩ (.int .u8 (x.toNat : Int))) t (k.set j x) :=
  ⟨h.va.setOther _ _ _ (by have := h.ng; omega), h.re.setOther _ _ _ (by have := h.ng; omega), by rw [← byt_set]; exact h.ke.set j _, h.ng, h.be.setCell (by have := h.ng; show n ≤ g; omega) _⟩
theorem nm_any {t u : List Nat} (h : t.length = 10) (h' : u.length = 10) : (t.map dg).toArray.size = (u.map dg).toArray.size := by simp [h, h']

set_option maxRecDepth 100000 in
set_option maxHeartbeats 8000000 in
theorem write_any (t : List Nat) (ht : Dg t) (w : World) : Calls Tryd.prog 83 #[num t] w fun e w' => e = .returned (.agg ((nb (V t % Prm.P)).map byt).toArray) ∧ Below w.heap.size w w' := by
  have HE := hide (wr_end ht)
  have HD := hide (wr_dg ht)
  have HM := hide (wr_mod ht)
  have HST := hide (wr_stop t)
  obtain ⟨v, hv⟩ : ∃ v, V t % Prm.P = v := ⟨_, rfl⟩
  have hvl : v < 2 ^ 255 := by rw [← hv]; exact Nat.lt_trans (Nat.mod_lt _ (by decide +kernel)) (by decide +kernel)
  rw [hv] at HM ⊢
  have HVL := hide hvl
  clear hv hvl
  go_enter Tryd.func83, Tryd.ntmps83
  go_wp2_with (first | (refine wpList_boxAt rfl 134 (.tmp 0) rfl (t.map dg) rfl (w.heap.size) rfl ?_) | (refine wpList_newAt rfl 23 rfl (z32.map byt) zero23 (w.heap.size + 1) (size1 _ _) ?_))
  have h0 : Hid (Wra w.heap.size w ((w.alloc (.cells (t.map dg).toArray 134)).alloc (.cells (z32.map byt).toArray 23)) (wrL t 0)) := by
    refine ⟨(Blk.new _ _ _).alloc _, ?_, by go_grown⟩
    have := Blk.new (w.alloc (.cells (t.map dg).toArray 134)) (z32.map byt) 23
    simpa using this
  generalize (w.alloc (.cells (t.map dg).toArray 134)).alloc (.cells (z32.map byt).toArray 23) = w1 at h0 ⊢
  obtain ⟨n, hn⟩ : ∃ n, w.heap.size = n := ⟨_, rfl⟩
  rw [hn] at h0 ⊢
  clear ht
  simp only [Act.put, List.setIfInBounds_toArray, List.set_cons_zero, List.set_cons_succ]
  go_loopw [3] (fun _ wr => ∃ j : Nat, j ≤ 2 ∧ Hid (Wra n w wr (wrL t j))) (fun _ wr => mV wr n)
  case atStart => exact ⟨0, by omega, h0⟩
  case round =>
    obtain ⟨j, hj, hs⟩ := hrel
    have hD := HD.out j
    have hnx : Hid (wrL t (j + 1) = if 2097152 ≤ (wrL t j).getD 9 0 then (itL (fw (wrL t j)) 3).1 else wrL t j) := by rw [wrL]; exact hide rfl
    have hst : Hid ((wrL t j).getD 9 0 < 2097152 → wrL t 2 = wrL t j) := fun h => by
      have := HST.out j h (2 - j)
      rw [Nat.add_sub_cancel' hj] at this
      exact this
    have hj2 : 2097152 ≤ (wrL t j).getD 9 0 → j < 2 := fun h => by
      rcases Nat.lt_or_ge j 2 with h1 | h1
      · exact h1
      · obtain rfl : j = 2 := by omega
        have := HE.out
        omega
    have hml := HM.out j
    obtain ⟨L, hL⟩ : ∃ L, wrL t j = L := ⟨_, rfl⟩
    rw [hL] at hs hD hst hj2 hnx hml
    clear hL
    have hln := hD.len
    have h9l := hD.lt 9
    have h0l := hD.lt 0
    obtain ⟨a, ha⟩ : ∃ a, L.getD 9 0 = a := ⟨_, rfl⟩
    obtain ⟨b, hb⟩ : ∃ b, L.getD 0 0 = b := ⟨_, rfl⟩
    have hc9 : wr.cell? ⟨n, 9, none⟩ = some (.int .i64 (a : Int)) := by rw [hs.out.va.cell, dgs_at L 9 (by omega), ha]
    by_cases hge : 2097152 ≤ a
    · have hgz : (2097152 : Int) ≤ (a : Int) := by omega
      have hj2' := hj2 (by omega)
      obtain ⟨q, hq⟩ : ∃ q, a / 2097152 = q := ⟨_, rfl⟩
      obtain ⟨r, hr⟩ : ∃ r, a % 2097152 = r := ⟨_, rfl⟩
      have e1 : (a : Int) / 2097152 = (q : Int) := by omega
      have e2 : (a : Int).tmod 2097152 = (r : Int) := by rw [Int.tmod_eq_emod_of_nonneg (by omega)]; omega
      have e3 : (a : Int) % 2097152 = (r : Int) := by omega
      have e4 : IntKind.i64.wrap (r : Int) = (r : Int) := wrap64_small (by omega) (by omega)
      have e5 : IntKind.i64.wrap (q : Int) = (q : Int) := wrap64_small (by omega) (by omega)
      have hf9 := hs.out.va.frozen 9
      have hfw : Hid (fw L = (L.set 9 r).set 0 (b + 19 * q)) := by unfold fw; rw [ha, hb, hq, hr]; exact hide rfl
      have hcx := wr_step hD
      have hci := carried_walk (fw L) (by rw [fw_len, hln]) (fw_small hD)
      have hdv : V L / 2 ^ 255 = q := by rw [(top_is hD.lt).1, ha, hq]
      rw [hdv] at hcx
      have hql : 1 ≤ q := by omega
      have hqs : q < 32 := by omega
      have hnx2 : Hid (wrL t (j + 1) = (itL (fw L) 3).1) := by rw [hnx.out, if_pos (by omega)]; exact hide rfl
      have hmv := mV_eq hs.out.va hln
      have HQ := hide hql
      have HMV := hide hmv
      obtain ⟨R, hR⟩ : ∃ R, (itL (fw L) 3).1 = R := ⟨_, rfl⟩
      rw [hR] at hcx hnx2 hci
      have HCX := hide hcx
      obtain ⟨F, hF⟩ : ∃ F, fw L = F := ⟨_, rfl⟩
      rw [hF] at hci hfw
      have HCI := hide hci
      clear hR hF hcx hci hmv hql hdv hnx hst hj2 hml
      go_upto_region 4 with fail
      have hs1 := hide (hs.out.set 9 r)
      generalize wr.setCell ⟨n, 9, none⟩ (.int .i64 (r : Int)) = w2 at hs1 ⊢
      have hc0 : w2.cell? ⟨n, 0, none⟩ = some (.int .i64 (b : Int)) := by rw [hs1.out.va.cell, dgs_at _ 0 (by rw [List.length_set]; omega), setD_at _ _ _ _ (by decide), hb]
      have hf0 := hs1.out.va.frozen 0
      obtain ⟨m, hm⟩ : ∃ m, 19 * q = m := ⟨_, rfl⟩
      obtain ⟨x, hx⟩ : ∃ x, b + m = x := ⟨_, rfl⟩
      have f1 : IntKind.i64.wrap (19 * (q : Int)) = (m : Int) := by rw [wrap64_small (by omega) (by omega)]; omega
      have f2 : IntKind.i64.wrap ((b : Int) + (m : Int)) = (x : Int) := by rw [wrap64_small (by omega) (by omega)]; omega
      rw [hm, hx] at hfw
      clear e1 e2 e3 e4 e5 hc9 hf9
      go_upto_region 5 with fail
      have hs2 := hs1.out.set 0 x
      rw [← hfw.out] at hs2
      have lF : F.length = 10 := by rw [hfw.out]; simp [hln]
      have lR := HCX.out.1.len
      replace hs2 := hide hs2
      clear hs1 hc0 hf0 f1 f2 hfw
      generalize w2.setCell ⟨n, 0, none⟩ (.int .i64 (x : Int)) = w3 at hs2 ⊢
      have cF := fun W => HCI.out W
      go_wp2_with (first | (refine wpList_load_row rfl 134 (.tmp 1) rfl n rfl 134 (F.map dg).toArray (0, 0) _ hs2.out.va Tryd.underlying134 rfl (nm_infoA lF) ?_) | (go_at_call 88; refine (cF _).mono ?_; rintro e w4 ⟨rfl, hb4⟩; have B4 := hide hb4; clear hb4) | (refine wpList_store_row rfl 134 (.tmp 1) (.tmp 24) rfl n (R.map dg).toArray rfl rfl 134 (F.map dg).toArray (hs2.out.va.on B4.out) (nm_infoA lR) (nm_any lF lR) (dgs_one R) ?_))
      simp only [Act.put]
      go_roundw
      case rel =>
        refine ⟨j + 1, by omega, ?_⟩
        rw [hnx2.out]
        exact (hs2.out.on B4.out).row R
      case measure =>
        rw [mV_eq ((hs2.out.on B4.out).row R).va lR, HMV.out]
        have h1 := HCX.out.2
        have h2 := HQ.out
        have hp : 1 ≤ q * Prm.P := Nat.mul_pos h2 (by decide +kernel)
        omega
    · have hgz : ¬ (2097152 : Int) ≤ (a : Int) := by omega
      have h2 := hst.out (by omega)
      have hv2 : V L < 2 ^ 255 := by
        have := (top_is hD.lt).1
        rw [ha] at this
        exact (Nat.div_eq_zero_iff.1 (by omega : V L / 2 ^ 255 = 0)).resolve_left (by decide)
      obtain ⟨dF, vF⟩ := fin_is hD hv2
      obtain ⟨dM, vM⟩ := mm_is hD hv2
      rw [hml] at vF
      have hci := carried_walk (L.set 0 (b + 19)) (by rw [List.length_set, hln]) (fun i => by
        have hi := hD.lt i
        by_cases e : i = 0
        · subst e; rw [setD_in _ _ _ (by omega)]; omega
        · rw [setD_at _ _ _ _ (by omega)]; omega)
      have hfin : Hid (fin L = if 2097152 ≤ (mm L).getD 9 0 then (mm L).set 9 ((mm L).getD 9 0 - 2097152) else L) := hide rfl
      have emm : (itL (L.set 0 (b + 19)) 3).1 = mm L := by unfold mm; rw [hb]
      rw [emm] at hci
      obtain ⟨M, hM⟩ : ∃ M, mm L = M := ⟨_, rfl⟩
      rw [hM] at hci hfin dM
      obtain ⟨F, hF⟩ : ∃ F, fin L = F := ⟨_, rfl⟩
      rw [hF] at hfin dF vF
      have HCI := hide hci
      have HDF := hide dF
      have HVF := hide vF
      have lM := dM.len
      have m9 := dM.lt 9
      clear emm hM hF hci dF vF vM dM h2 hv2 hml hst hnx hj2 hD hj
      obtain ⟨g, hg⟩ : ∃ g, wr.heap.size = g := ⟨_, rfl⟩
      go_upto_region 7 with (first | (refine wpList_load_row rfl 134 (.tmp 1) rfl n rfl 134 (L.map dg).toArray (0, 0) _ hs.out.va Tryd.underlying134 rfl (nm_infoA hln) ?_) | (refine wpList_newAt rfl 134 rfl (z10n.map dg) zero75 g hg ?_) | (refine wpList_store_row rfl 134 (.tmp 4) (.tmp 25) rfl g (L.map dg).toArray rfl rfl 134 (z10n.map dg).toArray (by rw [← hg]; exact Blk.new _ _ _) (nm_infoA hln) (nm_size hln) (dgs_one L) ?_))
      have hs1 : Hid (Wrm n g w ((wr.alloc (.cells (z10n.map dg).toArray 134)).setRow g (L.map dg).toArray) L L) := by
        have hgn : n + 1 < g := by have := hs.out.re.lt; omega
        have h1 : Wrm n g w (wr.alloc (.cells (z10n.map dg).toArray 134)) L z10n := ⟨hs.out.va.alloc _, hs.out.re.alloc _, by rw [← hg]; exact Blk.new _ _ _, hgn, hs.out.be.trans (by go_grown)⟩
        exact h1.rowM L
      generalize (wr.alloc (.cells (z10n.map dg).toArray 134)).setRow g (L.map dg).toArray = w2 at hs1 ⊢
      have hc0 : w2.cell? ⟨g, 0, none⟩ = some (.int .i64 (b : Int)) := by rw [hs1.out.ma.cell, dgs_at L 0 (by omega), hb]
      have hf0 := hs1.out.ma.frozen 0
      obtain ⟨x, hx⟩ : ∃ x, b + 19 = x := ⟨_, rfl⟩
      rw [hx] at HCI
      have f1 : IntKind.i64.wrap ((b : Int) + 19) = (x : Int) := by rw [wrap64_small (by omega) (by omega)]; omega
      clear hs hc9 hg
      go_upto_region 8 with fail
      have hs2 := hide (hs1.out.setM 0 x)
      generalize w2.setCell ⟨g, 0, none⟩ (.int .i64 (x : Int)) = w3 at hs2 ⊢
      clear hs1 hc0 hf0 f1
      have lS : (L.set 0 x).length = 10 := by rw [List.length_set, hln]
      obtain ⟨S, hS⟩ : ∃ S, L.set 0 x = S := ⟨_, rfl⟩
      rw [hS] at lS hs2 HCI
      clear hS hx hgz hge
      have cF := fun W => HCI.out W
      go_upto_region 9 with (first | (refine wpList_load_row rfl 134 (.tmp 4) rfl g rfl 134 (S.map dg).toArray (0, 0) _ hs2.out.ma Tryd.underlying134 rfl (nm_infoA lS) ?_) | (go_at_call 88; refine (cF _).mono ?_; rintro e w4 ⟨rfl, hb4⟩; have B4 := hide hb4; clear hb4) | (refine wpList_store_row rfl 134 (.tmp 4) (.tmp 31) rfl g (M.map dg).toArray rfl rfl 134 (S.map dg).toArray (hs2.out.ma.on B4.out) (nm_infoA lM) (nm_any lS lM) (dgs_one M) ?_))
      have hs3 := hide ((hs2.out.on B4.out).rowM M)
      generalize w4.setRow g (M.map dg).toArray = w5 at hs3 ⊢
      clear hs2 B4 cF HCI
      obtain ⟨d, hd⟩ : ∃ d, M.getD 9 0 = d := ⟨_, rfl⟩
      rw [hd] at hfin m9
      have hc9 : w5.cell? ⟨g, 9, none⟩ = some (.int .i64 (d : Int)) := by rw [hs3.out.ma.cell, dgs_at M 9 (by omega), hd]
      by_cases hdz : 2097152 ≤ d
      · have hdz' : (2097152 : Int) ≤ (d : Int) := by omega
        rw [if_pos hdz] at hfin
        go_upto_region 11 with (first | (refine wpList_load_row rfl 134 (.tmp 4) rfl g rfl 134 (M.map dg).toArray (0, 0) _ hs3.out.ma Tryd.underlying134 rfl (nm_infoA lM) ?_) | (refine wpList_store_row rfl 134 (.tmp 1) (.tmp 35) rfl n (M.map dg).toArray rfl rfl 134 (L.map dg).toArray hs3.out.va (nm_infoA lM) (nm_any hln lM) (dgs_one M) ?_))
        have hs4 := hide (hs3.out.rowT M)
        generalize w5.setRow n (M.map dg).toArray = w55 at hs4 ⊢
        have k9 : w55.cell? ⟨n, 9, none⟩ = some (.int .i64 (d : Int)) := by rw [hs4.out.va.cell, dgs_at M 9 (by omega), hd]
        have kf := hs4.out.va.frozen 9
        obtain ⟨y, hy⟩ : ∃ y, d - 2097152 = y := ⟨_, rfl⟩
        rw [hy] at hfin
        have f1 : IntKind.i64.wrap ((d : Int) - 2097152) = (y : Int) := by rw [wrap64_small (by omega) (by omega)]; omega
        go_upto_region 12 with fail
        have hs5 : Hid (Wrm n g w (w55.setCell ⟨n, 9, none⟩ (.int .i64 (y : Int))) F M) := by rw [hfin.out]; exact hs4.out.setT 9 y
        generalize w55.setCell ⟨n, 9, none⟩ (.int .i64 (y : Int)) = w6 at hs5 ⊢
        clear hs4 k9 kf f1 hy hc9
        clear hfin m9 hdz hdz' hd
        clear hs3
        obtain ⟨g2, hg2⟩ : ∃ g2, w6.heap.size = g2 := ⟨_, rfl⟩
        go_upto_region 13 with (refine wpList_newAt rfl 23 rfl (z32.map byt) zero23 g2 hg2 ?_)
        have hs6 : Hid (Wrk n g2 w (w6.alloc (.cells (z32.map byt).toArray 23)) F (nb (v % 2 ^ 0))) := by
          have hgn : n + 1 < g2 := by have := hs5.out.re.lt; omega
          have hz : nb (v % 2 ^ 0) = z32 := by rw [Nat.pow_zero, Nat.mod_one]; rfl
          rw [hz]
          exact ⟨hs5.out.va.alloc _, hs5.out.re.alloc _, by rw [← hg2]; exact Blk.new _ _ _, hgn, hs5.out.be.trans (by have := hs5.out.be.size; go_grown)⟩
        generalize w6.alloc (.cells (z32.map byt).toArray 23) = w7 at hs6 ⊢
        clear hg2 hs5 ha hb lS lM hln h9l h0l
        have lF := HDF.out.len
        go_wp2
        go_loopw [6] (fun i wr => ∃ j : Nat, j ≤ 255 ∧ i = .int .i64 (j : Int) ∧ Hid (Wrk n g2 w wr F (nb (v % 2 ^ j)))) (fun i _ => 255 - (intOf i).toNat)
        case atStart => exact ⟨0, by omega, rfl, hs6⟩
        case round =>
          obtain ⟨i, hi, rfl, hs7⟩ := hrel
          have hkl : (nb (v % 2 ^ i)).length = 32 := nb_length _
          by_cases hlt : i < 255
          · have hltz : (i : Int) < 255 := by omega
            obtain ⟨c2, hc2⟩ : ∃ c, c = i / 26 := ⟨_, rfl⟩
            obtain ⟨r2, hr2⟩ : ∃ r, r = i % 26 := ⟨_, rfl⟩
            have q1 : (i : Int).tdiv 26 = (c2 : Int) := by rw [Int.tdiv_eq_ediv_of_nonneg (by omega)]; omega
            have q2 : (i : Int) / 26 = (c2 : Int) := by omega
            have q3 : (i : Int).tmod 26 = (r2 : Int) := by rw [Int.tmod_eq_emod_of_nonneg (by omega)]; omega
            have q4 : (i : Int) % 26 = (r2 : Int) := by omega
            have q5 : IntKind.i64.wrap (c2 : Int) = (c2 : Int) := wrap64_small (by omega) (by omega)
            have hc10 : (c2 : Int) < 10 := by omega
            have hr26 : r2 < 26 := by omega
            obtain ⟨x2, hx2⟩ : ∃ x, F.getD c2 0 = x := ⟨_, rfl⟩
            obtain ⟨m2, hm2⟩ : ∃ m, m = x2 / 2 ^ r2 := ⟨_, rfl⟩
            have hbit : m2 % 2 = v / 2 ^ i % 2 := by rw [hm2, ← hx2, hc2, hr2, dig_bit HDF.out i hlt, HVF.out]
            have hx2l : x2 < 67108864 := by rw [← hx2]; exact HDF.out.lt _
            have hm2l : m2 < 67108864 := by rw [hm2]; exact Nat.lt_of_le_of_lt (Nat.div_le_self _ _) hx2l
            have e1 : (x2 : Int) / 2 ^ r2 = (m2 : Int) := by
              rw [hm2, Int.natCast_ediv, Int.natCast_pow]
              rfl
            have hcell : wr.cell? ⟨n, c2, none⟩ = some (.int .i64 (x2 : Int)) := by rw [hs7.out.va.cell, dgs_at F c2 (by omega), hx2]
            by_cases hb1 : m2 % 2 = 1
            · have e2 : (m2 : Int).tmod 2 = 1 := by rw [Int.tmod_eq_emod_of_nonneg (by omega)]; omega
              have e3 : (m2 : Int) % 2 = 1 := by omega
              rw [hb1] at hbit
              obtain ⟨hnb, hlt2⟩ := nb_bit v i hlt hbit.symm
              obtain ⟨c3, hc3⟩ : ∃ c, c = i / 8 := ⟨_, rfl⟩
              obtain ⟨r3, hr3⟩ : ∃ r, r = i % 8 := ⟨_, rfl⟩
              rw [← hc3, ← hr3] at hnb hlt2
              obtain ⟨K, hK⟩ : ∃ K, nb (v % 2 ^ i) = K := ⟨_, rfl⟩
              rw [hK] at hnb hlt2 hs7 hkl
              obtain ⟨y, hy⟩ : ∃ y, K.getD c3 0 = y := ⟨_, rfl⟩
              rw [hy] at hnb hlt2
              obtain ⟨pp, hpp⟩ : ∃ p, 2 ^ r3 = p := ⟨_, rfl⟩
              rw [hpp] at hnb hlt2
              obtain ⟨Z, hZ⟩ : ∃ Z, UInt8.ofNat (y.toNat + pp) = Z := ⟨_, rfl⟩
              rw [hZ] at hnb
              have hZv : Z.toNat = y.toNat + pp := by rw [← hZ, UInt8.toNat_ofNat']; exact Nat.mod_eq_of_lt hlt2
              have HNB := hide hnb
              have q6 : (i : Int).tdiv 8 = (c3 : Int) := by rw [Int.tdiv_eq_ediv_of_nonneg (by omega)]; omega
              have q7 : (i : Int) / 8 = (c3 : Int) := by omega
              have q8 : (i : Int).tmod 8 = (r3 : Int) := by rw [Int.tmod_eq_emod_of_nonneg (by omega)]; omega
              have q9 : (i : Int) % 8 = (r3 : Int) := by omega
              have q10 : IntKind.i64.wrap (c3 : Int) = (c3 : Int) := wrap64_small (by omega) (by omega)
              have hc32 : (c3 : Int) < 32 := by omega
              have hr8 : r3 < 8 := by omega
              have s1 : (2 : Int) ^ r3 = (pp : Int) := by rw [← hpp, Int.natCast_pow]; rfl
              have s2 : IntKind.u8.wrap (pp : Int) = (pp : Int) := by rw [IntKind.wrap_u8]; omega
              have s3 : IntKind.u8.wrap ((y.toNat : Int) + (pp : Int)) = (Z.toNat : Int) := by rw [IntKind.wrap_u8]; omega
              have hyv := byts_at K c3 (by omega)
              rw [hy] at hyv
              have HYV := hide hyv
              clear hnb hlt2 hyv hy hpp hZ hZv hK hb1 hbit hm2 hx2 hc2 hr2 hc3 hr3
              go_upto_region 17 with fail
              refine reg_lastS (by kernel_rfl) 11 rfl rfl (by kernel_rfl) rfl rfl (.store 5 (.tmp 63) (.tmp 62)) rfl ?_
              simp only [List.take_succ_cons, List.take_zero]
              refine wpLex_cons2 _ (uni_val (by rfl) (Op.move (Operand.tmp 6)) rfl (.int .i64 (i : Int)) (fun o' ho W _ => by go_simp)) (by simp only [Act.put, List.setIfInBounds_toArray, List.set_cons_zero, List.set_cons_succ]; rfl) ?_; refine wpLex_cons2 _ (uni_val (by rfl) (Op.binOp BinOp.quo 3 (Operand.tmp 53) (Operand.const (Value.int IntKind.i64 8)) 3) rfl (.int .i64 (c3 : Int)) (fun o' ho W _ => by go_simp)) (by simp only [Act.put, List.setIfInBounds_toArray, List.set_cons_zero, List.set_cons_succ]; rfl) ?_; refine wpLex_cons2 _ (uni_val (by rfl) (Op.move (Operand.tmp 6)) rfl (.int .i64 (i : Int)) (fun o' ho W _ => by go_simp)) (by simp only [Act.put, List.setIfInBounds_toArray, List.set_cons_zero, List.set_cons_succ]; rfl) ?_; refine wpLex_cons2 _ (uni_val (by rfl) (Op.binOp BinOp.quo 3 (Operand.tmp 55) (Operand.const (Value.int IntKind.i64 8)) 3) rfl (.int .i64 (c3 : Int)) (fun o' ho W _ => by go_simp)) (by simp only [Act.put, List.setIfInBounds_toArray, List.set_cons_zero, List.set_cons_succ]; rfl) ?_; refine wpLex_cons2 _ (uni_val (by rfl) (Op.indexAddr 23 (Operand.tmp 5) (Operand.tmp 56)) rfl (.pointer (some ⟨g2, c3, none⟩)) (fun o' ho W _ => by go_simp)) (by simp only [Act.put, List.setIfInBounds_toArray, List.set_cons_zero, List.set_cons_succ]; rfl) ?_; refine wpLex_cons2 _ (uni_cell (by rfl) 5 (.tmp 57) rfl g2 c3 (.int .u8 (y.toNat : Int)) rfl (fun W hW => ((hs7.out.ke.on hW).cell c3).trans HYV.out) Tryd.underlying5 rfl) (by simp only [Act.put, List.setIfInBounds_toArray, List.set_cons_zero, List.set_cons_succ]; rfl) ?_; refine wpLex_cons2 _ (uni_val (by rfl) (Op.move (Operand.tmp 6)) rfl (.int .i64 (i : Int)) (fun o' ho W _ => by go_simp)) (by simp only [Act.put, List.setIfInBounds_toArray, List.set_cons_zero, List.set_cons_succ]; rfl) ?_; refine wpLex_cons2 _ (uni_val (by rfl) (Op.binOp BinOp.rem 3 (Operand.tmp 59) (Operand.const (Value.int IntKind.i64 8)) 3) rfl (.int .i64 (r3 : Int)) (fun o' ho W _ => by go_simp)) (by simp only [Act.put, List.setIfInBounds_toArray, List.set_cons_zero, List.set_cons_succ]; rfl) ?_; refine wpLex_cons2 _ (uni_val (by rfl) (Op.binOp BinOp.shl 5 (Operand.const (Value.int IntKind.u8 1)) (Operand.tmp 60) 3) rfl (.int .u8 (pp : Int)) (fun o' ho W _ => by go_simp)) (by simp only [Act.put, List.setIfInBounds_toArray, List.set_cons_zero, List.set_cons_succ]; rfl) ?_; refine wpLex_cons2 _ (uni_val (by rfl) (Op.binOp BinOp.add 5 (Operand.tmp 58) (Operand.tmp 61) 5) rfl (.int .u8 (Z.toNat : Int)) (fun o' ho W _ => by go_simp)) (by simp only [Act.put, List.setIfInBounds_toArray, List.set_cons_zero, List.set_cons_succ]; rfl) ?_; refine wpLex_cons2 _ (uni_val (by rfl) (Op.indexAddr 23 (Operand.tmp 5) (Operand.tmp 54)) rfl (.pointer (some ⟨g2, c3, none⟩)) (fun o' ho W _ => by go_simp)) (by simp only [Act.put, List.setIfInBounds_toArray, List.set_cons_zero, List.set_cons_succ]; rfl) ?_; refine ⟨fun W => W.setCell ⟨g2, c3, none⟩ (.int .u8 (Z.toNat : Int)), fun o' ho W hW => ?_, fun W hW => ?_⟩
              · have hc := ((hs7.out.ke.on hW).cell c3).trans HYV.out
                have hf := (hs7.out.ke.on hW).frozen c3
                go_simp
              · have hs8 := hide ((hs7.out.on hW).set c3 Z)
                clear hW
                dsimp only
                generalize W.setCell ⟨g2, c3, none⟩ (.int .u8 (Z.toNat : Int)) = wv at hs8 ⊢
                go_wp2
                go_roundw
                case rel =>
                  refine ⟨i + 1, by omega, by go_num, ?_⟩
                  rw [HNB.out]
                  exact hs8
                case measure => simp [intOf]; omega
            · have e2 : (m2 : Int).tmod 2 = 0 := by rw [Int.tmod_eq_emod_of_nonneg (by omega)]; omega
              have e3 : (m2 : Int) % 2 = 0 := by omega
              have hnb := nb_nobit v i (by omega)
              have HNB := hide hnb
              obtain ⟨K, hK⟩ : ∃ K, nb (v % 2 ^ i) = K := ⟨_, rfl⟩
              rw [hK] at HNB hs7 hkl
              clear hnb hb1 hbit hm2 hx2 hc2 hr2 hK
              go_wp2
              go_roundw
              case rel =>
                refine ⟨i + 1, by omega, by go_num, ?_⟩
                rw [HNB.out]
                exact hs7
              case measure => simp [intOf]; omega
          · obtain rfl : i = 255 := by omega
            have hvv : v % 2 ^ 255 = v := Nat.mod_eq_of_lt HVL.out
            rw [hvv] at hs7 hkl
            obtain ⟨K, hK⟩ : ∃ K, nb v = K := ⟨_, rfl⟩
            rw [hK] at hs7 hkl
            have HK := hide hK
            clear hK hvv
            go_wp2_with (first | (refine wpList_load_row rfl 23 (.tmp 5) rfl g2 rfl 23 (K.map byt).toArray (0, 0) _ hs7.out.ke Tryd.underlying23 rfl (key_infoA hkl) ?_) | (refine wpList_store_row rfl 23 (.tmp 2) (.tmp 64) rfl (n + 1) (K.map byt).toArray rfl rfl 23 (z32.map byt).toArray hs7.out.re (key_infoA hkl) (key_size hkl) (byts_one _) ?_))
            refine bodyPost_ret (results_cell_row Tryd.results83 _ _ (n + 1) 23 (K.map byt).toArray (0, 0) _ rfl (hs7.out.re.setRow _) Tryd.underlying23 rfl (key_infoA hkl)) rfl ?_
            exact ⟨by rw [HK.out], by first | (rw [hn]; exact below_setRow hs7.out.be _ _ (by omega)) | exact below_setRow hs7.out.be _ _ (by omega)⟩
      · have hdz' : ¬ (2097152 : Int) ≤ (d : Int) := by omega
        rw [if_neg hdz] at hfin
        go_upto_region 12 with fail
        have hs5 : Hid (Wrm n g w w5 F M) := by rw [hfin.out]; exact hs3
        clear hc9
        clear hs3
        obtain ⟨w6, h56⟩ : ∃ w6, w5 = w6 := ⟨_, rfl⟩
        rw [h56] at hs5 ⊢
        clear h56
        clear hfin m9 hdz hdz' hd
        obtain ⟨g2, hg2⟩ : ∃ g2, w6.heap.size = g2 := ⟨_, rfl⟩
        go_upto_region 13 with (refine wpList_newAt rfl 23 rfl (z32.map byt) zero23 g2 hg2 ?_)
        have hs6 : Hid (Wrk n g2 w (w6.alloc (.cells (z32.map byt).toArray 23)) F (nb (v % 2 ^ 0))) := by
          have hgn : n + 1 < g2 := by have := hs5.out.re.lt; omega
          have hz : nb (v % 2 ^ 0) = z32 := by rw [Nat.pow_zero, Nat.mod_one]; rfl
          rw [hz]
          exact ⟨hs5.out.va.alloc _, hs5.out.re.alloc _, by rw [← hg2]; exact Blk.new _ _ _, hgn, hs5.out.be.trans (by have := hs5.out.be.size; go_grown)⟩
        generalize w6.alloc (.cells (z32.map byt).toArray 23) = w7 at hs6 ⊢
        clear hg2 hs5 ha hb lS lM hln h9l h0l
        have lF := HDF.out.len
        go_wp2
        go_loopw [6] (fun i wr => ∃ j : Nat, j ≤ 255 ∧ i = .int .i64 (j : Int) ∧ Hid (Wrk n g2 w wr F (nb (v % 2 ^ j)))) (fun i _ => 255 - (intOf i).toNat)
        case atStart => exact ⟨0, by omega, rfl, hs6⟩
        case round =>
          obtain ⟨i, hi, rfl, hs7⟩ := hrel
          have hkl : (nb (v % 2 ^ i)).length = 32 := nb_length _
          by_cases hlt : i < 255
          · have hltz : (i : Int) < 255 := by omega
            obtain ⟨c2, hc2⟩ : ∃ c, c = i / 26 := ⟨_, rfl⟩
            obtain ⟨r2, hr2⟩ : ∃ r, r = i % 26 := ⟨_, rfl⟩
            have q1 : (i : Int).tdiv 26 = (c2 : Int) := by rw [Int.tdiv_eq_ediv_of_nonneg (by omega)]; omega
            have q2 : (i : Int) / 26 = (c2 : Int) := by omega
            have q3 : (i : Int).tmod 26 = (r2 : Int) := by rw [Int.tmod_eq_emod_of_nonneg (by omega)]; omega
            have q4 : (i : Int) % 26 = (r2 : Int) := by omega
            have q5 : IntKind.i64.wrap (c2 : Int) = (c2 : Int) := wrap64_small (by omega) (by omega)
            have hc10 : (c2 : Int) < 10 := by omega
            have hr26 : r2 < 26 := by omega
            obtain ⟨x2, hx2⟩ : ∃ x, F.getD c2 0 = x := ⟨_, rfl⟩
            obtain ⟨m2, hm2⟩ : ∃ m, m = x2 / 2 ^ r2 := ⟨_, rfl⟩
            have hbit : m2 % 2 = v / 2 ^ i % 2 := by rw [hm2, ← hx2, hc2, hr2, dig_bit HDF.out i hlt, HVF.out]
            have hx2l : x2 < 67108864 := by rw [← hx2]; exact HDF.out.lt _
            have hm2l : m2 < 67108864 := by rw [hm2]; exact Nat.lt_of_le_of_lt (Nat.div_le_self _ _) hx2l
            have e1 : (x2 : Int) / 2 ^ r2 = (m2 : Int) := by
              rw [hm2, Int.natCast_ediv, Int.natCast_pow]
              rfl
            have hcell : wr.cell? ⟨n, c2, none⟩ = some (.int .i64 (x2 : Int)) := by rw [hs7.out.va.cell, dgs_at F c2 (by omega), hx2]
            by_cases hb1 : m2 % 2 = 1
            · have e2 : (m2 : Int).tmod 2 = 1 := by rw [Int.tmod_eq_emod_of_nonneg (by omega)]; omega
              have e3 : (m2 : Int) % 2 = 1 := by omega
              rw [hb1] at hbit
              obtain ⟨hnb, hlt2⟩ := nb_bit v i hlt hbit.symm
              obtain ⟨c3, hc3⟩ : ∃ c, c = i / 8 := ⟨_, rfl⟩
              obtain ⟨r3, hr3⟩ : ∃ r, r = i % 8 := ⟨_, rfl⟩
              rw [← hc3, ← hr3] at hnb hlt2
              obtain ⟨K, hK⟩ : ∃ K, nb (v % 2 ^ i) = K := ⟨_, rfl⟩
              rw [hK] at hnb hlt2 hs7 hkl
              obtain ⟨y, hy⟩ : ∃ y, K.getD c3 0 = y := ⟨_, rfl⟩
              rw [hy] at hnb hlt2
              obtain ⟨pp, hpp⟩ : ∃ p, 2 ^ r3 = p := ⟨_, rfl⟩
              rw [hpp] at hnb hlt2
              obtain ⟨Z, hZ⟩ : ∃ Z, UInt8.ofNat (y.toNat + pp) = Z := ⟨_, rfl⟩
              rw [hZ] at hnb
              have hZv : Z.toNat = y.toNat + pp := by rw [← hZ, UInt8.toNat_ofNat']; exact Nat.mod_eq_of_lt hlt2
              have HNB := hide hnb
              have q6 : (i : Int).tdiv 8 = (c3 : Int) := by rw [Int.tdiv_eq_ediv_of_nonneg (by omega)]; omega
              have q7 : (i : Int) / 8 = (c3 : Int) := by omega
              have q8 : (i : Int).tmod 8 = (r3 : Int) := by rw [Int.tmod_eq_emod_of_nonneg (by omega)]; omega
              have q9 : (i : Int) % 8 = (r3 : Int) := by omega
              have q10 : IntKind.i64.wrap (c3 : Int) = (c3 : Int) := wrap64_small (by omega) (by omega)
              have hc32 : (c3 : Int) < 32 := by omega
              have hr8 : r3 < 8 := by omega
              have s1 : (2 : Int) ^ r3 = (pp : Int) := by rw [← hpp, Int.natCast_pow]; rfl
              have s2 : IntKind.u8.wrap (pp : Int) = (pp : Int) := by rw [IntKind.wrap_u8]; omega
              have s3 : IntKind.u8.wrap ((y.toNat : Int) + (pp : Int)) = (Z.toNat : Int) := by rw [IntKind.wrap_u8]; omega
              have hyv := byts_at K c3 (by omega)
              rw [hy] at hyv
              have HYV := hide hyv
              clear hnb hlt2 hyv hy hpp hZ hZv hK hb1 hbit hm2 hx2 hc2 hr2 hc3 hr3
              go_upto_region 17 with fail
              refine reg_lastS (by kernel_rfl) 11 rfl rfl (by kernel_rfl) rfl rfl (.store 5 (.tmp 63) (.tmp 62)) rfl ?_
              simp only [List.take_succ_cons, List.take_zero]
              refine wpLex_cons2 _ (uni_val (by rfl) (Op.move (Operand.tmp 6)) rfl (.int .i64 (i : Int)) (fun o' ho W _ => by go_simp)) (by simp only [Act.put, List.setIfInBounds_toArray, List.set_cons_zero, List.set_cons_succ]; rfl) ?_; refine wpLex_cons2 _ (uni_val (by rfl) (Op.binOp BinOp.quo 3 (Operand.tmp 53) (Operand.const (Value.int IntKind.i64 8)) 3) rfl (.int .i64 (c3 : Int)) (fun o' ho W _ => by go_simp)) (by simp only [Act.put, List.setIfInBounds_toArray, List.set_cons_zero, List.set_cons_succ]; rfl) ?_; refine wpLex_cons2 _ (uni_val (by rfl) (Op.move (Operand.tmp 6)) rfl (.int .i64 (i : Int)) (fun o' ho W _ => by go_simp)) (by simp only [Act.put, List.setIfInBounds_toArray, List.set_cons_zero, List.set_cons_succ]; rfl) ?_; refine wpLex_cons2 _ (uni_val (by rfl) (Op.binOp BinOp.quo 3 (Operand.tmp 55) (Operand.const (Value.int IntKind.i64 8)) 3) rfl (.int .i64 (c3 : Int)) (fun o' ho W _ => by go_simp)) (by simp only [Act.put, List.setIfInBounds_toArray, List.set_cons_zero, List.set_cons_succ]; rfl) ?_; refine wpLex_cons2 _ (uni_val (by rfl) (Op.indexAddr 23 (Operand.tmp 5) (Operand.tmp 56)) rfl (.pointer (some ⟨g2, c3, none⟩)) (fun o' ho W _ => by go_simp)) (by simp only [Act.put, List.setIfInBounds_toArray, List.set_cons_zero, List.set_cons_succ]; rfl) ?_; refine wpLex_cons2 _ (uni_cell (by rfl) 5 (.tmp 57) rfl g2 c3 (.int .u8 (y.toNat : Int)) rfl (fun W hW => ((hs7.out.ke.on hW).cell c3).trans HYV.out) Tryd.underlying5 rfl) (by simp only [Act.put, List.setIfInBounds_toArray, List.set_cons_zero, List.set_cons_succ]; rfl) ?_; refine wpLex_cons2 _ (uni_val (by rfl) (Op.move (Operand.tmp 6)) rfl (.int .i64 (i : Int)) (fun o' ho W _ => by go_simp)) (by simp only [Act.put, List.setIfInBounds_toArray, List.set_cons_zero, List.set_cons_succ]; rfl) ?_; refine wpLex_cons2 _ (uni_val (by rfl) (Op.binOp BinOp.rem 3 (Operand.tmp 59) (Operand.const (Value.int IntKind.i64 8)) 3) rfl (.int .i64 (r3 : Int)) (fun o' ho W _ => by go_simp)) (by simp only [Act.put, List.setIfInBounds_toArray, List.set_cons_zero, List.set_cons_succ]; rfl) ?_; refine wpLex_cons2 _ (uni_val (by rfl) (Op.binOp BinOp.shl 5 (Operand.const (Value.int IntKind.u8 1)) (Operand.tmp 60) 3) rfl (.int .u8 (pp : Int)) (fun o' ho W _ => by go_simp)) (by simp only [Act.put, List.setIfInBounds_toArray, List.set_cons_zero, List.set_cons_succ]; rfl) ?_; refine wpLex_cons2 _ (uni_val (by rfl) (Op.binOp BinOp.add 5 (Operand.tmp 58) (Operand.tmp 61) 5) rfl (.int .u8 (Z.toNat : Int)) (fun o' ho W _ => by go_simp)) (by simp only [Act.put, List.setIfInBounds_toArray, List.set_cons_zero, List.set_cons_succ]; rfl) ?_; refine wpLex_cons2 _ (uni_val (by rfl) (Op.indexAddr 23 (Operand.tmp 5) (Operand.tmp 54)) rfl (.pointer (some ⟨g2, c3, none⟩)) (fun o' ho W _ => by go_simp)) (by simp only [Act.put, List.setIfInBounds_toArray, List.set_cons_zero, List.set_cons_succ]; rfl) ?_; refine ⟨fun W => W.setCell ⟨g2, c3, none⟩ (.int .u8 (Z.toNat : Int)), fun o' ho W hW => ?_, fun W hW => ?_⟩
              · have hc := ((hs7.out.ke.on hW).cell c3).trans HYV.out
                have hf := (hs7.out.ke.on hW).frozen c3
                go_simp
              · have hs8 := hide ((hs7.out.on hW).set c3 Z)
                clear hW
                dsimp only
                generalize W.setCell ⟨g2, c3, none⟩ (.int .u8 (Z.toNat : Int)) = wv at hs8 ⊢
                go_wp2
                go_roundw
                case rel =>
                  refine ⟨i + 1, by omega, by go_num, ?_⟩
                  rw [HNB.out]
                  exact hs8
                case measure => simp [intOf]; omega
            · have e2 : (m2 : Int).tmod 2 = 0 := by rw [Int.tmod_eq_emod_of_nonneg (by omega)]; omega
              have e3 : (m2 : Int) % 2 = 0 := by omega
              have hnb := nb_nobit v i (by omega)
              have HNB := hide hnb
              obtain ⟨K, hK⟩ : ∃ K, nb (v % 2 ^ i) = K := ⟨_, rfl⟩
              rw [hK] at HNB hs7 hkl
              clear hnb hb1 hbit hm2 hx2 hc2 hr2 hK
              go_wp2
              go_roundw
              case rel =>
                refine ⟨i + 1, by omega, by go_num, ?_⟩
                rw [HNB.out]
                exact hs7
              case measure => simp [intOf]; omega
          · obtain rfl : i = 255 := by omega
            have hvv : v % 2 ^ 255 = v := Nat.mod_eq_of_lt HVL.out
            rw [hvv] at hs7 hkl
            obtain ⟨K, hK⟩ : ∃ K, nb v = K := ⟨_, rfl⟩
            rw [hK] at hs7 hkl
            have HK := hide hK
            clear hK hvv
            go_wp2_with (first | (refine wpList_load_row rfl 23 (.tmp 5) rfl g2 rfl 23 (K.map byt).toArray (0, 0) _ hs7.out.ke Tryd.underlying23 rfl (key_infoA hkl) ?_) | (refine wpList_store_row rfl 23 (.tmp 2) (.tmp 64) rfl (n + 1) (K.map byt).toArray rfl rfl 23 (z32.map byt).toArray hs7.out.re (key_infoA hkl) (key_size hkl) (byts_one _) ?_))
            refine bodyPost_ret (results_cell_row Tryd.results83 _ _ (n + 1) 23 (K.map byt).toArray (0, 0) _ rfl (hs7.out.re.setRow _) Tryd.underlying23 rfl (key_infoA hkl)) rfl ?_
            exact ⟨by rw [HK.out], by first | (rw [hn]; exact below_setRow hs7.out.be _ _ (by omega)) | exact below_setRow hs7.out.be _ _ (by omega)⟩
end Go.Proofs.YtoceepmehmacbaaDoor.Cv
