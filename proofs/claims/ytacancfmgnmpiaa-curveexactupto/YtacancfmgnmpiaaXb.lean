import Derived.Test.YtacancfmgnmpiaaXa
set_option linter.unusedVariables false
set_option linter.unusedSimpArgs false
namespace Go.Proofs.Ytacancfmgnmpiaa
open Go.RowKit

theorem zero75 (w : World) : (zeroValue 75).run Try.prog w = .ok (.agg (z10n.map dg).toArray) w := by rw [Try.zeroValue75]; rfl
theorem nm_info {t : List Nat} (h : t.length = 10) : (Try.prog.info? 75).map (·.size) = some (t.map dg).length := by rw [List.length_map, h]; kernel_rfl
theorem nm_infoA {t : List Nat} (h : t.length = 10) : (Try.prog.info? 75).map (·.size) = some (t.map dg).toArray.size := by have := nm_info h; simpa using this
theorem nm_len {t : List Nat} (h : t.length = 10) : (z10n.map dg).length = (t.map dg).length := by simp [z10n, h]
theorem nm_size {t : List Nat} (h : t.length = 10) : (z10n.map dg).toArray.size = (t.map dg).toArray.size := by simp [z10n, h]
theorem dgs_one (t : List Nat) : (t.map dg).toArray.all (·.oneCell') = true := by
  rw [Array.all_eq_true_iff_forall_mem]
  intro v hv
  simp only [List.mem_toArray, List.mem_map] at hv
  obtain ⟨n, _, rfl⟩ := hv
  rfl
theorem dgs_at (t : List Nat) (i : Nat) (h : i < t.length) : (t.map dg)[i]? = some (.int .i64 ((t.getD i 0 : Nat) : Int)) := by
  rw [List.getElem?_map, List.getElem?_eq_getElem h, List.getD_eq_getElem?_getD, List.getElem?_eq_getElem h]
  rfl
theorem dgs_set (t : List Nat) (i x : Nat) : (t.map dg).set i (.int .i64 (x : Int)) = (t.set i x).map dg := by rw [List.map_set]; rfl
structure Car (n : Nat) (w wx : World) (t : List Nat) : Prop where
  va : Blk wx n (t.map dg) 75
  re : Blk wx (n + 1) (z10n.map dg) 75
  be : Below n w wx
theorem Car.set {n : Nat} {w wx : World} {t : List Nat} (h : Car n w wx t) (j x : Nat) : Car n w (wx.setCell ⟨n, j, none⟩ (.int .i64 (x : Int))) (t.set j x) :=
  ⟨by rw [← dgs_set]; exact h.va.set j _, h.re.setOther _ _ _ (by omega), h.be.setCell (by simp) _⟩
/-- The number in a block. -/
def cellN (w : World) (g i : Nat) : Nat := match w.cell? ⟨g, i, none⟩ with | some v => (intOf v).toNat | none => 0
def mVs (w : World) (g : Nat) : Nat → Nat
  | 0 => 0
  | i + 1 => mVs w g i + cellN w g i * 67108864 ^ i
def mV (w : World) (g : Nat) : Nat := mVs w g 10
theorem mVs_eq {w : World} {g : Nat} {t : List Nat} (h : Blk w g (t.map dg) 75) (ht : t.length = 10) : ∀ r, r ≤ 10 → mVs w g r = vs t r
  | 0, _ => rfl
  | r + 1, hr => by
    have e : cellN w g r = t.getD r 0 := by
      unfold cellN
      rw [h.cell, dgs_at t r (by omega)]
      simp [intOf]
    rw [mVs, vs, mVs_eq h ht r (by omega), e]
theorem mV_eq {w : World} {g : Nat} {t : List Nat} (h : Blk w g (t.map dg) 75) (ht : t.length = 10) : mV w g = V t := mVs_eq h ht 10 (Nat.le_refl _)
theorem psC_le (t : List Nat) (hb : ∀ i, t.getD i 0 ≤ 4611686018427387903) : ∀ i, psC t i ≤ 137438953472
  | 0 => by simp [psC]
  | i + 1 => by
    have h1 := psC_le t hb i
    have h2 := hb i
    rw [psC]
    omega
theorem psE_small (t : List Nat) (ht : t.length = 10) (hb : ∀ i, t.getD i 0 ≤ 4611686018427387903) (i : Nat) : (psE t).getD i 0 ≤ 4611686018427387903 := by
  have h1 := psC_le t hb 10
  have h2 := psL_lt t ht i
  have h0 := psL_lt t ht 0
  unfold psE
  by_cases hi : i = 0
  · subst hi
    rw [setD_in _ _ _ (by rw [psL_len]; omega)]
    omega
  · rw [setD_at _ _ _ _ (by omega)]
    omega
theorem it_small (t : List Nat) (ht : t.length = 10) (hb : ∀ i, t.getD i 0 ≤ 4611686018427387903) : ∀ j i, (itL t j).1.getD i 0 ≤ 4611686018427387903
  | 0, i => hb i
  | j + 1, i => by
    rw [itL]
    split
    · exact it_small t ht hb j i
    · exact psE_small _ (by rw [it_len, ht]) (it_small t ht hb j) i
def nz (n : Nat) : Nat := if n = 0 then 0 else 1
theorem meas {t : List Nat} (ht : t.length = 10) : V (psE t) + nz (psC t 10) < V t + 1 := by
  unfold nz
  have h1 := psE_val t ht
  have h2 := (psC_eq t ht).1
  have h3 := Nat.div_add_mod (V t) (67108864 ^ 10)
  have hp : 67108864 ^ 10 = 608 + (67108864 ^ 10 - 608) := by decide +kernel
  have hq : 0 < 67108864 ^ 10 - 608 := by decide +kernel
  rw [h1, h2]
  generalize V t / 67108864 ^ 10 = q at *
  generalize V t % 67108864 ^ 10 = r at *
  rw [hp, Nat.add_mul] at h3
  generalize 67108864 ^ 10 - 608 = B at *
  split
  · rename_i hz
    subst hz
    omega
  · rename_i hz
    have : q ≤ B * q := Nat.le_mul_of_pos_left q hq
    omega

set_option maxRecDepth 100000 in
set_option maxHeartbeats 4000000 in
theorem carried_walk (t : List Nat) (ht : t.length = 10) (hb : ∀ i, t.getD i 0 ≤ 4611686018427387903) (w : World) :
    Calls Try.prog 54 #[num t] w fun e w' => e = .returned (num (itL t 3).1) ∧ Below w.heap.size w w' := by
  have hend := it_end t ht hb
  have HS := hide (it_small t ht hb)
  have HLn : Hid (∀ j, (itL t j).1.length = 10) := fun j => by rw [it_len, ht]
  have HEnd := hide hend
  clear hend
  go_enter Try.func54, Try.ntmps54
  go_upto_region 1 with (first | (refine wpList_boxAt rfl 75 (.tmp 0) rfl (t.map dg) rfl (w.heap.size) rfl ?_) | (refine wpList_newAt rfl 75 rfl (z10n.map dg) zero75 (w.heap.size + 1) (size1 _ _) ?_))
  have h0 : Hid (Car w.heap.size w ((w.alloc (.cells (t.map dg).toArray 75)).alloc (.cells (z10n.map dg).toArray 75)) (itL t 0).1) := by
    refine ⟨(Blk.new _ _ _).alloc _, ?_, by go_grown⟩
    have := Blk.new (w.alloc (.cells (t.map dg).toArray 75)) (z10n.map dg) 75
    simpa using this
  generalize (w.alloc (.cells (t.map dg).toArray 75)).alloc (.cells (z10n.map dg).toArray 75) = w1 at h0 ⊢
  obtain ⟨n, hn⟩ : ∃ n, w.heap.size = n := ⟨_, rfl⟩
  rw [hn] at h0 ⊢
  clear ht hb
  go_wp2
  go_loopw [3] (fun c wr => ∃ j : Nat, j ≤ 3 ∧ c = .int .i64 ((itL t j).2 : Int) ∧ Hid (Car n w wr (itL t j).1)) (fun c wr => mV wr n + nz (intOf c).toNat)
  case atStart => exact ⟨0, by omega, rfl, h0⟩
  case round =>
    obtain ⟨j, hj, rfl, hs⟩ := hrel
    have hsm := HS.out j
    have hln := HLn.out j
    have hnx : Hid (itL t (j + 1) = if (itL t j).2 = 0 then itL t j else (psE (itL t j).1, psC (itL t j).1 10)) := by rw [itL]; exact hide rfl
    have hst : Hid ((itL t j).2 = 0 → (itL t 3).1 = (itL t j).1) := fun h => by
      have := it_stop t j h (3 - j)
      rw [Nat.add_sub_cancel' hj] at this
      rw [this]
    have hj3 : (itL t j).2 ≠ 0 → j < 3 := fun h => by
      rcases Nat.lt_or_ge j 3 with h1 | h1
      · exact h1
      · obtain rfl : j = 3 := by omega
        exact absurd HEnd.out h
    obtain ⟨L, hL⟩ : ∃ L, (itL t j).1 = L := ⟨_, rfl⟩
    obtain ⟨c, hc⟩ : ∃ c, (itL t j).2 = c := ⟨_, rfl⟩
    have HNX : Hid (itL t (j + 1) = if c = 0 then itL t j else (psE L, psC L 10)) := by rw [hnx.out, hL, hc]; exact hide rfl
    have HST : Hid (c = 0 → (itL t 3).1 = L) := fun h => by rw [hst.out (by rw [hc]; exact h), hL]
    rw [hL] at hs hsm hln
    rw [hc] at hj3
    rw [hc]
    clear hnx hst hL hc
    by_cases hc0 : c = 0
    · subst hc0
      have hr := HST.out rfl
      go_wp2_with (first | (refine wpList_load_row rfl 75 (.tmp 1) rfl n rfl 75 (L.map dg).toArray (0, 0) _ hs.out.va Try.underlying75 rfl (nm_infoA hln) ?_) | (refine wpList_store_row rfl 75 (.tmp 2) (.tmp 29) rfl (n + 1) (L.map dg).toArray rfl rfl 75 (z10n.map dg).toArray hs.out.re (nm_infoA hln) (nm_size hln) (dgs_one L) ?_))
      refine bodyPost_ret (results_cell_row Try.results54 _ _ (n + 1) 75 (L.map dg).toArray (0, 0) _ rfl (hs.out.re.setRow _) Try.underlying75 rfl (nm_infoA hln)) rfl ?_
      exact ⟨by first | rfl | (rw [hr]; rfl), by first | (rw [hn]; exact below_setRow hs.out.be _ _ (by omega)) | exact below_setRow hs.out.be _ _ (by omega)⟩
    · have hcz : (0 : Int) < (c : Int) := by omega
      have hj3' := hj3 hc0
      have hmeas := mV_eq hs.out.va hln
      have HPC := hide (psC_le L hsm)
      have HPL := hide (psL_lt L hln)
      have HSM := hide hsm
      have HM := hide hmeas
      clear hj3 hmeas hsm HST
      go_wp2
      go_loopw [4, 3] (fun i c wr => ∃ q : Nat, q ≤ 10 ∧ i = .int .i64 q ∧ c = .int .i64 (psC L q : Int) ∧ Hid (Car n w wr (psL L q))) (fun i _ _ => 10 - (intOf i).toNat)
      case atStart => exact ⟨0, by omega, rfl, rfl, hs⟩
      case round =>
        obtain ⟨q, hq, rfl, rfl, hs2⟩ := hrel
        have hpn : Hid (psL L (q + 1) = (psL L q).set q ((L.getD q 0 + psC L q) % 67108864)) := by rw [psL]; exact hide rfl
        have hcn : Hid (psC L (q + 1) = (L.getD q 0 + psC L q) / 67108864) := by rw [psC]; exact hide rfl
        have hat := psL_at L q q (Nat.le_refl _)
        have hlq : (psL L q).length = 10 := by rw [psL_len, hln]
        obtain ⟨M, hM⟩ : ∃ M, psL L q = M := ⟨_, rfl⟩
        have HMq := hide hM
        rw [hM] at hs2 hpn hat hlq
        clear hM
        by_cases hlt : q < 10
        · have hlz : (q : Int) < 10 := by omega
          have b1 := HSM.out q
          have b2 := HPC.out q
          obtain ⟨a, ha⟩ : ∃ a, L.getD q 0 = a := ⟨_, rfl⟩
          obtain ⟨d, hd⟩ : ∃ d, psC L q = d := ⟨_, rfl⟩
          rw [ha] at hat b1 hpn hcn
          rw [hd] at b2 hpn hcn
          rw [hd]
          obtain ⟨x, hx⟩ : ∃ x, a + d = x := ⟨_, rfl⟩
          rw [hx] at hpn hcn
          have hcell : wr.cell? ⟨n, q, none⟩ = some (.int .i64 (a : Int)) := by rw [hs2.out.va.cell, dgs_at M q (by omega), hat]
          have hfz := hs2.out.va.frozen q
          have e1 : IntKind.i64.wrap ((a : Int) + (d : Int)) = (x : Int) := by rw [wrap64_small (by omega) (by omega)]; omega
          obtain ⟨y, hy⟩ : ∃ y, x % 67108864 = y := ⟨_, rfl⟩
          obtain ⟨z, hz⟩ : ∃ z, x / 67108864 = z := ⟨_, rfl⟩
          rw [hy] at hpn
          rw [hz] at hcn
          have e2 : (x : Int).tmod 67108864 = (y : Int) := by rw [Int.tmod_eq_emod_of_nonneg (by omega)]; omega
          have e3 : (x : Int) % 67108864 = (y : Int) := by omega
          have e4 : (x : Int).tdiv 67108864 = (z : Int) := by rw [Int.tdiv_eq_ediv_of_nonneg (by omega)]; omega
          have e5 : (x : Int) / 67108864 = (z : Int) := by omega
          have e6 : IntKind.i64.wrap (z : Int) = (z : Int) := wrap64_small (by omega) (by omega)
          have e7 : IntKind.i64.wrap (y : Int) = (y : Int) := wrap64_small (by omega) (by omega)
          clear ha hd hx hy hz b1 b2 hat
          go_wp2
          go_roundw
          case rel =>
            refine ⟨q + 1, by omega, by go_num, by rw [hcn.out], ?_⟩
            rw [hpn.out]
            exact hs2.out.set q y
          case measure => simp [intOf]; omega
        · obtain rfl : q = 10 := by omega
          have b2 := HPC.out 10
          have b0 := HPL.out 0
          rw [HMq.out] at b0
          obtain ⟨d, hd⟩ : ∃ d, psC L 10 = d := ⟨_, rfl⟩
          obtain ⟨a, ha⟩ : ∃ a, M.getD 0 0 = a := ⟨_, rfl⟩
          have hE : Hid (psE L = M.set 0 (a + 608 * d)) := by unfold psE; rw [HMq.out, hd, ha]; exact hide rfl
          have hMe := meas hln
          rw [hd] at b2 HNX hMe
          rw [ha] at b0
          rw [hd]
          have hcell : wr.cell? ⟨n, 0, none⟩ = some (.int .i64 (a : Int)) := by rw [hs2.out.va.cell, dgs_at M 0 (by omega), ha]
          have hfz := hs2.out.va.frozen 0
          obtain ⟨m, hm⟩ : ∃ m, 608 * d = m := ⟨_, rfl⟩
          obtain ⟨x, hx⟩ : ∃ x, a + m = x := ⟨_, rfl⟩
          have e1 : IntKind.i64.wrap (608 * (d : Int)) = (m : Int) := by rw [wrap64_small (by omega) (by omega)]; omega
          have e2 : IntKind.i64.wrap ((a : Int) + (m : Int)) = (x : Int) := by rw [wrap64_small (by omega) (by omega)]; omega
          rw [hm, hx] at hE
          have hME := hide hMe
          clear hm hx ha hd b2 b0 hcn hpn hMe
          go_wp2
          go_roundw
          case rel =>
            refine ⟨j + 1, by omega, by rw [HNX.out, if_neg hc0], ?_⟩
            rw [HNX.out, if_neg hc0]
            show Hid (Car n w _ (psE L))
            rw [hE.out]
            exact hs2.out.set 0 x
          case measure =>
            have hcar := hs2.out.set 0 x
            rw [← hE.out] at hcar
            rw [mV_eq hcar.va (by rw [psE_len, hln]), HM.out]
            have := hME.out
            have e1 : (intOf (Value.int .i64 (d : Int))).toNat = d := by simp [intOf]
            have e2 : (intOf (Value.int .i64 (c : Int))).toNat = c := by simp [intOf]
            have e3 : nz c = 1 := if_neg hc0
            rw [e1, e2, e3]
            exact this
theorem carried_ok (t : List Nat) (ht : t.length = 10) (hb : ∀ i, t.getD i 0 ≤ 4611686018427387903) : ∃ r, Dg r ∧ V r % Prm.P = V t % Prm.P ∧ ∀ w, Calls Try.prog 54 #[num t] w fun e w' => e = .returned (num r) ∧ Below w.heap.size w w' :=
  ⟨_, it_dg t ht 2 (it_end t ht hb), it_mod t ht 3, fun w => carried_walk t ht hb w⟩
end Go.Proofs.Ytacancfmgnmpiaa
