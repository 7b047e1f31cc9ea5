import Derived.Test.YtoceepmehmacbaaDoorKXfG
set_option linter.unusedVariables false
set_option linter.unusedSimpArgs false
namespace Go.Proofs.YtoceepmehmacbaaDoor.Cv
open Go.RowKit

theorem zero92 (w : World) : (zeroValue 143).run Tryd.prog w = .ok (.agg (z20n.map dg).toArray) w := by rw [Tryd.zeroValue143]; rfl
structure Mst (n : Nat) (w wx : World) (a b T : List Nat) : Prop where
  va : Blk wx n (a.map dg) 134
  vb : Blk wx (n + 1) (b.map dg) 134
  re : Blk wx (n + 1 + 1) (z10n.map dg) 134
  tt : Blk wx (n + 1 + 1 + 1) (T.map dg) 143
  be : Below n w wx
theorem Mst.drew {n : Nat} {w wx : World} {a b T : List Nat} (h : Mst n w wx a b T) : Mst n w wx.drew a b T := ⟨h.va.drew, h.vb.drew, h.re.drew, h.tt.drew, h.be.drew⟩
theorem Mst.set {n : Nat} {w wx : World} {a b T : List Nat} (h : Mst n w wx a b T) (j x : Nat) : Mst n w (wx.setCell ⟨n + 1 + 1 + 1, j, none⟩ (.int .i64 (x : Int))) a b (T.set j x) :=
  ⟨h.va.setOther _ _ _ (by omega), h.vb.setOther _ _ _ (by omega), h.re.setOther _ _ _ (by omega), by rw [← dgs_set]; exact h.tt.set j _, h.be.setCell (by show n ≤ n + 1 + 1 + 1; omega) _⟩
structure Msu (n : Nat) (w wx : World) (g : Nat) (T M : List Nat) : Prop where
  re : Blk wx (n + 1 + 1) (z10n.map dg) 134
  tt : Blk wx (n + 1 + 1 + 1) (T.map dg) 143
  nn : Blk wx g (M.map dg) 134
  be : Below n w wx
  lt : n + 1 + 1 + 1 < g
theorem Msu.drew {n : Nat} {w wx : World} {g : Nat} {T M : List Nat} (h : Msu n w wx g T M) : Msu n w wx.drew g T M := ⟨h.re.drew, h.tt.drew, h.nn.drew, h.be.drew, h.lt⟩
theorem Msu.set {n : Nat} {w wx : World} {g : Nat} {T M : List Nat} (h : Msu n w wx g T M) (j x : Nat) : Msu n w (wx.setCell ⟨g, j, none⟩ (.int .i64 (x : Int))) g T (M.set j x) := by
  obtain ⟨a, b, c, d, e⟩ := h
  exact ⟨a.setOther _ _ _ (by omega), b.setOther _ _ _ (by omega), by rw [← dgs_set]; exact c.set j _, d.setCell (by show n ≤ g; omega) _, e⟩
theorem wrap_sum {x y z : Nat} (h : x + y = z) (hz : z < 9223372036854775808) : IntKind.i64.wrap ((x : Int) + (y : Int)) = (z : Int) := by
  rw [wrap64_small (by omega) (by omega)]; omega
theorem wrap_prod {x y z : Nat} (h : x * y = z) (hz : z < 9223372036854775808) : IntKind.i64.wrap ((x : Int) * (y : Int)) = (z : Int) := by
  have e : (x : Int) * (y : Int) = (z : Int) := by rw [← h]; simp
  rw [e]
  exact wrap64_small (by omega) (by omega)
theorem prod_lt {x y : Nat} (hx : x < 67108864) (hy : y < 67108864) : x * y ≤ 4503599493152769 := by
  have := Nat.mul_le_mul (show x ≤ 67108863 by omega) (show y ≤ 67108863 by omega)
  omega

set_option maxRecDepth 100000 in
set_option maxHeartbeats 8000000 in
theorem mul_walk (a b r TT : List Nat) (ha : Dg a) (hb : Dg b) (hTT : psL (moL a b 10) 20 = TT)
    (c1 : ∀ W, Calls Tryd.prog 88 #[num (upL z10n (fdF TT) 10)] W fun e w' => e = .returned (num r) ∧ Below W.heap.size W w') (lr : r.length = 10) (w : World) :
    Calls Tryd.prog 82 #[num a, num b] w fun e w' => e = .returned (num r) ∧ Below w.heap.size w w' := by
  have la := ha.len
  have lb := hb.len
  have HA := hide ha.lt
  have HB := hide hb.lt
  have HMO := hide (fun i k => mo_le ha.lt hb.lt i k)
  have HMI := hide (fun i T j k => mi_le ha.lt hb.lt i T j k)
  have HLO := hide (fun i => mo_len a b i)
  have HTL : Hid (∀ i, TT.getD i 0 < 67108864) := by rw [← hTT]; exact hide (psL_ltN _ 20 (mo_len a b 10))
  have lTT : TT.length = 20 := by rw [← hTT, psL_len, mo_len]
  have HTT := hide hTT
  have HC := hide c1
  clear ha hb hTT c1
  go_enter Tryd.func82, Tryd.ntmps82
  go_upto_region 2 with (first | (refine wpList_boxAt rfl 134 (.tmp 0) rfl (a.map dg) rfl (w.heap.size) rfl ?_) | (refine wpList_boxAt rfl 134 (.tmp 1) rfl (b.map dg) rfl (w.heap.size + 1) (size1 _ _) ?_) | (refine wpList_newAt rfl 134 rfl (z10n.map dg) zero75 (w.heap.size + 1 + 1) (size2 _ _ _) ?_) | (refine wpList_newAt rfl 143 rfl (z20n.map dg) zero92 (w.heap.size + 1 + 1 + 1) (size3 _ _ _ _) ?_))
  have h0 : Hid (Mst w.heap.size w ((((w.alloc (.cells (a.map dg).toArray 134)).alloc (.cells (b.map dg).toArray 134)).alloc (.cells (z10n.map dg).toArray 134)).alloc (.cells (z20n.map dg).toArray 143)) a b (moL a b 0)) := by
    refine ⟨(((Blk.new _ _ _).alloc _).alloc _).alloc _, ?_, ?_, ?_, by go_grown⟩
    · have := ((Blk.new (w.alloc (.cells (a.map dg).toArray 134)) (b.map dg) 134).alloc (.cells (z10n.map dg).toArray 134)).alloc (.cells (z20n.map dg).toArray 143)
      simpa using this
    · have := (Blk.new ((w.alloc (.cells (a.map dg).toArray 134)).alloc (.cells (b.map dg).toArray 134)) (z10n.map dg) 134).alloc (.cells (z20n.map dg).toArray 143)
      simpa using this
    · have := Blk.new (((w.alloc (.cells (a.map dg).toArray 134)).alloc (.cells (b.map dg).toArray 134)).alloc (.cells (z10n.map dg).toArray 134)) (z20n.map dg) 143
      rw [moL]
      simpa using this
  generalize (((w.alloc (.cells (a.map dg).toArray 134)).alloc (.cells (b.map dg).toArray 134)).alloc (.cells (z10n.map dg).toArray 134)).alloc (.cells (z20n.map dg).toArray 143) = w1 at h0 ⊢
  obtain ⟨n, hn⟩ : ∃ n, w.heap.size = n := ⟨_, rfl⟩
  rw [hn] at h0 ⊢
  go_wp2
  go_loopw [6] (fun i wr => ∃ t : Nat, t ≤ 10 ∧ i = .int .i64 t ∧ Hid (Mst n w wr a b (moL a b t))) (fun i _ => 10 - (intOf i).toNat)
  case atStart => exact ⟨0, by omega, rfl, h0⟩
  case round =>
    obtain ⟨i, hi, rfl, hs⟩ := hrel
    have hmn : Hid (moL a b (i + 1) = miL a b i (moL a b i) 10) := by rw [moL]; exact hide rfl
    have hle := HMO.out i
    have hlT := HLO.out i
    obtain ⟨T, hT⟩ : ∃ T, moL a b i = T := ⟨_, rfl⟩
    have HT := hide hT
    rw [hT] at hs hmn hle hlT
    clear hT
    by_cases hi10 : i < 10
    · have hiz : (i : Int) < 10 := by omega
      have bx := HA.out i
      have hcA : a.getD i 0 = a.getD i 0 := rfl
      obtain ⟨x, hx⟩ : ∃ x, a.getD i 0 = x := ⟨_, rfl⟩
      rw [hx] at bx
      have HX := hide hx
      have hmi := HMI.out i T
      have HLE := hide hle
      have HMIi := hide hmi
      clear hcA hx hle hmi
      go_wp2
      go_loopw [7] (fun jv wr => ∃ j : Nat, j ≤ 10 ∧ jv = .int .i64 j ∧ Hid (Mst n w wr a b (miL a b i T j))) (fun jv _ => 10 - (intOf jv).toNat)
      case atStart => exact ⟨0, by omega, rfl, hs⟩
      case round =>
        obtain ⟨j, hj, rfl, hs2⟩ := hrel
        have hin : Hid (miL a b i T (j + 1) = (miL a b i T j).set (i + j) ((miL a b i T j).getD (i + j) 0 + a.getD i 0 * b.getD j 0)) := by rw [miL]; exact hide rfl
        have hlU := mi_len a b i T j
        have hlu := HMIi.out j (i + j)
        have hlt2 := HLE.out (i + j)
        rw [if_neg (by omega)] at hlu
        obtain ⟨U, hU⟩ : ∃ U, miL a b i T j = U := ⟨_, rfl⟩
        have HU := hide hU
        rw [hU] at hs2 hin hlU hlu
        clear hU
        rw [hlT] at hlU
        rw [HX.out] at hin
        by_cases hj10 : j < 10
        · have hjz : (j : Int) < 10 := by omega
          have byb := HB.out j
          obtain ⟨y, hy⟩ : ∃ y, b.getD j 0 = y := ⟨_, rfl⟩
          obtain ⟨k, hk⟩ : ∃ k, i + j = k := ⟨_, rfl⟩
          rw [hk] at hin hlu hlt2
          obtain ⟨z, hz⟩ : ∃ z, U.getD k 0 = z := ⟨_, rfl⟩
          rw [hy] at byb hin
          rw [hz] at hlu hin
          have hc1 : wr.cell? ⟨n + 1 + 1 + 1, k, none⟩ = some (.int .i64 (z : Int)) := by rw [hs2.out.tt.cell, dgs_at U k (by omega), hz]
          have hc2 : wr.cell? ⟨n, i, none⟩ = some (.int .i64 (x : Int)) := by rw [hs2.out.va.cell, dgs_at a i (by omega), HX.out]
          have hc3 : wr.cell? ⟨n + 1, j, none⟩ = some (.int .i64 (y : Int)) := by rw [hs2.out.vb.cell, dgs_at b j (by omega), hy]
          have hfz := hs2.out.tt.frozen k
          have hxy := prod_lt bx byb
          obtain ⟨p, hp⟩ : ∃ p, x * y = p := ⟨_, rfl⟩
          obtain ⟨q, hq⟩ : ∃ q, z + p = q := ⟨_, rfl⟩
          rw [hp] at hxy hin
          rw [hq] at hin
          have e0 : IntKind.i64.wrap ((i : Int) + (j : Int)) = (k : Int) := wrap_sum hk (by omega)
          have e1 : IntKind.i64.wrap ((x : Int) * (y : Int)) = (p : Int) := wrap_prod hp (by omega)
          have e2 : IntKind.i64.wrap ((z : Int) + (p : Int)) = (q : Int) := wrap_sum hq (by have hi9 : i * 4503599493152769 ≤ 9 * 4503599493152769 := Nat.mul_le_mul_right _ (by omega); omega)
          have hkz : (k : Int) < 20 := by omega
          clear hy hz hp hq hxy byb hlu hlt2 hlU
          have HK := hide hk
          clear hk
          go_wp2
          go_region
          go_wp2
          go_roundw
          case rel =>
            refine ⟨j + 1, by omega, by go_num, ?_⟩
            rw [hin.out]
            exact hs2.out.drew.set k q
          case measure => simp [intOf]; omega
        · obtain rfl : j = 10 := by omega
          clear hlu hlt2 hin
          go_wp2
          go_roundw
          case rel =>
            refine ⟨i + 1, by omega, by go_num, ?_⟩
            rw [hmn.out, HU.out]
            exact hs2
          case measure => simp [intOf]; omega
    · obtain rfl : i = 10 := by omega
      clear hmn
      have HPC := hide (psC_leN T (fun k => by have := hle k; omega))
      have HTE : Hid (psL T 20 = TT) := by rw [← HT.out]; exact HTT
      have hle2 := hide hle
      clear hle
      go_wp2
      go_loopw [9, 8] (fun iv c wr => ∃ q : Nat, q ≤ 20 ∧ iv = .int .i64 q ∧ c = .int .i64 (psC T q : Int) ∧ Hid (Mst n w wr a b (psL T q))) (fun iv _ _ => 20 - (intOf iv).toNat)
      case atStart => exact ⟨0, by omega, rfl, rfl, hs⟩
      case round =>
        obtain ⟨q, hq, rfl, rfl, hs2⟩ := hrel
        have hpn : Hid (psL T (q + 1) = (psL T q).set q ((T.getD q 0 + psC T q) % 67108864)) := by rw [psL]; exact hide rfl
        have hcn : Hid (psC T (q + 1) = (T.getD q 0 + psC T q) / 67108864) := by rw [psC]; exact hide rfl
        have hat := psL_at T q q (Nat.le_refl _)
        have hlq : (psL T q).length = 20 := by rw [psL_len, hlT]
        obtain ⟨M, hM⟩ : ∃ M, psL T q = M := ⟨_, rfl⟩
        have HMq := hide hM
        rw [hM] at hs2 hpn hat hlq
        clear hM
        by_cases hlt : q < 20
        · have hlz : (q : Int) < 20 := by omega
          have b1 := hle2.out q
          have b2 := HPC.out q
          obtain ⟨x, hx⟩ : ∃ x, T.getD q 0 = x := ⟨_, rfl⟩
          obtain ⟨d, hd⟩ : ∃ d, psC T q = d := ⟨_, rfl⟩
          rw [hx] at hat b1 hpn hcn
          rw [hd] at b2 hpn hcn
          rw [hd]
          obtain ⟨s, hsd⟩ : ∃ s, x + d = s := ⟨_, rfl⟩
          rw [hsd] at hpn hcn
          have hcell : wr.cell? ⟨n + 1 + 1 + 1, q, none⟩ = some (.int .i64 (x : Int)) := by rw [hs2.out.tt.cell, dgs_at M q (by omega), hat]
          have hfz := hs2.out.tt.frozen q
          have e1 : IntKind.i64.wrap ((x : Int) + (d : Int)) = (s : Int) := wrap_sum hsd (by omega)
          obtain ⟨y, hy⟩ : ∃ y, s % 67108864 = y := ⟨_, rfl⟩
          obtain ⟨z, hz⟩ : ∃ z, s / 67108864 = z := ⟨_, rfl⟩
          rw [hy] at hpn
          rw [hz] at hcn
          have e2 : (s : Int).tmod 67108864 = (y : Int) := by rw [Int.tmod_eq_emod_of_nonneg (by omega)]; omega
          have e3 : (s : Int) % 67108864 = (y : Int) := by omega
          have e4 : (s : Int).tdiv 67108864 = (z : Int) := by rw [Int.tdiv_eq_ediv_of_nonneg (by omega)]; omega
          have e5 : (s : Int) / 67108864 = (z : Int) := by omega
          have e6 : IntKind.i64.wrap (z : Int) = (z : Int) := wrap64_small (by omega) (by omega)
          have e7 : IntKind.i64.wrap (y : Int) = (y : Int) := wrap64_small (by omega) (by omega)
          clear hx hd hsd hy hz b1 b2 hat
          go_wp2
          go_roundw
          case rel =>
            refine ⟨q + 1, by omega, by go_num, by rw [hcn.out], ?_⟩
            rw [hpn.out]
            exact hs2.out.set q y
          case measure => simp [intOf]; omega
        · obtain rfl : q = 20 := by omega
          have hMT : M = TT := by rw [← HMq.out, HTE.out]
          subst hMT
          clear hpn hcn hat
          obtain ⟨g, hg⟩ : ∃ g, wr.heap.size = g := ⟨_, rfl⟩
          go_upto_region 17 with (refine wpList_newAt rfl 134 rfl (z10n.map dg) zero75 g hg ?_)
          have h3 : Hid (Msu n w (wr.alloc (.cells (z10n.map dg).toArray 134)) g M (upL z10n (fdF M) 0)) := by
            have ql := hs2.out.tt.lt
            have hk := Blk.new wr (z10n.map dg) 134
            rw [hg] at ql hk
            exact ⟨hs2.out.re.alloc _, hs2.out.tt.alloc _, hk, hs2.out.be.alloc (by have := hs2.out.be.size; omega) _, ql⟩
          generalize wr.alloc (.cells (z10n.map dg).toArray 134) = w4 at h3 ⊢
          clear hs2 hs h0 hg
          go_wp2
          go_loopw [12] (fun iv wr => ∃ t : Nat, t ≤ 10 ∧ iv = .int .i64 t ∧ Hid (Msu n w wr g M (upL z10n (fdF M) t))) (fun iv _ => 10 - (intOf iv).toNat)
          case atStart => exact ⟨0, by omega, rfl, h3⟩
          case round =>
            obtain ⟨t, ht, rfl, hs⟩ := hrel
            have hlen : (upL z10n (fdF M) t).length = 10 := by rw [up_len]; simp [z10n]
            have hup : Hid (upL z10n (fdF M) (t + 1) = (upL z10n (fdF M) t).set t (fdF M t)) := by rw [upL]; exact hide rfl
            obtain ⟨L, hL⟩ : ∃ L, upL z10n (fdF M) t = L := ⟨_, rfl⟩
            have HL := hide hL
            rw [hL] at hs hlen hup
            clear hL
            by_cases hlt : t < 10
            · have hlz : (t : Int) < 10 := by omega
              have b1 := HTL.out t
              have b2 := HTL.out (t + 10)
              have hfd : fdF M t = M.getD t 0 + 608 * M.getD (t + 10) 0 := rfl
              obtain ⟨x, hx⟩ : ∃ x, M.getD t 0 = x := ⟨_, rfl⟩
              obtain ⟨y, hy⟩ : ∃ y, M.getD (t + 10) 0 = y := ⟨_, rfl⟩
              rw [hx, hy] at hfd
              rw [hx] at b1
              rw [hy] at b2
              obtain ⟨k, hk⟩ : ∃ k, t + 10 = k := ⟨_, rfl⟩
              obtain ⟨p, hp⟩ : ∃ p, 608 * y = p := ⟨_, rfl⟩
              obtain ⟨v, hv⟩ : ∃ v, x + p = v := ⟨_, rfl⟩
              rw [hp, hv] at hfd
              rw [hfd] at hup
              have hc1 : wr.cell? ⟨n + 1 + 1 + 1, t, none⟩ = some (.int .i64 (x : Int)) := by rw [hs.out.tt.cell, dgs_at M t (by omega), hx]
              have hc2 : wr.cell? ⟨n + 1 + 1 + 1, k, none⟩ = some (.int .i64 (y : Int)) := by rw [← hk, hs.out.tt.cell, dgs_at M (t + 10) (by omega), hy]
              have hcg := hs.out.nn.cell t
              rw [dgs_at L t (by omega)] at hcg
              have hfz := hs.out.nn.frozen t
              have e0 : IntKind.i64.wrap ((t : Int) + 10) = (k : Int) := by rw [wrap64_small (by omega) (by omega)]; omega
              have e1 : IntKind.i64.wrap (608 * (y : Int)) = (p : Int) := by rw [wrap64_small (by omega) (by omega)]; omega
              have e2 : IntKind.i64.wrap ((x : Int) + (p : Int)) = (v : Int) := wrap_sum hv (by omega)
              have hkz : (k : Int) < 20 := by omega
              have htz : (t : Int) < 20 := by omega
              clear hx hy hp hv hk b1 b2 hfd hlen
              go_wp2
              go_region
              go_wp2
              go_roundw
              case rel =>
                refine ⟨t + 1, by omega, by go_num, ?_⟩
                rw [hup.out]
                exact hs.out.drew.set t v
              case measure => simp [intOf]; omega
            · obtain rfl : t = 10 := by omega
              have hcc := HC.out
              rw [HL.out] at hcc
              clear hup
              go_wp2_with (first | (refine wpList_load_row rfl 134 (.tmp 11) rfl g rfl 134 (L.map dg).toArray (0, 0) _ hs.out.nn Tryd.underlying134 rfl (nm_infoA hlen) ?_) | (go_at_call 88; refine (hcc _).mono ?_; rintro e w3 ⟨rfl, hb3⟩; have B3 := hide hb3; clear hb3) | (refine wpList_store_row rfl 134 (.tmp 4) (.tmp 69) rfl (n + 1 + 1) (r.map dg).toArray rfl rfl 134 (z10n.map dg).toArray (hs.out.re.on B3.out) (nm_infoA lr) (nm_size lr) (dgs_one r) ?_))
              refine bodyPost_ret (results_cell_row Tryd.results82 _ _ (n + 1 + 1) 134 (r.map dg).toArray (0, 0) _ rfl ((hs.out.re.on B3.out).setRow _) Tryd.underlying134 rfl (nm_infoA lr)) rfl ?_
              exact ⟨rfl, by first | (rw [hn]; exact below_setRow (hs.out.be.trans (B3.out.mono (by have := hs.out.be.size; omega))) _ _ (by omega)) | exact below_setRow (hs.out.be.trans (B3.out.mono (by have := hs.out.be.size; omega))) _ _ (by omega)⟩
theorem mul_ok' (a b : List Nat) (ha : Dg a) (hb : Dg b) : ∃ r, Dg r ∧ V r % Prm.P = (V a * V b) % Prm.P ∧ ∀ w, Calls Tryd.prog 82 #[num a, num b] w fun e w' => e = .returned (num r) ∧ Below w.heap.size w w' := by
  have hl : (upL z10n (fdF (psL (moL a b 10) 20)) 10).length = 10 := by rw [up_len]; simp [z10n]
  have hD : ∀ i, i < 10 → (upL z10n (fdF (psL (moL a b 10) 20)) 10).getD i 0 = fdF (psL (moL a b 10) 20) i := fun i hi => up_in z10n _ 10 (by simp [z10n]) 10 (Nat.le_refl _) i hi
  obtain ⟨r, hr, hv, hc⟩ := carried_ok (upL z10n (fdF (psL (moL a b 10) 20)) 10) hl (fun i => by
    rcases Nat.lt_or_ge i 10 with h | h
    · rw [hD i h, fdF]
      have h1 := psL_ltN (moL a b 10) 20 (mo_len a b 10) i
      have h2 := psL_ltN (moL a b 10) 20 (mo_len a b 10) (i + 10)
      omega
    · rw [getD_out _ _ (by omega)]; omega)
  exact ⟨r, hr, by rw [hv]; exact mul_num a b ha hb _ hD, fun w => mul_walk a b r _ ha hb rfl hc hr.len w⟩
end Go.Proofs.YtoceepmehmacbaaDoor.Cv
