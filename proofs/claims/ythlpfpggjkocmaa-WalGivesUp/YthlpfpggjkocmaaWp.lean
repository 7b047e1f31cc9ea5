import Derived.Test.YthlpfpggjkocmaaWo
set_option linter.unusedVariables false
set_option linter.unusedSimpArgs false
namespace Go.Proofs.Ythlpfpggjkocmaa
open Go.RowKit

theorem ne5 (u : Nat) (W : World) (x y : Operand) : (do eqGuard .neq 5 x y (.int .u8 (u : Int)) (.int .u8 0); binOp .neq 5 (.int .u8 (u : Int)) (.int .u8 0) : Sem Value).run Try.prog W = .ok (.bool (decide (¬ u = 0))) W := by
  have e : decide (¬ (u : Int) = 0) = decide (¬ u = 0) := decide_eq_decide.2 (by omega)
  rw [← e]
  go_simp
  by_cases h : u = 0 <;> simp [h]
theorem wip_set {sp : List (Nat × Nat)} {s : Nat → List UInt8} {b : List UInt8} (h : covB sp 0 = true) (j : Nat) : wipS sp (setS s 0 b) j = wipS sp s j := by
  unfold wipS setS
  by_cases e : covB sp j = true
  · rw [if_pos e, if_pos e]
  · rw [if_neg e, if_neg e, if_neg (fun e0 => e (by rw [e0]; exact h))]
theorem sp_two {n N : Nat} (h : 4 * n + 1 ≤ N) : ∀ x ∈ [(0, 1 + 2 * n), (1 + 2 * (n + n), N)], x.2 ≤ N := fun x hx => by
  rcases List.mem_cons.1 hx with rfl | hx
  · show 1 + 2 * n ≤ N; omega
  · rw [List.mem_singleton.1 hx]; exact Nat.le_refl _
theorem covB_two (n N : Nat) : covB [(0, 1 + 2 * n), (1 + 2 * (n + n), N)] 0 = true := by
  unfold covB
  rw [List.any_cons, show decide (((0, 1 + 2 * n) : Nat × Nat).1 ≤ 0 ∧ 0 < ((0, 1 + 2 * n) : Nat × Nat).2) = true from decide_eq_true ⟨Nat.le_refl _, by show 0 < 1 + 2 * n; omega⟩, Bool.true_or]
set_option maxRecDepth 100000 in
set_option maxHeartbeats 1000000 in
theorem clear_ok {w : World} {L : Lay} {N : Nat} {s : Nat → List UInt8} {c : Nat} (h : Dk w L N s 0 c) (n : Nat) (hN : N ≤ 4096) (hr : roomD (N : Int) = (n : Int)) (hn : 1 ≤ n) (hnN : 4 * n + 1 ≤ N) (hcal : c ≤ 900000) : Calls Try.prog 6 #[.pointer (some ⟨L.p, 0, none⟩)] w fun e w' => ∃ L' c', e = .returned .nilIface ∧ Turn w w' L L' ∧ Dk w' L' N (wipS [(0, 1 + 2 * n), (1 + 2 * (n + n), N)] s) 0 c' ∧ c' ≤ c + 51000 := by
  have hn2 : n ≤ 1000 := by
    have : roomD (N : Int) ≤ 250 := by unfold roomD; split <;> omega
    omega
  have hl0 := h.len 0 (by omega)
  refine calls_of_argsD [.pointer (some ⟨L.p, 0, none⟩)] Try.func6 rfl 29 Try.ntmps6 (by show 1 ≤ 29; decide) ?_
  refine EW.seq ?_
  refine EW.region ?_
  obtain ⟨w3, qe, r3, b3, e3, hq3, z3⟩ := new24 w
  have h3 := h.below e3
  refine WL.new rfl rfl r3 ?_
  refine WL.done ?_
  refine EW.on ?_
  refine EW.seq ?_
  refine EW.region ?_
  refine WL.mkf [.pointer (some ⟨qe, 0, none⟩)] rfl rfl rfl ?_
  refine WL.defer rfl rfl ?_
  refine WL.done ?_
  refine EW.on ?_
  refine EW.seq ?_
  refine EW.region ?_
  first | refine WL.move rfl rfl rfl ?_
  refine WL.call [.pointer (some ⟨L.p, 0, none⟩)] enter20 rfl rfl rfl (over_ok h3 (by omega) n hr (by omega)) ?_
  rintro _ w4 ⟨rfl, e4⟩
  have e04 := e3.trans (e4.mono e3.size)
  refine ⟨_, rfl, ?_⟩
  refine WL.new rfl rfl (new55 w4) ?_
  have e5 := below_new w4 (.cells [Value.pointer none, .int .i64 0].toArray 55)
  obtain ⟨w6, s6, b6, x6⟩ := st55 (p := L.p) (n := n) (Blk.new w4 [Value.pointer none, .int .i64 0] 55) rfl
  have e46 : Below w4.heap.size w4 w6 := below_of_new e5 x6 (fun k hk => by omega)
  have e06 := e04.trans (e46.mono e04.size)
  have e36 := e4.trans (e46.mono e4.size)
  have h6 := h.below e06
  have t6 := b3.on e36
  obtain ⟨q5, hq5⟩ : ∃ q5, w4.heap.size = q5 := ⟨_, rfl⟩
  rw [hq5] at s6 b6 x6 ⊢
  refine WL.store rfl rfl rfl s6 ?_
  refine WL.done ?_
  refine EW.on ?_
  refine EW.seq ?_
  refine EW.region ?_
  refine WL.load rfl rfl rfl (ld55 b6) ?_
  refine WL.call [dkV L.p n] enter21 rfl rfl rfl (settle_none n h6 (by omega) (by omega)) ?_
  rintro _ w7 ⟨rfl, e7⟩
  have e07 := e06.trans (e7.mono e06.size)
  refine ⟨_, rfl, ?_⟩
  refine WL.done ?_
  refine EW.on ?_
  refine EW.seq ?_
  refine EW.seq ?_
  refine EW.region ?_
  refine WL.load rfl rfl rfl (ld55 (b6.on e7)) ?_
  refine WL.call [dkV L.p n, .int .i64 ((0 : Nat) : Int)] enter22 rfl rfl rfl (kreadO_ok n (h.below e07) 0 (by omega)) ?_
  rintro _ w8 ⟨mv, rfl, o8, e8⟩
  have e08 := e07.trans (e8.mono e07.size)
  have e68 := e7.trans (e8.mono e7.size)
  have h8 := h.below e08
  have b8 := b6.on e68
  have t8 := t6.on e68
  have hF : ∀ k, w.heap.size ≤ k → ¬ L.F k := fun k hk hF => by have := h.lt _ hF; omega
  have hg5 : w.heap.size ≤ q5 := by have := e04.size; omega
  refine ⟨_, rfl, ?_⟩
  first | refine WL.assign rfl rfl rfl ?_
  refine WL.done ?_
  refine EW.on ?_
  refine EW.seq ?_
  refine EW.region ?_
  first | refine WL.move rfl rfl rfl ?_
  obtain ⟨ad, ix, lx⟩ := o8.has.at57 (i := 511) (by omega)
  refine WL.index rfl rfl rfl rfl (ix _) ?_
  refine WL.load rfl rfl rfl lx ?_
  refine WL.bin rfl rfl rfl rfl (ne5 (bAt (s 0) 511) _ _ _) ?_
  refine WL.done ?_
  refine EW.on ?_
  refine EW.cond_d rfl (fun h15 => ?_) (fun h15 => ?_)
  · refine EW.seq ?_
    refine EW.ordB [(0, 0, 1), (1, 0, 0), (2, 1, 1), (3, 1, 0)] (by kernel_rfl) rfl (by kernel_rfl) ?_
    simp only [opsZ, List.getD_cons_zero, List.getD_cons_succ]
    refine ZE.load rfl rfl rfl rfl sz1 (fun W hW => ld55 (b8.on (sb_of hW))) ?_
    first | refine ZE.move rfl rfl rfl rfl sz0 ?_
    refine ZE.callR [mv] (fun v W => Ob W w8.heap.size v ((s 0).set 511 0) ∧ Below w8.heap.size w8 W) enter31 rfl rfl rfl (fun _ _ h => .inr h.2) (fun W hW => (off_any mv (s 0) W (o8.has.below hW) hl0).mono fun e w' ⟨u, g1, g2, g3⟩ => ⟨u, g1, g2.mono hW.size, hW.trans (g3.mono hW.size)⟩) ?_
    rintro vo ⟨_, _, _⟩
    refine ZE.callR [dkV L.p n, .int .i64 ((0 : Nat) : Int), vo] (fun v W => v = .tuple #[] ∧ ∃ L', Turn w8 W L L' ∧ Dk W L' N (setS s 0 ((s 0).set 511 0)) 1 (c + 1)) enter30 rfl rfl rfl (fun _ _ _ => .inl rfl) (fun W hW => (kwrite_ok n (h8.below hW.2) 0 (by omega) vo _ (by simp [hl0]) hW.1.has (by omega) (by omega)).mono fun e w' ⟨g1, L', g2, g3⟩ => ⟨_, g1, rfl, L', g2.pre hW.2, g3⟩) ?_
    rintro _ ⟨_, rfl, _⟩
    rintro w9 ⟨_, L9, u9, d9⟩
    refine EW.on ?_
    refine EW.region ?_
    refine WL.load rfl rfl rfl (ld55 (b8.fx u9.fx (hF q5 hg5))) ?_
    refine WL.call [dkV L.p n] enter32 rfl rfl rfl (by rw [← u9.p]; exact kflush_ok n d9 (by omega)) ?_
    rintro _ w12 ⟨rfl, L2, u10, d2⟩
    have u2 := u9.trans u10
    refine ⟨_, rfl, ?_⟩
    refine WL.done ?_
    refine EW.on ?_
    refine EW.seq ?_
    obtain ⟨S2, hS2⟩ : ∃ S2, setS s 0 ((s 0).set 511 0) = S2 := ⟨_, rfl⟩
    obtain ⟨c2, hc2⟩ : ∃ c2, c2 = c + 1 + 1 := ⟨_, rfl⟩
    rw [hS2, ← hc2] at d2
    have hsame : ∀ j, wipS [(0, 1 + 2 * n), (1 + 2 * (n + n), N)] S2 j = wipS [(0, 1 + 2 * n), (1 + 2 * (n + n), N)] s j := fun j => by rw [← hS2]; exact wip_set (covB_two n N) j
    have b12 := b8.fx u2.fx (hF q5 hg5)
    refine EW.ordB [(0, 0, 1), (1, 0, 1), (3, 0, 1), (2, 1, 1), (4, 1, 1), (5, 1, 1), (6, 1, 0)] (by kernel_rfl) rfl (by kernel_rfl) ?_
    simp only [opsZ, List.getD_cons_zero, List.getD_cons_succ]
    refine ZE.load rfl rfl rfl rfl sz1 (fun W hW => ld55 (b12.on (sb_of hW))) ?_
    refine ZE.load rfl rfl rfl rfl sz1 (fun W hW => ld55 (b12.on (sb_of hW))) ?_
    refine ZE.load rfl rfl rfl rfl sz1 (fun W hW => ld55 (b12.on (sb_of hW))) ?_
    refine ZE.callR [dkV L.p n] (fun v W => v = .agg (spC 0 (1 + 2 * n)).toArray ∧ Below w12.heap.size w12 W) enter28 rfl rfl rfl (fun _ _ h => .inr h.2) (fun W hW => (log_any L.p n W hn2).mono fun e w' ⟨g1, g2⟩ => ⟨_, g1, rfl, hW.trans (g2.mono hW.size)⟩) ?_
    rintro _ ⟨_, rfl, _⟩
    refine ZE.callR [dkV L.p n] (fun v W => v = .agg (spC (1 + 2 * (n + n)) N).toArray ∧ Below w12.heap.size w12 W) enter33 rfl rfl rfl (fun _ _ h => .inr h.2) (fun W hW => by rw [← u2.p]; exact (beyond_any n (d2.below hW.2) hn2).mono fun e w' ⟨g1, g2⟩ => ⟨_, g1, rfl, hW.2.trans (g2.mono hW.2.size)⟩) ?_
    rintro _ ⟨_, rfl, _⟩
    refine ZE.bsl [(0, .agg (spC 0 (1 + 2 * n)).toArray), (1, .agg (spC (1 + 2 * (n + n)) N).toArray)] (fun v W => (∃ q, v = .slice (some ⟨q, 0, none⟩) 2 2 ∧ w12.heap.size ≤ q ∧ Blk W q ([(0, 1 + 2 * n), (1 + 2 * (n + n), N)].flatMap fun x => spC x.1 x.2) 63) ∧ Below w12.heap.size w12 W) rfl rfl rfl (fun _ _ h => .inr h.2) (fun W hW => ⟨_, _, bsl99_2 _ _ _ _ W, ⟨_, rfl, hW.2.size, Blk.new _ _ _⟩, hW.2.trans ((below_new W _).mono hW.2.size)⟩) ?_
    rintro _ ⟨_, ⟨qs, rfl, _, _⟩, _⟩
    refine ZE.callR [dkV L.p n, .slice (some ⟨qs, 0, none⟩) 2 2] (fun v W => v = .tuple #[] ∧ ∃ L3 c3, Turn w12 W L2 L3 ∧ Dk W L3 N (wipS [(0, 1 + 2 * n), (1 + 2 * (n + n), N)] S2) 0 c3 ∧ c3 ≤ c2 + 50000) enter27 rfl rfl rfl (fun _ _ _ => .inl rfl) (fun W hW => by
      obtain ⟨⟨q', hv', hq', bq'⟩, eW⟩ := hW
      injection hv' with hv1 _ _
      injection hv1 with hv2
      injection hv2 with hv3 _ _
      subst hv3
      rw [← u2.p]
      exact (wipe_ok n (d2.below eW) (by omega) qs [(0, 1 + 2 * n), (1 + 2 * (n + n), N)] bq' (fun hh => by have := d2.lt _ hh; omega) (sp_two hnN) (by show 2 ≤ 4; omega) (by omega)).mono fun e w' ⟨g1, L3, c3, g2, g3, g4, g5⟩ => ⟨_, g1, rfl, L3, c3, g2.pre eW, g3, g4⟩) ?_
    rintro _ ⟨_, rfl, _⟩
    rintro w13 ⟨_, L3, c3, u3, d3, hc3⟩
    have u03 := (u2.pre e08).trans u3
    have u13 := u2.trans u3
    have t13 := t8.fx u13.fx (hF qe (by omega))
    refine EW.on ?_
    refine EW.seq ?_
    refine EW.region ?_
    obtain ⟨w14, s14, t14, x14⟩ := st24n t13
    refine WL.store rfl rfl rfl s14 ?_
    refine WL.done ?_
    refine EW.on ?_
    refine EW.ret ?_
    refine EW.leaves enter29 (clear1_none _ _) ?_
    rintro u w' ⟨hu, hw⟩
    subst hu
    rw [hw]
    refine ⟨rfl, fun a ha => ⟨_, results_c1 Try.results6 a.tmps w14 (ha.kn 2 _ rfl) (ld24c t14), ?_⟩⟩
    have h3F : ∀ k, L3.F k → ¬ (k = qe) := fun k hk hh => (u13.own k hk).elim (hF k (by omega)) (fun h2 => by have := t8.lt; omega)
    refine ⟨L3, c3, rfl, ⟨u03.fx.trans x14 (fun k hk hh => by omega), u03.own, u03.p⟩, ?_, by omega⟩
    obtain ⟨D, k1, k2⟩ := (d3.congr (fun j _ => hsame j)).ex
    exact ⟨D, k1.fx x14 h3F, k2⟩
  · refine EW.skip ?_
    refine EW.on ?_
    refine EW.seq ?_
    obtain ⟨w12, hw12⟩ : ∃ w12, w8 = w12 := ⟨_, rfl⟩
    obtain ⟨L2, hL2⟩ : ∃ L2, L = L2 := ⟨_, rfl⟩
    have u2 : Turn w8 w12 L L2 := by rw [← hw12, ← hL2]; exact Turn.refl _ _
    obtain ⟨S2, hS2⟩ : ∃ S2, s = S2 := ⟨_, rfl⟩
    obtain ⟨c2, hc2⟩ : ∃ c2, c2 = c := ⟨_, rfl⟩
    have d2 : Dk w12 L2 N S2 0 c2 := by rw [hc2, ← hw12, ← hL2, ← hS2]; exact h8
    have hsame : ∀ j, wipS [(0, 1 + 2 * n), (1 + 2 * (n + n), N)] S2 j = wipS [(0, 1 + 2 * n), (1 + 2 * (n + n), N)] s j := fun j => by rw [hS2]
    have b12 := b8.fx u2.fx (hF q5 hg5)
    rw [hw12]
    refine EW.ordB [(0, 0, 1), (1, 0, 1), (3, 0, 1), (2, 1, 1), (4, 1, 1), (5, 1, 1), (6, 1, 0)] (by kernel_rfl) rfl (by kernel_rfl) ?_
    simp only [opsZ, List.getD_cons_zero, List.getD_cons_succ]
    refine ZE.load rfl rfl rfl rfl sz1 (fun W hW => ld55 (b12.on (sb_of hW))) ?_
    refine ZE.load rfl rfl rfl rfl sz1 (fun W hW => ld55 (b12.on (sb_of hW))) ?_
    refine ZE.load rfl rfl rfl rfl sz1 (fun W hW => ld55 (b12.on (sb_of hW))) ?_
    refine ZE.callR [dkV L.p n] (fun v W => v = .agg (spC 0 (1 + 2 * n)).toArray ∧ Below w12.heap.size w12 W) enter28 rfl rfl rfl (fun _ _ h => .inr h.2) (fun W hW => (log_any L.p n W hn2).mono fun e w' ⟨g1, g2⟩ => ⟨_, g1, rfl, hW.trans (g2.mono hW.size)⟩) ?_
    rintro _ ⟨_, rfl, _⟩
    refine ZE.callR [dkV L.p n] (fun v W => v = .agg (spC (1 + 2 * (n + n)) N).toArray ∧ Below w12.heap.size w12 W) enter33 rfl rfl rfl (fun _ _ h => .inr h.2) (fun W hW => by rw [← u2.p]; exact (beyond_any n (d2.below hW.2) hn2).mono fun e w' ⟨g1, g2⟩ => ⟨_, g1, rfl, hW.2.trans (g2.mono hW.2.size)⟩) ?_
    rintro _ ⟨_, rfl, _⟩
    refine ZE.bsl [(0, .agg (spC 0 (1 + 2 * n)).toArray), (1, .agg (spC (1 + 2 * (n + n)) N).toArray)] (fun v W => (∃ q, v = .slice (some ⟨q, 0, none⟩) 2 2 ∧ w12.heap.size ≤ q ∧ Blk W q ([(0, 1 + 2 * n), (1 + 2 * (n + n), N)].flatMap fun x => spC x.1 x.2) 63) ∧ Below w12.heap.size w12 W) rfl rfl rfl (fun _ _ h => .inr h.2) (fun W hW => ⟨_, _, bsl99_2 _ _ _ _ W, ⟨_, rfl, hW.2.size, Blk.new _ _ _⟩, hW.2.trans ((below_new W _).mono hW.2.size)⟩) ?_
    rintro _ ⟨_, ⟨qs, rfl, _, _⟩, _⟩
    refine ZE.callR [dkV L.p n, .slice (some ⟨qs, 0, none⟩) 2 2] (fun v W => v = .tuple #[] ∧ ∃ L3 c3, Turn w12 W L2 L3 ∧ Dk W L3 N (wipS [(0, 1 + 2 * n), (1 + 2 * (n + n), N)] S2) 0 c3 ∧ c3 ≤ c2 + 50000) enter27 rfl rfl rfl (fun _ _ _ => .inl rfl) (fun W hW => by
      obtain ⟨⟨q', hv', hq', bq'⟩, eW⟩ := hW
      injection hv' with hv1 _ _
      injection hv1 with hv2
      injection hv2 with hv3 _ _
      subst hv3
      rw [← u2.p]
      exact (wipe_ok n (d2.below eW) (by omega) qs [(0, 1 + 2 * n), (1 + 2 * (n + n), N)] bq' (fun hh => by have := d2.lt _ hh; omega) (sp_two hnN) (by show 2 ≤ 4; omega) (by omega)).mono fun e w' ⟨g1, L3, c3, g2, g3, g4, g5⟩ => ⟨_, g1, rfl, L3, c3, g2.pre eW, g3, g4⟩) ?_
    rintro _ ⟨_, rfl, _⟩
    rintro w13 ⟨_, L3, c3, u3, d3, hc3⟩
    have u03 := (u2.pre e08).trans u3
    have u13 := u2.trans u3
    have t13 := t8.fx u13.fx (hF qe (by omega))
    refine EW.on ?_
    refine EW.seq ?_
    refine EW.region ?_
    obtain ⟨w14, s14, t14, x14⟩ := st24n t13
    refine WL.store rfl rfl rfl s14 ?_
    refine WL.done ?_
    refine EW.on ?_
    refine EW.ret ?_
    refine EW.leaves enter29 (clear1_none _ _) ?_
    rintro u w' ⟨hu, hw⟩
    subst hu
    rw [hw]
    refine ⟨rfl, fun a ha => ⟨_, results_c1 Try.results6 a.tmps w14 (ha.kn 2 _ rfl) (ld24c t14), ?_⟩⟩
    have h3F : ∀ k, L3.F k → ¬ (k = qe) := fun k hk hh => (u13.own k hk).elim (hF k (by omega)) (fun h2 => by have := t8.lt; omega)
    refine ⟨L3, c3, rfl, ⟨u03.fx.trans x14 (fun k hk hh => by omega), u03.own, u03.p⟩, ?_, by omega⟩
    obtain ⟨D, k1, k2⟩ := (d3.congr (fun j _ => hsame j)).ex
    exact ⟨D, k1.fx x14 h3F, k2⟩
end Go.Proofs.Ythlpfpggjkocmaa
