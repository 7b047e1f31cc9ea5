import Derived.Test.YthfcabhelldokaaRg
import Derived.Test.YthfcabhelldokaaLdG
set_option linter.unusedVariables false
set_option linter.unusedSimpArgs false
namespace Go.Proofs.Ythfcabhelldokaa
open Go.RowKit


set_option maxRecDepth 100000 in
set_option maxHeartbeats 1000000 in
theorem copied_ex {w : World} (vb : Value) (b : List UInt8) (hv : Has w vb b) (hl : b.length ≤ 100000000) : ∃ ao l c w', (Calls Try.prog 59 #[vb] w fun e W' => e = .returned (.slice ao l c) ∧ W' = w') ∧ w'.ownsRow 0 5 1 (.slice ao l c) b.length (b.map byt) ∧ Below w.heap.size w w' ∧ (∀ k, Value.ownBlock (.slice ao l c) = some k → w.heap.size ≤ k ∧ k < w'.heap.size) := by
  obtain ⟨ao, l, c, w', hr, ho, hb, hn⟩ : ∃ ao l c w', (∀ ty, (Builtin.append_ #[34, 34] ty #[.slice none 0 0, vb]).run Try.prog w = .ok (.slice ao l c) w') ∧ w'.ownsRow 0 5 1 (.slice ao l c) b.length (b.map byt) ∧ Below w.heap.size w w' ∧ ∀ k, Value.ownBlock (.slice ao l c) = some k → w.heap.size ≤ k := by
    rcases hv with ⟨rfl, rfl⟩ | ⟨ad, cap, rfl, h2, h3⟩
    · exact ⟨_, _, _, w, fun ty => app_nil w ty, World.ownsRow_nil _ _ _ _, Below.refl _ _, fun k hk => by simp [Value.ownBlock] at hk⟩
    · obtain ⟨i0, hi, hz0, hz1, hz2⟩ := info_parts info5i
      obtain ⟨v', w', hr, ho, hg, hn⟩ := run_appx w 34 34 5 i0 _ 1 1 Try.underlying34 hi hz0 hz1 hz2 (by simp [Value.cells]) (by decide) (.slice none 0 0) 0 [] (World.ownsRow_nil _ _ _ _) ad b.length cap (b.map byt) (by simp) (fun j u hu => by
        rw [List.getElem?_map] at hu
        obtain ⟨x, hx, rfl⟩ := Option.map_eq_some_iff.1 hu
        exact h3 j x hx) (fun u hu => by
        obtain ⟨x, _, rfl⟩ := List.mem_map.1 hu
        rfl) (by omega) (by omega)
      obtain ⟨ao, l, c, rfl⟩ := own_shape ho
      refine ⟨ao, l, c, w', fun ty => hr, by simpa using ho, (grown_fx hg).below (fun k _ e => by simp [Value.ownBlock] at e) (Nat.le_refl _), fun k hk => ?_⟩
      rcases hn k hk with e | e
      · simp [Value.ownBlock] at e
      · exact e
  refine ⟨ao, l, c, w', ?_, ho, hb, fun k hk => ⟨hn k hk, ownsRow_lt ho k hk⟩⟩
  refine calls_of_args [vb] Try.func59 rfl 7 Try.ntmps59 (by show 1 ≤ 7; decide) ?_
  refine EW.seq ?_
  refine EW.region ?_
  first | refine WL.assign rfl rfl rfl ?_
  refine WL.done ?_
  refine EW.on ?_
  refine EW.seq ?_
  refine EW.region ?_
  first | refine WL.assign rfl rfl rfl ?_
  refine WL.done ?_
  refine EW.on ?_
  refine EW.seq ?_
  refine EW.region ?_
  first | refine WL.move rfl rfl rfl ?_
  first | refine WL.move rfl rfl rfl ?_
  refine WL.app rfl rfl rfl rfl (hr _) ?_
  first | refine WL.assign rfl rfl rfl ?_
  refine WL.done ?_
  refine EW.on ?_
  refine EW.ret ?_
  repeat (first | refine pr_then ?_ | refine pr_block ?_)
  exact EW.returns Try.results59 rfl ⟨rfl, rfl⟩
set_option maxRecDepth 100000 in
set_option maxHeartbeats 1000000 in
theorem rwrite_no {w : World} {L : Rl} {D : Dv} (h : RDev w L D) (i : Int) (vb : Value) (hr : refE D i ≠ 0) : Calls Try.prog 63 #[.pointer (some ⟨L.p, 0, none⟩), .int .i64 i, vb] w fun e w' => e = .returned (.int .i64 (refE D i)) ∧ w' = w := by
  have hc := h.r2
  have hse := ref_sectors h
  unfold refE at hr ⊢
  by_cases hd : D.down = true
  · rw [hd] at hc
    rw [if_pos hd]
    refine calls_of_args [.pointer (some ⟨L.p, 0, none⟩), .int .i64 i, vb] Try.func63 rfl 48 Try.ntmps63 (by show 3 ≤ 48; decide) ?_
    refine EW.seq ?_
    refine EW.region ?_
    first | refine WL.assign rfl rfl rfl ?_
    refine WL.done ?_
    refine EW.on ?_
    refine EW.seq ?_
    refine EW.block ?_
    refine EW.seq ?_
    refine EW.region ?_
    first | refine WL.move rfl rfl rfl ?_
    first | refine WL.nilc rfl rfl rfl ?_
    first | refine WL.field rfl rfl rfl (fld96_2 _ _) ?_
    refine WL.load rfl rfl rfl (ld4 hc) ?_
    first | refine WL.assign rfl rfl rfl ?_
    refine WL.done ?_
    refine EW.on ?_
    refine EW.cond_t rfl ?_
    refine EW.seq ?_
    refine EW.region ?_
    first | refine WL.assign rfl rfl rfl ?_
    refine WL.done ?_
    refine EW.on ?_
    refine EW.ret ?_
    repeat (first | refine pr_then ?_ | refine pr_block ?_)
    exact EW.returns Try.results63 rfl ⟨rfl, rfl⟩
  · have hd' : D.down = false := by simpa using hd
    rw [hd'] at hc
    rw [if_neg hd] at hr ⊢
    by_cases z0 : i < 0
    · rw [if_pos (.inl z0)]
      refine calls_of_args [.pointer (some ⟨L.p, 0, none⟩), .int .i64 i, vb] Try.func63 rfl 48 Try.ntmps63 (by show 3 ≤ 48; decide) ?_
      refine EW.seq ?_
      refine EW.region ?_
      first | refine WL.assign rfl rfl rfl ?_
      refine WL.done ?_
      refine EW.on ?_
      refine EW.seq ?_
      refine EW.block ?_
      refine EW.seq ?_
      refine EW.region ?_
      first | refine WL.move rfl rfl rfl ?_
      first | refine WL.nilc rfl rfl rfl ?_
      first | refine WL.field rfl rfl rfl (fld96_2 _ _) ?_
      refine WL.load rfl rfl rfl (ld4 hc) ?_
      first | refine WL.assign rfl rfl rfl ?_
      refine WL.done ?_
      refine EW.on ?_
      refine EW.cond_f rfl ?_
      refine EW.seq ?_
      refine EW.region ?_
      first | refine WL.move rfl rfl rfl ?_
      refine WL.bin rfl rfl rfl rfl (int_lt_t z0 _ _ _) ?_
      first | refine WL.move rfl rfl rfl ?_
      refine WL.skip _ rfl rfl rfl ?_
      refine WL.skip _ rfl rfl rfl ?_
      refine WL.skip _ rfl rfl rfl ?_
      refine WL.skip _ rfl rfl rfl ?_
      first | refine WL.pick rfl rfl rfl rfl ?_
      first | refine WL.assign rfl rfl rfl ?_
      refine WL.done ?_
      refine EW.on ?_
      refine EW.cond_t rfl ?_
      refine EW.seq ?_
      refine EW.region ?_
      first | refine WL.assign rfl rfl rfl ?_
      refine WL.done ?_
      refine EW.on ?_
      refine EW.ret ?_
      repeat (first | refine pr_then ?_ | refine pr_block ?_)
      exact EW.returns Try.results63 rfl ⟨rfl, rfl⟩
    · have z1 : (D.n : Int) ≤ i := by
        rcases Int.lt_or_le i (D.n : Int) with h1 | h1
        · rw [if_neg (by omega)] at hr; exact absurd rfl hr
        · exact h1
      rw [if_pos (.inr z1)]
      refine calls_of_args [.pointer (some ⟨L.p, 0, none⟩), .int .i64 i, vb] Try.func63 rfl 48 Try.ntmps63 (by show 3 ≤ 48; decide) ?_
      refine EW.seq ?_
      refine EW.region ?_
      first | refine WL.assign rfl rfl rfl ?_
      refine WL.done ?_
      refine EW.on ?_
      refine EW.seq ?_
      refine EW.block ?_
      refine EW.seq ?_
      refine EW.region ?_
      first | refine WL.move rfl rfl rfl ?_
      first | refine WL.nilc rfl rfl rfl ?_
      first | refine WL.field rfl rfl rfl (fld96_2 _ _) ?_
      refine WL.load rfl rfl rfl (ld4 hc) ?_
      first | refine WL.assign rfl rfl rfl ?_
      refine WL.done ?_
      refine EW.on ?_
      refine EW.cond_f rfl ?_
      refine EW.seq ?_
      refine EW.region ?_
      first | refine WL.move rfl rfl rfl ?_
      refine WL.bin rfl rfl rfl rfl (int_lt_f z0 _ _ _) ?_
      first | refine WL.move rfl rfl rfl ?_
      first | refine WL.move rfl rfl rfl ?_ | refine WL.skip _ rfl rfl rfl ?_
      first | refine WL.move rfl rfl rfl ?_ | refine WL.skip _ rfl rfl rfl ?_
      refine WL.call [.pointer (some ⟨L.p, 0, none⟩)] enter53 rfl rfl rfl hse ?_
      rintro x w9 ⟨rfl, hz⟩
      rw [hz]; clear hz w9
      refine ⟨_, rfl, ?_⟩
      refine WL.bin rfl rfl rfl rfl (ige_t z1 _ _ _) ?_
      first | refine WL.pick rfl rfl rfl rfl ?_
      first | refine WL.assign rfl rfl rfl ?_
      refine WL.done ?_
      refine EW.on ?_
      refine EW.cond_t rfl ?_
      refine EW.seq ?_
      refine EW.region ?_
      first | refine WL.assign rfl rfl rfl ?_
      refine WL.done ?_
      refine EW.on ?_
      refine EW.ret ?_
      repeat (first | refine pr_then ?_ | refine pr_block ?_)
      exact EW.returns Try.results63 rfl ⟨rfl, rfl⟩
set_option maxRecDepth 100000 in
set_option maxHeartbeats 1000000 in
theorem rwrite_bad {w : World} {L : Rl} {D : Dv} (h : RDev w L D) (i : Int) (vb : Value) (b : List UInt8) (hv : Has w vb b) (hr : refE D i = 0) (hb : b.length ≠ 512) : Calls Try.prog 63 #[.pointer (some ⟨L.p, 0, none⟩), .int .i64 i, vb] w fun e w' => e = .returned (.int .i64 82) ∧ w' = w := by
  have hc := h.r2
  have hse := ref_sectors h
  have hd : D.down = false := by
    unfold refE at hr
    cases hd : D.down
    · rfl
    · rw [hd, if_pos rfl] at hr; simp at hr
  have hi2 : ¬ (i < 0 ∨ (D.n : Int) ≤ i) := fun hh => by
    unfold refE at hr
    rw [hd, if_neg (by decide), if_pos hh] at hr
    simp at hr
  have z0 : ¬ i < 0 := fun hh => hi2 (.inl hh)
  have z1 : ¬ (D.n : Int) ≤ i := fun hh => hi2 (.inr hh)
  rw [hd] at hc
  have hlen := hv.len
  have z2 : ¬ (b.length : Int) = 512 := by omega
  refine calls_of_args [.pointer (some ⟨L.p, 0, none⟩), .int .i64 i, vb] Try.func63 rfl 48 Try.ntmps63 (by show 3 ≤ 48; decide) ?_
  refine EW.seq ?_
  refine EW.region ?_
  first | refine WL.assign rfl rfl rfl ?_
  refine WL.done ?_
  refine EW.on ?_
  refine EW.seq ?_
  refine EW.block ?_
  refine EW.seq ?_
  refine EW.region ?_
  first | refine WL.move rfl rfl rfl ?_
  first | refine WL.nilc rfl rfl rfl ?_
  first | refine WL.field rfl rfl rfl (fld96_2 _ _) ?_
  refine WL.load rfl rfl rfl (ld4 hc) ?_
  first | refine WL.assign rfl rfl rfl ?_
  refine WL.done ?_
  refine EW.on ?_
  refine EW.cond_f rfl ?_
  refine EW.seq ?_
  refine EW.region ?_
  first | refine WL.move rfl rfl rfl ?_
  refine WL.bin rfl rfl rfl rfl (int_lt_f z0 _ _ _) ?_
  first | refine WL.move rfl rfl rfl ?_
  first | refine WL.move rfl rfl rfl ?_ | refine WL.skip _ rfl rfl rfl ?_
  first | refine WL.move rfl rfl rfl ?_ | refine WL.skip _ rfl rfl rfl ?_
  refine WL.call [.pointer (some ⟨L.p, 0, none⟩)] enter53 rfl rfl rfl hse ?_
  rintro x w9 ⟨rfl, hz⟩
  rw [hz]; clear hz w9
  refine ⟨_, rfl, ?_⟩
  refine WL.bin rfl rfl rfl rfl (ige_f z1 _ _ _) ?_
  first | refine WL.pick rfl rfl rfl rfl ?_
  first | refine WL.assign rfl rfl rfl ?_
  refine WL.done ?_
  refine EW.on ?_
  refine EW.cond_f rfl ?_
  refine EW.seq ?_
  refine EW.region ?_
  first | refine WL.move rfl rfl rfl ?_
  refine WL.len rfl rfl rfl (hlen _ _) ?_
  refine WL.bin rfl rfl rfl rfl (int_ne_t z2 _ _ _) ?_
  first | refine WL.assign rfl rfl rfl ?_
  refine WL.done ?_
  refine EW.on ?_
  refine EW.cond_t rfl ?_
  refine EW.seq ?_
  refine EW.region ?_
  first | refine WL.assign rfl rfl rfl ?_
  refine WL.done ?_
  refine EW.on ?_
  refine EW.ret ?_
  repeat (first | refine pr_then ?_ | refine pr_block ?_)
  exact EW.returns Try.results63 rfl ⟨rfl, rfl⟩
set_option maxRecDepth 100000 in
set_option maxHeartbeats 1000000 in
theorem rwrite_ok {w : World} {L : Rl} {D : Dv} (h : RDev w L D) (i : Nat) (vb : Value) (b : List UInt8) (hv : Has w vb b) (hr : refE D (i : Int) = 0) (hb : b.length = 512) (few : D.pen.length < 1000000) (hcal : D.calls < 1000000000000) (hleft : D.left < 9223372036854775808) : Calls Try.prog 63 #[.pointer (some ⟨L.p, 0, none⟩), .int .i64 (i : Int), vb] w fun e w' => e = .returned (.int .i64 (changedE D)) ∧ ∃ L', RT w w' L L' ∧ RDev w' L' (changedD (pushD D i b)) := by
  have hc := h.r2
  have hse := ref_sectors h
  have hd : D.down = false := by
    unfold refE at hr
    cases hd : D.down
    · rfl
    · rw [hd, if_pos rfl] at hr; simp at hr
  have hi2 : ¬ ((i : Int) < 0 ∨ (D.n : Int) ≤ (i : Int)) := fun hh => by
    unfold refE at hr
    rw [hd, if_neg (by decide), if_pos hh] at hr
    simp at hr
  have z0 : ¬ (i : Int) < 0 := fun hh => hi2 (.inl hh)
  have z1 : ¬ (D.n : Int) ≤ (i : Int) := fun hh => hi2 (.inr hh)
  rw [hd] at hc
  have hlen := hv.len
  have z2 : (b.length : Int) = 512 := by omega
  have hin : i < D.n := by omega
  have hd0 := h.below (below_drawn w)
  have hv0 := hv.below (below_drawn w)
  obtain ⟨wd, hwd⟩ : ∃ wd, { w with drawn := w.drawn + 1 } = wd := ⟨_, rfl⟩
  rw [hwd] at hd0 hv0
  have bed : Below w.heap.size w wd := by rw [← hwd]; exact below_drawn w
  obtain ⟨xo, xl, xc, w1, hcp, ho1, be1, hn1⟩ := copied_ex vb b hv0 (by omega)
  have h1 := hd0.below be1
  have hvn1 : ∀ k, Value.ownBlock (.slice xo xl xc) = some k → ¬ L.F k ∧ k < w1.heap.size := fun k hk => ⟨fun hF => by have := hd0.lt k hF; have := (hn1 k hk).1; omega, (hn1 k hk).2⟩
  obtain ⟨w2, ao, ln, cp, w3, hbs, hap, hc2, hc3, hf3, hr3, hfx3, hnw⟩ := h1.push few i hin b hb xo xl xc (own_has ho1) hvn1 30
  have ht3 : RT w (w3.setCell ⟨L.p, 1, none⟩ (.slice ao ln cp)) L (L.more (.slice ao ln cp) (.slice xo xl xc)) := by
    refine ⟨((Fx.of_below bed).and (Fx.of_below be1)).and hfx3, fun k hk => ?_, rfl⟩
    have hw1 : w.heap.size ≤ w1.heap.size := Nat.le_trans bed.size be1.size
    rcases hk with hk | hk | hk | hk | ⟨u, hu, hk⟩
    · exact .inl (.inl hk)
    · exact .inl (.inr (.inl hk))
    · rcases hnw k hk with e | e
      · exact .inl (.inr (.inr (.inl e)))
      · exact .inr (by omega)
    · exact .inl (.inr (.inr (.inr (.inl hk))))
    · rcases List.mem_append.1 hu with hu | hu
      · exact .inl (.inr (.inr (.inr (.inr ⟨u, hu, hk⟩))))
      · rw [List.mem_singleton.1 hu] at hk
        have := (hn1 k hk).1
        exact .inr (by have := bed.size; omega)
  obtain ⟨L3, hL3⟩ : ∃ L3, L.more (.slice ao ln cp) (.slice xo xl xc) = L3 := ⟨_, rfl⟩
  have hp3 : L3.p = L.p := by rw [← hL3]; rfl
  obtain ⟨w4, hw4⟩ : ∃ w4, w3.setCell ⟨L.p, 1, none⟩ (.slice ao ln cp) = w4 := ⟨_, rfl⟩
  have hst := st30 (ao := ao) (l := ln) (c := cp) hc3 hf3
  rw [hL3, hw4] at hr3 ht3
  rw [hw4] at hst
  have hfi := ref_fires hr3 hcal hleft
  rw [hp3] at hfi
  rw [show (pushD D i b).left = D.left from rfl] at hfi
  refine calls_of_args [.pointer (some ⟨L.p, 0, none⟩), .int .i64 (i : Int), vb] Try.func63 rfl 48 Try.ntmps63 (by show 3 ≤ 48; decide) ?_
  refine EW.seq ?_
  refine EW.region ?_
  first | refine WL.assign rfl rfl rfl ?_
  refine WL.done ?_
  refine EW.on ?_
  refine EW.seq ?_
  refine EW.block ?_
  refine EW.seq ?_
  refine EW.region ?_
  first | refine WL.move rfl rfl rfl ?_
  first | refine WL.nilc rfl rfl rfl ?_
  first | refine WL.field rfl rfl rfl (fld96_2 _ _) ?_
  refine WL.load rfl rfl rfl (ld4 hc) ?_
  first | refine WL.assign rfl rfl rfl ?_
  refine WL.done ?_
  refine EW.on ?_
  refine EW.cond_f rfl ?_
  refine EW.seq ?_
  refine EW.region ?_
  first | refine WL.move rfl rfl rfl ?_
  refine WL.bin rfl rfl rfl rfl (int_lt_f z0 _ _ _) ?_
  first | refine WL.move rfl rfl rfl ?_
  first | refine WL.move rfl rfl rfl ?_ | refine WL.skip _ rfl rfl rfl ?_
  first | refine WL.move rfl rfl rfl ?_ | refine WL.skip _ rfl rfl rfl ?_
  refine WL.call [.pointer (some ⟨L.p, 0, none⟩)] enter53 rfl rfl rfl hse ?_
  rintro x w9 ⟨rfl, hz⟩
  rw [hz]; clear hz w9
  refine ⟨_, rfl, ?_⟩
  refine WL.bin rfl rfl rfl rfl (ige_f z1 _ _ _) ?_
  first | refine WL.pick rfl rfl rfl rfl ?_
  first | refine WL.assign rfl rfl rfl ?_
  refine WL.done ?_
  refine EW.on ?_
  refine EW.cond_f rfl ?_
  refine EW.seq ?_
  refine EW.region ?_
  first | refine WL.move rfl rfl rfl ?_
  refine WL.len rfl rfl rfl (hlen _ _) ?_
  refine WL.bin rfl rfl rfl rfl (int_ne_f z2 _ _ _) ?_
  first | refine WL.assign rfl rfl rfl ?_
  refine WL.done ?_
  refine EW.on ?_
  refine EW.cond_f rfl ?_
  refine EW.skip ?_
  refine pn_block ?_
  refine EW.on ?_
  refine EW.seq ?_
  refine EW.chain 7 4 3 (fun V => V.cell? ⟨L.p, 1, none⟩ = some L.vl) (by kernel_rfl) rfl (by kernel_rfl) (by rw [hwd]; exact hd0.r1) (by kernel_rfl) ?_
  rw [hwd]
  simp only [List.take_succ_cons, List.take_zero, List.drop_succ_cons, List.drop_zero, List.map_cons, List.map_nil, List.cons_append, List.nil_append]
  refine OE.move rfl rfl rfl ?_
  refine OE.move rfl rfl rfl ?_
  refine OE.nilc rfl rfl rfl ?_
  refine OE.field rfl rfl rfl (fun V => fld96_1 _ V) ?_
  refine OE.load rfl rfl rfl (fun V hV => ld30 hV) ?_
  refine OE.move rfl rfl rfl ?_
  refine OE.move rfl rfl rfl ?_
  refine OE.callW [vb] _ (fun V => V.cell? ⟨L.p, 1, none⟩ = some L.vl) enter59 rfl rfl rfl h1.r1 (fun V h => h) hcp ?_
  refine OE.build2 (fun V => V.cell? ⟨L.p, 1, none⟩ = some L.vl) rfl rfl h1.r1 (fun V h => h) rfl rfl (bd78v _ _ _ _ _) ?_
  refine OE.bsl (fun V => V.cell? ⟨L.p, 1, none⟩ = some L.vl) rfl rfl hc2 (fun V h => h) rfl hbs ?_
  refine OE.app (fun V => V.cell? ⟨L.p, 1, none⟩ = some L.vl) rfl rfl hc3 (fun V h => h) rfl rfl hap ?_
  refine fun W5 hW => ?_
  rw [hW]
  refine WL.nilc rfl rfl rfl ?_
  refine WL.field rfl rfl rfl (fld96_1 _ _) ?_
  refine WL.store rfl rfl rfl hst ?_
  refine WL.done ?_
  refine EW.on ?_
  refine EW.seq ?_
  refine EW.region ?_
  first | refine WL.move rfl rfl rfl ?_
  refine WL.call [.pointer (some ⟨L.p, 0, none⟩)] enter64 rfl rfl rfl hfi ?_
  rintro x w5 ⟨rfl, ht5, hr5⟩
  refine ⟨_, rfl, ?_⟩
  first | refine WL.assign rfl rfl rfl ?_
  refine WL.done ?_
  refine EW.on ?_
  refine EW.seq ?_
  refine EW.seq ?_
  refine EW.region ?_
  first | refine WL.move rfl rfl rfl ?_
  refine WL.done ?_
  by_cases h1l : D.left = 1
  · have hE : changedE D = 80 := by unfold changedE; rw [if_pos h1l]
    have hfa := falls_ref hr5 L3.vk L3.ks L3.torn L3.off hr5.kp (sixty hr5)
    rw [los1 hr3 h1l, hp3] at hfa
    have hlo := hr5.loss
    rw [hp3] at hlo
    rw [hE, decide_eq_true h1l]
    refine EW.on ?_
    refine EW.cond_t rfl ?_
    refine EW.seq ?_
    refine EW.region ?_
    first | refine WL.move rfl rfl rfl ?_
    first | refine WL.move rfl rfl rfl ?_
    first | refine WL.nilc rfl rfl rfl ?_
    first | refine WL.field rfl rfl rfl (fld96_4 _ _) ?_
    refine WL.load rfl rfl rfl hlo ?_
    refine WL.call [.pointer (some ⟨L.p, 0, none⟩), .agg (lossC L3.vk L3.torn L3.off).toArray] enter65 rfl rfl rfl hfa ?_
    rintro x w6 ⟨rfl, ht6, hr6⟩
    refine ⟨_, rfl, ?_⟩
    refine WL.done ?_
    refine EW.on ?_
    refine EW.seq ?_
    refine EW.region ?_
    first | refine WL.assign rfl rfl rfl ?_
    refine WL.done ?_
    refine EW.on ?_
    refine EW.ret ?_
    repeat (first | refine pr_then ?_ | refine pr_block ?_)
    exact EW.returns Try.results63 rfl ⟨rfl, _, ht3.trans (ht5.trans ht6), hr6⟩
  · have hE : changedE D = 0 := by unfold changedE; rw [if_neg h1l]
    have hD : changedD (pushD D i b) = tickD (pushD D i b) := by unfold changedD; rw [if_neg (show ¬ (pushD D i b).left = 1 from h1l)]
    rw [hE, hD, decide_eq_false h1l]
    refine EW.on ?_
    refine EW.cond_f rfl ?_
    refine EW.skip ?_
    refine EW.on ?_
    refine EW.seq ?_
    refine EW.region ?_
    first | refine WL.assign rfl rfl rfl ?_
    refine WL.done ?_
    refine EW.on ?_
    refine EW.ret ?_
    repeat (first | refine pr_then ?_ | refine pr_block ?_)
    exact EW.returns Try.results63 rfl ⟨rfl, _, ht3.trans ht5, hr5⟩
end Go.Proofs.Ythfcabhelldokaa
