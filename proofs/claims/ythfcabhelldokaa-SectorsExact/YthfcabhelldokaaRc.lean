import Derived.Test.YthfcabhelldokaaRbG
set_option linter.unusedVariables false
set_option linter.unusedSimpArgs false
namespace Go.Proofs.Ythfcabhelldokaa
open Go.RowKit

theorem RDev.r0 {w : World} {L : Rl} {D : Dv} (h : RDev w L D) : w.cell? ⟨L.p, 0, none⟩ = some L.vb := (h.dev.cell 0).trans rfl
theorem RDev.r1 {w : World} {L : Rl} {D : Dv} (h : RDev w L D) : w.cell? ⟨L.p, 1, none⟩ = some L.vl := (h.dev.cell 1).trans rfl
theorem RDev.r2 {w : World} {L : Rl} {D : Dv} (h : RDev w L D) : w.cell? ⟨L.p, 2, none⟩ = some (.bool D.down) := (h.dev.cell 2).trans rfl
theorem RDev.r3 {w : World} {L : Rl} {D : Dv} (h : RDev w L D) : w.cell? ⟨L.p, 3, none⟩ = some (.int .i64 (D.left : Int)) := (h.dev.cell 3).trans rfl
theorem RDev.r7 {w : World} {L : Rl} {D : Dv} (h : RDev w L D) : w.cell? ⟨L.p, 7, none⟩ = some (.int .i64 (D.calls : Int)) := (h.dev.cell 7).trans rfl
theorem RDev.loss {w : World} {L : Rl} {D : Dv} (h : RDev w L D) : (Instr.loadAt 38 (.pointer (some ⟨L.p, 4, none⟩))).run Try.prog w = .ok (.agg (lossC L.vk L.torn L.off).toArray) w := run_loadA (fun j v hj => by
  rw [add_off, h.dev.cell, ← hj]
  have hj3 : j < 3 := by have := (List.getElem?_eq_some_iff.1 hj).1; simpa [lossC] using this
  match j, hj3 with
  | 0, _ => rfl
  | 1, _ => rfl
  | 2, _ => rfl) Try.underlying38 rfl (info38 _ _ _)
theorem own_has {w : World} {v : Value} {b : List UInt8} (h : w.ownsRow 0 5 1 v b.length (b.map byt)) : Has w v b := by
  obtain ⟨h0, ⟨e, hz⟩ | ⟨g, cap, cur, e, _, hh, hn, hc, hs, ht⟩⟩ := h
  · exact .inl ⟨e, List.eq_nil_of_length_eq_zero hz⟩
  · refine .inr ⟨⟨g, 0, none⟩, cap, e, hn, fun i u hu => ?_⟩
    have hi : i < b.length := (List.getElem?_eq_some_iff.1 hu).1
    have hv : (b.map byt)[i]? = some (byt u) := by rw [List.getElem?_map, hu]; rfl
    rw [← ht, List.getElem?_take_of_lt (by omega), Array.getElem?_toList] at hv
    rw [add_plain]
    simp [World.cell?, hh, hv]
set_option maxRecDepth 100000 in
set_option maxHeartbeats 1000000 in
theorem ref_sectors {w : World} {L : Rl} {D : Dv} (h : RDev w L D) : Calls Try.prog 53 #[.pointer (some ⟨L.p, 0, none⟩)] w fun e w' => e = .returned (.int .i64 (D.n : Int)) ∧ w' = w := by
  have r0 := h.r0
  obtain ⟨g, cap, hvb, _, _, _⟩ := h.image
  rw [hvb] at r0
  have q := quo512 D.n h.ok.n2
  refine calls_of_args [.pointer (some ⟨L.p, 0, none⟩)] Try.func53 rfl 9 Try.ntmps53 (by show 1 ≤ 9; decide) ?_
  refine EW.seq ?_
  refine EW.region ?_
  first | refine WL.assign rfl rfl rfl ?_
  refine WL.done ?_
  refine EW.on ?_
  refine EW.seq ?_
  refine EW.region ?_
  first | refine WL.move rfl rfl rfl ?_
  first | refine WL.nilc rfl rfl rfl ?_
  first | refine WL.field rfl rfl rfl (fld96_0 _ _) ?_
  refine WL.load rfl rfl rfl (ld34 r0) ?_
  refine WL.len rfl rfl rfl (len34 _ _ _ _ _) ?_
  refine WL.bin rfl rfl rfl rfl (q _ _ _) ?_
  first | refine WL.assign rfl rfl rfl ?_
  refine WL.done ?_
  refine EW.on ?_
  refine EW.ret ?_
  repeat (first | refine pr_then ?_ | refine pr_block ?_)
  exact EW.returns Try.results53 rfl ⟨rfl, rfl⟩
set_option maxRecDepth 100000 in
set_option maxHeartbeats 1000000 in
theorem ref_down {w : World} {L : Rl} {D : Dv} (h : RDev w L D) : Calls Try.prog 54 #[.pointer (some ⟨L.p, 0, none⟩)] w fun e w' => e = .returned (.bool D.down) ∧ w' = w := by
  refine calls_of_args [.pointer (some ⟨L.p, 0, none⟩)] Try.func54 rfl 7 Try.ntmps54 (by show 1 ≤ 7; decide) ?_
  refine EW.seq ?_
  refine EW.region ?_
  first | refine WL.assign rfl rfl rfl ?_
  refine WL.done ?_
  refine EW.on ?_
  refine EW.seq ?_
  refine EW.region ?_
  first | refine WL.move rfl rfl rfl ?_
  first | refine WL.nilc rfl rfl rfl ?_
  first | refine WL.field rfl rfl rfl (fld96_2 _ _) ?_
  refine WL.load rfl rfl rfl (ld4 h.r2) ?_
  first | refine WL.assign rfl rfl rfl ?_
  refine WL.done ?_
  refine EW.on ?_
  refine EW.ret ?_
  repeat (first | refine pr_then ?_ | refine pr_block ?_)
  exact EW.returns Try.results54 rfl ⟨rfl, rfl⟩
set_option maxRecDepth 100000 in
set_option maxHeartbeats 1000000 in
theorem ref_calls {w : World} {L : Rl} {D : Dv} (h : RDev w L D) : Calls Try.prog 56 #[.pointer (some ⟨L.p, 0, none⟩)] w fun e w' => e = .returned (.int .i64 (D.calls : Int)) ∧ w' = w := by
  refine calls_of_args [.pointer (some ⟨L.p, 0, none⟩)] Try.func56 rfl 7 Try.ntmps56 (by show 1 ≤ 7; decide) ?_
  refine EW.seq ?_
  refine EW.region ?_
  first | refine WL.assign rfl rfl rfl ?_
  refine WL.done ?_
  refine EW.on ?_
  refine EW.seq ?_
  refine EW.region ?_
  first | refine WL.move rfl rfl rfl ?_
  first | refine WL.nilc rfl rfl rfl ?_
  first | refine WL.field rfl rfl rfl (fld96_5 _ _) ?_
  refine WL.load rfl rfl rfl (ld3 h.r7) ?_
  first | refine WL.assign rfl rfl rfl ?_
  refine WL.done ?_
  refine EW.on ?_
  refine EW.ret ?_
  repeat (first | refine pr_then ?_ | refine pr_block ?_)
  exact EW.returns Try.results56 rfl ⟨rfl, rfl⟩
set_option maxRecDepth 100000 in
set_option maxHeartbeats 1000000 in
theorem ref_up {w : World} {L : Rl} {D : Dv} (h : RDev w L D) : Calls Try.prog 69 #[.pointer (some ⟨L.p, 0, none⟩)] w fun e w' => e = .returned (.int .i64 0) ∧ RT w w' L L ∧ RDev w' L (upD D) := by
  have k1 := h.num 2 (.bool false) { D with down := false } rfl rfl rfl h.los ⟨h.ok.n1, h.ok.n2, h.ok.len, h.ok.sec, h.ok.few, h.ok.cal⟩
  have k2 := k1.1.num 3 (.int .i64 0) (upD D) rfl rfl rfl (fun e => absurd rfl e) ⟨h.ok.n1, h.ok.n2, h.ok.len, h.ok.sec, h.ok.few, h.ok.cal⟩
  refine calls_of_args [.pointer (some ⟨L.p, 0, none⟩)] Try.func69 rfl 9 Try.ntmps69 (by show 1 ≤ 9; decide) ?_
  refine EW.seq ?_
  refine EW.region ?_
  first | refine WL.assign rfl rfl rfl ?_
  refine WL.done ?_
  refine EW.on ?_
  refine EW.seq ?_
  refine EW.region ?_
  first | refine WL.move rfl rfl rfl ?_
  first | refine WL.nilc rfl rfl rfl ?_
  first | refine WL.field rfl rfl rfl (fld96_2 _ _) ?_
  refine WL.store rfl rfl rfl (st4 h.r2 (h.dev.frozen 2)) ?_
  refine WL.done ?_
  refine EW.on ?_
  refine EW.seq ?_
  refine EW.region ?_
  first | refine WL.move rfl rfl rfl ?_
  first | refine WL.nilc rfl rfl rfl ?_
  first | refine WL.field rfl rfl rfl (fld96_3 _ _) ?_
  refine WL.store rfl rfl rfl (st3 k1.1.r3 (k1.1.dev.frozen 3)) ?_
  refine WL.done ?_
  refine EW.on ?_
  refine EW.seq ?_
  refine EW.region ?_
  first | refine WL.assign rfl rfl rfl ?_
  refine WL.done ?_
  refine EW.on ?_
  refine EW.ret ?_
  repeat (first | refine pr_then ?_ | refine pr_block ?_)
  exact EW.returns Try.results69 rfl ⟨rfl, k1.2.trans k2.2, k2.1⟩
set_option maxRecDepth 100000 in
set_option maxHeartbeats 1000000 in
theorem ref_fires {w : World} {L : Rl} {D : Dv} (h : RDev w L D) (hcal : D.calls < 1000000000000) (hl : D.left < 9223372036854775808) : Calls Try.prog 64 #[.pointer (some ⟨L.p, 0, none⟩)] w fun e w' => e = .returned (.bool (decide (D.left = 1))) ∧ RT w w' L L ∧ RDev w' L (tickD D) := by
  have hc1 : IntKind.i64.wrap ((D.calls : Int) + 1) = ((D.calls + 1 : Nat) : Int) := by rw [IntKind.wrap_i64]; omega
  have k1 := h.num 7 (.int .i64 ((D.calls + 1 : Nat) : Int)) { D with calls := D.calls + 1 } rfl rfl rfl h.los ⟨h.ok.n1, h.ok.n2, h.ok.len, h.ok.sec, h.ok.few, hcal⟩
  obtain ⟨w1, hw1⟩ : ∃ w1, w.setCell ⟨L.p, 7, none⟩ (.int .i64 ((D.calls + 1 : Nat) : Int)) = w1 := ⟨_, rfl⟩
  have hst := st3 (z := ((D.calls + 1 : Nat) : Int)) h.r7 (h.dev.frozen 7)
  rw [hw1] at k1 hst
  have q3 : w1.cell? ⟨L.p, 3, none⟩ = some (.int .i64 (D.left : Int)) := k1.1.r3
  by_cases h0 : D.left = 0
  · have z0 : (D.left : Int) = 0 := by omega
    have hd : decide (D.left = 1) = false := decide_eq_false (by omega)
    have ht : tickD D = { D with calls := D.calls + 1 } := by cases D; simp at h0; simp [tickD, h0]
    refine calls_of_args [.pointer (some ⟨L.p, 0, none⟩)] Try.func64 rfl 27 Try.ntmps64 (by show 1 ≤ 27; decide) ?_
    refine EW.seq ?_
    refine EW.region ?_
    first | refine WL.assign rfl rfl rfl ?_
    refine WL.done ?_
    refine EW.on ?_
    refine EW.seq ?_
    refine EW.region ?_
    first | refine WL.move rfl rfl rfl ?_
    first | refine WL.nilc rfl rfl rfl ?_
    first | refine WL.field rfl rfl rfl (fld96_5 _ _) ?_
    refine WL.load rfl rfl rfl (ld3 h.r7) ?_
    refine WL.bin rfl rfl rfl rfl (int_add hc1 _ _ _) ?_
    first | refine WL.nilc rfl rfl rfl ?_
    first | refine WL.field rfl rfl rfl (fld96_5 _ _) ?_
    refine WL.store rfl rfl rfl hst ?_
    refine WL.done ?_
    refine EW.on ?_
    refine EW.seq ?_
    refine EW.seq ?_
    refine EW.region ?_
    first | refine WL.move rfl rfl rfl ?_
    first | refine WL.nilc rfl rfl rfl ?_
    first | refine WL.field rfl rfl rfl (fld96_3 _ _) ?_
    refine WL.load rfl rfl rfl (ld3 q3) ?_
    refine WL.bin rfl rfl rfl rfl (int_eq_t z0 _ _ _) ?_
    refine WL.done ?_
    refine EW.on ?_
    refine EW.cond_t rfl ?_
    refine EW.seq ?_
    refine EW.region ?_
    first | refine WL.assign rfl rfl rfl ?_
    refine WL.done ?_
    refine EW.on ?_
    refine EW.ret ?_
    repeat (first | refine pr_then ?_ | refine pr_block ?_)
    exact EW.returns Try.results64 rfl ⟨by rw [hd], k1.2, by rw [ht]; exact k1.1⟩
  · have z0 : ¬ (D.left : Int) = 0 := by omega
    have hs1 : IntKind.i64.wrap ((D.left : Int) - 1) = ((D.left - 1 : Nat) : Int) := by rw [IntKind.wrap_i64]; omega
    have k2 := k1.1.num 3 (.int .i64 ((D.left - 1 : Nat) : Int)) (tickD D) rfl rfl rfl (fun e => h.los h0) ⟨h.ok.n1, h.ok.n2, h.ok.len, h.ok.sec, h.ok.few, hcal⟩
    by_cases h1 : D.left = 1
    · have z1 : ((tickD D).left : Int) = 0 := by show ((D.left - 1 : Nat) : Int) = 0; omega
      have hd : decide (D.left = 1) = true := decide_eq_true h1
      refine calls_of_args [.pointer (some ⟨L.p, 0, none⟩)] Try.func64 rfl 27 Try.ntmps64 (by show 1 ≤ 27; decide) ?_
      refine EW.seq ?_
      refine EW.region ?_
      first | refine WL.assign rfl rfl rfl ?_
      refine WL.done ?_
      refine EW.on ?_
      refine EW.seq ?_
      refine EW.region ?_
      first | refine WL.move rfl rfl rfl ?_
      first | refine WL.nilc rfl rfl rfl ?_
      first | refine WL.field rfl rfl rfl (fld96_5 _ _) ?_
      refine WL.load rfl rfl rfl (ld3 h.r7) ?_
      refine WL.bin rfl rfl rfl rfl (int_add hc1 _ _ _) ?_
      first | refine WL.nilc rfl rfl rfl ?_
      first | refine WL.field rfl rfl rfl (fld96_5 _ _) ?_
      refine WL.store rfl rfl rfl hst ?_
      refine WL.done ?_
      refine EW.on ?_
      refine EW.seq ?_
      refine EW.seq ?_
      refine EW.region ?_
      first | refine WL.move rfl rfl rfl ?_
      first | refine WL.nilc rfl rfl rfl ?_
      first | refine WL.field rfl rfl rfl (fld96_3 _ _) ?_
      refine WL.load rfl rfl rfl (ld3 q3) ?_
      refine WL.bin rfl rfl rfl rfl (int_eq_f z0 _ _ _) ?_
      refine WL.done ?_
      refine EW.on ?_
      refine EW.cond_f rfl ?_
      refine EW.skip ?_
      refine EW.on ?_
      refine EW.seq ?_
      refine EW.region ?_
      first | refine WL.move rfl rfl rfl ?_
      first | refine WL.nilc rfl rfl rfl ?_
      first | refine WL.field rfl rfl rfl (fld96_3 _ _) ?_
      refine WL.load rfl rfl rfl (ld3 q3) ?_
      refine WL.bin rfl rfl rfl rfl (int_sub hs1 _ _ _) ?_
      first | refine WL.nilc rfl rfl rfl ?_
      first | refine WL.field rfl rfl rfl (fld96_3 _ _) ?_
      refine WL.store rfl rfl rfl (st3 q3 (k1.1.dev.frozen 3)) ?_
      refine WL.done ?_
      refine EW.on ?_
      refine EW.seq ?_
      refine EW.region ?_
      first | refine WL.move rfl rfl rfl ?_
      first | refine WL.nilc rfl rfl rfl ?_
      first | refine WL.field rfl rfl rfl (fld96_3 _ _) ?_
      refine WL.load rfl rfl rfl (ld3 k2.1.r3) ?_
      refine WL.bin rfl rfl rfl rfl (int_eq_t z1 _ _ _) ?_
      first | refine WL.assign rfl rfl rfl ?_
      refine WL.done ?_
      refine EW.on ?_
      refine EW.ret ?_
      repeat (first | refine pr_then ?_ | refine pr_block ?_)
      exact EW.returns Try.results64 rfl ⟨by rw [hd], k1.2.trans k2.2, k2.1⟩
    · have z1 : ¬ ((tickD D).left : Int) = 0 := by show ¬ ((D.left - 1 : Nat) : Int) = 0; omega
      have hd : decide (D.left = 1) = false := decide_eq_false h1
      refine calls_of_args [.pointer (some ⟨L.p, 0, none⟩)] Try.func64 rfl 27 Try.ntmps64 (by show 1 ≤ 27; decide) ?_
      refine EW.seq ?_
      refine EW.region ?_
      first | refine WL.assign rfl rfl rfl ?_
      refine WL.done ?_
      refine EW.on ?_
      refine EW.seq ?_
      refine EW.region ?_
      first | refine WL.move rfl rfl rfl ?_
      first | refine WL.nilc rfl rfl rfl ?_
      first | refine WL.field rfl rfl rfl (fld96_5 _ _) ?_
      refine WL.load rfl rfl rfl (ld3 h.r7) ?_
      refine WL.bin rfl rfl rfl rfl (int_add hc1 _ _ _) ?_
      first | refine WL.nilc rfl rfl rfl ?_
      first | refine WL.field rfl rfl rfl (fld96_5 _ _) ?_
      refine WL.store rfl rfl rfl hst ?_
      refine WL.done ?_
      refine EW.on ?_
      refine EW.seq ?_
      refine EW.seq ?_
      refine EW.region ?_
      first | refine WL.move rfl rfl rfl ?_
      first | refine WL.nilc rfl rfl rfl ?_
      first | refine WL.field rfl rfl rfl (fld96_3 _ _) ?_
      refine WL.load rfl rfl rfl (ld3 q3) ?_
      refine WL.bin rfl rfl rfl rfl (int_eq_f z0 _ _ _) ?_
      refine WL.done ?_
      refine EW.on ?_
      refine EW.cond_f rfl ?_
      refine EW.skip ?_
      refine EW.on ?_
      refine EW.seq ?_
      refine EW.region ?_
      first | refine WL.move rfl rfl rfl ?_
      first | refine WL.nilc rfl rfl rfl ?_
      first | refine WL.field rfl rfl rfl (fld96_3 _ _) ?_
      refine WL.load rfl rfl rfl (ld3 q3) ?_
      refine WL.bin rfl rfl rfl rfl (int_sub hs1 _ _ _) ?_
      first | refine WL.nilc rfl rfl rfl ?_
      first | refine WL.field rfl rfl rfl (fld96_3 _ _) ?_
      refine WL.store rfl rfl rfl (st3 q3 (k1.1.dev.frozen 3)) ?_
      refine WL.done ?_
      refine EW.on ?_
      refine EW.seq ?_
      refine EW.region ?_
      first | refine WL.move rfl rfl rfl ?_
      first | refine WL.nilc rfl rfl rfl ?_
      first | refine WL.field rfl rfl rfl (fld96_3 _ _) ?_
      refine WL.load rfl rfl rfl (ld3 k2.1.r3) ?_
      refine WL.bin rfl rfl rfl rfl (int_eq_f z1 _ _ _) ?_
      first | refine WL.assign rfl rfl rfl ?_
      refine WL.done ?_
      refine EW.on ?_
      refine EW.ret ?_
      repeat (first | refine pr_then ?_ | refine pr_block ?_)
      exact EW.returns Try.results64 rfl ⟨by rw [hd], k1.2.trans k2.2, k2.1⟩
set_option maxRecDepth 100000 in
set_option maxHeartbeats 1000000 in
theorem copied_ref {w : World} (vb : Value) (b : List UInt8) (hv : Has w vb b) (hl : b.length ≤ 100000000) : Calls Try.prog 59 #[vb] w fun e w' => ∃ v', e = .returned v' ∧ w'.ownsRow 0 5 1 v' b.length (b.map byt) ∧ Below w.heap.size w w' ∧ ∀ k, v'.ownBlock = some k → w.heap.size ≤ k := by
  obtain ⟨v', w', hr, ho, hb, hn⟩ : ∃ v' w', (∀ ty, (Builtin.append_ #[34, 34] ty #[.slice none 0 0, vb]).run Try.prog w = .ok v' w') ∧ w'.ownsRow 0 5 1 v' b.length (b.map byt) ∧ Below w.heap.size w w' ∧ ∀ k, v'.ownBlock = some k → w.heap.size ≤ k := by
    rcases hv with ⟨rfl, rfl⟩ | ⟨ad, cap, rfl, h2, h3⟩
    · exact ⟨_, w, fun ty => app_nil w ty, World.ownsRow_nil _ _ _ _, Below.refl _ _, fun k hk => by simp [Value.ownBlock] at hk⟩
    · obtain ⟨i0, hi, hz0, hz1, hz2⟩ := info_parts info5i
      obtain ⟨v', w', hr, ho, hg, hn⟩ := run_appx w 34 34 5 i0 _ 1 1 Try.underlying34 hi hz0 hz1 hz2 (by simp [Value.cells]) (by decide) (.slice none 0 0) 0 [] (World.ownsRow_nil _ _ _ _) ad b.length cap (b.map byt) (by simp) (fun j u hu => by
        rw [List.getElem?_map] at hu
        obtain ⟨x, hx, rfl⟩ := Option.map_eq_some_iff.1 hu
        exact h3 j x hx) (fun u hu => by
        obtain ⟨x, _, rfl⟩ := List.mem_map.1 hu
        rfl) (by omega) (by omega)
      refine ⟨v', w', fun ty => hr, by simpa using ho, (grown_fx hg).below (fun k _ e => by simp [Value.ownBlock] at e) (Nat.le_refl _), fun k hk => ?_⟩
      rcases hn k hk with e | e
      · simp [Value.ownBlock] at e
      · exact e
  refine calls_of_args [vb] Try.func59 rfl 7 Try.ntmps59 (by show 1 ≤ 7; decide) ?_
  refine EW.seq ?_
  refine EW.region ?_
  first | refine WL.assign rfl rfl rfl ?_
  refine WL.done ?_
  refine EW.on ?_
  refine EW.seq ?_
  refine EW.region ?_
  first | refine WL.assign rfl rfl rfl ?_
  refine WL.done ?_
  refine EW.on ?_
  refine EW.seq ?_
  refine EW.region ?_
  first | refine WL.move rfl rfl rfl ?_
  first | refine WL.move rfl rfl rfl ?_
  refine WL.app rfl rfl rfl rfl (hr _) ?_
  first | refine WL.assign rfl rfl rfl ?_
  refine WL.done ?_
  refine EW.on ?_
  refine EW.ret ?_
  repeat (first | refine pr_then ?_ | refine pr_block ?_)
  exact EW.returns Try.results59 rfl ⟨_, rfl, ho, hb, hn⟩
end Go.Proofs.Ythfcabhelldokaa
