import Derived.Test.YthlpfpggjkocmaaWe
set_option linter.unusedVariables false
set_option linter.unusedSimpArgs false
namespace Go.Proofs.Ythlpfpggjkocmaa
open Go.RowKit

theorem len49 (ao : Option Addr) (n c : Nat) (W : World) (ty : TypeId) : (Builtin.len_ #[49] ty #[.slice ao n c]).run Try.prog W = .ok (.int .i64 (n : Int)) W := by go_simp
theorem kcache_any {w : World} {L : Lay} {N : Nat} {s : Nat → List UInt8} {m c : Nat} (h : Dk w L N s m c) : Calls Try.prog 16 #[.pointer (some ⟨L.p, 0, none⟩)] w fun e w' => (∃ ao, e = .returned (.slice ao m m)) ∧ Below w.heap.size w w' := by
  obtain ⟨D, h1, h2, h3, h4, h5, h6, h7⟩ := h.ex
  refine (cache_any h1).mono ?_
  rintro e w' ⟨g1, g2, _⟩
  exact ⟨⟨_, by rw [g1, h6]⟩, g2⟩
set_option maxRecDepth 100000 in
set_option maxHeartbeats 1000000 in
theorem settle_some {w : World} {L : Lay} {N : Nat} {s : Nat → List UInt8} {m c : Nat} (n : Nat) (h : Dk w L N s m c) (hcal : c < 1000000000000) (hm : (0 : Int) < (m : Int)) : Calls Try.prog 21 #[dkV L.p n] w fun e w' => e = .returned (.tuple #[]) ∧ ∃ L', Turn w w' L L' ∧ Dk w' L' N s 0 (c + 1) := by
  refine calls_of_args [dkV L.p n] Try.func21 rfl 9 Try.ntmps21 (by show 1 ≤ 9; decide) ?_
  refine EW.seq ?_
  refine EW.region ?_
  obtain ⟨w1, q, r1, b1, e1, hq⟩ := box55 L.p n w
  have h1 := h.below e1
  refine WL.box rfl rfl rfl r1 ?_
  refine WL.done ?_
  refine EW.on ?_
  refine EW.seq ?_
  refine EW.region ?_
  refine WL.field rfl rfl rfl (fld55_0 q _) ?_
  refine WL.load rfl rfl rfl (ldP41 b1) ?_
  refine WL.call [.pointer (some ⟨L.p, 0, none⟩)] enter16 rfl rfl rfl (kcache_any h1) ?_
  rintro _ w2 ⟨⟨ao, rfl⟩, e2⟩
  refine ⟨_, rfl, ?_⟩
  refine WL.len rfl rfl rfl (len49 _ _ _ _ _) ?_
  first | refine WL.bin rfl rfl rfl rfl (int_gt_t ‹_› _ _ _) ?_ | refine WL.bin rfl rfl rfl rfl (int_gt_f ‹_› _ _ _) ?_ | refine WL.bin rfl rfl rfl rfl (int_gt_d _ _ _ _ _) ?_
  refine WL.done ?_
  refine EW.on ?_
  refine EW.cond_t rfl ?_
  refine EW.region ?_
  refine WL.load rfl rfl rfl (ld55 (b1.on e2)) ?_
  refine WL.call [dkV L.p n] enter32 rfl rfl rfl (kflush_ok n (h1.below e2) hcal) ?_
  rintro _ w3 ⟨rfl, L', t3, d3⟩
  refine ⟨_, rfl, ?_⟩
  refine WL.done ?_
  exact EW.falls Try.results21 ⟨rfl, L', (t3.pre e2).pre e1, d3⟩
set_option maxRecDepth 100000 in
set_option maxHeartbeats 1000000 in
theorem settle_none {w : World} {L : Lay} {N : Nat} {s : Nat → List UInt8} {m c : Nat} (n : Nat) (h : Dk w L N s m c) (hcal : c < 1000000000000) (hm : ¬ (0 : Int) < (m : Int)) : Calls Try.prog 21 #[dkV L.p n] w fun e w' => e = .returned (.tuple #[]) ∧ Below w.heap.size w w' := by
  refine calls_of_args [dkV L.p n] Try.func21 rfl 9 Try.ntmps21 (by show 1 ≤ 9; decide) ?_
  refine EW.seq ?_
  refine EW.region ?_
  obtain ⟨w1, q, r1, b1, e1, hq⟩ := box55 L.p n w
  have h1 := h.below e1
  refine WL.box rfl rfl rfl r1 ?_
  refine WL.done ?_
  refine EW.on ?_
  refine EW.seq ?_
  refine EW.region ?_
  refine WL.field rfl rfl rfl (fld55_0 q _) ?_
  refine WL.load rfl rfl rfl (ldP41 b1) ?_
  refine WL.call [.pointer (some ⟨L.p, 0, none⟩)] enter16 rfl rfl rfl (kcache_any h1) ?_
  rintro _ w2 ⟨⟨ao, rfl⟩, e2⟩
  refine ⟨_, rfl, ?_⟩
  refine WL.len rfl rfl rfl (len49 _ _ _ _ _) ?_
  first | refine WL.bin rfl rfl rfl rfl (int_gt_t ‹_› _ _ _) ?_ | refine WL.bin rfl rfl rfl rfl (int_gt_f ‹_› _ _ _) ?_ | refine WL.bin rfl rfl rfl rfl (int_gt_d _ _ _ _ _) ?_
  refine WL.done ?_
  refine EW.on ?_
  refine EW.cond_f rfl ?_
  refine EW.skip ?_
  exact EW.falls Try.results21 ⟨rfl, e1.trans (e2.mono e1.size)⟩
def spC (a b : Nat) : List Value := [.int .i64 (a : Int), .int .i64 (b : Int)]
theorem new63 (w : World) : ∃ w1 q, (Instr.alloc 63 true (.tuple #[])).run Try.prog w = .ok (.pointer (some ⟨q, 0, none⟩)) w1 ∧ Blk w1 q (spC 0 0) 63 ∧ Below w.heap.size w w1 ∧ q = w.heap.size :=
  ⟨_, _, run_newR 63 (spC 0 0) (fun w => by rw [Try.zeroValue63]; rfl) w _ rfl, Blk.new _ _ _, below_new _ _, rfl⟩
theorem info63 (a b : Nat) : (Try.prog.info? 63).map (·.size) = some (spC a b).length := by kernel_rfl
theorem spC_one (a b : Nat) : (spC a b).toArray.all (·.oneCell') = true := all_oneCell_toArray fun v hv => by
  simp only [spC, List.mem_cons, List.not_mem_nil, or_false] at hv
  rcases hv with rfl | rfl <;> rfl
theorem st63 {w : World} {q a b a0 b0 : Nat} (hb : Blk w q (spC a0 b0) 63) : ∃ w', (Instr.storeAt 63 (.pointer (some ⟨q, 0, none⟩)) (.agg (spC a b).toArray)).run Try.prog w = .ok () w' ∧ Blk w' q (spC a b) 63 ∧ Fx (fun k => k = q) w w' :=
  ⟨_, run_storeR hb (info63 a b) rfl (spC_one a b), hb.setRow _, by
    refine ⟨rfl, rfl, rfl, by simp [World.setRow], fun k hk hn => ?_⟩
    simp only [World.setRow]
    rw [Array.getElem?_modify]
    rw [if_neg (fun e => hn e.symm)]⟩
theorem bld63 (a b : Nat) (W : World) : (Instr.build 63 [(0, .int .i64 (a : Int)), (1, .int .i64 (b : Int))].toArray).run Try.prog W = .ok (.agg (spC a b).toArray) W := by kernel_rfl
set_option maxRecDepth 100000 in
set_option maxHeartbeats 1000000 in
theorem log_any (p n : Nat) (w : World) (hn : n ≤ 1000) : Calls Try.prog 28 #[dkV p n] w fun e w' => e = .returned (.agg (spC 0 (1 + 2 * n)).toArray) ∧ Below w.heap.size w w' := by
  refine calls_of_args [dkV p n] Try.func28 rfl 6 Try.ntmps28 (by show 1 ≤ 6; decide) ?_
  refine EW.seq ?_
  refine EW.region ?_
  obtain ⟨w1, q, r1, b1, e1, hq⟩ := box55 p n w
  refine WL.box rfl rfl rfl r1 ?_
  obtain ⟨w2, q2, r2, b2, e2, hq2⟩ := new63 w1
  refine WL.new rfl rfl r2 ?_
  refine WL.done ?_
  refine EW.on ?_
  refine EW.seq ?_
  refine EW.region ?_
  refine WL.load rfl rfl rfl (ld55 (b1.on e2)) ?_
  refine WL.call [dkV p n, .int .i64 ((0 : Nat) : Int)] enter51 rfl rfl rfl (home_any p n 0 _ (by omega)) ?_
  rintro _ w3 ⟨rfl, e3⟩
  refine ⟨_, rfl, ?_⟩
  refine WL.buildN [(0, .int .i64 ((0 : Nat) : Int)), (1, .int .i64 ((1 + 2 * (n + 0) : Nat) : Int))] rfl rfl rfl (bld63 _ _ _) ?_
  obtain ⟨w4, s4, b4, x4⟩ := st63 (a := 0) (b := 1 + 2 * (n + 0)) (b2.on e3)
  refine WL.store rfl rfl rfl s4 ?_
  refine WL.done ?_
  refine EW.on ?_
  refine EW.ret ?_
  exact EW.returnsC Try.results28 rfl b4 Try.underlying63 rfl (info63 _ _) ⟨rfl, ((e1.trans (e2.mono e1.size)).trans (e3.mono (Nat.le_trans e1.size e2.size))).trans (x4.below (fun k hk e => by have := e1.size; omega) (by have := e1.size; have := e2.size; have := e3.size; omega))⟩
end Go.Proofs.Ythlpfpggjkocmaa
