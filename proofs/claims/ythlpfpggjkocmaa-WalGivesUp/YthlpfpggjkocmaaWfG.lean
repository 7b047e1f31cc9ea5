import Derived.Test.YthlpfpggjkocmaaWdG
set_option linter.unusedVariables false
set_option linter.unusedSimpArgs false
namespace Go.Proofs.Ythlpfpggjkocmaa
open Go.RowKit

theorem ZE.mks {P : Program} {n : Fm} {ops : Array Oper} {S : Nat → World → Prop} {K : List (Nat × Value) → (World → Prop) → Prop} {i lv : Nat} {ty : TypeId} {ps : String} {af : Array Edge} {gd : Option (Nat × Bool)} {r : List (Oper × Nat × Nat)} {e : List (Nat × Value)} {C : World → Prop} {t : TypeId} {x y : Operand} {u u' : Value} (C' : Value → World → Prop) (hw : wantE ops e ⟨some i, .makeSlice t x y, ty, ps, af, gd⟩ = some true) (hi : decide (i < n.k) = true) (hx : evE e x = some u) (hy : evE e y = some u') (h1 : ∀ v w, C' v w → S lv w) (hr : ∀ w, C w → ∃ v w', (Instr.makeSlice t u u').run P w = .ok v w' ∧ C' v w') (k : ∀ v, (∃ w, C' v w) → wpZE P n ops S K r ((i, v) :: e) (C' v)) : wpZE P n ops S K ((⟨some i, .makeSlice t x y, ty, ps, af, gd⟩, 1, lv) :: r) e C :=
  ZE.eff C' hw hi h1 (fun W hW => by
    obtain ⟨v, w', h2, h3⟩ := hr W hW
    exact ⟨v, w', fun a ha => by simp [execOp, ha.ev hx, ha.ev hy, h2, Result.andThen], h3⟩) k
theorem Turn.pre {w w1 w2 : World} {L L' : Lay} (hb : Below w.heap.size w w1) (t : Turn w1 w2 L L') : Turn w w2 L L' := ⟨(Fx.of_below hb).trans t.fx (fun k _ h => h), fun k hk => (t.own k hk).imp id (fun h => Nat.le_trans hb.size h), t.p⟩
theorem Dk.lt {w : World} {L : Lay} {N : Nat} {s : Nat → List UInt8} {m c : Nat} (h : Dk w L N s m c) (k : Nat) (hk : L.F k) : k < w.heap.size := by
  obtain ⟨D, h1, _⟩ := h.ex
  exact h1.lt k hk
def zS : List UInt8 := List.replicate 512 0
set_option maxRecDepth 100000 in
set_option maxHeartbeats 1000000 in
theorem blank_ok {w : World} {L : Lay} {N : Nat} {s : Nat → List UInt8} {m c : Nat} (n : Nat) (h : Dk w L N s m c) (i : Nat) (hi : i < N) (few : m < 1000000) (hcal : c < 1000000000000) : Calls Try.prog 54 #[dkV L.p n, .int .i64 (i : Int)] w fun e w' => e = .returned (.tuple #[]) ∧ ∃ L', Turn w w' L L' ∧ Dk w' L' N (setS s i zS) (m + 1) (c + 1) := by
  refine calls_of_args [dkV L.p n, .int .i64 (i : Int)] Try.func54 rfl 8 Try.ntmps54 (by show 2 ≤ 8; decide) ?_
  refine EW.seq ?_
  refine EW.region ?_
  obtain ⟨w1, q, r1, b1, e1, hq⟩ := box55 L.p n w
  have h1 := h.below e1
  refine WL.box rfl rfl rfl r1 ?_
  refine WL.done ?_
  refine EW.on ?_
  refine EW.ordB [(0, 0, 1), (1, 0, 0), (2, 1, 1), (3, 1, 0)] (by kernel_rfl) rfl (by kernel_rfl) ?_
  simp only [opsZ, List.getD_cons_zero, List.getD_cons_succ]
  refine ZE.load rfl rfl rfl rfl sz1 (fun W hW => ld55 (b1.on (sb_of hW))) ?_
  first | refine ZE.move rfl rfl rfl rfl sz0 ?_
  refine ZE.mks (fun v W => Has W v zS ∧ Below w1.heap.size w1 W) rfl rfl rfl rfl (fun _ _ h => .inr h.2) (fun W hW => ⟨_, _, run_mk34 W 512 (by decide), by have := Has.new (bs := zS) (Blk.new W _ 5) 512 (by simp [zS]); simpa [zS] using this, hW.trans ((below_new W _).mono hW.size)⟩) ?_
  rintro vz ⟨_, _, _⟩
  refine ZE.callR [dkV L.p n, .int .i64 (i : Int), vz] (fun v W => v = .tuple #[] ∧ ∃ L', Turn w1 W L L' ∧ Dk W L' N (setS s i zS) (m + 1) (c + 1)) enter30 rfl rfl rfl (fun _ _ _ => .inl rfl) (fun W hW => (kwrite_ok n (h1.below hW.2) i hi vz zS (by simp [zS]) hW.1 few hcal).mono fun e w' ⟨g1, L', g2, g3⟩ => ⟨_, g1, rfl, L', g2.pre hW.2, g3⟩) ?_
  rintro _ ⟨_, rfl, _⟩
  rintro w2 ⟨_, L', t2, d2⟩
  exact EW.falls Try.results54 ⟨rfl, L', t2.pre e1, d2⟩
theorem sl37 (t : Value) (a b c : Option Value) (W : World) : (Instr.sliceAt 37 t a b c).run Try.prog W = (Instr.slice 37 t a b c).run Try.prog W := by
  simp [Instr.sliceAt, run_underlying Try.underlying37]
set_option maxRecDepth 100000 in
set_option maxHeartbeats 1000000 in
theorem writePage_ok {w : World} {L : Lay} {N : Nat} {s : Nat → List UInt8} {m c : Nat} (n : Nat) (h : Dk w L N s m c) (i : Nat) (hi : i + 1 < N) (hN : N ≤ 1000000) (vb : Value) (b : List UInt8) (hb : b.length = 1024) (hv : Has w vb b) (hvF : ∀ k, vb.ownBlock = some k → ¬ L.F k) (few : m + 2 < 1000000) (hcal : c + 2 < 1000000000000) : Calls Try.prog 50 #[dkV L.p n, .int .i64 (i : Int), vb] w fun e w' => e = .returned (.tuple #[]) ∧ ∃ L', Turn w w' L L' ∧ Dk w' L' N (setS (setS s i (b.take 512)) (i + 1) (b.drop 512)) (m + 2) (c + 2) := by
  have a13 : IntKind.i64.wrap ((i : Int) + 1) = ((i + 1 : Nat) : Int) := by rw [IntKind.wrap_i64]; omega
  refine calls_of_args [dkV L.p n, .int .i64 (i : Int), vb] Try.func50 rfl 17 Try.ntmps50 (by show 3 ≤ 17; decide) ?_
  refine EW.seq ?_
  refine EW.region ?_
  obtain ⟨w1, q, r1, b1, e1, hq⟩ := box55 L.p n w
  have h1 := h.below e1
  have v1 := hv.below e1
  refine WL.box rfl rfl rfl r1 ?_
  refine WL.done ?_
  refine EW.on ?_
  refine EW.seq ?_
  refine EW.ordB [(0, 0, 1), (1, 0, 0), (2, 0, 0), (3, 0, 0), (4, 1, 0)] (by kernel_rfl) rfl (by kernel_rfl) ?_
  simp only [opsZ, List.getD_cons_zero, List.getD_cons_succ]
  refine ZE.load rfl rfl rfl rfl sz1 (fun W hW => ld55 (b1.on (sb_of hW))) ?_
  first | refine ZE.move rfl rfl rfl rfl sz0 ?_
  first | refine ZE.move rfl rfl rfl rfl sz0 ?_
  refine ZE.sliceH rfl rfl rfl rfl rfl sz0 (fun W => by rw [sl37]; exact v1.cutH 512 (by omega) W) ?_
  refine ZE.callR [dkV L.p n, .int .i64 (i : Int), cutV vb 0 512] (fun v W => v = .tuple #[] ∧ ∃ L', Turn w1 W L L' ∧ Dk W L' N (setS s i (b.take 512)) (m + 1) (c + 1)) enter30 rfl rfl rfl (fun _ _ _ => .inl rfl) (fun W hW => (kwrite_ok n (h1.below hW) i (by omega) (cutV vb 0 512) (b.take 512) (by simp; omega) (by have := (v1.below hW).cut 0 512 (by omega) (by omega); simpa using this) (by omega) (by omega)).mono fun e w' ⟨g1, L', g2, g3⟩ => ⟨_, g1, rfl, L', g2.pre hW, g3⟩) ?_
  rintro _ ⟨_, rfl, _⟩
  rintro w2 ⟨_, L', t2, d2⟩
  have b2 := b1.fx t2.fx (fun hF => by have := h.lt _ hF; omega)
  have v2 := v1.fx t2.fx hvF
  refine EW.on ?_
  refine EW.ordB [(0, 0, 1), (1, 0, 0), (2, 0, 0), (3, 0, 0), (4, 0, 0), (5, 1, 0)] (by kernel_rfl) rfl (by kernel_rfl) ?_
  simp only [opsZ, List.getD_cons_zero, List.getD_cons_succ]
  refine ZE.load rfl rfl rfl rfl sz1 (fun W hW => ld55 (b2.on (sb_of hW))) ?_
  first | refine ZE.move rfl rfl rfl rfl sz0 ?_
  refine ZE.bin rfl rfl rfl rfl rfl sz0 (fun W => int_add a13 W _ _) ?_
  first | refine ZE.move rfl rfl rfl rfl sz0 ?_
  refine ZE.sliceL rfl rfl rfl rfl rfl sz0 (fun W => by rw [sl37]; exact v2.cutL 512 (by omega) W) ?_
  refine ZE.callR [dkV L.p n, .int .i64 ((i + 1 : Nat) : Int), cutV vb 512 b.length] (fun v W => v = .tuple #[] ∧ ∃ L'', Turn w2 W L' L'' ∧ Dk W L'' N (setS (setS s i (b.take 512)) (i + 1) (b.drop 512)) (m + 1 + 1) (c + 1 + 1)) enter30 rfl rfl rfl (fun _ _ _ => .inl rfl) (fun W hW => by rw [← t2.p]; exact (kwrite_ok n (d2.below hW) (i + 1) hi (cutV vb 512 b.length) (b.drop 512) (by simp; omega) (by have := (v2.below hW).cut 512 b.length (by omega) (Nat.le_refl _); rw [List.take_of_length_le (by simp)] at this; exact this) (by omega) (by omega)).mono fun e w' ⟨g1, L'', g2, g3⟩ => ⟨_, g1, rfl, L'', g2.pre hW, g3⟩) ?_
  rintro _ ⟨_, rfl, _⟩
  rintro w3 ⟨_, L'', t3, d3⟩
  exact EW.falls Try.results50 ⟨rfl, L'', (t2.pre e1).trans t3, d3⟩
end Go.Proofs.Ythlpfpggjkocmaa

set_option linter.unusedVariables false
set_option linter.unusedSimpArgs false
namespace Go.Proofs.Ythlpfpggjkocmaa
open Go.RowKit

theorem len49 (ao : Option Addr) (n c : Nat) (W : World) (ty : TypeId) : (Builtin.len_ #[49] ty #[.slice ao n c]).run Try.prog W = .ok (.int .i64 (n : Int)) W := by go_simp
theorem kcache_any {w : World} {L : Lay} {N : Nat} {s : Nat → List UInt8} {m c : Nat} (h : Dk w L N s m c) : Calls Try.prog 16 #[.pointer (some ⟨L.p, 0, none⟩)] w fun e w' => (∃ ao, e = .returned (.slice ao m m)) ∧ Below w.heap.size w w' := by
  obtain ⟨D, h1, h2, h3, h4, h5, h6, h7⟩ := h.ex
  refine (cache_any h1).mono ?_
  rintro e w' ⟨g1, g2, _⟩
  exact ⟨⟨_, by rw [g1, h6]⟩, g2⟩
set_option maxRecDepth 100000 in
set_option maxHeartbeats 1000000 in
theorem settle_some {w : World} {L : Lay} {N : Nat} {s : Nat → List UInt8} {m c : Nat} (n : Nat) (h : Dk w L N s m c) (hcal : c < 1000000000000) (hm : (0 : Int) < (m : Int)) : Calls Try.prog 21 #[dkV L.p n] w fun e w' => e = .returned (.tuple #[]) ∧ ∃ L', Turn w w' L L' ∧ Dk w' L' N s 0 (c + 1) := by
  refine calls_of_args [dkV L.p n] Try.func21 rfl 9 Try.ntmps21 (by show 1 ≤ 9; decide) ?_
  refine EW.seq ?_
  refine EW.region ?_
  obtain ⟨w1, q, r1, b1, e1, hq⟩ := box55 L.p n w
  have h1 := h.below e1
  refine WL.box rfl rfl rfl r1 ?_
  refine WL.done ?_
  refine EW.on ?_
  refine EW.seq ?_
  refine EW.region ?_
  refine WL.field rfl rfl rfl (fld55_0 q _) ?_
  refine WL.load rfl rfl rfl (ldP41 b1) ?_
  refine WL.call [.pointer (some ⟨L.p, 0, none⟩)] enter16 rfl rfl rfl (kcache_any h1) ?_
  rintro _ w2 ⟨⟨ao, rfl⟩, e2⟩
  refine ⟨_, rfl, ?_⟩
  refine WL.len rfl rfl rfl (len49 _ _ _ _ _) ?_
  first | refine WL.bin rfl rfl rfl rfl (int_gt_t ‹_› _ _ _) ?_ | refine WL.bin rfl rfl rfl rfl (int_gt_f ‹_› _ _ _) ?_ | refine WL.bin rfl rfl rfl rfl (int_gt_d _ _ _ _ _) ?_
  refine WL.done ?_
  refine EW.on ?_
  refine EW.cond_t rfl ?_
  refine EW.region ?_
  refine WL.load rfl rfl rfl (ld55 (b1.on e2)) ?_
  refine WL.call [dkV L.p n] enter32 rfl rfl rfl (kflush_ok n (h1.below e2) hcal) ?_
  rintro _ w3 ⟨rfl, L', t3, d3⟩
  refine ⟨_, rfl, ?_⟩
  refine WL.done ?_
  exact EW.falls Try.results21 ⟨rfl, L', (t3.pre e2).pre e1, d3⟩
set_option maxRecDepth 100000 in
set_option maxHeartbeats 1000000 in
theorem settle_none {w : World} {L : Lay} {N : Nat} {s : Nat → List UInt8} {m c : Nat} (n : Nat) (h : Dk w L N s m c) (hcal : c < 1000000000000) (hm : ¬ (0 : Int) < (m : Int)) : Calls Try.prog 21 #[dkV L.p n] w fun e w' => e = .returned (.tuple #[]) ∧ Below w.heap.size w w' := by
  refine calls_of_args [dkV L.p n] Try.func21 rfl 9 Try.ntmps21 (by show 1 ≤ 9; decide) ?_
  refine EW.seq ?_
  refine EW.region ?_
  obtain ⟨w1, q, r1, b1, e1, hq⟩ := box55 L.p n w
  have h1 := h.below e1
  refine WL.box rfl rfl rfl r1 ?_
  refine WL.done ?_
  refine EW.on ?_
  refine EW.seq ?_
  refine EW.region ?_
  refine WL.field rfl rfl rfl (fld55_0 q _) ?_
  refine WL.load rfl rfl rfl (ldP41 b1) ?_
  refine WL.call [.pointer (some ⟨L.p, 0, none⟩)] enter16 rfl rfl rfl (kcache_any h1) ?_
  rintro _ w2 ⟨⟨ao, rfl⟩, e2⟩
  refine ⟨_, rfl, ?_⟩
  refine WL.len rfl rfl rfl (len49 _ _ _ _ _) ?_
  first | refine WL.bin rfl rfl rfl rfl (int_gt_t ‹_› _ _ _) ?_ | refine WL.bin rfl rfl rfl rfl (int_gt_f ‹_› _ _ _) ?_ | refine WL.bin rfl rfl rfl rfl (int_gt_d _ _ _ _ _) ?_
  refine WL.done ?_
  refine EW.on ?_
  refine EW.cond_f rfl ?_
  refine EW.skip ?_
  exact EW.falls Try.results21 ⟨rfl, e1.trans (e2.mono e1.size)⟩
def spC (a b : Nat) : List Value := [.int .i64 (a : Int), .int .i64 (b : Int)]
theorem new63 (w : World) : ∃ w1 q, (Instr.alloc 63 true (.tuple #[])).run Try.prog w = .ok (.pointer (some ⟨q, 0, none⟩)) w1 ∧ Blk w1 q (spC 0 0) 63 ∧ Below w.heap.size w w1 ∧ q = w.heap.size :=
  ⟨_, _, run_newR 63 (spC 0 0) (fun w => by rw [Try.zeroValue63]; rfl) w _ rfl, Blk.new _ _ _, below_new _ _, rfl⟩
theorem info63 (a b : Nat) : (Try.prog.info? 63).map (·.size) = some (spC a b).length := by kernel_rfl
theorem spC_one (a b : Nat) : (spC a b).toArray.all (·.oneCell') = true := all_oneCell_toArray fun v hv => by
  simp only [spC, List.mem_cons, List.not_mem_nil, or_false] at hv
  rcases hv with rfl | rfl <;> rfl
theorem st63 {w : World} {q a b a0 b0 : Nat} (hb : Blk w q (spC a0 b0) 63) : ∃ w', (Instr.storeAt 63 (.pointer (some ⟨q, 0, none⟩)) (.agg (spC a b).toArray)).run Try.prog w = .ok () w' ∧ Blk w' q (spC a b) 63 ∧ Fx (fun k => k = q) w w' :=
  ⟨_, run_storeR hb (info63 a b) rfl (spC_one a b), hb.setRow _, by
    refine ⟨rfl, rfl, rfl, by simp [World.setRow], fun k hk hn => ?_⟩
    simp only [World.setRow]
    rw [Array.getElem?_modify]
    rw [if_neg (fun e => hn e.symm)]⟩
theorem bld63 (a b : Nat) (W : World) : (Instr.build 63 [(0, .int .i64 (a : Int)), (1, .int .i64 (b : Int))].toArray).run Try.prog W = .ok (.agg (spC a b).toArray) W := by kernel_rfl
set_option maxRecDepth 100000 in
set_option maxHeartbeats 1000000 in
theorem log_any (p n : Nat) (w : World) (hn : n ≤ 1000) : Calls Try.prog 28 #[dkV p n] w fun e w' => e = .returned (.agg (spC 0 (1 + 2 * n)).toArray) ∧ Below w.heap.size w w' := by
  refine calls_of_args [dkV p n] Try.func28 rfl 6 Try.ntmps28 (by show 1 ≤ 6; decide) ?_
  refine EW.seq ?_
  refine EW.region ?_
  obtain ⟨w1, q, r1, b1, e1, hq⟩ := box55 p n w
  refine WL.box rfl rfl rfl r1 ?_
  obtain ⟨w2, q2, r2, b2, e2, hq2⟩ := new63 w1
  refine WL.new rfl rfl r2 ?_
  refine WL.done ?_
  refine EW.on ?_
  refine EW.seq ?_
  refine EW.region ?_
  refine WL.load rfl rfl rfl (ld55 (b1.on e2)) ?_
  refine WL.call [dkV p n, .int .i64 ((0 : Nat) : Int)] enter51 rfl rfl rfl (home_any p n 0 _ (by omega)) ?_
  rintro _ w3 ⟨rfl, e3⟩
  refine ⟨_, rfl, ?_⟩
  refine WL.buildN [(0, .int .i64 ((0 : Nat) : Int)), (1, .int .i64 ((1 + 2 * (n + 0) : Nat) : Int))] rfl rfl rfl (bld63 _ _ _) ?_
  obtain ⟨w4, s4, b4, x4⟩ := st63 (a := 0) (b := 1 + 2 * (n + 0)) (b2.on e3)
  refine WL.store rfl rfl rfl s4 ?_
  refine WL.done ?_
  refine EW.on ?_
  refine EW.ret ?_
  exact EW.returnsC Try.results28 rfl b4 Try.underlying63 rfl (info63 _ _) ⟨rfl, ((e1.trans (e2.mono e1.size)).trans (e3.mono (Nat.le_trans e1.size e2.size))).trans (x4.below (fun k hk e => by have := e1.size; omega) (by have := e1.size; have := e2.size; have := e3.size; omega))⟩
end Go.Proofs.Ythlpfpggjkocmaa
