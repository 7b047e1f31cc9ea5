import Derived.Test.YthlpfpggjkocmaaFlG
import Derived.Test.YthlpfpggjkocmaaArmG
import Derived.Test.YthlpfpggjkocmaaCa
set_option linter.unusedVariables false
set_option linter.unusedSimpArgs false
namespace Go.Proofs.Ythlpfpggjkocmaa
open Go.RowKit

def dkC (p n : Nat) : List Value := [.pointer (some ⟨p, 0, none⟩), .int .i64 (n : Int)]
/-- A disk: the device's place, and how many pages. -/
def dkV (p n : Nat) : Value := .agg (dkC p n).toArray
theorem box55 (p n : Nat) (w : World) : ∃ w1 q, (Instr.box 55 (dkV p n)).run Try.prog w = .ok (.pointer (some ⟨q, 0, none⟩)) w1 ∧ Blk w1 q (dkC p n) 55 ∧ Below w.heap.size w w1 ∧ q = w.heap.size :=
  ⟨_, _, run_boxR 55 _ w _ rfl, Blk.new _ _ _, below_new _ _, rfl⟩
theorem fld55_0 (q : Nat) (W : World) : (Instr.fieldAt 55 (.pointer (some ⟨q, 0, none⟩)) 0).run Try.prog W = .ok (.pointer (some ⟨q, 0, none⟩)) W := by go_simp
theorem fld55_1 (q : Nat) (W : World) : (Instr.fieldAt 55 (.pointer (some ⟨q, 0, none⟩)) 1).run Try.prog W = .ok (.pointer (some ⟨q, 1, none⟩)) W := by go_simp
theorem ldP41 {W : World} {q p n : Nat} (hb : Blk W q (dkC p n) 55) : (Instr.loadAt 41 (.pointer (some ⟨q, 0, none⟩))).run Try.prog W = .ok (.pointer (some ⟨p, 0, none⟩)) W := by
  have hc : W.cell? ⟨q, 0, none⟩ = some (.pointer (some ⟨p, 0, none⟩)) := hb.cell 0
  have hf := hb.frozen 0
  go_simp
theorem ldI3 {W : World} {q p n : Nat} (hb : Blk W q (dkC p n) 55) : (Instr.loadAt 3 (.pointer (some ⟨q, 1, none⟩))).run Try.prog W = .ok (.int .i64 (n : Int)) W := by
  have hc : W.cell? ⟨q, 1, none⟩ = some (.int .i64 (n : Int)) := hb.cell 1
  have hf := hb.frozen 1
  go_simp
theorem info55 (p n : Nat) : (Try.prog.info? 55).map (·.size) = some (dkC p n).length := by kernel_rfl
theorem ld55 {W : World} {q p n : Nat} (hb : Blk W q (dkC p n) 55) : (Instr.loadAt 55 (.pointer (some ⟨q, 0, none⟩))).run Try.prog W = .ok (dkV p n) W := run_loadR hb Try.underlying55 rfl (info55 p n)
theorem add_plain0 (q i : Nat) : (⟨q, 0, none⟩ : Addr).add i = ⟨q, i, none⟩ := by
  simp [Addr.add]
  intro h
  exact h.symm
theorem Has.new {w : World} {q : Nat} {bs : List UInt8} {t : TypeId} (hb : Blk w q (bs.map byt) t) (c : Nat) (hc : bs.length ≤ c) : Has w (.slice (some ⟨q, 0, none⟩) bs.length c) bs :=
  .inr ⟨_, c, rfl, hc, fun i u hu => by rw [add_plain0, hb.cell, List.getElem?_map, hu]; rfl⟩
set_option maxRecDepth 100000 in
set_option maxHeartbeats 1000000 in
theorem must_ok (w : World) : Calls Try.prog 47 #[.int .i64 0] w fun e w' => e = .returned (.tuple #[]) ∧ w' = w := by
  refine calls_of_args [.int .i64 0] Try.func47 rfl 6 Try.ntmps47 (by show 1 ≤ 6; decide) ?_
  refine EW.seq ?_
  refine EW.region ?_
  first | refine WL.move rfl rfl rfl ?_
  first | refine WL.bin rfl rfl rfl rfl (int_ne_f rfl _ _ _) ?_ | refine WL.bin rfl rfl rfl rfl (int_ne_t ‹_› _ _ _) ?_ | refine WL.bin rfl rfl rfl rfl (int_ne_f ‹_› _ _ _) ?_ | refine WL.bin rfl rfl rfl rfl (int_ne_t (by decide) _ _ _) ?_ | refine WL.bin rfl rfl rfl rfl (int_ne_d _ _ _ _ _) ?_
  refine WL.done ?_
  refine EW.on ?_
  refine EW.cond_f rfl ?_
  refine EW.skip ?_
  exact EW.falls Try.results47 ⟨rfl, rfl⟩
set_option maxRecDepth 100000 in
set_option maxHeartbeats 1000000 in
theorem dread_ok {w : World} {L : Lay} {D : Dv} (n : Nat) (h : Dev w L D) (hd : D.down = false) (i : Nat) (hi : i < D.n) : Calls Try.prog 22 #[dkV L.p n, .int .i64 (i : Int)] w fun e w' => ∃ u, e = .returned u ∧ Has w' u (readB D i) ∧ Below w.heap.size w w' ∧ (∀ k, u.ownBlock = some k → w.heap.size ≤ k) := by
  refine calls_of_args [dkV L.p n, .int .i64 (i : Int)] Try.func22 rfl 17 Try.ntmps22 (by show 2 ≤ 17; decide) ?_
  refine EW.seq ?_
  refine EW.region ?_
  obtain ⟨w1, q, r1, b1, e1, hq⟩ := box55 L.p n w
  have h1 := h.below e1
  refine WL.box rfl rfl rfl r1 ?_
  first | refine WL.assign rfl rfl rfl ?_
  refine WL.done ?_
  refine EW.on ?_
  refine EW.seq ?_
  refine EW.region ?_
  refine WL.field rfl rfl rfl (fld55_0 q _) ?_
  refine WL.load rfl rfl rfl (ldP41 b1) ?_
  first | refine WL.move rfl rfl rfl ?_
  refine WL.call [.pointer (some ⟨L.p, 0, none⟩), .int .i64 (i : Int)] enter46 rfl rfl rfl (read_ok h1 hd i hi) ?_
  rintro _ w2 ⟨rfl, hz⟩
  have e2 : Below w1.heap.size w1 w2 := by rw [hz]; exact below_new _ _
  have hh : Has w2 (.slice (some ⟨w1.heap.size, 0, none⟩) 512 512) (readB D i) := by rw [hz]; have := Has.new (bs := readB D i) (Blk.new w1 _ 5) 512 (by rw [readB_length D h.ok i hi]; exact Nat.le_refl _); rw [readB_length D h.ok i hi] at this; exact this
  refine ⟨_, rfl, ?_⟩
  first | refine WL.move rfl rfl rfl ?_
  first | refine WL.extract rfl rfl rfl (ext_2 _ _ _).1 ?_
  first | refine WL.extract rfl rfl rfl (ext_2 _ _ _).2 ?_
  first | refine WL.assign rfl rfl rfl ?_
  first | refine WL.assign rfl rfl rfl ?_
  refine WL.done ?_
  refine EW.on ?_
  refine EW.seq ?_
  refine EW.region ?_
  first | refine WL.move rfl rfl rfl ?_
  refine WL.call [.int .i64 0] enter47 rfl rfl rfl (must_ok _) ?_
  rintro _ w3 ⟨rfl, hz3⟩
  rw [hz3]
  refine ⟨_, rfl, ?_⟩
  refine WL.done ?_
  refine EW.on ?_
  refine EW.seq ?_
  refine EW.region ?_
  first | refine WL.move rfl rfl rfl ?_
  first | refine WL.assign rfl rfl rfl ?_
  refine WL.done ?_
  refine EW.on ?_
  refine EW.ret ?_
  exact EW.returns Try.results22 rfl ⟨_, rfl, hh, e1.trans (e2.mono e1.size), fun k hk => by cases hk; exact e1.size⟩
set_option maxRecDepth 100000 in
set_option maxHeartbeats 1000000 in
theorem dwrite_ok {w : World} {L : Lay} {D : Dv} (n : Nat) (h : Dev w L D) (hd : D.down = false) (hl0 : D.left = 0) (i : Nat) (hi : i < D.n) (vb : Value) (b : List UInt8) (hb : b.length = 512) (hv : Has w vb b) (few : D.pen.length < 1000000) (hcal : D.calls < 1000000000000) : Calls Try.prog 30 #[dkV L.p n, .int .i64 (i : Int), vb] w fun e w' => e = .returned (.tuple #[]) ∧ ∃ L', Turn w w' L L' ∧ Dev w' L' (changedD (pushD D i b)) := by
  refine calls_of_args [dkV L.p n, .int .i64 (i : Int), vb] Try.func30 rfl 12 Try.ntmps30 (by show 3 ≤ 12; decide) ?_
  refine EW.seq ?_
  refine EW.region ?_
  obtain ⟨w1, q, r1, b1, e1, hq⟩ := box55 L.p n w
  have h1 := h.below e1
  refine WL.box rfl rfl rfl r1 ?_
  refine WL.done ?_
  refine EW.on ?_
  refine EW.region ?_
  refine WL.field rfl rfl rfl (fld55_0 q _) ?_
  refine WL.load rfl rfl rfl (ldP41 b1) ?_
  first | refine WL.move rfl rfl rfl ?_
  first | refine WL.move rfl rfl rfl ?_
  refine WL.call [.pointer (some ⟨L.p, 0, none⟩), .int .i64 (i : Int), vb] enter55 rfl rfl rfl (write_ok h1 hd i hi vb b hb (hv.below e1) few hcal (by omega)) ?_
  rintro _ w2 ⟨rfl, L', t2, d2⟩
  rw [show changedE D = 0 by unfold changedE; simp [hl0]]
  refine ⟨_, rfl, ?_⟩
  refine WL.call [.int .i64 0] enter47 rfl rfl rfl (must_ok _) ?_
  rintro _ w3 ⟨rfl, hz3⟩
  rw [hz3]
  refine ⟨_, rfl, ?_⟩
  refine WL.done ?_
  exact EW.falls Try.results30 ⟨rfl, L', ⟨(Fx.of_below e1).trans t2.fx (fun k _ h => h), fun k hk => (t2.own k hk).imp id (fun h => Nat.le_trans e1.size h), t2.p⟩, d2⟩
set_option maxRecDepth 100000 in
set_option maxHeartbeats 1000000 in
theorem dflush_ok {w : World} {L : Lay} {D : Dv} (n : Nat) (h : Dev w L D) (hd : D.down = false) (hl0 : D.left = 0) (hcal : D.calls < 1000000000000) : Calls Try.prog 32 #[dkV L.p n] w fun e w' => e = .returned (.tuple #[]) ∧ Turn w w' L (dropL L) ∧ Dev w' (dropL L) (flushD D) := by
  refine calls_of_args [dkV L.p n] Try.func32 rfl 6 Try.ntmps32 (by show 1 ≤ 6; decide) ?_
  refine EW.seq ?_
  refine EW.region ?_
  obtain ⟨w1, q, r1, b1, e1, hq⟩ := box55 L.p n w
  have h1 := h.below e1
  refine WL.box rfl rfl rfl r1 ?_
  refine WL.done ?_
  refine EW.on ?_
  refine EW.region ?_
  refine WL.field rfl rfl rfl (fld55_0 q _) ?_
  refine WL.load rfl rfl rfl (ldP41 b1) ?_
  refine WL.call [.pointer (some ⟨L.p, 0, none⟩)] enter57 rfl rfl rfl (flush_ok h1 hd hcal (by omega) (by omega)) ?_
  rintro _ w2 ⟨rfl, t2, d2⟩
  refine ⟨_, rfl, ?_⟩
  refine WL.call [.int .i64 0] enter47 rfl rfl rfl (must_ok _) ?_
  rintro _ w3 ⟨rfl, hz3⟩
  rw [hz3]
  refine ⟨_, rfl, ?_⟩
  refine WL.done ?_
  exact EW.falls Try.results32 ⟨rfl, ⟨(Fx.of_below e1).trans t2.fx (fun k _ h => h), fun k hk => (t2.own k hk).imp id (fun h => Nat.le_trans e1.size h), t2.p⟩, d2⟩
set_option maxRecDepth 100000 in
set_option maxHeartbeats 1000000 in
theorem slot_any (p n i : Nat) (w : World) (hi : i ≤ 1000000) : Calls Try.prog 53 #[dkV p n, .int .i64 (i : Int)] w fun e w' => e = .returned (.int .i64 ((1 + 2 * i : Nat) : Int)) ∧ Below w.heap.size w w' := by
  have m6 : IntKind.i64.wrap ((2 : Int) * (i : Int)) = ((2 * i : Nat) : Int) := by rw [IntKind.wrap_i64]; omega
  have a7 : IntKind.i64.wrap ((1 : Int) + ((2 * i : Nat) : Int)) = ((1 + 2 * i : Nat) : Int) := by rw [IntKind.wrap_i64]; omega
  refine calls_of_args [dkV p n, .int .i64 (i : Int)] Try.func53 rfl 8 Try.ntmps53 (by show 2 ≤ 8; decide) ?_
  refine EW.seq ?_
  refine EW.region ?_
  obtain ⟨w1, q, r1, b1, e1, hq⟩ := box55 p n w
  refine WL.box rfl rfl rfl r1 ?_
  first | refine WL.assign rfl rfl rfl ?_
  refine WL.done ?_
  refine EW.on ?_
  refine EW.seq ?_
  refine EW.region ?_
  first | refine WL.move rfl rfl rfl ?_
  refine WL.bin rfl rfl rfl rfl (int_mul m6 _ _ _) ?_
  refine WL.bin rfl rfl rfl rfl (int_add a7 _ _ _) ?_
  first | refine WL.assign rfl rfl rfl ?_
  refine WL.done ?_
  refine EW.on ?_
  refine EW.ret ?_
  exact EW.returns Try.results53 rfl ⟨rfl, e1⟩
set_option maxRecDepth 100000 in
set_option maxHeartbeats 1000000 in
theorem home_any (p n i : Nat) (w : World) (hi : n + i ≤ 1000000) : Calls Try.prog 51 #[dkV p n, .int .i64 (i : Int)] w fun e w' => e = .returned (.int .i64 ((1 + 2 * (n + i) : Nat) : Int)) ∧ Below w.heap.size w w' := by
  have a9 : IntKind.i64.wrap ((n : Int) + (i : Int)) = ((n + i : Nat) : Int) := by rw [IntKind.wrap_i64]; omega
  refine calls_of_args [dkV p n, .int .i64 (i : Int)] Try.func51 rfl 11 Try.ntmps51 (by show 2 ≤ 11; decide) ?_
  refine EW.seq ?_
  refine EW.region ?_
  obtain ⟨w1, q, r1, b1, e1, hq⟩ := box55 p n w
  refine WL.box rfl rfl rfl r1 ?_
  first | refine WL.assign rfl rfl rfl ?_
  refine WL.done ?_
  refine EW.on ?_
  refine EW.seq ?_
  refine EW.region ?_
  refine WL.load rfl rfl rfl (ld55 b1) ?_
  refine WL.field rfl rfl rfl (fld55_1 q _) ?_
  refine WL.load rfl rfl rfl (ldI3 b1) ?_
  first | refine WL.move rfl rfl rfl ?_
  refine WL.bin rfl rfl rfl rfl (int_add a9 _ _ _) ?_
  refine WL.call [dkV p n, .int .i64 ((n + i : Nat) : Int)] enter53 rfl rfl rfl (slot_any p n (n + i) w1 (by omega)) ?_
  rintro _ w2 ⟨rfl, e2⟩
  refine ⟨_, rfl, ?_⟩
  first | refine WL.assign rfl rfl rfl ?_
  refine WL.done ?_
  refine EW.on ?_
  refine EW.ret ?_
  exact EW.returns Try.results51 rfl ⟨rfl, e1.trans (e2.mono e1.size)⟩
end Go.Proofs.Ythlpfpggjkocmaa
