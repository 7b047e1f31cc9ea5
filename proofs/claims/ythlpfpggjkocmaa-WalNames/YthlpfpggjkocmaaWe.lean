import Derived.Test.YthlpfpggjkocmaaWd
set_option linter.unusedVariables false
set_option linter.unusedSimpArgs false
namespace Go.Proofs.Ythlpfpggjkocmaa
open Go.RowKit

theorem ZE.mks {P : Program} {n : Fm} {ops : Array Oper} {S : Nat → World → Prop} {K : List (Nat × Value) → (World → Prop) → Prop} {i lv : Nat} {ty : TypeId} {ps : String} {af : Array Edge} {gd : Option (Nat × Bool)} {r : List (Oper × Nat × Nat)} {e : List (Nat × Value)} {C : World → Prop} {t : TypeId} {x y : Operand} {u u' : Value} (C' : Value → World → Prop) (hw : wantE ops e ⟨some i, .makeSlice t x y, ty, ps, af, gd⟩ = some true) (hi : decide (i < n.k) = true) (hx : evE e x = some u) (hy : evE e y = some u') (h1 : ∀ v w, C' v w → S lv w) (hr : ∀ w, C w → ∃ v w', (Instr.makeSlice t u u').run P w = .ok v w' ∧ C' v w') (k : ∀ v, (∃ w, C' v w) → wpZE P n ops S K r ((i, v) :: e) (C' v)) : wpZE P n ops S K ((⟨some i, .makeSlice t x y, ty, ps, af, gd⟩, 1, lv) :: r) e C :=
  ZE.eff C' hw hi h1 (fun W hW => by
    obtain ⟨v, w', h2, h3⟩ := hr W hW
    exact ⟨v, w', fun a ha => by simp [execOp, ha.ev hx, ha.ev hy, h2, Result.andThen], h3⟩) k
theorem Turn.pre {w w1 w2 : World} {L L' : Lay} (hb : Below w.heap.size w w1) (t : Turn w1 w2 L L') : Turn w w2 L L' := ⟨(Fx.of_below hb).trans t.fx (fun k _ h => h), fun k hk => (t.own k hk).imp id (fun h => Nat.le_trans hb.size h), t.p⟩
theorem Dk.lt {w : World} {L : Lay} {N : Nat} {s : Nat → List UInt8} {m c : Nat} (h : Dk w L N s m c) (k : Nat) (hk : L.F k) : k < w.heap.size := by
  obtain ⟨D, h1, _⟩ := h.ex
  exact h1.lt k hk
def zS : List UInt8 := List.replicate 512 0
set_option maxRecDepth 100000 in
set_option maxHeartbeats 1000000 in
theorem blank_ok {w : World} {L : Lay} {N : Nat} {s : Nat → List UInt8} {m c : Nat} (n : Nat) (h : Dk w L N s m c) (i : Nat) (hi : i < N) (few : m < 1000000) (hcal : c < 1000000000000) : Calls Try.prog 54 #[dkV L.p n, .int .i64 (i : Int)] w fun e w' => e = .returned (.tuple #[]) ∧ ∃ L', Turn w w' L L' ∧ Dk w' L' N (setS s i zS) (m + 1) (c + 1) := by
  refine calls_of_args [dkV L.p n, .int .i64 (i : Int)] Try.func54 rfl 8 Try.ntmps54 (by show 2 ≤ 8; decide) ?_
  refine EW.seq ?_
  refine EW.region ?_
  obtain ⟨w1, q, r1, b1, e1, hq⟩ := box55 L.p n w
  have h1 := h.below e1
  refine WL.box rfl rfl rfl r1 ?_
  refine WL.done ?_
  refine EW.on ?_
  refine EW.ordB [(0, 0, 1), (1, 0, 0), (2, 1, 1), (3, 1, 0)] (by kernel_rfl) rfl (by kernel_rfl) ?_
  simp only [opsZ, List.getD_cons_zero, List.getD_cons_succ]
  refine ZE.load rfl rfl rfl rfl sz1 (fun W hW => ld55 (b1.on (sb_of hW))) ?_
  first | refine ZE.move rfl rfl rfl rfl sz0 ?_
  refine ZE.mks (fun v W => Has W v zS ∧ Below w1.heap.size w1 W) rfl rfl rfl rfl (fun _ _ h => .inr h.2) (fun W hW => ⟨_, _, run_mk34 W 512 (by decide), by have := Has.new (bs := zS) (Blk.new W _ 5) 512 (by simp [zS]); simpa [zS] using this, hW.trans ((below_new W _).mono hW.size)⟩) ?_
  rintro vz ⟨_, _, _⟩
  refine ZE.callR [dkV L.p n, .int .i64 (i : Int), vz] (fun v W => v = .tuple #[] ∧ ∃ L', Turn w1 W L L' ∧ Dk W L' N (setS s i zS) (m + 1) (c + 1)) enter30 rfl rfl rfl (fun _ _ _ => .inl rfl) (fun W hW => (kwrite_ok n (h1.below hW.2) i hi vz zS (by simp [zS]) hW.1 few hcal).mono fun e w' ⟨g1, L', g2, g3⟩ => ⟨_, g1, rfl, L', g2.pre hW.2, g3⟩) ?_
  rintro _ ⟨_, rfl, _⟩
  rintro w2 ⟨_, L', t2, d2⟩
  exact EW.falls Try.results54 ⟨rfl, L', t2.pre e1, d2⟩
theorem sl37 (t : Value) (a b c : Option Value) (W : World) : (Instr.sliceAt 37 t a b c).run Try.prog W = (Instr.slice 37 t a b c).run Try.prog W := by
  simp [Instr.sliceAt, run_underlying Try.underlying37]
set_option maxRecDepth 100000 in
set_option maxHeartbeats 1000000 in
theorem writePage_ok {w : World} {L : Lay} {N : Nat} {s : Nat → List UInt8} {m c : Nat} (n : Nat) (h : Dk w L N s m c) (i : Nat) (hi : i + 1 < N) (hN : N ≤ 1000000) (vb : Value) (b : List UInt8) (hb : b.length = 1024) (hv : Has w vb b) (hvF : ∀ k, vb.ownBlock = some k → ¬ L.F k) (few : m + 2 < 1000000) (hcal : c + 2 < 1000000000000) : Calls Try.prog 50 #[dkV L.p n, .int .i64 (i : Int), vb] w fun e w' => e = .returned (.tuple #[]) ∧ ∃ L', Turn w w' L L' ∧ Dk w' L' N (setS (setS s i (b.take 512)) (i + 1) (b.drop 512)) (m + 2) (c + 2) := by
  have a13 : IntKind.i64.wrap ((i : Int) + 1) = ((i + 1 : Nat) : Int) := by rw [IntKind.wrap_i64]; omega
  refine calls_of_args [dkV L.p n, .int .i64 (i : Int), vb] Try.func50 rfl 17 Try.ntmps50 (by show 3 ≤ 17; decide) ?_
  refine EW.seq ?_
  refine EW.region ?_
  obtain ⟨w1, q, r1, b1, e1, hq⟩ := box55 L.p n w
  have h1 := h.below e1
  have v1 := hv.below e1
  refine WL.box rfl rfl rfl r1 ?_
  refine WL.done ?_
  refine EW.on ?_
  refine EW.seq ?_
  refine EW.ordB [(0, 0, 1), (1, 0, 0), (2, 0, 0), (3, 0, 0), (4, 1, 0)] (by kernel_rfl) rfl (by kernel_rfl) ?_
  simp only [opsZ, List.getD_cons_zero, List.getD_cons_succ]
  refine ZE.load rfl rfl rfl rfl sz1 (fun W hW => ld55 (b1.on (sb_of hW))) ?_
  first | refine ZE.move rfl rfl rfl rfl sz0 ?_
  first | refine ZE.move rfl rfl rfl rfl sz0 ?_
  refine ZE.sliceH rfl rfl rfl rfl rfl sz0 (fun W => by rw [sl37]; exact v1.cutH 512 (by omega) W) ?_
  refine ZE.callR [dkV L.p n, .int .i64 (i : Int), cutV vb 0 512] (fun v W => v = .tuple #[] ∧ ∃ L', Turn w1 W L L' ∧ Dk W L' N (setS s i (b.take 512)) (m + 1) (c + 1)) enter30 rfl rfl rfl (fun _ _ _ => .inl rfl) (fun W hW => (kwrite_ok n (h1.below hW) i (by omega) (cutV vb 0 512) (b.take 512) (by simp; omega) (by have := (v1.below hW).cut 0 512 (by omega) (by omega); simpa using this) (by omega) (by omega)).mono fun e w' ⟨g1, L', g2, g3⟩ => ⟨_, g1, rfl, L', g2.pre hW, g3⟩) ?_
  rintro _ ⟨_, rfl, _⟩
  rintro w2 ⟨_, L', t2, d2⟩
  have b2 := b1.fx t2.fx (fun hF => by have := h.lt _ hF; omega)
  have v2 := v1.fx t2.fx hvF
  refine EW.on ?_
  refine EW.ordB [(0, 0, 1), (1, 0, 0), (2, 0, 0), (3, 0, 0), (4, 0, 0), (5, 1, 0)] (by kernel_rfl) rfl (by kernel_rfl) ?_
  simp only [opsZ, List.getD_cons_zero, List.getD_cons_succ]
  refine ZE.load rfl rfl rfl rfl sz1 (fun W hW => ld55 (b2.on (sb_of hW))) ?_
  first | refine ZE.move rfl rfl rfl rfl sz0 ?_
  refine ZE.bin rfl rfl rfl rfl rfl sz0 (fun W => int_add a13 W _ _) ?_
  first | refine ZE.move rfl rfl rfl rfl sz0 ?_
  refine ZE.sliceL rfl rfl rfl rfl rfl sz0 (fun W => by rw [sl37]; exact v2.cutL 512 (by omega) W) ?_
  refine ZE.callR [dkV L.p n, .int .i64 ((i + 1 : Nat) : Int), cutV vb 512 b.length] (fun v W => v = .tuple #[] ∧ ∃ L'', Turn w2 W L' L'' ∧ Dk W L'' N (setS (setS s i (b.take 512)) (i + 1) (b.drop 512)) (m + 1 + 1) (c + 1 + 1)) enter30 rfl rfl rfl (fun _ _ _ => .inl rfl) (fun W hW => by rw [← t2.p]; exact (kwrite_ok n (d2.below hW) (i + 1) hi (cutV vb 512 b.length) (b.drop 512) (by simp; omega) (by have := (v2.below hW).cut 512 b.length (by omega) (Nat.le_refl _); rw [List.take_of_length_le (by simp)] at this; exact this) (by omega) (by omega)).mono fun e w' ⟨g1, L'', g2, g3⟩ => ⟨_, g1, rfl, L'', g2.pre hW, g3⟩) ?_
  rintro _ ⟨_, rfl, _⟩
  rintro w3 ⟨_, L'', t3, d3⟩
  exact EW.falls Try.results50 ⟨rfl, L'', (t2.pre e1).trans t3, d3⟩
end Go.Proofs.Ythlpfpggjkocmaa
