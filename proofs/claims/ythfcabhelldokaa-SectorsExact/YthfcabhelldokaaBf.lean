import Derived.Test.YthfcabhelldokaaBe
set_option linter.unusedVariables false
set_option linter.unusedSimpArgs false
namespace Go.Proofs.Ythfcabhelldokaa
open Go.RowKit

theorem fld75_5 (g : Nat) (W : World) : (Instr.fieldAt 75 (.pointer (some ⟨g, 0, none⟩)) 5).run Try.prog W = .ok (.pointer (some ⟨g, 7, none⟩)) W := by go_simp
set_option maxRecDepth 100000 in
set_option maxHeartbeats 1000000 in
theorem write_bad {w : World} {L : Lay} {D : Dv} (h : Dev w L D) (i : Int) (vb : Value) (b : List UInt8) (hv : Has w vb b) (hr : refE D i = 0) (hb : b.length ≠ 512) : Calls Try.prog 12 #[.pointer (some ⟨L.p, 0, none⟩), .int .i64 i, vb] w fun e w' => e = .returned (.int .i64 82) ∧ w' = w := by
  have hrf := refusal_any h i
  rw [hr] at hrf
  have hlen := hv.len
  have z2 : ¬ (b.length : Int) = 512 := by omega
  refine calls_of_args [.pointer (some ⟨L.p, 0, none⟩), .int .i64 i, vb] Try.func12 rfl 43 Try.ntmps12 (by show 3 ≤ 43; decide) ?_
  refine EW.seq ?_
  refine EW.region ?_
  first | refine WL.assign rfl rfl rfl ?_
  refine WL.done ?_
  refine EW.on ?_
  refine EW.seq ?_
  refine EW.seq ?_
  refine EW.region ?_
  first | refine WL.move rfl rfl rfl ?_
  first | refine WL.move rfl rfl rfl ?_
  refine WL.call [.pointer (some ⟨L.p, 0, none⟩), .int .i64 i] enter34 rfl rfl rfl hrf ?_
  rintro x w3 ⟨rfl, hz⟩
  rw [hz]; clear hz w3
  refine ⟨_, rfl, ?_⟩
  first | refine WL.assign rfl rfl rfl ?_
  refine WL.done ?_
  refine EW.on ?_
  refine EW.seq ?_
  refine EW.region ?_
  first | refine WL.move rfl rfl rfl ?_
  refine WL.bin rfl rfl rfl rfl (int_ne_f rfl _ _ _) ?_
  refine WL.done ?_
  refine EW.on ?_
  refine EW.cond_f rfl ?_
  refine EW.skip ?_
  refine EW.on ?_
  refine EW.seq ?_
  refine EW.seq ?_
  refine EW.region ?_
  first | refine WL.move rfl rfl rfl ?_
  refine WL.len rfl rfl rfl (hlen _ _) ?_
  refine WL.bin rfl rfl rfl rfl (int_ne_t z2 _ _ _) ?_
  refine WL.done ?_
  refine EW.on ?_
  refine EW.cond_t rfl ?_
  refine EW.seq ?_
  refine EW.region ?_
  first | refine WL.assign rfl rfl rfl ?_
  refine WL.done ?_
  refine EW.on ?_
  refine EW.ret ?_
  repeat (first | refine pr_then ?_ | refine pr_block ?_)
  exact EW.returns Try.results12 rfl ⟨rfl, rfl⟩
set_option maxRecDepth 100000 in
set_option maxHeartbeats 1000000 in
theorem arm_neg {w : World} {L : Lay} {D : Dv} (h : Dev w L D) (hd : D.down = false) (step : Int) (hs : step < 0) (v : Value) (torn off : Int) : Calls Try.prog 19 #[.pointer (some ⟨L.p, 0, none⟩), .int .i64 step, .agg (lossC v torn off).toArray] w fun e w' => e = .returned (.int .i64 4) ∧ Turn w w' L L ∧ Dev w' L D := by
  obtain ⟨g0, hg0⟩ : ∃ g, w.heap.size = g := ⟨_, rfl⟩
  have hbox := run_boxR (P := Try.prog) 38 (lossC v torn off) w g0 hg0
  have be0 : Below w.heap.size w (w.alloc (.cells (lossC v torn off).toArray 38)) := below_new w _
  have h0 := h.below be0
  obtain ⟨w0, hw0⟩ : ∃ w0, w.alloc (.cells (lossC v torn off).toArray 38) = w0 := ⟨_, rfl⟩
  rw [hw0] at hbox be0 h0
  have hc := h0.c7
  rw [hd] at hc
  refine calls_of_args [.pointer (some ⟨L.p, 0, none⟩), .int .i64 step, .agg (lossC v torn off).toArray] Try.func19 rfl 41 Try.ntmps19 (by show 3 ≤ 41; decide) ?_
  refine EW.seq ?_
  refine EW.region ?_
  refine WL.box rfl rfl rfl hbox ?_
  first | refine WL.assign rfl rfl rfl ?_
  refine WL.done ?_
  refine EW.on ?_
  refine EW.seq ?_
  refine EW.seq ?_
  refine EW.region ?_
  first | refine WL.move rfl rfl rfl ?_
  first | refine WL.nilc rfl rfl rfl ?_
  first | refine WL.field rfl rfl rfl (fld75_5 _ _) ?_
  refine WL.load rfl rfl rfl (ld4 hc) ?_
  refine WL.done ?_
  refine EW.on ?_
  refine EW.cond_f rfl ?_
  refine EW.skip ?_
  refine EW.on ?_
  refine EW.seq ?_
  refine EW.seq ?_
  refine EW.region ?_
  first | refine WL.move rfl rfl rfl ?_
  refine WL.bin rfl rfl rfl rfl (int_lt_t hs _ _ _) ?_
  refine WL.done ?_
  refine EW.on ?_
  refine EW.cond_t rfl ?_
  refine EW.seq ?_
  refine EW.region ?_
  first | refine WL.assign rfl rfl rfl ?_
  refine WL.done ?_
  refine EW.on ?_
  refine EW.ret ?_
  repeat (first | refine pr_then ?_ | refine pr_block ?_)
  exact EW.returns Try.results19 rfl ⟨rfl, ⟨Fx.of_below be0, fun k h => .inl h, rfl⟩, h0⟩
/-- A Write, whatever is handed in. -/
def wrD (D : Dv) (i : Int) (b : List UInt8) : Dv := if refE D i ≠ 0 ∨ b.length ≠ 512 then D else changedD (pushD D i.toNat b)
theorem dev_write {w : World} {L : Lay} {D : Dv} (h : Dev w L D) (i : Int) (vb : Value) (b : List UInt8) (hv : Has w vb b) (few : D.pen.length < 1000000) (hcal : D.calls < 1000000000000) (hleft : D.left < 9223372036854775808) :
    Calls Try.prog 12 #[.pointer (some ⟨L.p, 0, none⟩), .int .i64 i, vb] w fun e w' => e = .returned (.int .i64 (writeE D i b)) ∧ ∃ L', Turn w w' L L' ∧ Dev w' L' (wrD D i b) := by
  unfold writeE wrD
  by_cases hr : refE D i ≠ 0
  · rw [if_pos hr, if_pos (.inl hr)]
    exact (write_no h i vb hr).mono fun e w' ⟨h1, h2⟩ => ⟨h1, L, by rw [h2]; exact Turn.refl _ _, by rw [h2]; exact h⟩
  · have hr0 : refE D i = 0 := Decidable.not_not.1 hr
    rw [if_neg hr]
    by_cases hb : b.length ≠ 512
    · rw [if_pos hb, if_pos (.inr hb)]
      exact (write_bad h i vb b hv hr0 hb).mono fun e w' ⟨h1, h2⟩ => ⟨h1, L, by rw [h2]; exact Turn.refl _ _, by rw [h2]; exact h⟩
    · rw [if_neg hb, if_neg (fun e => e.elim hr hb)]
      have hb5 : b.length = 512 := Decidable.not_not.1 hb
      have hd : D.down = false := by
        unfold refE at hr0
        cases hd : D.down
        · rfl
        · rw [hd, if_pos rfl] at hr0; simp at hr0
      have hi2 : ¬ (i < 0 ∨ (D.n : Int) ≤ i) := fun hh => by
        unfold refE at hr0
        rw [hd, if_neg (by decide), if_pos hh] at hr0
        simp at hr0
      obtain ⟨k, hk⟩ : ∃ k : Nat, i = (k : Int) := ⟨i.toNat, (Int.toNat_of_nonneg (by omega)).symm⟩
      subst hk
      rw [Int.toNat_natCast]
      exact write_ok h hd k (by omega) vb b hb5 hv few hcal hleft
theorem ref_write {w : World} {L : Rl} {D : Dv} (h : RDev w L D) (i : Int) (vb : Value) (b : List UInt8) (hv : Has w vb b) (few : D.pen.length < 1000000) (hcal : D.calls < 1000000000000) (hleft : D.left < 9223372036854775808) :
    Calls Try.prog 63 #[.pointer (some ⟨L.p, 0, none⟩), .int .i64 i, vb] w fun e w' => e = .returned (.int .i64 (writeE D i b)) ∧ ∃ L', RT w w' L L' ∧ RDev w' L' (wrD D i b) := by
  unfold writeE wrD
  by_cases hr : refE D i ≠ 0
  · rw [if_pos hr, if_pos (.inl hr)]
    exact (rwrite_no h i vb hr).mono fun e w' ⟨h1, h2⟩ => ⟨h1, L, by rw [h2]; exact RT.refl _ _, by rw [h2]; exact h⟩
  · have hr0 : refE D i = 0 := Decidable.not_not.1 hr
    rw [if_neg hr]
    by_cases hb : b.length ≠ 512
    · rw [if_pos hb, if_pos (.inr hb)]
      exact (rwrite_bad h i vb b hv hr0 hb).mono fun e w' ⟨h1, h2⟩ => ⟨h1, L, by rw [h2]; exact RT.refl _ _, by rw [h2]; exact h⟩
    · rw [if_neg hb, if_neg (fun e => e.elim hr hb)]
      have hb5 : b.length = 512 := Decidable.not_not.1 hb
      have hi0 : 0 ≤ i := by
        rcases Int.lt_or_le i 0 with h1 | h1
        · unfold refE at hr0
          split at hr0
          · simp at hr0
          · rw [if_pos (.inl h1)] at hr0; simp at hr0
        · exact h1
      obtain ⟨k, hk⟩ : ∃ k : Nat, i = (k : Int) := ⟨i.toNat, (Int.toNat_of_nonneg hi0).symm⟩
      subst hk
      rw [Int.toNat_natCast]
      exact rwrite_ok h k vb b hv hr0 hb5 few hcal hleft
/-- A device beside the document's. -/
structure Two (W : World) (L : Lay) (R : Rl) (D : Dv) : Prop where
  dev : Dev W L D
  ref : RDev W R D
  ap : ∀ k, L.F k → ¬ R.F k
/-- Both have turned. -/
structure St2 (W W' : World) (L L' : Lay) (R R' : Rl) : Prop where
  fx : Fx (fun k => L.F k ∨ R.F k) W W'
  ol : ∀ k, L'.F k → L.F k ∨ W.heap.size ≤ k
  or : ∀ k, R'.F k → R.F k ∨ W.heap.size ≤ k
  pl : L'.p = L.p
  pr : R'.p = R.p
theorem Two.below {W W' : World} {L : Lay} {R : Rl} {D : Dv} (h : Two W L R D) (hb : Below W.heap.size W W') : Two W' L R D := ⟨h.dev.below hb, h.ref.below hb, h.ap⟩
theorem Two.fx {S : Nat → Prop} {W W' : World} {L : Lay} {R : Rl} {D : Dv} (h : Two W L R D) (hf : Fx S W W') (hd : ∀ k, L.F k ∨ R.F k → ¬ S k) : Two W' L R D := ⟨h.dev.fx hf (fun k hk => hd k (.inl hk)), h.ref.fx hf (fun k hk => hd k (.inr hk)), h.ap⟩
theorem Two.lt {W : World} {L : Lay} {R : Rl} {D : Dv} (h : Two W L R D) (k : Nat) (hk : L.F k ∨ R.F k) : k < W.heap.size := hk.elim (h.dev.lt k) (h.ref.lt k)
theorem St2.refl (W : World) (L : Lay) (R : Rl) : St2 W W L L R R := ⟨Fx.refl _ _, fun _ h => .inl h, fun _ h => .inl h, rfl, rfl⟩
theorem St2.below {W W' : World} {L : Lay} {R : Rl} (hb : Below W.heap.size W W') : St2 W W' L L R R := ⟨Fx.of_below hb, fun _ h => .inl h, fun _ h => .inl h, rfl, rfl⟩
theorem St2.trans {W W1 W2 : World} {L L1 L2 : Lay} {R R1 R2 : Rl} (h : St2 W W1 L L1 R R1) (k : St2 W1 W2 L1 L2 R1 R2) : St2 W W2 L L2 R R2 :=
  ⟨h.fx.trans k.fx (fun i hi e => by
    rcases e with e | e
    · exact .inl ((h.ol i e).resolve_right (by omega))
    · exact .inr ((h.or i e).resolve_right (by omega))), fun i e => by
    rcases k.ol i e with e | e
    · exact h.ol i e
    · exact .inr (Nat.le_trans h.fx.size e), fun i e => by
    rcases k.or i e with e | e
    · exact h.or i e
    · exact .inr (Nat.le_trans h.fx.size e), k.pl.trans h.pl, k.pr.trans h.pr⟩
/-- First the one, then the other. -/
theorem Two.step {W W1 W2 : World} {L L' : Lay} {R R' : Rl} {D D' : Dv} (h : Two W L R D) (t1 : Turn W W1 L L') (d1 : Dev W1 L' D') (t2 : RT W1 W2 R R') (r2 : RDev W2 R' D') : Two W2 L' R' D' ∧ St2 W W2 L L' R R' := by
  have hap : ∀ k, L'.F k → ¬ R.F k := fun k h1 h2 => by
    rcases t1.own k h1 with e | e
    · exact h.ap k e h2
    · have := h.ref.lt k h2; omega
  refine ⟨⟨d1.fx t2.fx hap, r2, fun k h1 h2 => ?_⟩, ⟨(t1.fx.mono (fun k _ e => .inl e)).and (t2.fx.mono (fun k _ e => .inr e)), t1.own, fun k e => ?_, t1.p, t2.p⟩⟩
  · rcases t2.own k h2 with e | e
    · exact hap k h1 e
    · have := d1.lt k h1; omega
  · rcases t2.own k e with e | e
    · exact .inl e
    · exact .inr (Nat.le_trans t1.fx.size e)
theorem Two.mid {W W1 : World} {L L' : Lay} {R : Rl} {D : Dv} (h : Two W L R D) (t1 : Turn W W1 L L') : RDev W1 R D := h.ref.fx t1.fx (fun k hk e => h.ap k e hk)
end Go.Proofs.Ythfcabhelldokaa
