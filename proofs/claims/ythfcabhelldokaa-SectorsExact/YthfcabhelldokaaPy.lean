import Derived.Test.YthfcabhelldokaaTl
set_option linter.unusedVariables false
set_option linter.unusedSimpArgs false
namespace Go.Proofs.Ythfcabhelldokaa
open Go.RowKit

def rdS (D : Dv) (i : Int) : List UInt8 := if refE D i ≠ 0 then [] else readB D i.toNat
theorem ref_zero {D : Dv} {i : Int} (h : ¬ refE D i ≠ 0) : D.down = false ∧ ∃ k : Nat, i = (k : Int) ∧ k < D.n := by
  have hr0 : refE D i = 0 := Decidable.not_not.1 h
  have hd : D.down = false := by
    unfold refE at hr0
    cases hd : D.down
    · rfl
    · rw [hd, if_pos rfl] at hr0; simp at hr0
  have hi2 : ¬ (i < 0 ∨ (D.n : Int) ≤ i) := fun hh => by
    unfold refE at hr0
    rw [hd, if_neg (by decide), if_pos hh] at hr0
    simp at hr0
  exact ⟨hd, i.toNat, (Int.toNat_of_nonneg (by omega)).symm, by omega⟩
theorem dev_read {w : World} {L : Lay} {D : Dv} (h : Dev w L D) (i : Int) : Calls Try.prog 42 #[.pointer (some ⟨L.p, 0, none⟩), .int .i64 i] w fun e w' => ∃ v, e = .returned (.tuple #[v, .int .i64 (refE D i)]) ∧ Below w.heap.size w w' ∧ Own1 w' v (rdS D i) ∧ ∀ k, v.ownBlock = some k → w.heap.size ≤ k := by
  unfold rdS
  by_cases hr : refE D i ≠ 0
  · rw [if_pos hr]
    exact (read_no h i hr).mono fun e w' ⟨h1, h2⟩ => ⟨_, h1, by rw [h2]; exact Below.refl _ _, .inl ⟨rfl, rfl⟩, fun k hk => by simp [Value.ownBlock] at hk⟩
  · rw [if_neg hr]
    obtain ⟨hd, k, rfl, hk⟩ := ref_zero hr
    have hr0 : refE D (k : Int) = 0 := Decidable.not_not.1 hr
    have hl := readB_length D h.ok k hk
    rw [Int.toNat_natCast]
    refine (read_ok h hd k hk).mono fun e w' ⟨h1, h2⟩ => ⟨_, by rw [hr0]; exact h1, by rw [h2]; exact below_new _ _, .inr ⟨w.heap.size, by rw [hl], by rw [h2]; exact Blk.new _ _ _⟩, fun j hj => ?_⟩
    have : w.heap.size = j := by simpa [Value.ownBlock] using hj
    omega
theorem ref_read {w : World} {L : Rl} {D : Dv} (h : RDev w L D) (i : Int) : Calls Try.prog 47 #[.pointer (some ⟨L.p, 0, none⟩), .int .i64 i] w fun e w' => ∃ v, e = .returned (.tuple #[v, .int .i64 (refE D i)]) ∧ Below w.heap.size w w' ∧ Has w' v (rdS D i) := by
  unfold rdS
  by_cases hr : refE D i ≠ 0
  · rw [if_pos hr]
    exact (rread_no h i hr).mono fun e w' ⟨h1, h2⟩ => ⟨_, h1, by rw [h2]; exact Below.refl _ _, .inl ⟨rfl, rfl⟩⟩
  · rw [if_neg hr]
    obtain ⟨hd, k, rfl, hk⟩ := ref_zero hr
    have hr0 : refE D (k : Int) = 0 := Decidable.not_not.1 hr
    rw [Int.toNat_natCast]
    exact (rread_ok h hd k hk).mono fun e w' ⟨ao, l, c, h1, h2, h3⟩ => ⟨_, by rw [hr0]; exact h1, h2, h3⟩
def flE (D : Dv) : Int := if D.down then 80 else changedE D
def flX (D : Dv) : Dv := if D.down then D else if D.left = 1 then changedD D else flushD D
theorem dev_flush {w : World} {L : Lay} {D : Dv} (h : Dev w L D) (hcal : D.calls < 1000000000000) (hleft : D.left < 9223372036854775808) : Calls Try.prog 26 #[.pointer (some ⟨L.p, 0, none⟩)] w fun e w' => e = .returned (.int .i64 (flE D)) ∧ ∃ L', Turn w w' L L' ∧ Dev w' L' (flX D) := by
  unfold flE flX changedE
  by_cases hd : D.down = true
  · rw [if_pos hd, if_pos hd]
    exact (flush_no h hd).mono fun e w' ⟨h1, h2⟩ => ⟨h1, L, by rw [h2]; exact Turn.refl _ _, by rw [h2]; exact h⟩
  · have hd' : D.down = false := by simpa using hd
    rw [if_neg hd, if_neg hd]
    by_cases h1 : D.left = 1
    · rw [if_pos h1, if_pos h1]
      exact (flush_crash h hd' hcal h1).mono fun e w' ⟨h1, h2, h3⟩ => ⟨h1, _, h2, h3⟩
    · rw [if_neg h1, if_neg h1]
      exact (flush_ok h hd' hcal hleft h1).mono fun e w' ⟨h1, h2, h3⟩ => ⟨h1, _, h2, h3⟩
theorem ref_flush {w : World} {L : Rl} {D : Dv} (h : RDev w L D) (hcal : D.calls < 1000000000000) (hleft : D.left < 9223372036854775808) : Calls Try.prog 50 #[.pointer (some ⟨L.p, 0, none⟩)] w fun e w' => e = .returned (.int .i64 (flE D)) ∧ ∃ L', RT w w' L L' ∧ RDev w' L' (flX D) := by
  unfold flE flX changedE
  by_cases hd : D.down = true
  · rw [if_pos hd, if_pos hd]
    exact (rflush_no h hd).mono fun e w' ⟨h1, h2⟩ => ⟨h1, L, by rw [h2]; exact RT.refl _ _, by rw [h2]; exact h⟩
  · have hd' : D.down = false := by simpa using hd
    rw [if_neg hd, if_neg hd]
    by_cases h1 : D.left = 1
    · rw [if_pos h1, if_pos h1]
      exact (rflush_crash h hd' hcal h1).mono fun e w' ⟨h1, h2, h3⟩ => ⟨h1, _, h2, h3⟩
    · rw [if_neg h1, if_neg h1]
      exact (rflush_ok h hd' hcal hleft h1).mono fun e w' ⟨h1, h2, h3⟩ => ⟨h1, _, h2, h3⟩
theorem go_fl (D : Dv) (h : D.left < 9223372036854775808) : Dgo D (flX D) := by
  unfold flX
  split
  · exact go_same D h
  · split
    · exact go_changed D h
    · exact ⟨rfl, Nat.le_refl _, by simp [flushD], by show D.left - 1 < _; omega⟩
/-- The pair and the book have turned. -/
structure St3 (W W' : World) (L L' : Lay) (R R' : Rl) (B B' : Bl) : Prop where
  fx : Fx (fun k => (L.F k ∨ R.F k) ∨ B.F k) W W'
  ol : ∀ k, L'.F k → L.F k ∨ W.heap.size ≤ k
  or : ∀ k, R'.F k → R.F k ∨ W.heap.size ≤ k
  ob : ∀ k, B'.F k → B.F k ∨ W.heap.size ≤ k
  pl : L'.p = L.p
  pr : R'.p = R.p
  pb : B'.p = B.p
structure Three' (W : World) (L : Lay) (R : Rl) (D : Dv) (B : Bl) (c : Nat) : Prop where
  two : Two W L R D
  bst : Bst W B c
  ap : ∀ k, L.F k ∨ R.F k → ¬ B.F k
theorem Three'.below {W W' : World} {L : Lay} {R : Rl} {D : Dv} {B : Bl} {c : Nat} (h : Three' W L R D B c) (hb : Below W.heap.size W W') : Three' W' L R D B c := ⟨h.two.below hb, h.bst.below hb, h.ap⟩
theorem Three'.pair {W W' : World} {L L' : Lay} {R R' : Rl} {D D' : Dv} {B : Bl} {c c' : Nat} (h : Three' W L R D B c) (k : Two W' L' R' D') (st : St2 W W' L L' R R') (hc : c ≤ c') : Three' W' L' R' D' B c' ∧ St3 W W' L L' R R' B B :=
  ⟨⟨k, (h.bst.fx st.fx (fun j hj e => h.ap j e hj)).mono hc, fun j hj hb => by
    rcases hj with hj | hj
    · rcases st.ol j hj with e | e
      · exact h.ap j (.inl e) hb
      · have := h.bst.bok.lt j hb; omega
    · rcases st.or j hj with e | e
      · exact h.ap j (.inr e) hb
      · have := h.bst.bok.lt j hb; omega⟩, ⟨st.fx.mono (fun j _ e => .inl e), st.ol, st.or, fun j e => .inl e, st.pl, st.pr, rfl⟩⟩
theorem Three'.book {W W' : World} {L : Lay} {R : Rl} {D : Dv} {B B' : Bl} {c c' : Nat} (h : Three' W L R D B c) (hb : Bst W' B' c') (hf : Fx B.F W W') (ho : ∀ k, B'.F k → B.F k ∨ W.heap.size ≤ k) (hp : B'.p = B.p) : Three' W' L R D B' c' ∧ St3 W W' L L R R B B' :=
  ⟨⟨h.two.fx hf h.ap, hb, fun j hj e => by
    rcases ho j e with e | e
    · exact h.ap j hj e
    · have := h.two.lt j hj; omega⟩, ⟨hf.mono (fun j _ e => .inr e), fun j e => .inl e, fun j e => .inl e, ho, rfl, rfl, hp⟩⟩
theorem St3.below {W W' : World} {L : Lay} {R : Rl} {B : Bl} (hb : Below W.heap.size W W') : St3 W W' L L R R B B := ⟨Fx.of_below hb, fun j e => .inl e, fun j e => .inl e, fun j e => .inl e, rfl, rfl, rfl⟩
theorem St3.trans {W W1 W2 : World} {L L1 L2 : Lay} {R R1 R2 : Rl} {B B1 B2 : Bl} (h : St3 W W1 L L1 R R1 B B1) (k : St3 W1 W2 L1 L2 R1 R2 B1 B2) : St3 W W2 L L2 R R2 B B2 :=
  ⟨h.fx.trans k.fx (fun i hi e => by
    rcases e with (e | e) | e
    · exact .inl (.inl ((h.ol i e).resolve_right (by omega)))
    · exact .inl (.inr ((h.or i e).resolve_right (by omega)))
    · exact .inr ((h.ob i e).resolve_right (by omega))), fun i e => by
    rcases k.ol i e with e | e
    · exact h.ol i e
    · exact .inr (Nat.le_trans h.fx.size e), fun i e => by
    rcases k.or i e with e | e
    · exact h.or i e
    · exact .inr (Nat.le_trans h.fx.size e), fun i e => by
    rcases k.ob i e with e | e
    · exact h.ob i e
    · exact .inr (Nat.le_trans h.fx.size e), k.pl.trans h.pl, k.pr.trans h.pr, k.pb.trans h.pb⟩
set_option maxRecDepth 100000 in
set_option maxHeartbeats 1000000 in
theorem py_read {W : World} {L : Lay} {R : Rl} {D : Dv} {B : Bl} {c : Nat} (h : Three' W L R D B c) (hc : c ≤ 200000) (hpl : D.pen.length ≤ 100000) (hcal : D.calls < 1000000000) (hleft : D.left < 9223372036854775808) (s : Stp) (hs : s.ok W) (hkl : s.ks.length ≤ 100000000) (hbl : s.b.length ≤ 1000000000) (hsn : ∀ k, (s.b ≠ [] ∧ s.vb.ownBlock = some k) ∨ (s.ks ≠ [] ∧ s.vk.ownBlock = some k) → ¬ (L.F k ∨ R.F k)) (n1 : s.kind = 1) :
    Calls Try.prog 31 #[.pointer (some ⟨L.p, 0, none⟩), .pointer (some ⟨R.p, 0, none⟩), .agg (stC s).toArray, .pointer (some ⟨B.p, 0, none⟩)] W fun e w' => e = .returned (.bool true) ∧ ∃ L' R' B' D', Three' w' L' R' D' B' (c + D.pen.length + 2) ∧ St3 W w' L L' R R' B B' ∧ Dgo D D' := by
  obtain ⟨g0, hg0⟩ : ∃ g, W.heap.size = g := ⟨_, rfl⟩
  have hbox := run_boxR (P := Try.prog) 53 (stC s) W g0 hg0
  have b0 : Blk (W.alloc (.cells (stC s).toArray 53)) g0 (stC s) 53 := Blk.newAt hg0
  have be0 : Below W.heap.size W (W.alloc (.cells (stC s).toArray 53)) := below_new W _
  have sz0 : (W.alloc (.cells (stC s).toArray 53)).heap.size = g0 + 1 := by simp [hg0]
  obtain ⟨w0, hw0⟩ : ∃ w0, W.alloc (.cells (stC s).toArray 53) = w0 := ⟨_, rfl⟩
  rw [hw0] at hbox b0 be0 sz0
  have h0 := h.below be0
  have hs0 := hs.below be0
  have p0 := (b0.cell 0).trans (show _ = some (.int .i64 s.kind) from rfl)
  have p2 := (b0.cell 2).trans (show _ = some (.int .i64 s.i) from rfl)
  have p3 := (b0.cell 3).trans (show _ = some (.int .u8 (s.fill.toNat : Int)) from rfl)
  have p4 := (b0.cell 4).trans (show _ = some s.vb from rfl)
  have hdr := dev_read h0.two.dev s.i
  refine calls_of_args [.pointer (some ⟨L.p, 0, none⟩), .pointer (some ⟨R.p, 0, none⟩), .agg (stC s).toArray, .pointer (some ⟨B.p, 0, none⟩)] Try.func31 rfl 93 Try.ntmps31 (by show 4 ≤ 93; decide) ?_
  refine EW.seq ?_
  refine EW.region ?_
  refine WL.box rfl rfl rfl hbox ?_
  first | refine WL.assign rfl rfl rfl ?_
  refine WL.done ?_
  refine EW.on ?_
  refine EW.seq ?_
  refine EW.seq ?_
  refine EW.region ?_
  first | refine WL.field rfl rfl rfl (fld53_0 _ _) ?_
  refine WL.load rfl rfl rfl (ld3 p0) ?_
  refine WL.done ?_
  refine EW.on ?_
  refine EW.block ?_
  refine EW.seq ?_
  refine EW.region ?_
  refine WL.bin rfl rfl rfl rfl (int_eq_t n1 _ _ _) ?_
  first | refine WL.assign rfl rfl rfl ?_
  refine WL.done ?_
  refine EW.on ?_
  refine EW.cond_t rfl ?_
  refine EW.seq ?_
  refine EW.region ?_
  first | refine WL.move rfl rfl rfl ?_
  refine WL.field rfl rfl rfl (fld53_2 _ _) ?_
  refine WL.load rfl rfl rfl (ld3 p2) ?_
  refine WL.call [.pointer (some ⟨L.p, 0, none⟩), .int .i64 s.i] enter42 rfl rfl rfl hdr ?_
  rintro x w1 ⟨va, rfl, be1, oa, na⟩
  refine ⟨_, rfl, ?_⟩
  first | refine WL.move rfl rfl rfl ?_
  first | refine WL.extract rfl rfl rfl (ext_2 _ _ _).1 ?_
  first | refine WL.extract rfl rfl rfl (ext_2 _ _ _).2 ?_
  first | refine WL.assign rfl rfl rfl ?_
  first | refine WL.assign rfl rfl rfl ?_
  refine WL.done ?_
  have h1 := h0.below be1
  have b1 := b0.on be1
  have q2 := (b1.cell 2).trans (show _ = some (.int .i64 s.i) from rfl)
  have hrr := ref_read h1.two.ref s.i
  refine EW.on ?_
  refine EW.seq ?_
  refine EW.region ?_
  first | refine WL.move rfl rfl rfl ?_
  refine WL.field rfl rfl rfl (fld53_2 _ _) ?_
  refine WL.load rfl rfl rfl (ld3 q2) ?_
  refine WL.call [.pointer (some ⟨R.p, 0, none⟩), .int .i64 s.i] enter47 rfl rfl rfl hrr ?_
  rintro x w2 ⟨vc, rfl, be2, hvc⟩
  refine ⟨_, rfl, ?_⟩
  first | refine WL.move rfl rfl rfl ?_
  first | refine WL.extract rfl rfl rfl (ext_2 _ _ _).1 ?_
  first | refine WL.extract rfl rfl rfl (ext_2 _ _ _).2 ?_
  first | refine WL.assign rfl rfl rfl ?_
  first | refine WL.assign rfl rfl rfl ?_
  refine WL.done ?_
  have h2 := h1.below be2
  have oa2 := oa.below be2
  have ca := oa2.has.convert
  have cc := hvc.convert
  have hnF : ∀ k, va.ownBlock = some k → ¬ B.F k := fun k hk hF => by have := na k hk; have := h0.bst.bok.lt k hF; omega
  have hrl : (rdS D s.i).length ≤ 10000000 := by
    unfold rdS
    split
    · simp
    · obtain ⟨_, k, hk, hk2⟩ := ref_zero ‹_›
      rw [hk, Int.toNat_natCast, readB_length D h.two.dev.ok k hk2]; decide
  have htk := take_st h2.bst (by omega) va (rdS D s.i) oa2 hnF hrl
  refine EW.on ?_
  refine EW.seq ?_
  refine EW.region ?_
  first | refine WL.move rfl rfl rfl ?_
  refine WL.conv rfl rfl rfl ca ?_
  first | refine WL.move rfl rfl rfl ?_
  refine WL.conv rfl rfl rfl cc ?_
  refine WL.bin rfl rfl rfl rfl (str_eq_t _ _ _ _) ?_
  first | refine WL.move rfl rfl rfl ?_
  first | refine WL.move rfl rfl rfl ?_ | refine WL.skip _ rfl rfl rfl ?_
  first | refine WL.move rfl rfl rfl ?_ | refine WL.skip _ rfl rfl rfl ?_
  refine WL.bin rfl rfl rfl rfl (int_eq_t rfl _ _ _) ?_
  first | refine WL.pick rfl rfl rfl rfl ?_
  first | refine WL.assign rfl rfl rfl ?_
  refine WL.done ?_
  refine EW.on ?_
  refine EW.seq ?_
  refine EW.region ?_
  first | refine WL.move rfl rfl rfl ?_
  first | refine WL.move rfl rfl rfl ?_
  refine WL.call [.pointer (some ⟨B.p, 0, none⟩), va] enter48 rfl rfl rfl htk ?_
  rintro x w3 ⟨rfl, B3, hp3, hB3, hf3, ho3⟩
  refine ⟨_, rfl, ?_⟩
  refine WL.done ?_
  have hbe : Below W.heap.size W w2 := be0.trans ((be1.trans (be2.mono be1.size)).mono be0.size)
  have hfB : Fx B.F W w3 := (Fx.of_below hbe).trans hf3 (fun k hk e => by
    rcases e with e | e
    · exact e
    · have := na k e; have := be0.size; omega)
  obtain ⟨k3, st3⟩ := h.book hB3 hfB (fun k hk => by
    rcases ho3 k hk with e | e | e
    · exact .inl e
    · exact .inr (Nat.le_trans be0.size (na k e))
    · exact .inr (Nat.le_trans hbe.size e)) hp3
  have k4 : Three' w3 L R D B3 (c + D.pen.length + 2) := ⟨k3.two, k3.bst.mono (by omega), k3.ap⟩
  refine EW.on ?_
  refine EW.seq ?_
  refine EW.region ?_
  first | refine WL.move rfl rfl rfl ?_
  first | refine WL.assign rfl rfl rfl ?_
  refine WL.done ?_
  refine EW.on ?_
  refine EW.ret ?_
  repeat (first | refine pr_then ?_ | refine pr_block ?_)
  exact EW.returns Try.results31 rfl ⟨rfl, L, R, B3, D, k4, st3, go_same D hleft⟩
set_option maxRecDepth 100000 in
set_option maxHeartbeats 1000000 in
theorem py_write {W : World} {L : Lay} {R : Rl} {D : Dv} {B : Bl} {c : Nat} (h : Three' W L R D B c) (hc : c ≤ 200000) (hpl : D.pen.length ≤ 100000) (hcal : D.calls < 1000000000) (hleft : D.left < 9223372036854775808) (s : Stp) (hs : s.ok W) (hkl : s.ks.length ≤ 100000000) (hbl : s.b.length ≤ 1000000000) (hsn : ∀ k, (s.b ≠ [] ∧ s.vb.ownBlock = some k) ∨ (s.ks ≠ [] ∧ s.vk.ownBlock = some k) → ¬ (L.F k ∨ R.F k)) (n1 : ¬ s.kind = 1) (n2 : s.kind = 2) :
    Calls Try.prog 31 #[.pointer (some ⟨L.p, 0, none⟩), .pointer (some ⟨R.p, 0, none⟩), .agg (stC s).toArray, .pointer (some ⟨B.p, 0, none⟩)] W fun e w' => e = .returned (.bool true) ∧ ∃ L' R' B' D', Three' w' L' R' D' B' (c + D.pen.length + 2) ∧ St3 W w' L L' R R' B B' ∧ Dgo D D' := by
  obtain ⟨g0, hg0⟩ : ∃ g, W.heap.size = g := ⟨_, rfl⟩
  have hbox := run_boxR (P := Try.prog) 53 (stC s) W g0 hg0
  have b0 : Blk (W.alloc (.cells (stC s).toArray 53)) g0 (stC s) 53 := Blk.newAt hg0
  have be0 : Below W.heap.size W (W.alloc (.cells (stC s).toArray 53)) := below_new W _
  have sz0 : (W.alloc (.cells (stC s).toArray 53)).heap.size = g0 + 1 := by simp [hg0]
  obtain ⟨w0, hw0⟩ : ∃ w0, W.alloc (.cells (stC s).toArray 53) = w0 := ⟨_, rfl⟩
  rw [hw0] at hbox b0 be0 sz0
  have h0 := h.below be0
  have hs0 := hs.below be0
  have p0 := (b0.cell 0).trans (show _ = some (.int .i64 s.kind) from rfl)
  have p2 := (b0.cell 2).trans (show _ = some (.int .i64 s.i) from rfl)
  have p3 := (b0.cell 3).trans (show _ = some (.int .u8 (s.fill.toNat : Int)) from rfl)
  have p4 := (b0.cell 4).trans (show _ = some s.vb from rfl)
  have c2 : ∀ V, Blk V g0 (stC s) 53 → V.cell? ⟨g0, 2, none⟩ = some (.int .i64 s.i) := fun V hV => (hV.cell 2).trans rfl
  have c3 : ∀ V, Blk V g0 (stC s) 53 → V.cell? ⟨g0, 3, none⟩ = some (.int .u8 (s.fill.toNat : Int)) := fun V hV => (hV.cell 3).trans rfl
  have c4 : ∀ V, Blk V g0 (stC s) 53 → V.cell? ⟨g0, 4, none⟩ = some s.vb := fun V hV => (hV.cell 4).trans rfl
  have hd0 := h0.below (below_drawn w0)
  have bd0 := b0.on (below_drawn w0)
  have hsd := hs0.below (below_drawn w0)
  obtain ⟨wd, hwd⟩ : ∃ wd, { w0 with drawn := w0.drawn + 1 } = wd := ⟨_, rfl⟩
  have bed : Below w0.heap.size w0 wd := by rw [← hwd]; exact below_drawn w0
  rw [hwd] at hd0 bd0 hsd
  have hsec := sector_any s.fill s.vb s.b hsd.bl wd hsd.hb
  have bS : Blk (wd.alloc (.cells ((secL s.fill s.b).map byt).toArray 5)) wd.heap.size ((secL s.fill s.b).map byt) 5 := Blk.new _ _ _
  have beS : Below wd.heap.size wd (wd.alloc (.cells ((secL s.fill s.b).map byt).toArray 5)) := below_new _ _
  obtain ⟨wS, hwS⟩ : ∃ wS, wd.alloc (.cells ((secL s.fill s.b).map byt).toArray 5) = wS := ⟨_, rfl⟩
  rw [hwS] at hsec bS beS
  have hS := hd0.below beS
  have hbS := bd0.on beS
  have hl5 := secL_length s.fill s.b
  have beW : Below W.heap.size W wS := be0.trans ((bed.trans (beS.mono bed.size)).mono be0.size)
  have hwr := writes_law hS.two s.i (bV wd.heap.size) (secL s.fill s.b) (Blk.hasB bS hl5) (fun k _ hk hF => by
    have hk : wd.heap.size = k := by simpa [bV, Value.ownBlock] using hk
    have := hd0.two.lt k hF; omega) (by omega) (by omega) (by omega) hleft
  have hwr2 : Calls Try.prog 49 #[.pointer (some ⟨L.p, 0, none⟩), .pointer (some ⟨R.p, 0, none⟩), .int .i64 s.i, bV wd.heap.size] wS fun e w' => e = .returned (.bool true) ∧ ((∃ L' R', Two w' L' R' (wrD D s.i (secL s.fill s.b)) ∧ St2 wS w' L L' R R') ∧ Blk w' g0 (stC s) 53) := hwr.mono fun e w' ⟨h1, L', R', h2, h3⟩ => ⟨h1, ⟨L', R', h2, h3⟩, hbS.fx h3.fx (fun hF => by have := h.two.lt g0 hF; omega)⟩
  refine calls_of_args [.pointer (some ⟨L.p, 0, none⟩), .pointer (some ⟨R.p, 0, none⟩), .agg (stC s).toArray, .pointer (some ⟨B.p, 0, none⟩)] Try.func31 rfl 93 Try.ntmps31 (by show 4 ≤ 93; decide) ?_
  refine EW.seq ?_
  refine EW.region ?_
  refine WL.box rfl rfl rfl hbox ?_
  first | refine WL.assign rfl rfl rfl ?_
  refine WL.done ?_
  refine EW.on ?_
  refine EW.seq ?_
  refine EW.seq ?_
  refine EW.region ?_
  first | refine WL.field rfl rfl rfl (fld53_0 _ _) ?_
  refine WL.load rfl rfl rfl (ld3 p0) ?_
  refine WL.done ?_
  refine EW.on ?_
  refine EW.block ?_
  refine EW.seq ?_
  refine EW.region ?_
  refine WL.bin rfl rfl rfl rfl (int_eq_f n1 _ _ _) ?_
  first | refine WL.assign rfl rfl rfl ?_
  refine WL.done ?_
  refine EW.on ?_
  refine EW.cond_f rfl ?_
  refine EW.seq ?_
  refine EW.region ?_
  refine WL.bin rfl rfl rfl rfl (int_eq_t n2 _ _ _) ?_
  first | refine WL.assign rfl rfl rfl ?_
  refine WL.done ?_
  refine EW.on ?_
  refine EW.cond_t rfl ?_
  refine EW.seq ?_
  refine EW.ord [(0, false), (1, false), (2, false), (3, false), (4, false), (5, false), (6, false), (7, false), (8, true), (9, true), (10, false)] (fun V => Blk V g0 (stC s) 53) (by kernel_rfl) rfl (by kernel_rfl) (by rw [hwd]; exact bd0) ?_
  rw [hwd]
  simp only [ordOps, List.getD_cons_zero, List.getD_cons_succ]
  refine OE.move rfl rfl rfl ?_
  refine OE.move rfl rfl rfl ?_
  refine OE.field rfl rfl rfl (fun V => fld53_2 _ V) ?_
  refine OE.load rfl rfl rfl (fun V hV => ld3 (c2 V hV)) ?_
  refine OE.field rfl rfl rfl (fun V => f53_3 _ V) ?_
  refine OE.load rfl rfl rfl (fun V hV => ld5 (c3 V hV)) ?_
  refine OE.field rfl rfl rfl (fun V => f53_4 _ V) ?_
  refine OE.load rfl rfl rfl (fun V hV => ld34 (c4 V hV)) ?_
  refine OE.callW [.int .u8 (s.fill.toNat : Int), s.vb] _ (fun V => Blk V g0 (stC s) 53) enter13 rfl rfl rfl hbS (fun V h => h) hsec ?_
  refine OE.call [.pointer (some ⟨L.p, 0, none⟩), .pointer (some ⟨R.p, 0, none⟩), .int .i64 s.i, bV wd.heap.size] (.bool true) (fun V => Blk V g0 (stC s) 53) (fun V => (∃ L' R', Two V L' R' (wrD D s.i (secL s.fill s.b)) ∧ St2 wS V L L' R R') ∧ Blk V g0 (stC s) 53) enter49 rfl rfl rfl (fun V hV => hV.2) (fun V h => h) (fun V hV => by rw [hV]; exact hwr2) ?_
  refine OE.assign rfl rfl rfl ?_
  refine fun a ha w5 hW => ?_
  obtain ⟨⟨L5, R5, k5, st5⟩, _⟩ := hW
  revert a ha
  obtain ⟨k6, st6⟩ := h.pair k5 ((St2.below beW).trans st5) (show c ≤ c + D.pen.length + 2 by omega)
  refine EW.on ?_
  refine EW.ret ?_
  repeat (first | refine pr_then ?_ | refine pr_block ?_)
  exact EW.returns Try.results31 rfl ⟨rfl, L5, R5, B, _, k6, st6, go_wr D s.i _ hleft⟩
set_option maxRecDepth 100000 in
set_option maxHeartbeats 1000000 in
theorem py_raw {W : World} {L : Lay} {R : Rl} {D : Dv} {B : Bl} {c : Nat} (h : Three' W L R D B c) (hc : c ≤ 200000) (hpl : D.pen.length ≤ 100000) (hcal : D.calls < 1000000000) (hleft : D.left < 9223372036854775808) (s : Stp) (hs : s.ok W) (hkl : s.ks.length ≤ 100000000) (hbl : s.b.length ≤ 1000000000) (hsn : ∀ k, (s.b ≠ [] ∧ s.vb.ownBlock = some k) ∨ (s.ks ≠ [] ∧ s.vk.ownBlock = some k) → ¬ (L.F k ∨ R.F k)) (n1 : ¬ s.kind = 1) (n2 : ¬ s.kind = 2) (n3 : s.kind = 3) :
    Calls Try.prog 31 #[.pointer (some ⟨L.p, 0, none⟩), .pointer (some ⟨R.p, 0, none⟩), .agg (stC s).toArray, .pointer (some ⟨B.p, 0, none⟩)] W fun e w' => e = .returned (.bool true) ∧ ∃ L' R' B' D', Three' w' L' R' D' B' (c + D.pen.length + 2) ∧ St3 W w' L L' R R' B B' ∧ Dgo D D' := by
  obtain ⟨g0, hg0⟩ : ∃ g, W.heap.size = g := ⟨_, rfl⟩
  have hbox := run_boxR (P := Try.prog) 53 (stC s) W g0 hg0
  have b0 : Blk (W.alloc (.cells (stC s).toArray 53)) g0 (stC s) 53 := Blk.newAt hg0
  have be0 : Below W.heap.size W (W.alloc (.cells (stC s).toArray 53)) := below_new W _
  have sz0 : (W.alloc (.cells (stC s).toArray 53)).heap.size = g0 + 1 := by simp [hg0]
  obtain ⟨w0, hw0⟩ : ∃ w0, W.alloc (.cells (stC s).toArray 53) = w0 := ⟨_, rfl⟩
  rw [hw0] at hbox b0 be0 sz0
  have h0 := h.below be0
  have hs0 := hs.below be0
  have p0 := (b0.cell 0).trans (show _ = some (.int .i64 s.kind) from rfl)
  have p2 := (b0.cell 2).trans (show _ = some (.int .i64 s.i) from rfl)
  have p3 := (b0.cell 3).trans (show _ = some (.int .u8 (s.fill.toNat : Int)) from rfl)
  have p4 := (b0.cell 4).trans (show _ = some s.vb from rfl)
  have hwr := writes_law h0.two s.i s.vb s.b hs0.hb (fun k hn hk => hsn k (.inl ⟨hn, hk⟩)) hbl (by omega) (by omega) hleft
  refine calls_of_args [.pointer (some ⟨L.p, 0, none⟩), .pointer (some ⟨R.p, 0, none⟩), .agg (stC s).toArray, .pointer (some ⟨B.p, 0, none⟩)] Try.func31 rfl 93 Try.ntmps31 (by show 4 ≤ 93; decide) ?_
  refine EW.seq ?_
  refine EW.region ?_
  refine WL.box rfl rfl rfl hbox ?_
  first | refine WL.assign rfl rfl rfl ?_
  refine WL.done ?_
  refine EW.on ?_
  refine EW.seq ?_
  refine EW.seq ?_
  refine EW.region ?_
  first | refine WL.field rfl rfl rfl (fld53_0 _ _) ?_
  refine WL.load rfl rfl rfl (ld3 p0) ?_
  refine WL.done ?_
  refine EW.on ?_
  refine EW.block ?_
  refine EW.seq ?_
  refine EW.region ?_
  refine WL.bin rfl rfl rfl rfl (int_eq_f n1 _ _ _) ?_
  first | refine WL.assign rfl rfl rfl ?_
  refine WL.done ?_
  refine EW.on ?_
  refine EW.cond_f rfl ?_
  refine EW.seq ?_
  refine EW.region ?_
  refine WL.bin rfl rfl rfl rfl (int_eq_f n2 _ _ _) ?_
  first | refine WL.assign rfl rfl rfl ?_
  refine WL.done ?_
  refine EW.on ?_
  refine EW.cond_f rfl ?_
  refine EW.seq ?_
  refine EW.region ?_
  refine WL.bin rfl rfl rfl rfl (int_eq_t n3 _ _ _) ?_
  first | refine WL.assign rfl rfl rfl ?_
  refine WL.done ?_
  refine EW.on ?_
  refine EW.cond_t rfl ?_
  refine EW.seq ?_
  refine EW.region ?_
  first | refine WL.move rfl rfl rfl ?_
  first | refine WL.move rfl rfl rfl ?_
  refine WL.field rfl rfl rfl (fld53_2 _ _) ?_
  refine WL.load rfl rfl rfl (ld3 p2) ?_
  refine WL.field rfl rfl rfl (f53_4 _ _) ?_
  refine WL.load rfl rfl rfl (ld34 p4) ?_
  refine WL.call [.pointer (some ⟨L.p, 0, none⟩), .pointer (some ⟨R.p, 0, none⟩), .int .i64 s.i, s.vb] enter49 rfl rfl rfl hwr ?_
  rintro x w5 ⟨rfl, L5, R5, k5, st5⟩
  refine ⟨_, rfl, ?_⟩
  first | refine WL.assign rfl rfl rfl ?_
  refine WL.done ?_
  obtain ⟨k6, st6⟩ := h.pair k5 ((St2.below be0).trans st5) (show c ≤ c + D.pen.length + 2 by omega)
  refine EW.on ?_
  refine EW.ret ?_
  repeat (first | refine pr_then ?_ | refine pr_block ?_)
  exact EW.returns Try.results31 rfl ⟨rfl, L5, R5, B, _, k6, st6, go_wr D s.i _ hleft⟩
set_option maxRecDepth 100000 in
set_option maxHeartbeats 1000000 in
theorem py_flush {W : World} {L : Lay} {R : Rl} {D : Dv} {B : Bl} {c : Nat} (h : Three' W L R D B c) (hc : c ≤ 200000) (hpl : D.pen.length ≤ 100000) (hcal : D.calls < 1000000000) (hleft : D.left < 9223372036854775808) (s : Stp) (hs : s.ok W) (hkl : s.ks.length ≤ 100000000) (hbl : s.b.length ≤ 1000000000) (hsn : ∀ k, (s.b ≠ [] ∧ s.vb.ownBlock = some k) ∨ (s.ks ≠ [] ∧ s.vk.ownBlock = some k) → ¬ (L.F k ∨ R.F k)) (n1 : ¬ s.kind = 1) (n2 : ¬ s.kind = 2) (n3 : ¬ s.kind = 3) (n4 : s.kind = 4) :
    Calls Try.prog 31 #[.pointer (some ⟨L.p, 0, none⟩), .pointer (some ⟨R.p, 0, none⟩), .agg (stC s).toArray, .pointer (some ⟨B.p, 0, none⟩)] W fun e w' => e = .returned (.bool true) ∧ ∃ L' R' B' D', Three' w' L' R' D' B' (c + D.pen.length + 2) ∧ St3 W w' L L' R R' B B' ∧ Dgo D D' := by
  obtain ⟨g0, hg0⟩ : ∃ g, W.heap.size = g := ⟨_, rfl⟩
  have hbox := run_boxR (P := Try.prog) 53 (stC s) W g0 hg0
  have b0 : Blk (W.alloc (.cells (stC s).toArray 53)) g0 (stC s) 53 := Blk.newAt hg0
  have be0 : Below W.heap.size W (W.alloc (.cells (stC s).toArray 53)) := below_new W _
  have sz0 : (W.alloc (.cells (stC s).toArray 53)).heap.size = g0 + 1 := by simp [hg0]
  obtain ⟨w0, hw0⟩ : ∃ w0, W.alloc (.cells (stC s).toArray 53) = w0 := ⟨_, rfl⟩
  rw [hw0] at hbox b0 be0 sz0
  have h0 := h.below be0
  have hs0 := hs.below be0
  have p0 := (b0.cell 0).trans (show _ = some (.int .i64 s.kind) from rfl)
  have p2 := (b0.cell 2).trans (show _ = some (.int .i64 s.i) from rfl)
  have p3 := (b0.cell 3).trans (show _ = some (.int .u8 (s.fill.toNat : Int)) from rfl)
  have p4 := (b0.cell 4).trans (show _ = some s.vb from rfl)
  have hdf := dev_flush h0.two.dev (by omega) hleft
  refine calls_of_args [.pointer (some ⟨L.p, 0, none⟩), .pointer (some ⟨R.p, 0, none⟩), .agg (stC s).toArray, .pointer (some ⟨B.p, 0, none⟩)] Try.func31 rfl 93 Try.ntmps31 (by show 4 ≤ 93; decide) ?_
  refine EW.seq ?_
  refine EW.region ?_
  refine WL.box rfl rfl rfl hbox ?_
  first | refine WL.assign rfl rfl rfl ?_
  refine WL.done ?_
  refine EW.on ?_
  refine EW.seq ?_
  refine EW.seq ?_
  refine EW.region ?_
  first | refine WL.field rfl rfl rfl (fld53_0 _ _) ?_
  refine WL.load rfl rfl rfl (ld3 p0) ?_
  refine WL.done ?_
  refine EW.on ?_
  refine EW.block ?_
  refine EW.seq ?_
  refine EW.region ?_
  refine WL.bin rfl rfl rfl rfl (int_eq_f n1 _ _ _) ?_
  first | refine WL.assign rfl rfl rfl ?_
  refine WL.done ?_
  refine EW.on ?_
  refine EW.cond_f rfl ?_
  refine EW.seq ?_
  refine EW.region ?_
  refine WL.bin rfl rfl rfl rfl (int_eq_f n2 _ _ _) ?_
  first | refine WL.assign rfl rfl rfl ?_
  refine WL.done ?_
  refine EW.on ?_
  refine EW.cond_f rfl ?_
  refine EW.seq ?_
  refine EW.region ?_
  refine WL.bin rfl rfl rfl rfl (int_eq_f n3 _ _ _) ?_
  first | refine WL.assign rfl rfl rfl ?_
  refine WL.done ?_
  refine EW.on ?_
  refine EW.cond_f rfl ?_
  refine EW.seq ?_
  refine EW.region ?_
  refine WL.bin rfl rfl rfl rfl (int_eq_t n4 _ _ _) ?_
  first | refine WL.assign rfl rfl rfl ?_
  refine WL.done ?_
  refine EW.on ?_
  refine EW.cond_t rfl ?_
  refine EW.seq ?_
  refine EW.region ?_
  first | refine WL.move rfl rfl rfl ?_
  refine WL.call [.pointer (some ⟨L.p, 0, none⟩)] enter26 rfl rfl rfl hdf ?_
  rintro x w1 ⟨rfl, L1, ht1, hd1⟩
  refine ⟨_, rfl, ?_⟩
  first | refine WL.assign rfl rfl rfl ?_
  refine WL.done ?_
  have hrf := ref_flush (h0.two.mid ht1) (by omega) hleft
  refine EW.on ?_
  refine EW.seq ?_
  refine EW.region ?_
  first | refine WL.move rfl rfl rfl ?_
  refine WL.call [.pointer (some ⟨R.p, 0, none⟩)] enter50 rfl rfl rfl hrf ?_
  rintro x w2 ⟨rfl, R2, ht2, hr2⟩
  refine ⟨_, rfl, ?_⟩
  first | refine WL.assign rfl rfl rfl ?_
  refine WL.done ?_
  obtain ⟨k5, st5⟩ := h0.two.step ht1 hd1 ht2 hr2
  obtain ⟨k6, st6⟩ := h.pair k5 ((St2.below be0).trans st5) (show c ≤ c + D.pen.length + 2 by omega)
  refine EW.on ?_
  refine EW.seq ?_
  refine EW.region ?_
  first | refine WL.move rfl rfl rfl ?_
  first | refine WL.move rfl rfl rfl ?_
  refine WL.bin rfl rfl rfl rfl (int_eq_t rfl _ _ _) ?_
  first | refine WL.assign rfl rfl rfl ?_
  refine WL.done ?_
  refine EW.on ?_
  refine EW.ret ?_
  repeat (first | refine pr_then ?_ | refine pr_block ?_)
  exact EW.returns Try.results31 rfl ⟨rfl, L1, R2, B, _, k6, st6, go_fl D hleft⟩
set_option maxRecDepth 100000 in
set_option maxHeartbeats 1000000 in
theorem py_arm {W : World} {L : Lay} {R : Rl} {D : Dv} {B : Bl} {c : Nat} (h : Three' W L R D B c) (hc : c ≤ 200000) (hpl : D.pen.length ≤ 100000) (hcal : D.calls < 1000000000) (hleft : D.left < 9223372036854775808) (s : Stp) (hs : s.ok W) (hkl : s.ks.length ≤ 100000000) (hbl : s.b.length ≤ 1000000000) (hsn : ∀ k, (s.b ≠ [] ∧ s.vb.ownBlock = some k) ∨ (s.ks ≠ [] ∧ s.vk.ownBlock = some k) → ¬ (L.F k ∨ R.F k)) (n1 : ¬ s.kind = 1) (n2 : ¬ s.kind = 2) (n3 : ¬ s.kind = 3) (n4 : ¬ s.kind = 4) (n5 : s.kind = 5) :
    Calls Try.prog 31 #[.pointer (some ⟨L.p, 0, none⟩), .pointer (some ⟨R.p, 0, none⟩), .agg (stC s).toArray, .pointer (some ⟨B.p, 0, none⟩)] W fun e w' => e = .returned (.bool true) ∧ ∃ L' R' B' D', Three' w' L' R' D' B' (c + D.pen.length + 2) ∧ St3 W w' L L' R R' B B' ∧ Dgo D D' := by
  obtain ⟨g0, hg0⟩ : ∃ g, W.heap.size = g := ⟨_, rfl⟩
  have hbox := run_boxR (P := Try.prog) 53 (stC s) W g0 hg0
  have b0 : Blk (W.alloc (.cells (stC s).toArray 53)) g0 (stC s) 53 := Blk.newAt hg0
  have be0 : Below W.heap.size W (W.alloc (.cells (stC s).toArray 53)) := below_new W _
  have sz0 : (W.alloc (.cells (stC s).toArray 53)).heap.size = g0 + 1 := by simp [hg0]
  obtain ⟨w0, hw0⟩ : ∃ w0, W.alloc (.cells (stC s).toArray 53) = w0 := ⟨_, rfl⟩
  rw [hw0] at hbox b0 be0 sz0
  have h0 := h.below be0
  have hs0 := hs.below be0
  have p0 := (b0.cell 0).trans (show _ = some (.int .i64 s.kind) from rfl)
  have p2 := (b0.cell 2).trans (show _ = some (.int .i64 s.i) from rfl)
  have p3 := (b0.cell 3).trans (show _ = some (.int .u8 (s.fill.toNat : Int)) from rfl)
  have p4 := (b0.cell 4).trans (show _ = some s.vb from rfl)
  have hfa := fails_arm h0.two s hs0 hkl (fun k hn hk => hsn k (.inr ⟨hn, hk⟩)) hleft n5
  refine calls_of_args [.pointer (some ⟨L.p, 0, none⟩), .pointer (some ⟨R.p, 0, none⟩), .agg (stC s).toArray, .pointer (some ⟨B.p, 0, none⟩)] Try.func31 rfl 93 Try.ntmps31 (by show 4 ≤ 93; decide) ?_
  refine EW.seq ?_
  refine EW.region ?_
  refine WL.box rfl rfl rfl hbox ?_
  first | refine WL.assign rfl rfl rfl ?_
  refine WL.done ?_
  refine EW.on ?_
  refine EW.seq ?_
  refine EW.seq ?_
  refine EW.region ?_
  first | refine WL.field rfl rfl rfl (fld53_0 _ _) ?_
  refine WL.load rfl rfl rfl (ld3 p0) ?_
  refine WL.done ?_
  refine EW.on ?_
  refine EW.block ?_
  refine EW.seq ?_
  refine EW.region ?_
  refine WL.bin rfl rfl rfl rfl (int_eq_f n1 _ _ _) ?_
  first | refine WL.assign rfl rfl rfl ?_
  refine WL.done ?_
  refine EW.on ?_
  refine EW.cond_f rfl ?_
  refine EW.seq ?_
  refine EW.region ?_
  refine WL.bin rfl rfl rfl rfl (int_eq_f n2 _ _ _) ?_
  first | refine WL.assign rfl rfl rfl ?_
  refine WL.done ?_
  refine EW.on ?_
  refine EW.cond_f rfl ?_
  refine EW.seq ?_
  refine EW.region ?_
  refine WL.bin rfl rfl rfl rfl (int_eq_f n3 _ _ _) ?_
  first | refine WL.assign rfl rfl rfl ?_
  refine WL.done ?_
  refine EW.on ?_
  refine EW.cond_f rfl ?_
  refine EW.seq ?_
  refine EW.region ?_
  refine WL.bin rfl rfl rfl rfl (int_eq_f n4 _ _ _) ?_
  first | refine WL.assign rfl rfl rfl ?_
  refine WL.done ?_
  refine EW.on ?_
  refine EW.cond_f rfl ?_
  refine EW.seq ?_
  refine EW.seq ?_
  refine EW.region ?_
  refine WL.bin rfl rfl rfl rfl (int_eq_t n5 _ _ _) ?_
  first | refine WL.assign rfl rfl rfl ?_
  refine WL.done ?_
  refine EW.on ?_
  refine EW.cond_t rfl ?_
  refine EW.skip ?_
  refine EW.on ?_
  refine EW.cond_t rfl ?_
  refine EW.seq ?_
  refine EW.region ?_
  first | refine WL.move rfl rfl rfl ?_
  first | refine WL.move rfl rfl rfl ?_
  refine WL.load rfl rfl rfl (run_loadR b0 Try.underlying53 rfl (info53 s)) ?_
  refine WL.call [.pointer (some ⟨L.p, 0, none⟩), .pointer (some ⟨R.p, 0, none⟩), .agg (stC s).toArray] enter51 rfl rfl rfl hfa ?_
  rintro x w5 ⟨rfl, L5, R5, D5, k5, st5, go5⟩
  refine ⟨_, rfl, ?_⟩
  first | refine WL.assign rfl rfl rfl ?_
  refine WL.done ?_
  obtain ⟨k6, st6⟩ := h.pair k5 ((St2.below be0).trans st5) (show c ≤ c + D.pen.length + 2 by omega)
  refine EW.on ?_
  refine EW.ret ?_
  repeat (first | refine pr_then ?_ | refine pr_block ?_)
  exact EW.returns Try.results31 rfl ⟨rfl, L5, R5, B, D5, k6, st6, go5⟩
set_option maxRecDepth 100000 in
set_option maxHeartbeats 1000000 in
theorem py_armed {W : World} {L : Lay} {R : Rl} {D : Dv} {B : Bl} {c : Nat} (h : Three' W L R D B c) (hc : c ≤ 200000) (hpl : D.pen.length ≤ 100000) (hcal : D.calls < 1000000000) (hleft : D.left < 9223372036854775808) (s : Stp) (hs : s.ok W) (hkl : s.ks.length ≤ 100000000) (hbl : s.b.length ≤ 1000000000) (hsn : ∀ k, (s.b ≠ [] ∧ s.vb.ownBlock = some k) ∨ (s.ks ≠ [] ∧ s.vk.ownBlock = some k) → ¬ (L.F k ∨ R.F k)) (n1 : ¬ s.kind = 1) (n2 : ¬ s.kind = 2) (n3 : ¬ s.kind = 3) (n4 : ¬ s.kind = 4) (n5 : ¬ s.kind = 5) (n6 : s.kind = 6) :
    Calls Try.prog 31 #[.pointer (some ⟨L.p, 0, none⟩), .pointer (some ⟨R.p, 0, none⟩), .agg (stC s).toArray, .pointer (some ⟨B.p, 0, none⟩)] W fun e w' => e = .returned (.bool true) ∧ ∃ L' R' B' D', Three' w' L' R' D' B' (c + D.pen.length + 2) ∧ St3 W w' L L' R R' B B' ∧ Dgo D D' := by
  obtain ⟨g0, hg0⟩ : ∃ g, W.heap.size = g := ⟨_, rfl⟩
  have hbox := run_boxR (P := Try.prog) 53 (stC s) W g0 hg0
  have b0 : Blk (W.alloc (.cells (stC s).toArray 53)) g0 (stC s) 53 := Blk.newAt hg0
  have be0 : Below W.heap.size W (W.alloc (.cells (stC s).toArray 53)) := below_new W _
  have sz0 : (W.alloc (.cells (stC s).toArray 53)).heap.size = g0 + 1 := by simp [hg0]
  obtain ⟨w0, hw0⟩ : ∃ w0, W.alloc (.cells (stC s).toArray 53) = w0 := ⟨_, rfl⟩
  rw [hw0] at hbox b0 be0 sz0
  have h0 := h.below be0
  have hs0 := hs.below be0
  have p0 := (b0.cell 0).trans (show _ = some (.int .i64 s.kind) from rfl)
  have p2 := (b0.cell 2).trans (show _ = some (.int .i64 s.i) from rfl)
  have p3 := (b0.cell 3).trans (show _ = some (.int .u8 (s.fill.toNat : Int)) from rfl)
  have p4 := (b0.cell 4).trans (show _ = some s.vb from rfl)
  have hfa := fails_armed h0.two s hs0 hkl (fun k hn hk => hsn k (.inr ⟨hn, hk⟩)) hleft n5 n6
  refine calls_of_args [.pointer (some ⟨L.p, 0, none⟩), .pointer (some ⟨R.p, 0, none⟩), .agg (stC s).toArray, .pointer (some ⟨B.p, 0, none⟩)] Try.func31 rfl 93 Try.ntmps31 (by show 4 ≤ 93; decide) ?_
  refine EW.seq ?_
  refine EW.region ?_
  refine WL.box rfl rfl rfl hbox ?_
  first | refine WL.assign rfl rfl rfl ?_
  refine WL.done ?_
  refine EW.on ?_
  refine EW.seq ?_
  refine EW.seq ?_
  refine EW.region ?_
  first | refine WL.field rfl rfl rfl (fld53_0 _ _) ?_
  refine WL.load rfl rfl rfl (ld3 p0) ?_
  refine WL.done ?_
  refine EW.on ?_
  refine EW.block ?_
  refine EW.seq ?_
  refine EW.region ?_
  refine WL.bin rfl rfl rfl rfl (int_eq_f n1 _ _ _) ?_
  first | refine WL.assign rfl rfl rfl ?_
  refine WL.done ?_
  refine EW.on ?_
  refine EW.cond_f rfl ?_
  refine EW.seq ?_
  refine EW.region ?_
  refine WL.bin rfl rfl rfl rfl (int_eq_f n2 _ _ _) ?_
  first | refine WL.assign rfl rfl rfl ?_
  refine WL.done ?_
  refine EW.on ?_
  refine EW.cond_f rfl ?_
  refine EW.seq ?_
  refine EW.region ?_
  refine WL.bin rfl rfl rfl rfl (int_eq_f n3 _ _ _) ?_
  first | refine WL.assign rfl rfl rfl ?_
  refine WL.done ?_
  refine EW.on ?_
  refine EW.cond_f rfl ?_
  refine EW.seq ?_
  refine EW.region ?_
  refine WL.bin rfl rfl rfl rfl (int_eq_f n4 _ _ _) ?_
  first | refine WL.assign rfl rfl rfl ?_
  refine WL.done ?_
  refine EW.on ?_
  refine EW.cond_f rfl ?_
  refine EW.seq ?_
  refine EW.seq ?_
  refine EW.region ?_
  refine WL.bin rfl rfl rfl rfl (int_eq_f n5 _ _ _) ?_
  first | refine WL.assign rfl rfl rfl ?_
  refine WL.done ?_
  refine EW.on ?_
  refine EW.cond_f rfl ?_
  refine EW.seq ?_
  refine EW.region ?_
  refine WL.bin rfl rfl rfl rfl (int_eq_t n6 _ _ _) ?_
  first | refine WL.assign rfl rfl rfl ?_
  refine WL.done ?_
  refine EW.on ?_
  refine EW.cond_t rfl ?_
  refine EW.skip ?_
  refine EW.on ?_
  refine EW.cond_t rfl ?_
  refine EW.seq ?_
  refine EW.region ?_
  first | refine WL.move rfl rfl rfl ?_
  first | refine WL.move rfl rfl rfl ?_
  refine WL.load rfl rfl rfl (run_loadR b0 Try.underlying53 rfl (info53 s)) ?_
  refine WL.call [.pointer (some ⟨L.p, 0, none⟩), .pointer (some ⟨R.p, 0, none⟩), .agg (stC s).toArray] enter51 rfl rfl rfl hfa ?_
  rintro x w5 ⟨rfl, L5, R5, D5, k5, st5, go5⟩
  refine ⟨_, rfl, ?_⟩
  first | refine WL.assign rfl rfl rfl ?_
  refine WL.done ?_
  obtain ⟨k6, st6⟩ := h.pair k5 ((St2.below be0).trans st5) (show c ≤ c + D.pen.length + 2 by omega)
  refine EW.on ?_
  refine EW.ret ?_
  repeat (first | refine pr_then ?_ | refine pr_block ?_)
  exact EW.returns Try.results31 rfl ⟨rfl, L5, R5, B, D5, k6, st6, go5⟩
set_option maxRecDepth 100000 in
set_option maxHeartbeats 1000000 in
theorem py_crash {W : World} {L : Lay} {R : Rl} {D : Dv} {B : Bl} {c : Nat} (h : Three' W L R D B c) (hc : c ≤ 200000) (hpl : D.pen.length ≤ 100000) (hcal : D.calls < 1000000000) (hleft : D.left < 9223372036854775808) (s : Stp) (hs : s.ok W) (hkl : s.ks.length ≤ 100000000) (hbl : s.b.length ≤ 1000000000) (hsn : ∀ k, (s.b ≠ [] ∧ s.vb.ownBlock = some k) ∨ (s.ks ≠ [] ∧ s.vk.ownBlock = some k) → ¬ (L.F k ∨ R.F k)) (n1 : ¬ s.kind = 1) (n2 : ¬ s.kind = 2) (n3 : ¬ s.kind = 3) (n4 : ¬ s.kind = 4) (n5 : ¬ s.kind = 5) (n6 : ¬ s.kind = 6) (n7 : s.kind = 7) :
    Calls Try.prog 31 #[.pointer (some ⟨L.p, 0, none⟩), .pointer (some ⟨R.p, 0, none⟩), .agg (stC s).toArray, .pointer (some ⟨B.p, 0, none⟩)] W fun e w' => e = .returned (.bool true) ∧ ∃ L' R' B' D', Three' w' L' R' D' B' (c + D.pen.length + 2) ∧ St3 W w' L L' R R' B B' ∧ Dgo D D' := by
  obtain ⟨g0, hg0⟩ : ∃ g, W.heap.size = g := ⟨_, rfl⟩
  have hbox := run_boxR (P := Try.prog) 53 (stC s) W g0 hg0
  have b0 : Blk (W.alloc (.cells (stC s).toArray 53)) g0 (stC s) 53 := Blk.newAt hg0
  have be0 : Below W.heap.size W (W.alloc (.cells (stC s).toArray 53)) := below_new W _
  have sz0 : (W.alloc (.cells (stC s).toArray 53)).heap.size = g0 + 1 := by simp [hg0]
  obtain ⟨w0, hw0⟩ : ∃ w0, W.alloc (.cells (stC s).toArray 53) = w0 := ⟨_, rfl⟩
  rw [hw0] at hbox b0 be0 sz0
  have h0 := h.below be0
  have hs0 := hs.below be0
  have p0 := (b0.cell 0).trans (show _ = some (.int .i64 s.kind) from rfl)
  have p2 := (b0.cell 2).trans (show _ = some (.int .i64 s.i) from rfl)
  have p3 := (b0.cell 3).trans (show _ = some (.int .u8 (s.fill.toNat : Int)) from rfl)
  have p4 := (b0.cell 4).trans (show _ = some s.vb from rfl)
  have hfa := fails_crash h0.two s hs0 hkl (fun k hn hk => hsn k (.inr ⟨hn, hk⟩)) hleft n5 n6 n7
  refine calls_of_args [.pointer (some ⟨L.p, 0, none⟩), .pointer (some ⟨R.p, 0, none⟩), .agg (stC s).toArray, .pointer (some ⟨B.p, 0, none⟩)] Try.func31 rfl 93 Try.ntmps31 (by show 4 ≤ 93; decide) ?_
  refine EW.seq ?_
  refine EW.region ?_
  refine WL.box rfl rfl rfl hbox ?_
  first | refine WL.assign rfl rfl rfl ?_
  refine WL.done ?_
  refine EW.on ?_
  refine EW.seq ?_
  refine EW.seq ?_
  refine EW.region ?_
  first | refine WL.field rfl rfl rfl (fld53_0 _ _) ?_
  refine WL.load rfl rfl rfl (ld3 p0) ?_
  refine WL.done ?_
  refine EW.on ?_
  refine EW.block ?_
  refine EW.seq ?_
  refine EW.region ?_
  refine WL.bin rfl rfl rfl rfl (int_eq_f n1 _ _ _) ?_
  first | refine WL.assign rfl rfl rfl ?_
  refine WL.done ?_
  refine EW.on ?_
  refine EW.cond_f rfl ?_
  refine EW.seq ?_
  refine EW.region ?_
  refine WL.bin rfl rfl rfl rfl (int_eq_f n2 _ _ _) ?_
  first | refine WL.assign rfl rfl rfl ?_
  refine WL.done ?_
  refine EW.on ?_
  refine EW.cond_f rfl ?_
  refine EW.seq ?_
  refine EW.region ?_
  refine WL.bin rfl rfl rfl rfl (int_eq_f n3 _ _ _) ?_
  first | refine WL.assign rfl rfl rfl ?_
  refine WL.done ?_
  refine EW.on ?_
  refine EW.cond_f rfl ?_
  refine EW.seq ?_
  refine EW.region ?_
  refine WL.bin rfl rfl rfl rfl (int_eq_f n4 _ _ _) ?_
  first | refine WL.assign rfl rfl rfl ?_
  refine WL.done ?_
  refine EW.on ?_
  refine EW.cond_f rfl ?_
  refine EW.seq ?_
  refine EW.seq ?_
  refine EW.region ?_
  refine WL.bin rfl rfl rfl rfl (int_eq_f n5 _ _ _) ?_
  first | refine WL.assign rfl rfl rfl ?_
  refine WL.done ?_
  refine EW.on ?_
  refine EW.cond_f rfl ?_
  refine EW.seq ?_
  refine EW.region ?_
  refine WL.bin rfl rfl rfl rfl (int_eq_f n6 _ _ _) ?_
  first | refine WL.assign rfl rfl rfl ?_
  refine WL.done ?_
  refine EW.on ?_
  refine EW.cond_f rfl ?_
  refine EW.seq ?_
  refine EW.region ?_
  refine WL.bin rfl rfl rfl rfl (int_eq_t n7 _ _ _) ?_
  first | refine WL.assign rfl rfl rfl ?_
  refine WL.done ?_
  refine EW.on ?_
  refine EW.cond_t rfl ?_
  refine EW.skip ?_
  refine EW.on ?_
  refine EW.cond_t rfl ?_
  refine EW.seq ?_
  refine EW.region ?_
  first | refine WL.move rfl rfl rfl ?_
  first | refine WL.move rfl rfl rfl ?_
  refine WL.load rfl rfl rfl (run_loadR b0 Try.underlying53 rfl (info53 s)) ?_
  refine WL.call [.pointer (some ⟨L.p, 0, none⟩), .pointer (some ⟨R.p, 0, none⟩), .agg (stC s).toArray] enter51 rfl rfl rfl hfa ?_
  rintro x w5 ⟨rfl, L5, R5, D5, k5, st5, go5⟩
  refine ⟨_, rfl, ?_⟩
  first | refine WL.assign rfl rfl rfl ?_
  refine WL.done ?_
  obtain ⟨k6, st6⟩ := h.pair k5 ((St2.below be0).trans st5) (show c ≤ c + D.pen.length + 2 by omega)
  refine EW.on ?_
  refine EW.ret ?_
  repeat (first | refine pr_then ?_ | refine pr_block ?_)
  exact EW.returns Try.results31 rfl ⟨rfl, L5, R5, B, D5, k6, st6, go5⟩
set_option maxRecDepth 100000 in
set_option maxHeartbeats 1000000 in
theorem py_up {W : World} {L : Lay} {R : Rl} {D : Dv} {B : Bl} {c : Nat} (h : Three' W L R D B c) (hc : c ≤ 200000) (hpl : D.pen.length ≤ 100000) (hcal : D.calls < 1000000000) (hleft : D.left < 9223372036854775808) (s : Stp) (hs : s.ok W) (hkl : s.ks.length ≤ 100000000) (hbl : s.b.length ≤ 1000000000) (hsn : ∀ k, (s.b ≠ [] ∧ s.vb.ownBlock = some k) ∨ (s.ks ≠ [] ∧ s.vk.ownBlock = some k) → ¬ (L.F k ∨ R.F k)) (n1 : ¬ s.kind = 1) (n2 : ¬ s.kind = 2) (n3 : ¬ s.kind = 3) (n4 : ¬ s.kind = 4) (n5 : ¬ s.kind = 5) (n6 : ¬ s.kind = 6) (n7 : ¬ s.kind = 7) (n8 : s.kind = 8) :
    Calls Try.prog 31 #[.pointer (some ⟨L.p, 0, none⟩), .pointer (some ⟨R.p, 0, none⟩), .agg (stC s).toArray, .pointer (some ⟨B.p, 0, none⟩)] W fun e w' => e = .returned (.bool true) ∧ ∃ L' R' B' D', Three' w' L' R' D' B' (c + D.pen.length + 2) ∧ St3 W w' L L' R R' B B' ∧ Dgo D D' := by
  obtain ⟨g0, hg0⟩ : ∃ g, W.heap.size = g := ⟨_, rfl⟩
  have hbox := run_boxR (P := Try.prog) 53 (stC s) W g0 hg0
  have b0 : Blk (W.alloc (.cells (stC s).toArray 53)) g0 (stC s) 53 := Blk.newAt hg0
  have be0 : Below W.heap.size W (W.alloc (.cells (stC s).toArray 53)) := below_new W _
  have sz0 : (W.alloc (.cells (stC s).toArray 53)).heap.size = g0 + 1 := by simp [hg0]
  obtain ⟨w0, hw0⟩ : ∃ w0, W.alloc (.cells (stC s).toArray 53) = w0 := ⟨_, rfl⟩
  rw [hw0] at hbox b0 be0 sz0
  have h0 := h.below be0
  have hs0 := hs.below be0
  have p0 := (b0.cell 0).trans (show _ = some (.int .i64 s.kind) from rfl)
  have p2 := (b0.cell 2).trans (show _ = some (.int .i64 s.i) from rfl)
  have p3 := (b0.cell 3).trans (show _ = some (.int .u8 (s.fill.toNat : Int)) from rfl)
  have p4 := (b0.cell 4).trans (show _ = some s.vb from rfl)
  have hfa := fails_up h0.two s hs0 hkl (fun k hn hk => hsn k (.inr ⟨hn, hk⟩)) hleft n5 n6 n7
  refine calls_of_args [.pointer (some ⟨L.p, 0, none⟩), .pointer (some ⟨R.p, 0, none⟩), .agg (stC s).toArray, .pointer (some ⟨B.p, 0, none⟩)] Try.func31 rfl 93 Try.ntmps31 (by show 4 ≤ 93; decide) ?_
  refine EW.seq ?_
  refine EW.region ?_
  refine WL.box rfl rfl rfl hbox ?_
  first | refine WL.assign rfl rfl rfl ?_
  refine WL.done ?_
  refine EW.on ?_
  refine EW.seq ?_
  refine EW.seq ?_
  refine EW.region ?_
  first | refine WL.field rfl rfl rfl (fld53_0 _ _) ?_
  refine WL.load rfl rfl rfl (ld3 p0) ?_
  refine WL.done ?_
  refine EW.on ?_
  refine EW.block ?_
  refine EW.seq ?_
  refine EW.region ?_
  refine WL.bin rfl rfl rfl rfl (int_eq_f n1 _ _ _) ?_
  first | refine WL.assign rfl rfl rfl ?_
  refine WL.done ?_
  refine EW.on ?_
  refine EW.cond_f rfl ?_
  refine EW.seq ?_
  refine EW.region ?_
  refine WL.bin rfl rfl rfl rfl (int_eq_f n2 _ _ _) ?_
  first | refine WL.assign rfl rfl rfl ?_
  refine WL.done ?_
  refine EW.on ?_
  refine EW.cond_f rfl ?_
  refine EW.seq ?_
  refine EW.region ?_
  refine WL.bin rfl rfl rfl rfl (int_eq_f n3 _ _ _) ?_
  first | refine WL.assign rfl rfl rfl ?_
  refine WL.done ?_
  refine EW.on ?_
  refine EW.cond_f rfl ?_
  refine EW.seq ?_
  refine EW.region ?_
  refine WL.bin rfl rfl rfl rfl (int_eq_f n4 _ _ _) ?_
  first | refine WL.assign rfl rfl rfl ?_
  refine WL.done ?_
  refine EW.on ?_
  refine EW.cond_f rfl ?_
  refine EW.seq ?_
  refine EW.seq ?_
  refine EW.region ?_
  refine WL.bin rfl rfl rfl rfl (int_eq_f n5 _ _ _) ?_
  first | refine WL.assign rfl rfl rfl ?_
  refine WL.done ?_
  refine EW.on ?_
  refine EW.cond_f rfl ?_
  refine EW.seq ?_
  refine EW.region ?_
  refine WL.bin rfl rfl rfl rfl (int_eq_f n6 _ _ _) ?_
  first | refine WL.assign rfl rfl rfl ?_
  refine WL.done ?_
  refine EW.on ?_
  refine EW.cond_f rfl ?_
  refine EW.seq ?_
  refine EW.region ?_
  refine WL.bin rfl rfl rfl rfl (int_eq_f n7 _ _ _) ?_
  first | refine WL.assign rfl rfl rfl ?_
  refine WL.done ?_
  refine EW.on ?_
  refine EW.cond_f rfl ?_
  refine EW.region ?_
  refine WL.bin rfl rfl rfl rfl (int_eq_t n8 _ _ _) ?_
  first | refine WL.assign rfl rfl rfl ?_
  refine WL.done ?_
  refine EW.on ?_
  refine EW.cond_t rfl ?_
  refine EW.seq ?_
  refine EW.region ?_
  first | refine WL.move rfl rfl rfl ?_
  first | refine WL.move rfl rfl rfl ?_
  refine WL.load rfl rfl rfl (run_loadR b0 Try.underlying53 rfl (info53 s)) ?_
  refine WL.call [.pointer (some ⟨L.p, 0, none⟩), .pointer (some ⟨R.p, 0, none⟩), .agg (stC s).toArray] enter51 rfl rfl rfl hfa ?_
  rintro x w5 ⟨rfl, L5, R5, D5, k5, st5, go5⟩
  refine ⟨_, rfl, ?_⟩
  first | refine WL.assign rfl rfl rfl ?_
  refine WL.done ?_
  obtain ⟨k6, st6⟩ := h.pair k5 ((St2.below be0).trans st5) (show c ≤ c + D.pen.length + 2 by omega)
  refine EW.on ?_
  refine EW.ret ?_
  repeat (first | refine pr_then ?_ | refine pr_block ?_)
  exact EW.returns Try.results31 rfl ⟨rfl, L5, R5, B, D5, k6, st6, go5⟩
set_option maxRecDepth 100000 in
set_option maxHeartbeats 1000000 in
theorem py_tell {W : World} {L : Lay} {R : Rl} {D : Dv} {B : Bl} {c : Nat} (h : Three' W L R D B c) (hc : c ≤ 200000) (hpl : D.pen.length ≤ 100000) (hcal : D.calls < 1000000000) (hleft : D.left < 9223372036854775808) (s : Stp) (hs : s.ok W) (hkl : s.ks.length ≤ 100000000) (hbl : s.b.length ≤ 1000000000) (hsn : ∀ k, (s.b ≠ [] ∧ s.vb.ownBlock = some k) ∨ (s.ks ≠ [] ∧ s.vk.ownBlock = some k) → ¬ (L.F k ∨ R.F k)) (n1 : ¬ s.kind = 1) (n2 : ¬ s.kind = 2) (n3 : ¬ s.kind = 3) (n4 : ¬ s.kind = 4) (n5 : ¬ s.kind = 5) (n6 : ¬ s.kind = 6) (n7 : ¬ s.kind = 7) (n8 : ¬ s.kind = 8) (n9 : s.kind = 9) :
    Calls Try.prog 31 #[.pointer (some ⟨L.p, 0, none⟩), .pointer (some ⟨R.p, 0, none⟩), .agg (stC s).toArray, .pointer (some ⟨B.p, 0, none⟩)] W fun e w' => e = .returned (.bool true) ∧ ∃ L' R' B' D', Three' w' L' R' D' B' (c + D.pen.length + 2) ∧ St3 W w' L L' R R' B B' ∧ Dgo D D' := by
  obtain ⟨g0, hg0⟩ : ∃ g, W.heap.size = g := ⟨_, rfl⟩
  have hbox := run_boxR (P := Try.prog) 53 (stC s) W g0 hg0
  have b0 : Blk (W.alloc (.cells (stC s).toArray 53)) g0 (stC s) 53 := Blk.newAt hg0
  have be0 : Below W.heap.size W (W.alloc (.cells (stC s).toArray 53)) := below_new W _
  have sz0 : (W.alloc (.cells (stC s).toArray 53)).heap.size = g0 + 1 := by simp [hg0]
  obtain ⟨w0, hw0⟩ : ∃ w0, W.alloc (.cells (stC s).toArray 53) = w0 := ⟨_, rfl⟩
  rw [hw0] at hbox b0 be0 sz0
  have h0 := h.below be0
  have hs0 := hs.below be0
  have p0 := (b0.cell 0).trans (show _ = some (.int .i64 s.kind) from rfl)
  have p2 := (b0.cell 2).trans (show _ = some (.int .i64 s.i) from rfl)
  have p3 := (b0.cell 3).trans (show _ = some (.int .u8 (s.fill.toNat : Int)) from rfl)
  have p4 := (b0.cell 4).trans (show _ = some s.vb from rfl)
  have hte := tells_law h0.two h0.bst h0.ap hc hpl
  refine calls_of_args [.pointer (some ⟨L.p, 0, none⟩), .pointer (some ⟨R.p, 0, none⟩), .agg (stC s).toArray, .pointer (some ⟨B.p, 0, none⟩)] Try.func31 rfl 93 Try.ntmps31 (by show 4 ≤ 93; decide) ?_
  refine EW.seq ?_
  refine EW.region ?_
  refine WL.box rfl rfl rfl hbox ?_
  first | refine WL.assign rfl rfl rfl ?_
  refine WL.done ?_
  refine EW.on ?_
  refine EW.seq ?_
  refine EW.seq ?_
  refine EW.region ?_
  first | refine WL.field rfl rfl rfl (fld53_0 _ _) ?_
  refine WL.load rfl rfl rfl (ld3 p0) ?_
  refine WL.done ?_
  refine EW.on ?_
  refine EW.block ?_
  refine EW.seq ?_
  refine EW.region ?_
  refine WL.bin rfl rfl rfl rfl (int_eq_f n1 _ _ _) ?_
  first | refine WL.assign rfl rfl rfl ?_
  refine WL.done ?_
  refine EW.on ?_
  refine EW.cond_f rfl ?_
  refine EW.seq ?_
  refine EW.region ?_
  refine WL.bin rfl rfl rfl rfl (int_eq_f n2 _ _ _) ?_
  first | refine WL.assign rfl rfl rfl ?_
  refine WL.done ?_
  refine EW.on ?_
  refine EW.cond_f rfl ?_
  refine EW.seq ?_
  refine EW.region ?_
  refine WL.bin rfl rfl rfl rfl (int_eq_f n3 _ _ _) ?_
  first | refine WL.assign rfl rfl rfl ?_
  refine WL.done ?_
  refine EW.on ?_
  refine EW.cond_f rfl ?_
  refine EW.seq ?_
  refine EW.region ?_
  refine WL.bin rfl rfl rfl rfl (int_eq_f n4 _ _ _) ?_
  first | refine WL.assign rfl rfl rfl ?_
  refine WL.done ?_
  refine EW.on ?_
  refine EW.cond_f rfl ?_
  refine EW.seq ?_
  refine EW.seq ?_
  refine EW.region ?_
  refine WL.bin rfl rfl rfl rfl (int_eq_f n5 _ _ _) ?_
  first | refine WL.assign rfl rfl rfl ?_
  refine WL.done ?_
  refine EW.on ?_
  refine EW.cond_f rfl ?_
  refine EW.seq ?_
  refine EW.region ?_
  refine WL.bin rfl rfl rfl rfl (int_eq_f n6 _ _ _) ?_
  first | refine WL.assign rfl rfl rfl ?_
  refine WL.done ?_
  refine EW.on ?_
  refine EW.cond_f rfl ?_
  refine EW.seq ?_
  refine EW.region ?_
  refine WL.bin rfl rfl rfl rfl (int_eq_f n7 _ _ _) ?_
  first | refine WL.assign rfl rfl rfl ?_
  refine WL.done ?_
  refine EW.on ?_
  refine EW.cond_f rfl ?_
  refine EW.region ?_
  refine WL.bin rfl rfl rfl rfl (int_eq_f n8 _ _ _) ?_
  first | refine WL.assign rfl rfl rfl ?_
  refine WL.done ?_
  refine EW.on ?_
  refine EW.cond_f rfl ?_
  refine EW.seq ?_
  refine EW.region ?_
  refine WL.bin rfl rfl rfl rfl (int_eq_t n9 _ _ _) ?_
  first | refine WL.assign rfl rfl rfl ?_
  refine WL.done ?_
  refine EW.on ?_
  refine EW.cond_t rfl ?_
  refine EW.seq ?_
  refine EW.region ?_
  first | refine WL.move rfl rfl rfl ?_
  first | refine WL.move rfl rfl rfl ?_
  first | refine WL.move rfl rfl rfl ?_
  refine WL.call [.pointer (some ⟨L.p, 0, none⟩), .pointer (some ⟨R.p, 0, none⟩), .pointer (some ⟨B.p, 0, none⟩)] enter33 rfl rfl rfl hte ?_
  rintro x w5 ⟨rfl, B5, hp5, hB5, hf5, ho5⟩
  refine ⟨_, rfl, ?_⟩
  first | refine WL.assign rfl rfl rfl ?_
  refine WL.done ?_
  obtain ⟨k6, st6⟩ := h.book hB5 ((Fx.of_below be0).and hf5) (fun k hk => (ho5 k hk).imp id (fun e => Nat.le_trans be0.size e)) hp5
  refine EW.on ?_
  refine EW.ret ?_
  repeat (first | refine pr_then ?_ | refine pr_block ?_)
  exact EW.returns Try.results31 rfl ⟨rfl, L, R, B5, D, k6, st6, go_same D hleft⟩
set_option maxRecDepth 100000 in
set_option maxHeartbeats 1000000 in
theorem py_none {W : World} {L : Lay} {R : Rl} {D : Dv} {B : Bl} {c : Nat} (h : Three' W L R D B c) (hc : c ≤ 200000) (hpl : D.pen.length ≤ 100000) (hcal : D.calls < 1000000000) (hleft : D.left < 9223372036854775808) (s : Stp) (hs : s.ok W) (hkl : s.ks.length ≤ 100000000) (hbl : s.b.length ≤ 1000000000) (hsn : ∀ k, (s.b ≠ [] ∧ s.vb.ownBlock = some k) ∨ (s.ks ≠ [] ∧ s.vk.ownBlock = some k) → ¬ (L.F k ∨ R.F k)) (n1 : ¬ s.kind = 1) (n2 : ¬ s.kind = 2) (n3 : ¬ s.kind = 3) (n4 : ¬ s.kind = 4) (n5 : ¬ s.kind = 5) (n6 : ¬ s.kind = 6) (n7 : ¬ s.kind = 7) (n8 : ¬ s.kind = 8) (n9 : ¬ s.kind = 9) :
    Calls Try.prog 31 #[.pointer (some ⟨L.p, 0, none⟩), .pointer (some ⟨R.p, 0, none⟩), .agg (stC s).toArray, .pointer (some ⟨B.p, 0, none⟩)] W fun e w' => e = .returned (.bool true) ∧ ∃ L' R' B' D', Three' w' L' R' D' B' (c + D.pen.length + 2) ∧ St3 W w' L L' R R' B B' ∧ Dgo D D' := by
  obtain ⟨g0, hg0⟩ : ∃ g, W.heap.size = g := ⟨_, rfl⟩
  have hbox := run_boxR (P := Try.prog) 53 (stC s) W g0 hg0
  have b0 : Blk (W.alloc (.cells (stC s).toArray 53)) g0 (stC s) 53 := Blk.newAt hg0
  have be0 : Below W.heap.size W (W.alloc (.cells (stC s).toArray 53)) := below_new W _
  have sz0 : (W.alloc (.cells (stC s).toArray 53)).heap.size = g0 + 1 := by simp [hg0]
  obtain ⟨w0, hw0⟩ : ∃ w0, W.alloc (.cells (stC s).toArray 53) = w0 := ⟨_, rfl⟩
  rw [hw0] at hbox b0 be0 sz0
  have h0 := h.below be0
  have hs0 := hs.below be0
  have p0 := (b0.cell 0).trans (show _ = some (.int .i64 s.kind) from rfl)
  have p2 := (b0.cell 2).trans (show _ = some (.int .i64 s.i) from rfl)
  have p3 := (b0.cell 3).trans (show _ = some (.int .u8 (s.fill.toNat : Int)) from rfl)
  have p4 := (b0.cell 4).trans (show _ = some s.vb from rfl)
  refine calls_of_args [.pointer (some ⟨L.p, 0, none⟩), .pointer (some ⟨R.p, 0, none⟩), .agg (stC s).toArray, .pointer (some ⟨B.p, 0, none⟩)] Try.func31 rfl 93 Try.ntmps31 (by show 4 ≤ 93; decide) ?_
  refine EW.seq ?_
  refine EW.region ?_
  refine WL.box rfl rfl rfl hbox ?_
  first | refine WL.assign rfl rfl rfl ?_
  refine WL.done ?_
  refine EW.on ?_
  refine EW.seq ?_
  refine EW.seq ?_
  refine EW.region ?_
  first | refine WL.field rfl rfl rfl (fld53_0 _ _) ?_
  refine WL.load rfl rfl rfl (ld3 p0) ?_
  refine WL.done ?_
  refine EW.on ?_
  refine EW.block ?_
  refine EW.seq ?_
  refine EW.region ?_
  refine WL.bin rfl rfl rfl rfl (int_eq_f n1 _ _ _) ?_
  first | refine WL.assign rfl rfl rfl ?_
  refine WL.done ?_
  refine EW.on ?_
  refine EW.cond_f rfl ?_
  refine EW.seq ?_
  refine EW.region ?_
  refine WL.bin rfl rfl rfl rfl (int_eq_f n2 _ _ _) ?_
  first | refine WL.assign rfl rfl rfl ?_
  refine WL.done ?_
  refine EW.on ?_
  refine EW.cond_f rfl ?_
  refine EW.seq ?_
  refine EW.region ?_
  refine WL.bin rfl rfl rfl rfl (int_eq_f n3 _ _ _) ?_
  first | refine WL.assign rfl rfl rfl ?_
  refine WL.done ?_
  refine EW.on ?_
  refine EW.cond_f rfl ?_
  refine EW.seq ?_
  refine EW.region ?_
  refine WL.bin rfl rfl rfl rfl (int_eq_f n4 _ _ _) ?_
  first | refine WL.assign rfl rfl rfl ?_
  refine WL.done ?_
  refine EW.on ?_
  refine EW.cond_f rfl ?_
  refine EW.seq ?_
  refine EW.seq ?_
  refine EW.region ?_
  refine WL.bin rfl rfl rfl rfl (int_eq_f n5 _ _ _) ?_
  first | refine WL.assign rfl rfl rfl ?_
  refine WL.done ?_
  refine EW.on ?_
  refine EW.cond_f rfl ?_
  refine EW.seq ?_
  refine EW.region ?_
  refine WL.bin rfl rfl rfl rfl (int_eq_f n6 _ _ _) ?_
  first | refine WL.assign rfl rfl rfl ?_
  refine WL.done ?_
  refine EW.on ?_
  refine EW.cond_f rfl ?_
  refine EW.seq ?_
  refine EW.region ?_
  refine WL.bin rfl rfl rfl rfl (int_eq_f n7 _ _ _) ?_
  first | refine WL.assign rfl rfl rfl ?_
  refine WL.done ?_
  refine EW.on ?_
  refine EW.cond_f rfl ?_
  refine EW.region ?_
  refine WL.bin rfl rfl rfl rfl (int_eq_f n8 _ _ _) ?_
  first | refine WL.assign rfl rfl rfl ?_
  refine WL.done ?_
  refine EW.on ?_
  refine EW.cond_f rfl ?_
  refine EW.seq ?_
  refine EW.region ?_
  refine WL.bin rfl rfl rfl rfl (int_eq_f n9 _ _ _) ?_
  first | refine WL.assign rfl rfl rfl ?_
  refine WL.done ?_
  refine EW.on ?_
  refine EW.cond_f rfl ?_
  refine EW.skip ?_
  refine pn_block ?_
  refine EW.on ?_
  refine EW.seq ?_
  refine EW.region ?_
  first | refine WL.assign rfl rfl rfl ?_
  refine WL.done ?_
  have k6 : Three' w0 L R D B (c + D.pen.length + 2) := ⟨h0.two, h0.bst.mono (by omega), h0.ap⟩
  refine EW.on ?_
  refine EW.ret ?_
  repeat (first | refine pr_then ?_ | refine pr_block ?_)
  exact EW.returns Try.results31 rfl ⟨rfl, L, R, B, D, k6, St3.below be0, go_same D hleft⟩
end Go.Proofs.Ythfcabhelldokaa
