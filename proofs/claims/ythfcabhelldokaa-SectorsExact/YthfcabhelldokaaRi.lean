import Derived.Test.YthfcabhelldokaaRh
set_option linter.unusedVariables false
set_option linter.unusedSimpArgs false
namespace Go.Proofs.Ythfcabhelldokaa
open Go.RowKit

/-- What is read of a sector behind t of the pending writes. -/
def rdT (D : Dv) (i : Nat) : Nat → List UInt8
  | 0 => secB D.img i
  | t + 1 => if (D.pen.getD t (0, [])).1 = i then (D.pen.getD t (0, [])).2 else rdT D i t
theorem rdT_last (D : Dv) (i : Nat) : ∀ t, (⟨(rdT D i t).toArray⟩ : ByteArray) = lastT (secS D.img i) D.pen i t
  | 0 => rfl
  | t + 1 => by
    rw [rdT, lastT]
    split
    · rfl
    · exact rdT_last D i t
theorem rdT_is (D : Dv) (i : Nat) : rdT D i D.pen.length = readB D i := by
  have h := (rdT_last D i D.pen.length).trans (last_is D i)
  have h2 : (rdT D i D.pen.length).toArray = (readB D i).toArray := congrArg ByteArray.data h
  simpa using h2
theorem sl34 (g n cap i : Nat) (hi : i < n) (hc : n * 512 ≤ cap) (W : World) : (Instr.sliceAt 34 (.slice (some ⟨g, 0, none⟩) (n * 512) cap) (some (.int .i64 ((i * 512 : Nat) : Int))) (some (.int .i64 (((i + 1) * 512 : Nat) : Int))) none).run Try.prog W = .ok (.slice (some ⟨g, i * 512, none⟩) 512 (cap - i * 512)) W := by
  have key : (Instr.slice 34 (.slice (some ⟨g, 0, none⟩) (n * 512) cap) (some (.int .i64 ((i * 512 : Nat) : Int))) (some (.int .i64 (((i + 1) * 512 : Nat) : Int))) none).run Try.prog W = .ok (.slice (some ⟨g, i * 512, none⟩) 512 (cap - i * 512)) W := by
    have ht : Try.prog.underlying 34 = some (.slice (Try.prog.elem 34)) := by rw [elem34]; exact Try.underlying34
    rw [run_slice_lh W 34 _ _ _ ht .i64 .i64 ((i * 512 : Nat) : Int) (((i + 1) * 512 : Nat) : Int) (by omega) (by omega) (by omega), elem34, size5]
    simp only [Result.andThen, sliced, Int.toNat_natCast, Nat.mul_one]
    rw [if_neg (by omega), show (i + 1) * 512 - i * 512 = 512 by omega]
    simp only [Option.map_some]
    unfold Addr.add
    by_cases h0 : i = 0
    · subst h0; simp
    · rw [if_neg (by omega)]; simp
  obtain ⟨A, hA⟩ : ∃ A, i * 512 = A := ⟨_, rfl⟩
  obtain ⟨B, hB⟩ : ∃ B, (i + 1) * 512 = B := ⟨_, rfl⟩
  obtain ⟨N, hN⟩ : ∃ N, n * 512 = N := ⟨_, rfl⟩
  rw [hA, hB, hN] at key
  rw [hA, hB, hN]
  clear hA hB hN
  go_simp
theorem a512b (t : Nat) (h : t < 4096) : IntKind.i64.wrap (((t * 512 : Nat) : Int) + 512) = (((t + 1) * 512 : Nat) : Int) := by rw [IntKind.wrap_i64]; omega
theorem shp {w : World} (v : Value) (b : List UInt8) (h : Has w v b) : ∃ ao l c, v = .slice ao l c := by
  rcases h with ⟨e, _⟩ | ⟨ad, cap, e, _⟩
  · exact ⟨_, _, _, e⟩
  · exact ⟨_, _, _, e⟩
theorem add_plain' (g o : Nat) : (⟨g, o, none⟩ : Addr).add 0 = ⟨g, o, none⟩ := add_off g o 0
theorem WL.slice' {P : Program} {n : Nat} {ops : Array Oper} {Q : Exit → Act → World → Prop} {i : Nat} {ty : TypeId} {ps : String} {af : Array Edge} {gd : Option (Nat × Bool)} {r : List Oper} {e : List (Nat × Value)} {w : World} {t : TypeId} {x lo hi : Operand} {u ul uh v : Value} (hw : wantE ops e ⟨some i, .slice t x (some lo) (some hi) none, ty, ps, af, gd⟩ = some true) (hi' : decide (i < n) = true) (hx : evE e x = some u) (hl : evE e lo = some ul) (hh : evE e hi = some uh) (hr : (Instr.sliceAt t u (some ul) (some uh) none).run P w = .ok v w) (k : WL P n ops Q r ((i, v) :: e) w) : WL P n ops Q (⟨some i, .slice t x (some lo) (some hi) none, ty, ps, af, gd⟩ :: r) e w :=
  WL.op i v hw rfl hi' (fun a ha => by simp [execOp, ha.ev hx, ha.ev hl, ha.ev hh, hr, Result.andThen]) k
def reE (p i : Nat) (x : Nat × Value) : List (Nat × Value) := [(0, .pointer (some ⟨p, 0, none⟩)), (1, .int .i64 (i : Int)), (6, x.2), (7, .int .i64 (x.1 : Int))]
set_option maxRecDepth 100000 in
set_option maxHeartbeats 1000000 in
theorem rread_no {w : World} {L : Rl} {D : Dv} (h : RDev w L D) (i : Int) (hr : refE D i ≠ 0) : Calls Try.prog 47 #[.pointer (some ⟨L.p, 0, none⟩), .int .i64 i] w fun e w' => e = .returned (.tuple #[.slice none 0 0, .int .i64 (refE D i)]) ∧ w' = w := by
  have hc := h.r2
  have hse := ref_sectors h
  unfold refE at hr ⊢
  by_cases hd : D.down = true
  · rw [hd] at hc
    rw [if_pos hd]
    refine calls_of_args [.pointer (some ⟨L.p, 0, none⟩), .int .i64 i] Try.func47 rfl 59 Try.ntmps47 (by show 2 ≤ 59; decide) ?_
    refine EW.seq ?_
    refine EW.region ?_
    first | refine WL.assign rfl rfl rfl ?_
    first | refine WL.assign rfl rfl rfl ?_
    refine WL.done ?_
    refine EW.on ?_
    refine EW.seq ?_
    refine EW.seq ?_
    refine EW.region ?_
    first | refine WL.move rfl rfl rfl ?_
    first | refine WL.nilc rfl rfl rfl ?_
    first | refine WL.field rfl rfl rfl (fld96_2 _ _) ?_
    refine WL.load rfl rfl rfl (ld4 hc) ?_
    refine WL.done ?_
    refine EW.on ?_
    refine EW.cond_t rfl ?_
    refine EW.seq ?_
    refine EW.region ?_
    first | refine WL.assign rfl rfl rfl ?_
    first | refine WL.assign rfl rfl rfl ?_
    refine WL.done ?_
    refine EW.on ?_
    refine EW.ret ?_
    repeat (first | refine pr_then ?_ | refine pr_block ?_)
    exact EW.returns2 Try.results47 rfl rfl ⟨rfl, rfl⟩
  · have hd' : D.down = false := by simpa using hd
    rw [hd'] at hc
    rw [if_neg hd] at hr ⊢
    by_cases z0 : i < 0
    · rw [if_pos (.inl z0)]
      refine calls_of_args [.pointer (some ⟨L.p, 0, none⟩), .int .i64 i] Try.func47 rfl 59 Try.ntmps47 (by show 2 ≤ 59; decide) ?_
      refine EW.seq ?_
      refine EW.region ?_
      first | refine WL.assign rfl rfl rfl ?_
      first | refine WL.assign rfl rfl rfl ?_
      refine WL.done ?_
      refine EW.on ?_
      refine EW.seq ?_
      refine EW.seq ?_
      refine EW.region ?_
      first | refine WL.move rfl rfl rfl ?_
      first | refine WL.nilc rfl rfl rfl ?_
      first | refine WL.field rfl rfl rfl (fld96_2 _ _) ?_
      refine WL.load rfl rfl rfl (ld4 hc) ?_
      refine WL.done ?_
      refine EW.on ?_
      refine EW.cond_f rfl ?_
      refine EW.skip ?_
      refine EW.on ?_
      refine EW.seq ?_
      refine EW.seq ?_
      refine EW.region ?_
      first | refine WL.move rfl rfl rfl ?_
      refine WL.bin rfl rfl rfl rfl (int_lt_t z0 _ _ _) ?_
      first | refine WL.move rfl rfl rfl ?_
      refine WL.skip _ rfl rfl rfl ?_
      refine WL.skip _ rfl rfl rfl ?_
      refine WL.skip _ rfl rfl rfl ?_
      refine WL.skip _ rfl rfl rfl ?_
      first | refine WL.pick rfl rfl rfl rfl ?_
      refine WL.done ?_
      refine EW.on ?_
      refine EW.cond_t rfl ?_
      refine EW.seq ?_
      refine EW.region ?_
      first | refine WL.assign rfl rfl rfl ?_
      first | refine WL.assign rfl rfl rfl ?_
      refine WL.done ?_
      refine EW.on ?_
      refine EW.ret ?_
      repeat (first | refine pr_then ?_ | refine pr_block ?_)
      exact EW.returns2 Try.results47 rfl rfl ⟨rfl, rfl⟩
    · have z1 : (D.n : Int) ≤ i := by
        rcases Int.lt_or_le i (D.n : Int) with h1 | h1
        · rw [if_neg (by omega)] at hr; exact absurd rfl hr
        · exact h1
      rw [if_pos (.inr z1)]
      refine calls_of_args [.pointer (some ⟨L.p, 0, none⟩), .int .i64 i] Try.func47 rfl 59 Try.ntmps47 (by show 2 ≤ 59; decide) ?_
      refine EW.seq ?_
      refine EW.region ?_
      first | refine WL.assign rfl rfl rfl ?_
      first | refine WL.assign rfl rfl rfl ?_
      refine WL.done ?_
      refine EW.on ?_
      refine EW.seq ?_
      refine EW.seq ?_
      refine EW.region ?_
      first | refine WL.move rfl rfl rfl ?_
      first | refine WL.nilc rfl rfl rfl ?_
      first | refine WL.field rfl rfl rfl (fld96_2 _ _) ?_
      refine WL.load rfl rfl rfl (ld4 hc) ?_
      refine WL.done ?_
      refine EW.on ?_
      refine EW.cond_f rfl ?_
      refine EW.skip ?_
      refine EW.on ?_
      refine EW.seq ?_
      refine EW.seq ?_
      refine EW.region ?_
      first | refine WL.move rfl rfl rfl ?_
      refine WL.bin rfl rfl rfl rfl (int_lt_f z0 _ _ _) ?_
      first | refine WL.move rfl rfl rfl ?_
      first | refine WL.move rfl rfl rfl ?_ | refine WL.skip _ rfl rfl rfl ?_
      first | refine WL.move rfl rfl rfl ?_ | refine WL.skip _ rfl rfl rfl ?_
      refine WL.call [.pointer (some ⟨L.p, 0, none⟩)] enter53 rfl rfl rfl hse ?_
      rintro x w9 ⟨rfl, hz⟩
      rw [hz]; clear hz w9
      refine ⟨_, rfl, ?_⟩
      refine WL.bin rfl rfl rfl rfl (ige_t z1 _ _ _) ?_
      first | refine WL.pick rfl rfl rfl rfl ?_
      refine WL.done ?_
      refine EW.on ?_
      refine EW.cond_t rfl ?_
      refine EW.seq ?_
      refine EW.region ?_
      first | refine WL.assign rfl rfl rfl ?_
      first | refine WL.assign rfl rfl rfl ?_
      refine WL.done ?_
      refine EW.on ?_
      refine EW.ret ?_
      repeat (first | refine pr_then ?_ | refine pr_block ?_)
      exact EW.returns2 Try.results47 rfl rfl ⟨rfl, rfl⟩
set_option maxRecDepth 100000 in
set_option maxHeartbeats 1000000 in
theorem rread_ok {w : World} {L : Rl} {D : Dv} (h : RDev w L D) (hd : D.down = false) (i : Nat) (hi : i < D.n) : Calls Try.prog 47 #[.pointer (some ⟨L.p, 0, none⟩), .int .i64 (i : Int)] w fun e w' => ∃ ao l c, e = .returned (.tuple #[.slice ao l c, .int .i64 0]) ∧ Below w.heap.size w w' ∧ Has w' (.slice ao l c) (readB D i) := by
  have hc := h.r2
  rw [hd] at hc
  have hse := ref_sectors h
  have z0 : ¬ (i : Int) < 0 := by omega
  have z1 : ¬ (D.n : Int) ≤ (i : Int) := by omega
  have hi4 : i < 4096 := Nat.lt_of_lt_of_le hi h.ok.n2
  have t5 := s512 i hi4
  have t6 := a512b i hi4
  obtain ⟨g, cap, hvb, hcp, hcl, _⟩ := h.image
  have hr0 := h.r0
  rw [hvb] at hr0
  have hh0 : Has w (.slice (some ⟨g, i * 512, none⟩) 512 (cap - i * 512)) (rdT D i 0) := by
    have hbl : (secB D.img i).length = 512 := secB_length D.img D.n i h.ok.len hi
    refine .inr ⟨⟨g, i * 512, none⟩, cap - i * 512, by rw [show rdT D i 0 = secB D.img i from rfl, hbl], by rw [show rdT D i 0 = secB D.img i from rfl, hbl]; omega, fun j u hu => ?_⟩
    have hu : (secB D.img i)[j]? = some u := hu
    have hj : j < 512 := by rw [← hbl]; exact (List.getElem?_eq_some_iff.1 hu).1
    rw [secB_at _ _ _ hj] at hu
    rw [add_off]
    exact hcl _ _ hu
  refine calls_of_args [.pointer (some ⟨L.p, 0, none⟩), .int .i64 (i : Int)] Try.func47 rfl 59 Try.ntmps47 (by show 2 ≤ 59; decide) ?_
  refine EW.seq ?_
  refine EW.region ?_
  first | refine WL.assign rfl rfl rfl ?_
  first | refine WL.assign rfl rfl rfl ?_
  refine WL.done ?_
  refine EW.on ?_
  refine EW.seq ?_
  refine EW.seq ?_
  refine EW.region ?_
  first | refine WL.move rfl rfl rfl ?_
  first | refine WL.nilc rfl rfl rfl ?_
  first | refine WL.field rfl rfl rfl (fld96_2 _ _) ?_
  refine WL.load rfl rfl rfl (ld4 hc) ?_
  refine WL.done ?_
  refine EW.on ?_
  refine EW.cond_f rfl ?_
  refine EW.skip ?_
  refine EW.on ?_
  refine EW.seq ?_
  refine EW.seq ?_
  refine EW.region ?_
  first | refine WL.move rfl rfl rfl ?_
  refine WL.bin rfl rfl rfl rfl (int_lt_f z0 _ _ _) ?_
  first | refine WL.move rfl rfl rfl ?_
  first | refine WL.move rfl rfl rfl ?_ | refine WL.skip _ rfl rfl rfl ?_
  first | refine WL.move rfl rfl rfl ?_ | refine WL.skip _ rfl rfl rfl ?_
  refine WL.call [.pointer (some ⟨L.p, 0, none⟩)] enter53 rfl rfl rfl hse ?_
  rintro x w9 ⟨rfl, hz⟩
  rw [hz]; clear hz w9
  refine ⟨_, rfl, ?_⟩
  refine WL.bin rfl rfl rfl rfl (ige_f z1 _ _ _) ?_
  first | refine WL.pick rfl rfl rfl rfl ?_
  refine WL.done ?_
  refine EW.on ?_
  refine EW.cond_f rfl ?_
  refine EW.skip ?_
  refine EW.on ?_
  refine EW.seq ?_
  refine EW.region ?_
  first | refine WL.move rfl rfl rfl ?_
  first | refine WL.nilc rfl rfl rfl ?_
  first | refine WL.field rfl rfl rfl (fld96_0 _ _) ?_
  refine WL.load rfl rfl rfl (ld34 hr0) ?_
  first | refine WL.move rfl rfl rfl ?_
  refine WL.bin rfl rfl rfl rfl (int_mul t5 _ _ _) ?_
  first | refine WL.move rfl rfl rfl ?_
  refine WL.bin rfl rfl rfl rfl (int_mul t5 _ _ _) ?_
  refine WL.bin rfl rfl rfl rfl (int_add t6 _ _ _) ?_
  refine WL.slice' rfl rfl rfl rfl rfl (sl34 g D.n cap i hi hcp _) ?_
  first | refine WL.assign rfl rfl rfl ?_
  refine WL.done ?_
  refine EW.on ?_
  refine EW.seq ?_
  refine EW.seq ?_
  refine EW.region ?_
  first | refine WL.assign rfl rfl rfl ?_
  refine WL.done ?_
  refine EW.on ?_
  refine EW.block ?_
  refine EW.loop (reE L.p i) (fun x w' => x.1 ≤ D.pen.length ∧ w' = w ∧ Has w x.2 (rdT D i x.1) ∧ ∃ ao l c, x.2 = .slice ao l c) (fun x => D.pen.length - x.1) (0, .slice (some ⟨g, i * 512, none⟩) 512 (cap - i * 512)) [0, 1, 6, 7] rfl ⟨Nat.zero_le _, rfl, hh0, _, _, _, rfl⟩ ?_
  rintro ⟨t, vx⟩ wr ⟨htm, hz, hhv, hsh⟩
  rw [hz]
  clear hz wr
  have htm : t ≤ D.pen.length := htm
  have hhv : Has w vx (rdT D i t) := hhv
  show EW _ _ _ _ [(0, .pointer (some ⟨L.p, 0, none⟩)), (1, .int .i64 (i : Int)), (6, vx), (7, .int .i64 (t : Int))] _
  have hpl := h.plen
  by_cases hl : t < D.pen.length
  · have y1 : (t : Int) < (D.pen.length : Int) := Int.ofNat_lt.2 hl
    have tn := tnM t _ hl h.ok.few
    obtain ⟨x, hx⟩ : ∃ x, D.pen[t]? = some x := ⟨D.pen[t]'hl, List.getElem?_eq_getElem _⟩
    obtain ⟨vy, hvy⟩ : ∃ x, L.vs[t]? = some x := ⟨L.vs[t]'(by rw [h.vsl]; exact hl), List.getElem?_eq_getElem _⟩
    have hge : D.pen.getD t (0, []) = x := by rw [List.getD_eq_getElem?_getD, hx]; rfl
    obtain ⟨gp, hix, hat⟩ := h.item t vy x hvy hx
    have q0 : w.cell? ⟨gp, t * 2, none⟩ = some (.int .i64 (x.1 : Int)) := (add_plain' gp (t * 2)) ▸ hat 0 _ rfl
    have q1 : w.cell? ⟨gp, t * 2 + 1, none⟩ = some vy := (add_off gp (t * 2) 1) ▸ hat 1 _ rfl
    by_cases hq : x.1 = i
    · have hqz : (x.1 : Int) = (i : Int) := Int.ofNat_inj.2 hq
      refine EW.seq ?_
      refine EW.seq ?_
      refine EW.region ?_
      first | refine WL.move rfl rfl rfl ?_
      first | refine WL.move rfl rfl rfl ?_
      first | refine WL.nilc rfl rfl rfl ?_
      first | refine WL.field rfl rfl rfl (fld96_1 _ _) ?_
      refine WL.load rfl rfl rfl (ld30 h.r1) ?_
      refine WL.len rfl rfl rfl (hpl _ _) ?_
      first | refine WL.bin rfl rfl rfl rfl (int_lt_t ‹_› _ _ _) ?_ | refine WL.bin rfl rfl rfl rfl (int_lt_f ‹_› _ _ _) ?_
      refine WL.done ?_
      refine EW.on ?_
      refine EW.cond_t rfl ?_
      refine EW.skip ?_
      refine EW.on ?_
      refine EW.seq ?_
      refine EW.block ?_
      refine EW.seq ?_
      refine EW.region ?_
      first | refine WL.move rfl rfl rfl ?_
      first | refine WL.nilc rfl rfl rfl ?_
      first | refine WL.field rfl rfl rfl (fld96_1 _ _) ?_
      refine WL.load rfl rfl rfl (ld30 h.r1) ?_
      first | refine WL.move rfl rfl rfl ?_
      refine WL.index rfl rfl rfl rfl (hix _) ?_
      refine WL.field rfl rfl rfl (fld78_0 _ _ _) ?_
      refine WL.load rfl rfl rfl (ld3 q0) ?_
      first | refine WL.move rfl rfl rfl ?_
      refine WL.bin rfl rfl rfl rfl (int_eq_t hqz _ _ _) ?_
      refine WL.done ?_
      refine EW.on ?_
      refine EW.cond_t rfl ?_
      refine EW.region ?_
      first | refine WL.move rfl rfl rfl ?_
      first | refine WL.nilc rfl rfl rfl ?_
      first | refine WL.field rfl rfl rfl (fld96_1 _ _) ?_
      refine WL.load rfl rfl rfl (ld30 h.r1) ?_
      first | refine WL.move rfl rfl rfl ?_
      refine WL.index rfl rfl rfl rfl (hix _) ?_
      refine WL.field rfl rfl rfl (fld78_1 _ _ _) ?_
      refine WL.load rfl rfl rfl (ld34 q1) ?_
      first | refine WL.assign rfl rfl rfl ?_
      refine WL.done ?_
      have hnx : Has w vy (rdT D i (t + 1)) := by rw [rdT, hge, if_pos hq]; exact h.bys t vy x hvy hx
      refine pn_block ?_
      refine EW.on ?_
      refine EW.region ?_
      first | refine WL.move rfl rfl rfl ?_
      first | refine WL.bin rfl rfl rfl rfl (int_add ‹_› _ _ _) ?_
      first | refine WL.assign rfl rfl rfl ?_
      refine WL.done ?_
      exact EW.again (E := reE L.p i) (R := fun x w' => x.1 ≤ D.pen.length ∧ w' = w ∧ Has w x.2 (rdT D i x.1) ∧ ∃ ao l c, x.2 = .slice ao l c) (m := fun x => D.pen.length - x.1) (x := (t, vx)) (t + 1, vy) [0, 1, 6, 7] rfl ⟨hl, rfl, hnx, shp _ _ hnx⟩ (by show D.pen.length - (t + 1) < D.pen.length - t; omega)
    · have hqz : ¬ (x.1 : Int) = (i : Int) := fun e => hq (Int.ofNat_inj.1 e)
      refine EW.seq ?_
      refine EW.seq ?_
      refine EW.region ?_
      first | refine WL.move rfl rfl rfl ?_
      first | refine WL.move rfl rfl rfl ?_
      first | refine WL.nilc rfl rfl rfl ?_
      first | refine WL.field rfl rfl rfl (fld96_1 _ _) ?_
      refine WL.load rfl rfl rfl (ld30 h.r1) ?_
      refine WL.len rfl rfl rfl (hpl _ _) ?_
      first | refine WL.bin rfl rfl rfl rfl (int_lt_t ‹_› _ _ _) ?_ | refine WL.bin rfl rfl rfl rfl (int_lt_f ‹_› _ _ _) ?_
      refine WL.done ?_
      refine EW.on ?_
      refine EW.cond_t rfl ?_
      refine EW.skip ?_
      refine EW.on ?_
      refine EW.seq ?_
      refine EW.block ?_
      refine EW.seq ?_
      refine EW.region ?_
      first | refine WL.move rfl rfl rfl ?_
      first | refine WL.nilc rfl rfl rfl ?_
      first | refine WL.field rfl rfl rfl (fld96_1 _ _) ?_
      refine WL.load rfl rfl rfl (ld30 h.r1) ?_
      first | refine WL.move rfl rfl rfl ?_
      refine WL.index rfl rfl rfl rfl (hix _) ?_
      refine WL.field rfl rfl rfl (fld78_0 _ _ _) ?_
      refine WL.load rfl rfl rfl (ld3 q0) ?_
      first | refine WL.move rfl rfl rfl ?_
      refine WL.bin rfl rfl rfl rfl (int_eq_f hqz _ _ _) ?_
      refine WL.done ?_
      refine EW.on ?_
      refine EW.cond_f rfl ?_
      refine EW.skip ?_
      have hnx : Has w vx (rdT D i (t + 1)) := by rw [rdT, hge, if_neg hq]; exact hhv
      refine pn_block ?_
      refine EW.on ?_
      refine EW.region ?_
      first | refine WL.move rfl rfl rfl ?_
      first | refine WL.bin rfl rfl rfl rfl (int_add ‹_› _ _ _) ?_
      first | refine WL.assign rfl rfl rfl ?_
      refine WL.done ?_
      exact EW.again (E := reE L.p i) (R := fun x w' => x.1 ≤ D.pen.length ∧ w' = w ∧ Has w x.2 (rdT D i x.1) ∧ ∃ ao l c, x.2 = .slice ao l c) (m := fun x => D.pen.length - x.1) (x := (t, vx)) (t + 1, vx) [0, 1, 6, 7] rfl ⟨hl, rfl, hnx, hsh⟩ (by show D.pen.length - (t + 1) < D.pen.length - t; omega)
  · have y1 : ¬ (t : Int) < (D.pen.length : Int) := fun hh => hl (Int.ofNat_lt.1 hh)
    obtain rfl : t = D.pen.length := Nat.le_antisymm htm (Nat.le_of_not_lt hl)
    rw [rdT_is] at hhv
    obtain ⟨ao, l, c, w1, hcpy, ho, be, _⟩ := copied_ex vx (readB D i) hhv (by have := readB_length D h.ok i hi; omega)
    refine EW.seq ?_
    refine EW.seq ?_
    refine EW.region ?_
    first | refine WL.move rfl rfl rfl ?_
    first | refine WL.move rfl rfl rfl ?_
    first | refine WL.nilc rfl rfl rfl ?_
    first | refine WL.field rfl rfl rfl (fld96_1 _ _) ?_
    refine WL.load rfl rfl rfl (ld30 h.r1) ?_
    refine WL.len rfl rfl rfl (hpl _ _) ?_
    first | refine WL.bin rfl rfl rfl rfl (int_lt_t ‹_› _ _ _) ?_ | refine WL.bin rfl rfl rfl rfl (int_lt_f ‹_› _ _ _) ?_
    refine WL.done ?_
    refine EW.on ?_
    refine EW.cond_f rfl ?_
    refine EW.exit ?_
    repeat refine px_then ?_
    refine px_block ?_
    refine EW.on ?_
    refine EW.seq ?_
    refine EW.region ?_
    first | refine WL.move rfl rfl rfl ?_
    refine WL.call [vx] enter59 rfl rfl rfl hcpy ?_
    rintro x w5 ⟨rfl, hz⟩
    rw [hz]; clear hz w5
    refine ⟨_, rfl, ?_⟩
    first | refine WL.assign rfl rfl rfl ?_
    first | refine WL.assign rfl rfl rfl ?_
    refine WL.done ?_
    refine EW.on ?_
    refine EW.ret ?_
    repeat (first | refine pr_then ?_ | refine pr_block ?_)
    exact EW.returns2 Try.results47 rfl rfl ⟨_, _, _, rfl, be, own_has ho⟩
end Go.Proofs.Ythfcabhelldokaa
