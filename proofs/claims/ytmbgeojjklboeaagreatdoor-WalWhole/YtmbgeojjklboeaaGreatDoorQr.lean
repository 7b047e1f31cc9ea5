import Derived.Test.YtmbgeojjklboeaaGreatDoorQq
set_option linter.unusedVariables false
set_option linter.unusedSimpArgs false
namespace Go.Proofs.YtmbgeojjklboeaaGreatDoor
open Go.RowKit

theorem WL.sliceL {P : Program} {n : Fm} {ops : Array Oper} {Q : Exit → Act → World → Prop} {i : Nat} {ty : TypeId} {ps : String} {af : Array Edge} {gd : Option (Nat × Bool)} {r : List Oper} {e : List (Nat × Value)} {w : World} {t : TypeId} {x lo : Operand} {u ul v : Value} (hw : wantE ops e ⟨some i, .slice t x (some lo) none none, ty, ps, af, gd⟩ = some true) (hi : decide (i < n.k) = true) (hx : evE e x = some u) (hl : evE e lo = some ul) (hr : (Instr.sliceAt t u (some ul) none none).run P w = .ok v w) (k : WL P n ops Q r ((i, v) :: e) w) : WL P n ops Q (⟨some i, .slice t x (some lo) none none, ty, ps, af, gd⟩ :: r) e w :=
  WL.op i v hw rfl hi (fun a ha => by simp [execOp, ha.ev hx, ha.ev hl, hr, Result.andThen]) k
/-- Falls whose first one is taken off. -/
structure Fl2 (wb : World) (fv : Value) (m : Nat) : Prop where
  f : Fls wb fv m
  cut : 0 < m → ∃ fv', (∀ W, (Instr.sliceAt 31 fv (some (.int .i64 1)) none none).run Tryz.prog W = .ok fv' W) ∧ Fls wb fv' (m - 1)
theorem commit_calm {w : World} {L : Lay} {p more : Nat} {s : Nat → List UInt8} {lf c q : Nat} {ps : List (List UInt8)} (h : Da w L (4 * p + 1 + more) s s [] lf c) (hb : Blk w q (lgC L.p p .nilIface) 88) (hp1 : 1 ≤ p) (hp2 : p ≤ 20) (hmore : more ≤ 3) (hcal : c ≤ 900000) (hd : Dst p more s ps) {v : Value} {lo : List Pw} (hcm : lf = 0 ∨ lo = []) (hp : Pws w v lo) {acc : List (Nat × UInt8)} (hn : (acc.map Prod.fst).Nodup) (hlt : ∀ a ∈ acc, a.1 < p) (hal : acc.length ≤ 20) (he : lo.map (fun z => (z.n, z.b)) = acc.map (fun a => (a.1, pgB a.1 a.2))) (hxF : ∀ x ∈ lo, ∀ k, x.v.ownBlock = some k → ¬ L.F k) (hxB : ∀ x ∈ lo, ∀ k, x.v.ownBlock = some k → k < w.heap.size) : Calls Tryz.prog 14 #[.pointer (some ⟨q, 0, none⟩), v] w fun e w' => e = .returned .nilIface ∧ ∃ L' s' lf' c', Turn w w' L L' ∧ Da w' L' (4 * p + 1 + more) s' s' [] lf' c' ∧ Dst p more s' (aftL ps acc) ∧ c' ≤ c + 128 := by
  rcases hcm with rfl | rfl
  · refine (commit_any h.dk hb hp1 hp2 hmore hcal hd hp hn hlt hal he hxF hxB).mono fun e w' hh => ?_
    obtain ⟨h1, L', s', c', h2, h3, h4, h5⟩ := hh
    exact ⟨h1, L', s', 0, c', h2, h3.da, h4, h5⟩
  · have e2 : acc = [] := by
      have := congrArg List.length he
      exact List.eq_nil_of_length_eq_zero (by simpa using this.symm)
    subst e2
    refine (commit_0 hb (by omega) hp).mono fun e w' h2 => ?_
    exact ⟨h2.1, L, s, lf, c, ⟨Fx.of_below h2.2, fun k hk => .inl hk, rfl⟩, h.below h2.2, hd, by omega⟩
set_option maxRecDepth 100000 in
set_option maxHeartbeats 8000000 in
theorem plays_calm {wb w : World} {L : Lay} {c : Nat} {s : Nat → List UInt8} {q ql p more m : Nat} {v : Value} {ps : List (List UInt8)} (h : Rm w L c s q ql p more v ps) (K : Rk wb w L q) (hp1 : 1 ≤ p) (hp2 : p ≤ 20) (hmore : more ≤ 3) (hcal : c ≤ 800000) {vp vf : Value} {gs : List Gp} (hg0 : Gs w vp gs) (hf : Fl2 wb vf m) (an : Bool) (cr : Bool) (hcal1 : cr = false ∨ (cr = true ∧ m = 0)) : Calls Tryz.prog 6 #[.pointer (some ⟨q, 0, none⟩), .agg (tnC vp vf cr an).toArray] w fun e w' => e = .returned (.bool true) ∧ ∃ L' c' s' v' ql' ps', Rm w' L' c' s' q ql' p more v' ps' ∧ Fx (fun k => k = q ∨ L.F k) w w' ∧ (∀ k, L'.F k → L.F k ∨ w.heap.size ≤ k) ∧ c' ≤ c + 26200 ∧ (ql' = ql ∨ w.heap.size ≤ ql') := by
  obtain ⟨w1, q3, r1, b1, l1, hq3⟩ := box34 vp vf cr an w
  have R1 := h.on l1
  refine calls_of_args [.pointer (some ⟨q, 0, none⟩), .agg (tnC vp vf cr an).toArray] Tryz.func6 rfl 189 Tryz.ntmps6 (by show 2 ≤ 189; decide) ?_; refine EW.seq ?_; refine EW.region ?_; refine WL.box rfl rfl rfl r1 ?_; refine WL.assign rfl rfl rfl ?_; refine WL.done ?_; refine EW.on ?_; refine EW.seq ?_; refine EW.region ?_; refine WL.move rfl rfl rfl ?_; refine WL.load rfl rfl rfl (ld34 b1) ?_; refine WL.call [.pointer (some ⟨q, 0, none⟩), .agg (tnC vp vf cr an).toArray] enter19 rfl rfl rfl (wanted_ok R1.rm R1.os R1.ds.len (by omega) (by omega) (hg0.below l1)) ?_
  rintro _ w2 ⟨vo, va, lo, rfl, pw, heq, ob, fo, oa, l2⟩
  refine ⟨_, rfl, ?_⟩
  have R2 := R1.on l2
  have b2 := b1.on l2
  have l12 := l1.trans (l2.mono l1.size)
  have bw2 := K.bw.trans (l12.mono K.bw.size)
  have hlo : lo.length ≤ 20 := by
    have e1 := congrArg List.length heq
    have := wantP_len p (gs.take 20)
    rw [List.length_take] at this
    simp only [List.length_map] at e1
    omega
  refine WL.move rfl rfl rfl ?_; refine WL.extract rfl rfl rfl (ext_2 _ _ _).1 ?_; refine WL.extract rfl rfl rfl (ext_2 _ _ _).2 ?_; refine WL.assign rfl rfl rfl ?_; refine WL.assign rfl rfl rfl ?_; refine WL.done ?_; refine EW.on ?_; refine EW.seq ?_; refine EW.region ?_; refine WL.assign rfl rfl rfl ?_; refine WL.done ?_; refine EW.on ?_; refine EW.seq ?_; refine EW.seq ?_
  rcases hcal1 with rfl | ⟨rfl, hm0⟩
  · refine EW.region ?_; refine WL.field rfl rfl rfl (fldT q3 1 (by decide) _) ?_; refine WL.load rfl rfl rfl (ldB b2 rfl) ?_; refine WL.move rfl rfl rfl ?_; refine WL.skip _ rfl rfl rfl ?_; refine WL.skip _ rfl rfl rfl ?_; refine WL.skip _ rfl rfl rfl ?_; refine WL.skip _ rfl rfl rfl ?_; refine WL.pick rfl rfl rfl rfl ?_; refine WL.done ?_; refine EW.on ?_; refine EW.cond_f rfl ?_; refine EW.skip ?_; refine EW.on ?_; refine EW.seq ?_
    obtain ⟨wA, hwA⟩ : ∃ wA, wA = w2 := ⟨_, rfl⟩
    obtain ⟨LA, hLA⟩ : ∃ LA, LA = L := ⟨_, rfl⟩
    have tA : Turn w2 wA L LA := by rw [hwA, hLA]; exact Turn.refl _ _
    have dA : Da wA LA (4 * p + 1 + more) s s [] 0 c := by rw [hwA, hLA]; exact R2.dk.da
    have hcm : (0 : Nat) = 0 ∨ lo = [] := .inl rfl
    rw [← hwA]
    have newF : ∀ k, w1.heap.size ≤ k → ¬ L.F k := fun k hk hF => by have := h.dk.lt k hF; have := l1.size; omega
    have rmA := R2.rm.fx tA.fx R2.fq
    have lgA := R2.lg.fx tA.fx R2.fl
    have pwA := pw.fx tA.fx (fun k hk => newF k (fo k hk)) (fun x hx k hk => newF k ((ob x hx).base k hk))
    refine EW.region ?_; refine WL.move rfl rfl rfl ?_; refine WL.nilc rfl rfl rfl ?_; refine WL.field rfl rfl rfl (fld44 q 4 (by decide) _) ?_; refine WL.load rfl rfl rfl (ldc42 rmA rfl) ?_; refine WL.assign rfl rfl rfl ?_; refine WL.done ?_; refine EW.on ?_; refine EW.seq ?_; refine EW.region ?_; refine WL.move rfl rfl rfl ?_; refine WL.nilc rfl rfl rfl ?_; refine WL.field rfl rfl rfl (fld44 q 1 (by decide) _) ?_; refine WL.load rfl rfl rfl (ldcP rmA rfl) ?_; refine WL.move rfl rfl rfl ?_; refine WL.call [.pointer (some ⟨ql, 0, none⟩), vo] enter14 rfl rfl rfl (commit_calm dA (by rw [tA.p]; exact lgA) hp1 hp2 hmore (by omega) R2.ds hcm pwA (wantP_nodup p _) (wantP_lt p (by omega) _) (by have := wantP_len p (gs.take 20); rw [List.length_take] at this; omega) heq (fun x hx k hk hF => (tA.own k hF).elim (newF k ((ob x hx).base k hk)) (fun h2 => by have := ((ob x hx).lt hk).1; omega)) (fun x hx k hk => by have := ((ob x hx).lt hk).1; have := tA.fx.size; omega)) ?_
    rintro _ w3 ⟨rfl, L3, s3, lf3, c3, t3', d3, ds3, hc3⟩
    have t3 := tA.trans t3'
    refine ⟨_, rfl, ?_⟩
    have b3 := b2.fx t3.fx (fun hF => by have := h.dk.lt _ hF; omega)
    have rm3 := R2.rm.fx t3.fx R2.fq
    have lg3 := R2.lg.fx t3.fx R2.fl
    have oa3 := oa.fx t3.fx (fun k hk hF => newF k (oa.base k hk) hF)
    refine WL.assign rfl rfl rfl ?_; refine WL.done ?_; refine EW.on ?_; refine EW.seq ?_; refine EW.region ?_; refine WL.field rfl rfl rfl (fldT q3 2 (by decide) _) ?_; refine WL.load rfl rfl rfl (ldF b3 rfl) ?_; refine WL.assign rfl rfl rfl ?_; refine WL.done ?_; refine EW.on ?_; refine EW.seq ?_; refine EW.seq ?_
    rcases Nat.eq_zero_or_pos m with hmz | hmz
    · refine EW.region ?_; refine WL.move rfl rfl rfl ?_; refine WL.len rfl rfl rfl (hf.f.len _ _) ?_; refine WL.bin rfl rfl rfl rfl (int_gt_f (by omega) _ _ _) ?_; refine WL.done ?_; refine EW.on ?_; refine EW.cond_f rfl ?_; refine EW.skip ?_; refine EW.on ?_; refine EW.seq ?_; refine EW.block ?_; refine EW.seq ?_
      rcases Nat.eq_zero_or_pos lo.length with hl0 | hl0
      · refine EW.region ?_; refine WL.move rfl rfl rfl ?_; refine WL.len rfl rfl rfl (pw.len _ _) ?_; refine WL.bin rfl rfl rfl rfl (int_eq_t (by omega) _ _ _) ?_; refine WL.move rfl rfl rfl ?_; refine WL.skip _ rfl rfl rfl ?_; refine WL.skip _ rfl rfl rfl ?_; refine WL.pick rfl rfl rfl rfl ?_; refine WL.assign rfl rfl rfl ?_; refine WL.done ?_; refine EW.on ?_; refine EW.cond_t rfl ?_; refine EW.seq ?_; refine EW.region ?_; refine WL.move rfl rfl rfl ?_; refine WL.nilc rfl rfl rfl ?_; refine WL.field rfl rfl rfl (fld44 q 0 (by decide) _) ?_; refine WL.load rfl rfl rfl (ldD rm3 rfl) ?_; refine WL.buildN [] rfl rfl rfl (build70 _) ?_
        rw [← t3.p]
        refine WL.call [.pointer (some ⟨L3.p, 0, none⟩), .int .i64 0, .agg (lossC (.slice none 0 0) 0 0).toArray] enter20 rfl rfl rfl (arm0_da d3 _ 0 0) ?_
        rintro _ w4 ⟨rfl, L4, t4, d4⟩
        refine ⟨_, rfl, ?_⟩
        have nF3 : ∀ k, k < w2.heap.size → ¬ L.F k → ¬ L3.F k := fun k hk hn hF => (t3.own k hF).elim hn (fun h => by omega)
        have rm4 := rm3.fx t4.fx (nF3 q R2.rm.lt R2.fq)
        have lg4 := lg3.fx t4.fx (nF3 ql R2.lg.lt R2.fl)
        have vaF : ∀ k, va.ownBlock = some k → k < w2.heap.size ∧ ¬ L.F k := fun k hk => ⟨oa.lt hk, newF k (oa.base k hk)⟩
        have oa4 := oa3.fx t4.fx (fun k hk => nF3 k (vaF k hk).1 (vaF k hk).2)
        have T4 := t3.trans t4
        obtain ⟨w5, s5, rm5, x5⟩ := stc42 oa4.shape (j := 4) rm4 rfl
        refine WL.done ?_; refine EW.on ?_; refine EW.seq ?_; refine EW.region ?_; refine WL.move rfl rfl rfl ?_; refine WL.move rfl rfl rfl ?_; refine WL.nilc rfl rfl rfl ?_; refine WL.field rfl rfl rfl (fld44 q 4 (by decide) _) ?_; refine WL.store rfl rfl rfl s5 ?_
        have nF4 : ∀ k, k < w2.heap.size → ¬ L.F k → ¬ L4.F k := fun k hk hn hF => (T4.own k hF).elim hn (fun h => by omega)
        have q4F := nF4 q R2.rm.lt R2.fq
        have d5 := d4.fxS x5 (fun k hk e => q4F (e ▸ hk))
        have lg5 := lg4.fx x5 (ne_type ⟨_, lg4⟩ rm4 (by decide))
        have oa5 := oa4.fx x5 (fun k hk => ne_type (own_type oa4.row hk) rm4 (by decide))
        have R5 : Rm w5 L4 c3 s3 q ql p more va (aftL ps (wantP p (gs.take 20))) := ⟨d5, by rw [T4.p]; exact rm5, by rw [T4.p]; exact lg5, oa5.mono (Nat.zero_le _), ds3, q4F, nF4 ql R2.lg.lt R2.fl, fun k hk => nF4 k (vaF k hk).1 (vaF k hk).2, aftL_pl h.pl _⟩
        refine WL.done ?_; refine EW.on ?_; refine EW.seq ?_; refine EW.region ?_; refine WL.move rfl rfl rfl ?_; refine WL.bin rfl rfl rfl rfl (eq24n _ _) ?_; refine WL.move rfl rfl rfl ?_
        first | refine WL.move rfl rfl rfl ?_ | refine WL.skip _ rfl rfl rfl ?_
        refine WL.call [.pointer (some ⟨q, 0, none⟩)] enter13 rfl rfl rfl (clean_ok R5.dk R5.rm R5.os R5.ds.len (by omega) (by omega) R5.pl R5.ds.img) ?_
        rintro _ w6 ⟨rfl, l6⟩
        refine ⟨_, rfl, ?_⟩
        have R6 := R5.on l6
        refine WL.pick rfl rfl rfl rfl ?_; refine WL.move rfl rfl rfl ?_
        first | refine WL.move rfl rfl rfl ?_ | refine WL.skip _ rfl rfl rfl ?_
        first | refine WL.move rfl rfl rfl ?_ | refine WL.skip _ rfl rfl rfl ?_
        refine WL.call [.pointer (some ⟨q, 0, none⟩), va] enter21 rfl rfl rfl (stands_ok R6.dk R6.rm R6.lg (by omega) (by omega) R6.os R6.ds.len R6.ds.hom) ?_
        rintro _ w7 ⟨rfl, l7⟩
        refine ⟨_, rfl, ?_⟩
        have R7 := R6.on l7
        refine WL.pick rfl rfl rfl rfl ?_; refine WL.assign rfl rfl rfl ?_; refine WL.done ?_; refine EW.on ?_; refine EW.ret ?_; refine pr_block ?_; refine pr_then ?_; refine EW.returns Tryz.results6 rfl ⟨rfl, L4, c3, s3, va, ql, _, R7, ?_, fun k hk => (T4.own k hk).imp id (fun h => by have := l12.size; omega), by omega, .inl rfl⟩
        have f1 : Fx (fun k => k = q ∨ L.F k) w w4 := (Fx.of_below l12).trans (T4.fx.mono (fun k _ h => .inr h)) (fun i _ h => h)
        exact ((f1.trans x5 (fun i _ e => .inl e)).then_below l6).then_below l7
      · refine EW.region ?_; refine WL.move rfl rfl rfl ?_; refine WL.len rfl rfl rfl (pw.len _ _) ?_; refine WL.bin rfl rfl rfl rfl (int_eq_f (by omega) _ _ _) ?_; refine WL.move rfl rfl rfl ?_
        first | refine WL.move rfl rfl rfl ?_ | refine WL.skip _ rfl rfl rfl ?_
        refine WL.bin rfl rfl rfl rfl (int_eq_t rfl _ _ _) ?_; refine WL.pick rfl rfl rfl rfl ?_; refine WL.assign rfl rfl rfl ?_; refine WL.done ?_; refine EW.on ?_; refine EW.cond_t rfl ?_; refine EW.seq ?_; refine EW.region ?_; refine WL.move rfl rfl rfl ?_; refine WL.nilc rfl rfl rfl ?_; refine WL.field rfl rfl rfl (fld44 q 0 (by decide) _) ?_; refine WL.load rfl rfl rfl (ldD rm3 rfl) ?_; refine WL.buildN [] rfl rfl rfl (build70 _) ?_
        rw [← t3.p]
        refine WL.call [.pointer (some ⟨L3.p, 0, none⟩), .int .i64 0, .agg (lossC (.slice none 0 0) 0 0).toArray] enter20 rfl rfl rfl (arm0_da d3 _ 0 0) ?_
        rintro _ w4 ⟨rfl, L4, t4, d4⟩
        refine ⟨_, rfl, ?_⟩
        have nF3 : ∀ k, k < w2.heap.size → ¬ L.F k → ¬ L3.F k := fun k hk hn hF => (t3.own k hF).elim hn (fun h => by omega)
        have rm4 := rm3.fx t4.fx (nF3 q R2.rm.lt R2.fq)
        have lg4 := lg3.fx t4.fx (nF3 ql R2.lg.lt R2.fl)
        have vaF : ∀ k, va.ownBlock = some k → k < w2.heap.size ∧ ¬ L.F k := fun k hk => ⟨oa.lt hk, newF k (oa.base k hk)⟩
        have oa4 := oa3.fx t4.fx (fun k hk => nF3 k (vaF k hk).1 (vaF k hk).2)
        have T4 := t3.trans t4
        obtain ⟨w5, s5, rm5, x5⟩ := stc42 oa4.shape (j := 4) rm4 rfl
        refine WL.done ?_; refine EW.on ?_; refine EW.seq ?_; refine EW.region ?_; refine WL.move rfl rfl rfl ?_; refine WL.move rfl rfl rfl ?_; refine WL.nilc rfl rfl rfl ?_; refine WL.field rfl rfl rfl (fld44 q 4 (by decide) _) ?_; refine WL.store rfl rfl rfl s5 ?_
        have nF4 : ∀ k, k < w2.heap.size → ¬ L.F k → ¬ L4.F k := fun k hk hn hF => (T4.own k hF).elim hn (fun h => by omega)
        have q4F := nF4 q R2.rm.lt R2.fq
        have d5 := d4.fxS x5 (fun k hk e => q4F (e ▸ hk))
        have lg5 := lg4.fx x5 (ne_type ⟨_, lg4⟩ rm4 (by decide))
        have oa5 := oa4.fx x5 (fun k hk => ne_type (own_type oa4.row hk) rm4 (by decide))
        have R5 : Rm w5 L4 c3 s3 q ql p more va (aftL ps (wantP p (gs.take 20))) := ⟨d5, by rw [T4.p]; exact rm5, by rw [T4.p]; exact lg5, oa5.mono (Nat.zero_le _), ds3, q4F, nF4 ql R2.lg.lt R2.fl, fun k hk => nF4 k (vaF k hk).1 (vaF k hk).2, aftL_pl h.pl _⟩
        refine WL.done ?_; refine EW.on ?_; refine EW.seq ?_; refine EW.region ?_; refine WL.move rfl rfl rfl ?_; refine WL.bin rfl rfl rfl rfl (eq24n _ _) ?_; refine WL.move rfl rfl rfl ?_
        first | refine WL.move rfl rfl rfl ?_ | refine WL.skip _ rfl rfl rfl ?_
        refine WL.call [.pointer (some ⟨q, 0, none⟩)] enter13 rfl rfl rfl (clean_ok R5.dk R5.rm R5.os R5.ds.len (by omega) (by omega) R5.pl R5.ds.img) ?_
        rintro _ w6 ⟨rfl, l6⟩
        refine ⟨_, rfl, ?_⟩
        have R6 := R5.on l6
        refine WL.pick rfl rfl rfl rfl ?_; refine WL.move rfl rfl rfl ?_
        first | refine WL.move rfl rfl rfl ?_ | refine WL.skip _ rfl rfl rfl ?_
        first | refine WL.move rfl rfl rfl ?_ | refine WL.skip _ rfl rfl rfl ?_
        refine WL.call [.pointer (some ⟨q, 0, none⟩), va] enter21 rfl rfl rfl (stands_ok R6.dk R6.rm R6.lg (by omega) (by omega) R6.os R6.ds.len R6.ds.hom) ?_
        rintro _ w7 ⟨rfl, l7⟩
        refine ⟨_, rfl, ?_⟩
        have R7 := R6.on l7
        refine WL.pick rfl rfl rfl rfl ?_; refine WL.assign rfl rfl rfl ?_; refine WL.done ?_; refine EW.on ?_; refine EW.ret ?_; refine pr_block ?_; refine pr_then ?_; refine EW.returns Tryz.results6 rfl ⟨rfl, L4, c3, s3, va, ql, _, R7, ?_, fun k hk => (T4.own k hk).imp id (fun h => by have := l12.size; omega), by omega, .inl rfl⟩
        have f1 : Fx (fun k => k = q ∨ L.F k) w w4 := (Fx.of_below l12).trans (T4.fx.mono (fun k _ h => .inr h)) (fun i _ h => h)
        exact ((f1.trans x5 (fun i _ e => .inl e)).then_below l6).then_below l7
    · refine EW.region ?_; refine WL.move rfl rfl rfl ?_; refine WL.len rfl rfl rfl (hf.f.len _ _) ?_; refine WL.bin rfl rfl rfl rfl (int_gt_t (by omega) _ _ _) ?_; refine WL.done ?_; refine EW.on ?_; refine EW.cond_t rfl ?_; refine EW.region ?_; refine WL.move rfl rfl rfl ?_
      obtain ⟨fv', hcut, hf'⟩ := hf.cut (by omega)
      refine WL.sliceL rfl rfl rfl rfl (hcut _) ?_; refine WL.assign rfl rfl rfl ?_; refine WL.done ?_; refine EW.on ?_; refine EW.seq ?_; refine EW.block ?_; refine EW.seq ?_
      rcases Nat.eq_zero_or_pos lo.length with hl0 | hl0
      · refine EW.region ?_; refine WL.move rfl rfl rfl ?_; refine WL.len rfl rfl rfl (pw.len _ _) ?_; refine WL.bin rfl rfl rfl rfl (int_eq_t (by omega) _ _ _) ?_; refine WL.move rfl rfl rfl ?_; refine WL.skip _ rfl rfl rfl ?_; refine WL.skip _ rfl rfl rfl ?_; refine WL.pick rfl rfl rfl rfl ?_; refine WL.assign rfl rfl rfl ?_; refine WL.done ?_; refine EW.on ?_; refine EW.cond_t rfl ?_; refine EW.seq ?_; refine EW.region ?_; refine WL.move rfl rfl rfl ?_; refine WL.nilc rfl rfl rfl ?_; refine WL.field rfl rfl rfl (fld44 q 0 (by decide) _) ?_; refine WL.load rfl rfl rfl (ldD rm3 rfl) ?_; refine WL.buildN [] rfl rfl rfl (build70 _) ?_
        rw [← t3.p]
        refine WL.call [.pointer (some ⟨L3.p, 0, none⟩), .int .i64 0, .agg (lossC (.slice none 0 0) 0 0).toArray] enter20 rfl rfl rfl (arm0_da d3 _ 0 0) ?_
        rintro _ w4 ⟨rfl, L4, t4, d4⟩
        refine ⟨_, rfl, ?_⟩
        have nF3 : ∀ k, k < w2.heap.size → ¬ L.F k → ¬ L3.F k := fun k hk hn hF => (t3.own k hF).elim hn (fun h => by omega)
        have rm4 := rm3.fx t4.fx (nF3 q R2.rm.lt R2.fq)
        have lg4 := lg3.fx t4.fx (nF3 ql R2.lg.lt R2.fl)
        have vaF : ∀ k, va.ownBlock = some k → k < w2.heap.size ∧ ¬ L.F k := fun k hk => ⟨oa.lt hk, newF k (oa.base k hk)⟩
        have oa4 := oa3.fx t4.fx (fun k hk => nF3 k (vaF k hk).1 (vaF k hk).2)
        have T4 := t3.trans t4
        obtain ⟨w5, s5, rm5, x5⟩ := stc42 oa4.shape (j := 4) rm4 rfl
        refine WL.done ?_; refine EW.on ?_; refine EW.seq ?_; refine EW.region ?_; refine WL.move rfl rfl rfl ?_; refine WL.move rfl rfl rfl ?_; refine WL.nilc rfl rfl rfl ?_; refine WL.field rfl rfl rfl (fld44 q 4 (by decide) _) ?_; refine WL.store rfl rfl rfl s5 ?_
        have nF4 : ∀ k, k < w2.heap.size → ¬ L.F k → ¬ L4.F k := fun k hk hn hF => (T4.own k hF).elim hn (fun h => by omega)
        have q4F := nF4 q R2.rm.lt R2.fq
        have d5 := d4.fxS x5 (fun k hk e => q4F (e ▸ hk))
        have lg5 := lg4.fx x5 (ne_type ⟨_, lg4⟩ rm4 (by decide))
        have oa5 := oa4.fx x5 (fun k hk => ne_type (own_type oa4.row hk) rm4 (by decide))
        have R5 : Rm w5 L4 c3 s3 q ql p more va (aftL ps (wantP p (gs.take 20))) := ⟨d5, by rw [T4.p]; exact rm5, by rw [T4.p]; exact lg5, oa5.mono (Nat.zero_le _), ds3, q4F, nF4 ql R2.lg.lt R2.fl, fun k hk => nF4 k (vaF k hk).1 (vaF k hk).2, aftL_pl h.pl _⟩
        refine WL.done ?_; refine EW.on ?_; refine EW.seq ?_; refine EW.region ?_; refine WL.move rfl rfl rfl ?_; refine WL.bin rfl rfl rfl rfl (eq24n _ _) ?_; refine WL.move rfl rfl rfl ?_
        first | refine WL.move rfl rfl rfl ?_ | refine WL.skip _ rfl rfl rfl ?_
        refine WL.call [.pointer (some ⟨q, 0, none⟩)] enter13 rfl rfl rfl (clean_ok R5.dk R5.rm R5.os R5.ds.len (by omega) (by omega) R5.pl R5.ds.img) ?_
        rintro _ w6 ⟨rfl, l6⟩
        refine ⟨_, rfl, ?_⟩
        have R6 := R5.on l6
        refine WL.pick rfl rfl rfl rfl ?_; refine WL.move rfl rfl rfl ?_
        first | refine WL.move rfl rfl rfl ?_ | refine WL.skip _ rfl rfl rfl ?_
        first | refine WL.move rfl rfl rfl ?_ | refine WL.skip _ rfl rfl rfl ?_
        refine WL.call [.pointer (some ⟨q, 0, none⟩), va] enter21 rfl rfl rfl (stands_ok R6.dk R6.rm R6.lg (by omega) (by omega) R6.os R6.ds.len R6.ds.hom) ?_
        rintro _ w7 ⟨rfl, l7⟩
        refine ⟨_, rfl, ?_⟩
        have R7 := R6.on l7
        refine WL.pick rfl rfl rfl rfl ?_; refine WL.assign rfl rfl rfl ?_; refine WL.done ?_; refine EW.on ?_; refine EW.ret ?_; refine pr_block ?_; refine pr_then ?_; refine EW.returns Tryz.results6 rfl ⟨rfl, L4, c3, s3, va, ql, _, R7, ?_, fun k hk => (T4.own k hk).imp id (fun h => by have := l12.size; omega), by omega, .inl rfl⟩
        have f1 : Fx (fun k => k = q ∨ L.F k) w w4 := (Fx.of_below l12).trans (T4.fx.mono (fun k _ h => .inr h)) (fun i _ h => h)
        exact ((f1.trans x5 (fun i _ e => .inl e)).then_below l6).then_below l7
      · refine EW.region ?_; refine WL.move rfl rfl rfl ?_; refine WL.len rfl rfl rfl (pw.len _ _) ?_; refine WL.bin rfl rfl rfl rfl (int_eq_f (by omega) _ _ _) ?_; refine WL.move rfl rfl rfl ?_
        first | refine WL.move rfl rfl rfl ?_ | refine WL.skip _ rfl rfl rfl ?_
        refine WL.bin rfl rfl rfl rfl (int_eq_t rfl _ _ _) ?_; refine WL.pick rfl rfl rfl rfl ?_; refine WL.assign rfl rfl rfl ?_; refine WL.done ?_; refine EW.on ?_; refine EW.cond_t rfl ?_; refine EW.seq ?_; refine EW.region ?_; refine WL.move rfl rfl rfl ?_; refine WL.nilc rfl rfl rfl ?_; refine WL.field rfl rfl rfl (fld44 q 0 (by decide) _) ?_; refine WL.load rfl rfl rfl (ldD rm3 rfl) ?_; refine WL.buildN [] rfl rfl rfl (build70 _) ?_
        rw [← t3.p]
        refine WL.call [.pointer (some ⟨L3.p, 0, none⟩), .int .i64 0, .agg (lossC (.slice none 0 0) 0 0).toArray] enter20 rfl rfl rfl (arm0_da d3 _ 0 0) ?_
        rintro _ w4 ⟨rfl, L4, t4, d4⟩
        refine ⟨_, rfl, ?_⟩
        have nF3 : ∀ k, k < w2.heap.size → ¬ L.F k → ¬ L3.F k := fun k hk hn hF => (t3.own k hF).elim hn (fun h => by omega)
        have rm4 := rm3.fx t4.fx (nF3 q R2.rm.lt R2.fq)
        have lg4 := lg3.fx t4.fx (nF3 ql R2.lg.lt R2.fl)
        have vaF : ∀ k, va.ownBlock = some k → k < w2.heap.size ∧ ¬ L.F k := fun k hk => ⟨oa.lt hk, newF k (oa.base k hk)⟩
        have oa4 := oa3.fx t4.fx (fun k hk => nF3 k (vaF k hk).1 (vaF k hk).2)
        have T4 := t3.trans t4
        obtain ⟨w5, s5, rm5, x5⟩ := stc42 oa4.shape (j := 4) rm4 rfl
        refine WL.done ?_; refine EW.on ?_; refine EW.seq ?_; refine EW.region ?_; refine WL.move rfl rfl rfl ?_; refine WL.move rfl rfl rfl ?_; refine WL.nilc rfl rfl rfl ?_; refine WL.field rfl rfl rfl (fld44 q 4 (by decide) _) ?_; refine WL.store rfl rfl rfl s5 ?_
        have nF4 : ∀ k, k < w2.heap.size → ¬ L.F k → ¬ L4.F k := fun k hk hn hF => (T4.own k hF).elim hn (fun h => by omega)
        have q4F := nF4 q R2.rm.lt R2.fq
        have d5 := d4.fxS x5 (fun k hk e => q4F (e ▸ hk))
        have lg5 := lg4.fx x5 (ne_type ⟨_, lg4⟩ rm4 (by decide))
        have oa5 := oa4.fx x5 (fun k hk => ne_type (own_type oa4.row hk) rm4 (by decide))
        have R5 : Rm w5 L4 c3 s3 q ql p more va (aftL ps (wantP p (gs.take 20))) := ⟨d5, by rw [T4.p]; exact rm5, by rw [T4.p]; exact lg5, oa5.mono (Nat.zero_le _), ds3, q4F, nF4 ql R2.lg.lt R2.fl, fun k hk => nF4 k (vaF k hk).1 (vaF k hk).2, aftL_pl h.pl _⟩
        refine WL.done ?_; refine EW.on ?_; refine EW.seq ?_; refine EW.region ?_; refine WL.move rfl rfl rfl ?_; refine WL.bin rfl rfl rfl rfl (eq24n _ _) ?_; refine WL.move rfl rfl rfl ?_
        first | refine WL.move rfl rfl rfl ?_ | refine WL.skip _ rfl rfl rfl ?_
        refine WL.call [.pointer (some ⟨q, 0, none⟩)] enter13 rfl rfl rfl (clean_ok R5.dk R5.rm R5.os R5.ds.len (by omega) (by omega) R5.pl R5.ds.img) ?_
        rintro _ w6 ⟨rfl, l6⟩
        refine ⟨_, rfl, ?_⟩
        have R6 := R5.on l6
        refine WL.pick rfl rfl rfl rfl ?_; refine WL.move rfl rfl rfl ?_
        first | refine WL.move rfl rfl rfl ?_ | refine WL.skip _ rfl rfl rfl ?_
        first | refine WL.move rfl rfl rfl ?_ | refine WL.skip _ rfl rfl rfl ?_
        refine WL.call [.pointer (some ⟨q, 0, none⟩), va] enter21 rfl rfl rfl (stands_ok R6.dk R6.rm R6.lg (by omega) (by omega) R6.os R6.ds.len R6.ds.hom) ?_
        rintro _ w7 ⟨rfl, l7⟩
        refine ⟨_, rfl, ?_⟩
        have R7 := R6.on l7
        refine WL.pick rfl rfl rfl rfl ?_; refine WL.assign rfl rfl rfl ?_; refine WL.done ?_; refine EW.on ?_; refine EW.ret ?_; refine pr_block ?_; refine pr_then ?_; refine EW.returns Tryz.results6 rfl ⟨rfl, L4, c3, s3, va, ql, _, R7, ?_, fun k hk => (T4.own k hk).imp id (fun h => by have := l12.size; omega), by omega, .inl rfl⟩
        have f1 : Fx (fun k => k = q ∨ L.F k) w w4 := (Fx.of_below l12).trans (T4.fx.mono (fun k _ h => .inr h)) (fun i _ h => h)
        exact ((f1.trans x5 (fun i _ e => .inl e)).then_below l6).then_below l7
  · refine EW.region ?_; refine WL.field rfl rfl rfl (fldT q3 1 (by decide) _) ?_; refine WL.load rfl rfl rfl (ldB b2 rfl) ?_; refine WL.move rfl rfl rfl ?_; refine WL.field rfl rfl rfl (fldT q3 2 (by decide) _) ?_; refine WL.load rfl rfl rfl (ldF b2 rfl) ?_; refine WL.len rfl rfl rfl (hf.f.len _ _) ?_; refine WL.bin rfl rfl rfl rfl (int_gt_f (by omega) _ _ _) ?_; refine WL.pick rfl rfl rfl rfl ?_; refine WL.done ?_; refine EW.on ?_; refine EW.cond_f rfl ?_; refine EW.skip ?_; refine EW.on ?_; refine EW.seq ?_
    obtain ⟨wA, hwA⟩ : ∃ wA, wA = w2 := ⟨_, rfl⟩
    obtain ⟨LA, hLA⟩ : ∃ LA, LA = L := ⟨_, rfl⟩
    have tA : Turn w2 wA L LA := by rw [hwA, hLA]; exact Turn.refl _ _
    have dA : Da wA LA (4 * p + 1 + more) s s [] 0 c := by rw [hwA, hLA]; exact R2.dk.da
    have hcm : (0 : Nat) = 0 ∨ lo = [] := .inl rfl
    rw [← hwA]
    have newF : ∀ k, w1.heap.size ≤ k → ¬ L.F k := fun k hk hF => by have := h.dk.lt k hF; have := l1.size; omega
    have rmA := R2.rm.fx tA.fx R2.fq
    have lgA := R2.lg.fx tA.fx R2.fl
    have pwA := pw.fx tA.fx (fun k hk => newF k (fo k hk)) (fun x hx k hk => newF k ((ob x hx).base k hk))
    refine EW.region ?_; refine WL.move rfl rfl rfl ?_; refine WL.nilc rfl rfl rfl ?_; refine WL.field rfl rfl rfl (fld44 q 4 (by decide) _) ?_; refine WL.load rfl rfl rfl (ldc42 rmA rfl) ?_; refine WL.assign rfl rfl rfl ?_; refine WL.done ?_; refine EW.on ?_; refine EW.seq ?_; refine EW.region ?_; refine WL.move rfl rfl rfl ?_; refine WL.nilc rfl rfl rfl ?_; refine WL.field rfl rfl rfl (fld44 q 1 (by decide) _) ?_; refine WL.load rfl rfl rfl (ldcP rmA rfl) ?_; refine WL.move rfl rfl rfl ?_; refine WL.call [.pointer (some ⟨ql, 0, none⟩), vo] enter14 rfl rfl rfl (commit_calm dA (by rw [tA.p]; exact lgA) hp1 hp2 hmore (by omega) R2.ds hcm pwA (wantP_nodup p _) (wantP_lt p (by omega) _) (by have := wantP_len p (gs.take 20); rw [List.length_take] at this; omega) heq (fun x hx k hk hF => (tA.own k hF).elim (newF k ((ob x hx).base k hk)) (fun h2 => by have := ((ob x hx).lt hk).1; omega)) (fun x hx k hk => by have := ((ob x hx).lt hk).1; have := tA.fx.size; omega)) ?_
    rintro _ w3 ⟨rfl, L3, s3, lf3, c3, t3', d3, ds3, hc3⟩
    have t3 := tA.trans t3'
    refine ⟨_, rfl, ?_⟩
    have b3 := b2.fx t3.fx (fun hF => by have := h.dk.lt _ hF; omega)
    have rm3 := R2.rm.fx t3.fx R2.fq
    have lg3 := R2.lg.fx t3.fx R2.fl
    have oa3 := oa.fx t3.fx (fun k hk hF => newF k (oa.base k hk) hF)
    refine WL.assign rfl rfl rfl ?_; refine WL.done ?_; refine EW.on ?_; refine EW.seq ?_; refine EW.region ?_; refine WL.field rfl rfl rfl (fldT q3 2 (by decide) _) ?_; refine WL.load rfl rfl rfl (ldF b3 rfl) ?_; refine WL.assign rfl rfl rfl ?_; refine WL.done ?_; refine EW.on ?_; refine EW.seq ?_; refine EW.seq ?_; refine EW.region ?_; refine WL.move rfl rfl rfl ?_; refine WL.len rfl rfl rfl (hf.f.len _ _) ?_; refine WL.bin rfl rfl rfl rfl (int_gt_f (by omega) _ _ _) ?_; refine WL.done ?_; refine EW.on ?_; refine EW.cond_f rfl ?_; refine EW.skip ?_; refine EW.on ?_; refine EW.seq ?_; refine EW.block ?_; refine EW.seq ?_
    rcases Nat.eq_zero_or_pos lo.length with hl0 | hl0
    · refine EW.region ?_; refine WL.move rfl rfl rfl ?_; refine WL.len rfl rfl rfl (pw.len _ _) ?_; refine WL.bin rfl rfl rfl rfl (int_eq_t (by omega) _ _ _) ?_; refine WL.move rfl rfl rfl ?_; refine WL.skip _ rfl rfl rfl ?_; refine WL.skip _ rfl rfl rfl ?_; refine WL.pick rfl rfl rfl rfl ?_; refine WL.assign rfl rfl rfl ?_; refine WL.done ?_; refine EW.on ?_; refine EW.cond_t rfl ?_; refine EW.seq ?_; refine EW.region ?_; refine WL.move rfl rfl rfl ?_; refine WL.nilc rfl rfl rfl ?_; refine WL.field rfl rfl rfl (fld44 q 0 (by decide) _) ?_; refine WL.load rfl rfl rfl (ldD rm3 rfl) ?_; refine WL.buildN [] rfl rfl rfl (build70 _) ?_
      rw [← t3.p]
      refine WL.call [.pointer (some ⟨L3.p, 0, none⟩), .int .i64 0, .agg (lossC (.slice none 0 0) 0 0).toArray] enter20 rfl rfl rfl (arm0_da d3 _ 0 0) ?_
      rintro _ w4 ⟨rfl, L4, t4, d4⟩
      refine ⟨_, rfl, ?_⟩
      have nF3 : ∀ k, k < w2.heap.size → ¬ L.F k → ¬ L3.F k := fun k hk hn hF => (t3.own k hF).elim hn (fun h => by omega)
      have rm4 := rm3.fx t4.fx (nF3 q R2.rm.lt R2.fq)
      have lg4 := lg3.fx t4.fx (nF3 ql R2.lg.lt R2.fl)
      have vaF : ∀ k, va.ownBlock = some k → k < w2.heap.size ∧ ¬ L.F k := fun k hk => ⟨oa.lt hk, newF k (oa.base k hk)⟩
      have oa4 := oa3.fx t4.fx (fun k hk => nF3 k (vaF k hk).1 (vaF k hk).2)
      have T4 := t3.trans t4
      obtain ⟨w5, s5, rm5, x5⟩ := stc42 oa4.shape (j := 4) rm4 rfl
      refine WL.done ?_; refine EW.on ?_; refine EW.seq ?_; refine EW.region ?_; refine WL.move rfl rfl rfl ?_; refine WL.move rfl rfl rfl ?_; refine WL.nilc rfl rfl rfl ?_; refine WL.field rfl rfl rfl (fld44 q 4 (by decide) _) ?_; refine WL.store rfl rfl rfl s5 ?_
      have nF4 : ∀ k, k < w2.heap.size → ¬ L.F k → ¬ L4.F k := fun k hk hn hF => (T4.own k hF).elim hn (fun h => by omega)
      have q4F := nF4 q R2.rm.lt R2.fq
      have d5 := d4.fxS x5 (fun k hk e => q4F (e ▸ hk))
      have lg5 := lg4.fx x5 (ne_type ⟨_, lg4⟩ rm4 (by decide))
      have oa5 := oa4.fx x5 (fun k hk => ne_type (own_type oa4.row hk) rm4 (by decide))
      have R5 : Rm w5 L4 c3 s3 q ql p more va (aftL ps (wantP p (gs.take 20))) := ⟨d5, by rw [T4.p]; exact rm5, by rw [T4.p]; exact lg5, oa5.mono (Nat.zero_le _), ds3, q4F, nF4 ql R2.lg.lt R2.fl, fun k hk => nF4 k (vaF k hk).1 (vaF k hk).2, aftL_pl h.pl _⟩
      refine WL.done ?_; refine EW.on ?_; refine EW.seq ?_; refine EW.region ?_; refine WL.move rfl rfl rfl ?_; refine WL.bin rfl rfl rfl rfl (eq24n _ _) ?_; refine WL.move rfl rfl rfl ?_
      first | refine WL.move rfl rfl rfl ?_ | refine WL.skip _ rfl rfl rfl ?_
      refine WL.call [.pointer (some ⟨q, 0, none⟩)] enter13 rfl rfl rfl (clean_ok R5.dk R5.rm R5.os R5.ds.len (by omega) (by omega) R5.pl R5.ds.img) ?_
      rintro _ w6 ⟨rfl, l6⟩
      refine ⟨_, rfl, ?_⟩
      have R6 := R5.on l6
      refine WL.pick rfl rfl rfl rfl ?_; refine WL.move rfl rfl rfl ?_
      first | refine WL.move rfl rfl rfl ?_ | refine WL.skip _ rfl rfl rfl ?_
      first | refine WL.move rfl rfl rfl ?_ | refine WL.skip _ rfl rfl rfl ?_
      refine WL.call [.pointer (some ⟨q, 0, none⟩), va] enter21 rfl rfl rfl (stands_ok R6.dk R6.rm R6.lg (by omega) (by omega) R6.os R6.ds.len R6.ds.hom) ?_
      rintro _ w7 ⟨rfl, l7⟩
      refine ⟨_, rfl, ?_⟩
      have R7 := R6.on l7
      refine WL.pick rfl rfl rfl rfl ?_; refine WL.assign rfl rfl rfl ?_; refine WL.done ?_; refine EW.on ?_; refine EW.ret ?_; refine pr_block ?_; refine pr_then ?_; refine EW.returns Tryz.results6 rfl ⟨rfl, L4, c3, s3, va, ql, _, R7, ?_, fun k hk => (T4.own k hk).imp id (fun h => by have := l12.size; omega), by omega, .inl rfl⟩
      have f1 : Fx (fun k => k = q ∨ L.F k) w w4 := (Fx.of_below l12).trans (T4.fx.mono (fun k _ h => .inr h)) (fun i _ h => h)
      exact ((f1.trans x5 (fun i _ e => .inl e)).then_below l6).then_below l7
    · refine EW.region ?_; refine WL.move rfl rfl rfl ?_; refine WL.len rfl rfl rfl (pw.len _ _) ?_; refine WL.bin rfl rfl rfl rfl (int_eq_f (by omega) _ _ _) ?_; refine WL.move rfl rfl rfl ?_
      first | refine WL.move rfl rfl rfl ?_ | refine WL.skip _ rfl rfl rfl ?_
      refine WL.bin rfl rfl rfl rfl (int_eq_t rfl _ _ _) ?_; refine WL.pick rfl rfl rfl rfl ?_; refine WL.assign rfl rfl rfl ?_; refine WL.done ?_; refine EW.on ?_; refine EW.cond_t rfl ?_; refine EW.seq ?_; refine EW.region ?_; refine WL.move rfl rfl rfl ?_; refine WL.nilc rfl rfl rfl ?_; refine WL.field rfl rfl rfl (fld44 q 0 (by decide) _) ?_; refine WL.load rfl rfl rfl (ldD rm3 rfl) ?_; refine WL.buildN [] rfl rfl rfl (build70 _) ?_
      rw [← t3.p]
      refine WL.call [.pointer (some ⟨L3.p, 0, none⟩), .int .i64 0, .agg (lossC (.slice none 0 0) 0 0).toArray] enter20 rfl rfl rfl (arm0_da d3 _ 0 0) ?_
      rintro _ w4 ⟨rfl, L4, t4, d4⟩
      refine ⟨_, rfl, ?_⟩
      have nF3 : ∀ k, k < w2.heap.size → ¬ L.F k → ¬ L3.F k := fun k hk hn hF => (t3.own k hF).elim hn (fun h => by omega)
      have rm4 := rm3.fx t4.fx (nF3 q R2.rm.lt R2.fq)
      have lg4 := lg3.fx t4.fx (nF3 ql R2.lg.lt R2.fl)
      have vaF : ∀ k, va.ownBlock = some k → k < w2.heap.size ∧ ¬ L.F k := fun k hk => ⟨oa.lt hk, newF k (oa.base k hk)⟩
      have oa4 := oa3.fx t4.fx (fun k hk => nF3 k (vaF k hk).1 (vaF k hk).2)
      have T4 := t3.trans t4
      obtain ⟨w5, s5, rm5, x5⟩ := stc42 oa4.shape (j := 4) rm4 rfl
      refine WL.done ?_; refine EW.on ?_; refine EW.seq ?_; refine EW.region ?_; refine WL.move rfl rfl rfl ?_; refine WL.move rfl rfl rfl ?_; refine WL.nilc rfl rfl rfl ?_; refine WL.field rfl rfl rfl (fld44 q 4 (by decide) _) ?_; refine WL.store rfl rfl rfl s5 ?_
      have nF4 : ∀ k, k < w2.heap.size → ¬ L.F k → ¬ L4.F k := fun k hk hn hF => (T4.own k hF).elim hn (fun h => by omega)
      have q4F := nF4 q R2.rm.lt R2.fq
      have d5 := d4.fxS x5 (fun k hk e => q4F (e ▸ hk))
      have lg5 := lg4.fx x5 (ne_type ⟨_, lg4⟩ rm4 (by decide))
      have oa5 := oa4.fx x5 (fun k hk => ne_type (own_type oa4.row hk) rm4 (by decide))
      have R5 : Rm w5 L4 c3 s3 q ql p more va (aftL ps (wantP p (gs.take 20))) := ⟨d5, by rw [T4.p]; exact rm5, by rw [T4.p]; exact lg5, oa5.mono (Nat.zero_le _), ds3, q4F, nF4 ql R2.lg.lt R2.fl, fun k hk => nF4 k (vaF k hk).1 (vaF k hk).2, aftL_pl h.pl _⟩
      refine WL.done ?_; refine EW.on ?_; refine EW.seq ?_; refine EW.region ?_; refine WL.move rfl rfl rfl ?_; refine WL.bin rfl rfl rfl rfl (eq24n _ _) ?_; refine WL.move rfl rfl rfl ?_
      first | refine WL.move rfl rfl rfl ?_ | refine WL.skip _ rfl rfl rfl ?_
      refine WL.call [.pointer (some ⟨q, 0, none⟩)] enter13 rfl rfl rfl (clean_ok R5.dk R5.rm R5.os R5.ds.len (by omega) (by omega) R5.pl R5.ds.img) ?_
      rintro _ w6 ⟨rfl, l6⟩
      refine ⟨_, rfl, ?_⟩
      have R6 := R5.on l6
      refine WL.pick rfl rfl rfl rfl ?_; refine WL.move rfl rfl rfl ?_
      first | refine WL.move rfl rfl rfl ?_ | refine WL.skip _ rfl rfl rfl ?_
      first | refine WL.move rfl rfl rfl ?_ | refine WL.skip _ rfl rfl rfl ?_
      refine WL.call [.pointer (some ⟨q, 0, none⟩), va] enter21 rfl rfl rfl (stands_ok R6.dk R6.rm R6.lg (by omega) (by omega) R6.os R6.ds.len R6.ds.hom) ?_
      rintro _ w7 ⟨rfl, l7⟩
      refine ⟨_, rfl, ?_⟩
      have R7 := R6.on l7
      refine WL.pick rfl rfl rfl rfl ?_; refine WL.assign rfl rfl rfl ?_; refine WL.done ?_; refine EW.on ?_; refine EW.ret ?_; refine pr_block ?_; refine pr_then ?_; refine EW.returns Tryz.results6 rfl ⟨rfl, L4, c3, s3, va, ql, _, R7, ?_, fun k hk => (T4.own k hk).imp id (fun h => by have := l12.size; omega), by omega, .inl rfl⟩
      have f1 : Fx (fun k => k = q ∨ L.F k) w w4 := (Fx.of_below l12).trans (T4.fx.mono (fun k _ h => .inr h)) (fun i _ h => h)
      exact ((f1.trans x5 (fun i _ e => .inl e)).then_below l6).then_below l7
end Go.Proofs.YtmbgeojjklboeaaGreatDoor
