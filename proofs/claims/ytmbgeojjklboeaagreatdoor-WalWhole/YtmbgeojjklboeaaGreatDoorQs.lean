import Derived.Test.YtmbgeojjklboeaaGreatDoorQr
import Derived.LaidEql
set_option linter.unusedVariables false
set_option linter.unusedSimpArgs false
namespace Go.Proofs.YtmbgeojjklboeaaGreatDoor
open Go.RowKit

theorem ne24r (q : Nat) (W : World) (x y : Operand) : (do eqGuard .neq 46 x y (.iface 109 (.pointer (some ⟨q, 0, none⟩))) (.iface 109 (.pointer (some ⟨q, 0, none⟩))); binOp .neq 46 (.iface 109 (.pointer (some ⟨q, 0, none⟩))) (.iface 109 (.pointer (some ⟨q, 0, none⟩))) : Sem Value).run Tryz.prog W = .ok (.bool false) W := by
  obtain ⟨i, hi⟩ : ∃ i, Tryz.prog.info? 109 = some i := by exact Option.isSome_iff_exists.1 (by kernel_rfl)
  have hcmp : i.comparable = true := by
    have : (Tryz.prog.info? 109).map (·.comparable) = some true := by kernel_rfl
    rw [hi] at this
    simpa using this
  obtain ⟨j, hj⟩ : ∃ j, Tryz.prog.info? 111 = some j := by exact Option.isSome_iff_exists.1 (by kernel_rfl)
  rw [Sem.run_bind, eqGuard_at_iface]
  simp only [Sem.run_pure, Result.andThen_ok]
  simp only [binOp]
  simp [Op.equal, Op.maxDepth, run_equalIn_iface_ptr_same W 9998 ⟨q, 0, none⟩ Tryz.underlying46 Tryz.underlying109 hi hcmp hj]
theorem aft_of {ps : List (List UInt8)} {acc : List (Nat × UInt8)} {lo l : List Pw} (hn : (acc.map Prod.fst).Nodup) (hlt : ∀ a ∈ acc, a.1 < ps.length) (he : lo.map (fun z => (z.n, z.b)) = acc.map (fun a => (a.1, pgB a.1 a.2))) (hl : l.Perm lo) (hb : ∀ x ∈ lo, x.b.length = 1024) : Aft l ps (aftL ps acc) := by
  have hm : ∀ x ∈ l, ∃ a ∈ acc, x.n = a.1 ∧ x.b = pgB a.1 a.2 := fun x hx => by
    have : (x.n, x.b) ∈ lo.map (fun z => (z.n, z.b)) := List.mem_map.2 ⟨x, hl.subset hx, rfl⟩
    rw [he] at this
    obtain ⟨a, ha, e⟩ := List.mem_map.1 this
    simp only [Prod.mk.injEq] at e
    exact ⟨a, ha, e.1.symm, e.2.symm⟩
  refine ⟨fun x hx => ?_, fun i hi => ?_, aftL_len ps acc, fun x hx => hb x (hl.subset hx)⟩
  · obtain ⟨a, ha, e1, e2⟩ := hm x hx
    rw [e1, e2]
    exact aftL_in acc ps hn a ha (hlt a ha)
  · refine aftL_out i acc ps (fun h => hi ?_)
    obtain ⟨a, ha, e⟩ := List.mem_map.1 h
    have : (a.1, pgB a.1 a.2) ∈ acc.map (fun a => (a.1, pgB a.1 a.2)) := List.mem_map.2 ⟨a, ha, rfl⟩
    rw [← he] at this
    obtain ⟨x, hx, e2⟩ := List.mem_map.1 this
    simp only [Prod.mk.injEq] at e2
    exact List.mem_map.2 ⟨x, hl.symm.subset hx, by rw [e2.1, e]⟩
set_option maxRecDepth 100000 in
set_option maxHeartbeats 8000000 in
theorem plays_armed {wb w : World} {L : Lay} {c : Nat} {s : Nat → List UInt8} {q ql p more m : Nat} {v : Value} {ps : List (List UInt8)} (h : Rm w L c s q ql p more v ps) (K : Rk wb w L q) (hp1 : 1 ≤ p) (hp2 : p ≤ 20) (hmore : more ≤ 3) (hcal : c ≤ 780000) {vp vf : Value} {gs : List Gp} (hg0 : Gs w vp gs) (hf : Fl2 wb vf m) (an : Bool) (hm0 : 0 < m) (hqlb : wb.heap.size ≤ ql) : Calls Tryz.prog 6 #[.pointer (some ⟨q, 0, none⟩), .agg (tnC vp vf true an).toArray] w fun e w' => e = .returned (.bool true) ∧ ∃ L' c' s' v' ql' ps', Rm w' L' c' s' q ql' p more v' ps' ∧ Fx (fun k => k = q ∨ k = ql ∨ L.F k) w w' ∧ (∀ k, L'.F k → L.F k ∨ w.heap.size ≤ k) ∧ c' ≤ c + 26200 ∧ (ql' = ql ∨ w.heap.size ≤ ql') := by
  obtain ⟨w1, q3, r1, b1, l1, hq3⟩ := box34 vp vf true an w
  have R1 := h.on l1
  refine calls_of_args [.pointer (some ⟨q, 0, none⟩), .agg (tnC vp vf true an).toArray] Tryz.func6 rfl 189 Tryz.ntmps6 (by show 2 ≤ 189; decide) ?_; refine EW.seq ?_; refine EW.region ?_; refine WL.box rfl rfl rfl r1 ?_; refine WL.assign rfl rfl rfl ?_; refine WL.done ?_; refine EW.on ?_; refine EW.seq ?_; refine EW.region ?_; refine WL.move rfl rfl rfl ?_; refine WL.load rfl rfl rfl (ld34 b1) ?_; refine WL.call [.pointer (some ⟨q, 0, none⟩), .agg (tnC vp vf true an).toArray] enter19 rfl rfl rfl (wanted_ok R1.rm R1.os R1.ds.len (by omega) (by omega) (hg0.below l1)) ?_
  rintro _ w2 ⟨vo, va, lo, rfl, pw, heq, ob, fo, oa, l2⟩
  refine ⟨_, rfl, ?_⟩
  have R2 := R1.on l2
  have b2 := b1.on l2
  have l12 := l1.trans (l2.mono l1.size)
  have bw2 := K.bw.trans (l12.mono K.bw.size)
  have hlo : lo.length ≤ 20 := by
    have e1 := congrArg List.length heq
    have := wantP_len p (gs.take 20)
    rw [List.length_take] at this
    simp only [List.length_map] at e1
    omega
  refine WL.move rfl rfl rfl ?_; refine WL.extract rfl rfl rfl (ext_2 _ _ _).1 ?_; refine WL.extract rfl rfl rfl (ext_2 _ _ _).2 ?_; refine WL.assign rfl rfl rfl ?_; refine WL.assign rfl rfl rfl ?_; refine WL.done ?_; refine EW.on ?_; refine EW.seq ?_; refine EW.region ?_; refine WL.assign rfl rfl rfl ?_; refine WL.done ?_; refine EW.on ?_; refine EW.seq ?_; refine EW.seq ?_
  have hx0 : True := trivial
  · refine EW.region ?_; refine WL.field rfl rfl rfl (fldT q3 1 (by decide) _) ?_; refine WL.load rfl rfl rfl (ldB b2 rfl) ?_; refine WL.move rfl rfl rfl ?_; refine WL.field rfl rfl rfl (fldT q3 2 (by decide) _) ?_; refine WL.load rfl rfl rfl (ldF b2 rfl) ?_; refine WL.len rfl rfl rfl (hf.f.len _ _) ?_; refine WL.bin rfl rfl rfl rfl (int_gt_t (by omega) _ _ _) ?_; refine WL.pick rfl rfl rfl rfl ?_; refine WL.done ?_; refine EW.on ?_; refine EW.cond_t rfl ?_; refine EW.seq ?_; refine EW.region ?_; refine WL.field rfl rfl rfl (fldT q3 2 (by decide) _) ?_; refine WL.load rfl rfl rfl (ldF b2 rfl) ?_
    obtain ⟨st, vk, ks, torn, off, ad, a0, a1, ix, fa0, fa1, ll0, ll1, hk64, hkl, hkb⟩ := (hf.f.at_ 0 hm0).ex
    refine WL.index rfl rfl rfl rfl (ix _) ?_; refine WL.field rfl rfl rfl (fa0 _) ?_; refine WL.load rfl rfl rfl (ll0 _ bw2) ?_; refine WL.move rfl rfl rfl ?_; refine WL.len rfl rfl rfl (pw.len _ _) ?_; refine WL.bin rfl rfl rfl rfl (int_mul (c := ((6 * lo.length : Nat) : Int)) (by rw [IntKind.wrap_i64]; omega) _ _ _) ?_; refine WL.bin rfl rfl rfl rfl (int_add (c := ((6 * lo.length + 8 : Nat) : Int)) (by rw [IntKind.wrap_i64]; omega) _ _ _) ?_; refine WL.call [.int .i64 st, .int .i64 ((6 * lo.length + 8 : Nat) : Int)] enter8 rfl rfl rfl (pick_any st (6 * lo.length + 8) (by omega) (by omega) _) ?_
    rintro _ wp ⟨rfl, hzp⟩
    rw [hzp]
    clear hzp wp
    have hpk := pickN_lt st (6 * lo.length + 8) (by omega)
    refine ⟨_, rfl, ?_⟩; refine WL.bin rfl rfl rfl rfl (int_add (c := ((1 + pickN st (6 * lo.length + 8) : Nat) : Int)) (by rw [IntKind.wrap_i64]; omega) _ _ _) ?_
    obtain ⟨stp, hstp⟩ : ∃ stp, 1 + pickN st (6 * lo.length + 8) = stp := ⟨_, rfl⟩
    rw [hstp]
    refine WL.assign rfl rfl rfl ?_; refine WL.done ?_; refine EW.on ?_; refine EW.seq ?_; refine EW.ordB [(0, 0, 0), (1, 0, 0), (2, 0, 0), (3, 0, 1), (4, 0, 0), (5, 0, 0), (6, 0, 1), (7, 0, 0), (8, 0, 0), (9, 0, 1), (10, 1, 0), (11, 0, 0)] (by kernel_rfl) rfl (by kernel_rfl) ?_; simp only [opsZ, List.getD_cons_zero, List.getD_cons_succ]; refine ZE.move rfl rfl rfl rfl sz0 ?_; refine ZE.nilc rfl rfl rfl rfl sz0 ?_; refine ZE.field rfl rfl rfl rfl sz0 (fun W => fld44 q 0 (by decide) W) ?_; refine ZE.load rfl rfl rfl rfl sz1 (fun W hW => ldD (R2.rm.on (sb_of hW)) rfl) ?_; refine ZE.move rfl rfl rfl rfl sz0 ?_; refine ZE.field rfl rfl rfl rfl sz0 (fun W => fldT q3 2 (by decide) W) ?_; refine ZE.load rfl rfl rfl rfl sz1 (fun W hW => ldF (b2.on (sb_of hW)) rfl) ?_; refine ZE.index rfl rfl rfl rfl rfl sz0 (fun W => ix W) ?_; refine ZE.field rfl rfl rfl rfl sz0 (fun W => fa1 W) ?_; refine ZE.load rfl rfl rfl rfl sz1 (fun W hW => ll1 W (bw2.trans ((sb_of hW).mono bw2.size))) ?_
    refine ZE.callR [.pointer (some ⟨L.p, 0, none⟩), .int .i64 (stp : Int), .agg (lossC vk torn off).toArray] (fun v W => v = .int .i64 0 ∧ ∃ L3, Turn w2 W L L3 ∧ Da W L3 (4 * p + 1 + more) s s [] stp c) enter20 rfl rfl rfl (fun _ _ _ => .inl rfl) (fun W hW => by
      refine (arm_da (R2.dk.da.below hW) stp (by omega) (by omega) vk ks torn off ((hk64.fx (Fx.of_below (S := fun _ => False) (bw2.trans (hW.mono bw2.size))) (fun _ _ h => h))) (fun hne k hk => ?_) hkl).mono fun e w' ⟨h1, L3, h2, h3⟩ => ⟨_, h1, rfl, L3, h2.pre hW, h3⟩
      have := hkb hne k hk
      have := K.f0 L.p (.inl rfl)
      omega) ?_
    rintro _ ⟨_, rfl, _⟩
    refine ZE.assign rfl rfl rfl rfl sz0 ?_
    rintro wA ⟨_, LA, tA, dA⟩
    refine EW.on ?_; refine EW.seq ?_; refine EW.region ?_; refine WL.move rfl rfl rfl ?_; refine WL.bin rfl rfl rfl rfl (int_ne_f rfl _ _ _) ?_; refine WL.done ?_; refine EW.on ?_; refine EW.cond_f rfl ?_; refine EW.skip ?_; refine EW.on ?_; refine EW.seq ?_
    have newF : ∀ k, w1.heap.size ≤ k → ¬ L.F k := fun k hk hF => by have := h.dk.lt k hF; have := l1.size; omega
    have rmA := R2.rm.fx tA.fx R2.fq
    have lgA := R2.lg.fx tA.fx R2.fl
    have pwA := pw.fx tA.fx (fun k hk => newF k (fo k hk)) (fun x hx k hk => newF k ((ob x hx).base k hk))
    have oaA := oa.fx tA.fx (fun k hk hF => newF k (oa.base k hk) hF)
    have osA := R2.os.fx tA.fx R2.fv
    have bA := b2.fx tA.fx (fun hF => by have := h.dk.lt _ hF; omega)
    have nFA : ∀ k, k < w2.heap.size → ¬ L.F k → ¬ LA.F k := fun k hk hn hF => (tA.own k hF).elim hn (fun h => by omega)
    refine EW.region ?_; refine WL.move rfl rfl rfl ?_; refine WL.nilc rfl rfl rfl ?_; refine WL.field rfl rfl rfl (fld44 q 4 (by decide) _) ?_; refine WL.load rfl rfl rfl (ldc42 rmA rfl) ?_; refine WL.assign rfl rfl rfl ?_; refine WL.done ?_; refine EW.on ?_; refine EW.seq ?_
    rcases Nat.eq_zero_or_pos lo.length with hl0 | hlpos
    · have hlo0 : lo = [] := List.eq_nil_of_length_eq_zero hl0
      have hcm : stp = 0 ∨ lo = [] := .inr hlo0
      refine EW.region ?_; refine WL.move rfl rfl rfl ?_; refine WL.nilc rfl rfl rfl ?_; refine WL.field rfl rfl rfl (fld44 q 1 (by decide) _) ?_; refine WL.load rfl rfl rfl (ldcP rmA rfl) ?_; refine WL.move rfl rfl rfl ?_; refine WL.call [.pointer (some ⟨ql, 0, none⟩), vo] enter14 rfl rfl rfl (commit_calm dA (by rw [tA.p]; exact lgA) hp1 hp2 hmore (by omega) R2.ds hcm pwA (wantP_nodup p _) (wantP_lt p (by omega) _) (by have := wantP_len p (gs.take 20); rw [List.length_take] at this; omega) heq (fun x hx k hk hF => (tA.own k hF).elim (newF k ((ob x hx).base k hk)) (fun h2 => by have := ((ob x hx).lt hk).1; omega)) (fun x hx k hk => by have := ((ob x hx).lt hk).1; have := tA.fx.size; omega)) ?_
      rintro _ w3 ⟨rfl, L3, s3, lf3, c3, t3', d3, ds3, hc3⟩
      have t3 := tA.trans t3'
      refine ⟨_, rfl, ?_⟩
      have b3 := b2.fx t3.fx (fun hF => by have := h.dk.lt _ hF; omega)
      have rm3 := R2.rm.fx t3.fx R2.fq
      have lg3 := R2.lg.fx t3.fx R2.fl
      have oa3 := oa.fx t3.fx (fun k hk hF => newF k (oa.base k hk) hF)
      refine WL.assign rfl rfl rfl ?_; refine WL.done ?_; refine EW.on ?_; refine EW.seq ?_; refine EW.region ?_; refine WL.field rfl rfl rfl (fldT q3 2 (by decide) _) ?_; refine WL.load rfl rfl rfl (ldF b3 rfl) ?_; refine WL.assign rfl rfl rfl ?_; refine WL.done ?_; refine EW.on ?_; refine EW.seq ?_; refine EW.seq ?_; refine EW.region ?_; refine WL.move rfl rfl rfl ?_; refine WL.len rfl rfl rfl (hf.f.len _ _) ?_; refine WL.bin rfl rfl rfl rfl (int_gt_t (by omega) _ _ _) ?_; refine WL.done ?_; refine EW.on ?_; refine EW.cond_t rfl ?_; refine EW.region ?_; refine WL.move rfl rfl rfl ?_
      obtain ⟨fv', hcut, hf'⟩ := hf.cut (by omega)
      refine WL.sliceL rfl rfl rfl rfl (hcut _) ?_; refine WL.assign rfl rfl rfl ?_; refine WL.done ?_; refine EW.on ?_; refine EW.seq ?_; refine EW.block ?_; refine EW.seq ?_; refine EW.region ?_; refine WL.move rfl rfl rfl ?_; refine WL.len rfl rfl rfl (pw.len _ _) ?_; refine WL.bin rfl rfl rfl rfl (int_eq_t (by omega) _ _ _) ?_; refine WL.move rfl rfl rfl ?_; refine WL.skip _ rfl rfl rfl ?_; refine WL.skip _ rfl rfl rfl ?_; refine WL.pick rfl rfl rfl rfl ?_; refine WL.assign rfl rfl rfl ?_; refine WL.done ?_; refine EW.on ?_; refine EW.cond_t rfl ?_; refine EW.seq ?_; refine EW.region ?_; refine WL.move rfl rfl rfl ?_; refine WL.nilc rfl rfl rfl ?_; refine WL.field rfl rfl rfl (fld44 q 0 (by decide) _) ?_; refine WL.load rfl rfl rfl (ldD rm3 rfl) ?_; refine WL.buildN [] rfl rfl rfl (build70 _) ?_
      rw [← t3.p]
      refine WL.call [.pointer (some ⟨L3.p, 0, none⟩), .int .i64 0, .agg (lossC (.slice none 0 0) 0 0).toArray] enter20 rfl rfl rfl (arm0_da d3 _ 0 0) ?_
      rintro _ w4 ⟨rfl, L4, t4, d4⟩
      refine ⟨_, rfl, ?_⟩
      have nF3 : ∀ k, k < w2.heap.size → ¬ L.F k → ¬ L3.F k := fun k hk hn hF => (t3.own k hF).elim hn (fun h => by omega)
      have rm4 := rm3.fx t4.fx (nF3 q R2.rm.lt R2.fq)
      have lg4 := lg3.fx t4.fx (nF3 ql R2.lg.lt R2.fl)
      have vaF : ∀ k, va.ownBlock = some k → k < w2.heap.size ∧ ¬ L.F k := fun k hk => ⟨oa.lt hk, newF k (oa.base k hk)⟩
      have oa4 := oa3.fx t4.fx (fun k hk => nF3 k (vaF k hk).1 (vaF k hk).2)
      have T4 := t3.trans t4
      obtain ⟨w5, s5, rm5, x5⟩ := stc42 oa4.shape (j := 4) rm4 rfl
      refine WL.done ?_; refine EW.on ?_; refine EW.seq ?_; refine EW.region ?_; refine WL.move rfl rfl rfl ?_; refine WL.move rfl rfl rfl ?_; refine WL.nilc rfl rfl rfl ?_; refine WL.field rfl rfl rfl (fld44 q 4 (by decide) _) ?_; refine WL.store rfl rfl rfl s5 ?_
      have nF4 : ∀ k, k < w2.heap.size → ¬ L.F k → ¬ L4.F k := fun k hk hn hF => (T4.own k hF).elim hn (fun h => by omega)
      have q4F := nF4 q R2.rm.lt R2.fq
      have d5 := d4.fxS x5 (fun k hk e => q4F (e ▸ hk))
      have lg5 := lg4.fx x5 (ne_type ⟨_, lg4⟩ rm4 (by decide))
      have oa5 := oa4.fx x5 (fun k hk => ne_type (own_type oa4.row hk) rm4 (by decide))
      have R5 : Rm w5 L4 c3 s3 q ql p more va (aftL ps (wantP p (gs.take 20))) := ⟨d5, by rw [T4.p]; exact rm5, by rw [T4.p]; exact lg5, oa5.mono (Nat.zero_le _), ds3, q4F, nF4 ql R2.lg.lt R2.fl, fun k hk => nF4 k (vaF k hk).1 (vaF k hk).2, aftL_pl h.pl _⟩
      refine WL.done ?_; refine EW.on ?_; refine EW.seq ?_; refine EW.region ?_; refine WL.move rfl rfl rfl ?_; refine WL.bin rfl rfl rfl rfl (eq24n _ _) ?_; refine WL.move rfl rfl rfl ?_
      first | refine WL.move rfl rfl rfl ?_ | refine WL.skip _ rfl rfl rfl ?_
      refine WL.call [.pointer (some ⟨q, 0, none⟩)] enter13 rfl rfl rfl (clean_ok R5.dk R5.rm R5.os R5.ds.len (by omega) (by omega) R5.pl R5.ds.img) ?_
      rintro _ w6 ⟨rfl, l6⟩
      refine ⟨_, rfl, ?_⟩
      have R6 := R5.on l6
      refine WL.pick rfl rfl rfl rfl ?_; refine WL.move rfl rfl rfl ?_
      first | refine WL.move rfl rfl rfl ?_ | refine WL.skip _ rfl rfl rfl ?_
      first | refine WL.move rfl rfl rfl ?_ | refine WL.skip _ rfl rfl rfl ?_
      refine WL.call [.pointer (some ⟨q, 0, none⟩), va] enter21 rfl rfl rfl (stands_ok R6.dk R6.rm R6.lg (by omega) (by omega) R6.os R6.ds.len R6.ds.hom) ?_
      rintro _ w7 ⟨rfl, l7⟩
      refine ⟨_, rfl, ?_⟩
      have R7 := R6.on l7
      refine WL.pick rfl rfl rfl rfl ?_; refine WL.assign rfl rfl rfl ?_; refine WL.done ?_; refine EW.on ?_; refine EW.ret ?_; refine pr_block ?_; refine pr_then ?_; refine EW.returns Tryz.results6 rfl ⟨rfl, L4, c3, s3, va, ql, _, R7, ?_, fun k hk => (T4.own k hk).imp id (fun h => by have := l12.size; omega), by omega, .inl rfl⟩
      have f1 : Fx (fun k => k = q ∨ L.F k) w w4 := (Fx.of_below l12).trans (T4.fx.mono (fun k _ h => .inr h)) (fun i _ h => h)
      exact Fx.mono (((f1.trans x5 (fun i _ e => .inl e)).then_below l6).then_below l7) (fun k _ e => e.elim .inl (fun e => .inr (.inr e)))
    · refine EW.region ?_; refine WL.move rfl rfl rfl ?_; refine WL.nilc rfl rfl rfl ?_; refine WL.field rfl rfl rfl (fld44 q 1 (by decide) _) ?_; refine WL.load rfl rfl rfl (ldcP rmA rfl) ?_; refine WL.move rfl rfl rfl ?_
      obtain ⟨g, cp, hvo⟩ : ∃ g cp, vo = .slice (some ⟨g, 0, none⟩) lo.length cp := by
        obtain ⟨_, ⟨_, hz⟩ | ⟨g, cp, cur, hv, _⟩⟩ := pw.row
        · omega
        · exact ⟨g, cp, hv⟩
      subst hvo
      obtain ⟨c1, c2, _⟩ := R2.ds.commit (wantP_nodup p _) (wantP_lt p (by omega) _) heq (List.Perm.refl lo)
      refine WL.call [.pointer (some ⟨ql, 0, none⟩), .slice (some ⟨g, 0, none⟩) lo.length cp] enter14 rfl rfl rfl (acommit dA (by rw [tA.p]; exact lgA) (nFA ql R2.lg.lt R2.fl) (by omega) (by omega) (by omega) (by omega) pwA hlpos (by omega) c1 c2 (fun x hx k hk hF => (tA.own k hF).elim (newF k ((ob x hx).base k hk)) (fun h2 => by have := ((ob x hx).lt hk).1; omega)) (fun x hx k hk => by have := ((ob x hx).lt hk).1; have := tA.fx.size; omega)) ?_
      rintro e3 w3 hgo0
      rcases hgo0 with ⟨_, hlf, _⟩ | ⟨u3, qf, L3, d3, c3, rfl, rfl, hqf, f3, lg3, fx3, own3, p3, dz3, hc3, hln3, nqf, l', hl', chx⟩
      · exfalso; omega
      refine ⟨_, rfl, ?_⟩
      have szA := tA.fx.size
      have szf3 := fx3.size
      have nq3 : ¬ (LA.F q ∨ q = ql) := fun e => e.elim (nFA q R2.rm.lt R2.fq) (fun e => ne_type ⟨_, R2.lg⟩ R2.rm (by decide) e.symm)
      have rm3 := rmA.fx fx3 nq3
      have b3 := bA.fx fx3 (fun e => e.elim (nFA q3 b2.lt (fun hF => by have := h.dk.lt _ hF; omega)) (fun e => by have := h.lg.lt; omega))
      have oa3 := oaA.fx fx3 (fun k hk e => e.elim (nFA k (oa.lt hk) (newF k (oa.base k hk))) (fun e => by have := oa.base k hk; have := h.lg.lt; have := l1.size; omega))
      have os3 := osA.fx fx3 (fun k hk e => e.elim (nFA k (R2.os.lt hk) (R2.fv k hk)) (fun e => ne_type (own_type R2.os.row hk) R2.lg (by decide) e))
      rw [tA.p] at lg3
      have hp3 : L3.p = L.p := p3.trans tA.p
      have bwA := bw2.trans (tA.fx.below (fun k hk hF => by have := K.f0 k hF; omega) bw2.size)
      have bw3 := bwA.trans (fx3.below (fun k hk e => e.elim (fun hF => (tA.own k hF).elim (fun h => by have := K.f0 k h; omega) (fun h => by have := bw2.size; omega)) (fun e => by omega)) bwA.size)
      have hdl : ∀ i, i < 4 * p + 1 + more → (s i).length = 512 := fun i hi => h.dk.len i hi
      have hne' : l' ≠ [] := fun e => by rw [e] at hl'; have := hl'.length_eq; simp at this; omega
      have haft := aft_of (ps := ps) (wantP_nodup p (gs.take 20)) (fun a ha => by rw [h.ds.len]; exact wantP_lt p (by omega) _ a ha) heq hl' (fun x hx => (pw.has x hx).2)
      obtain ⟨px, hpx, hst⟩ : ∃ px, ((px = ps ∧ stp ≤ 2 * lo.length + 3) ∨ (px = aftL ps (wantP p (gs.take 20)) ∧ 2 * lo.length + 1 < stp)) ∧ St p more d3 px := by
        have := chx.st R2.ds hdl hne' (fun x hx => c1 x (hl'.subset hx)) ((hl'.map Pw.n).nodup_iff.2 c2) haft hln3
        rw [hl'.length_eq] at this
        rcases this with ⟨k1, k2⟩ | ⟨k1, k2⟩
        · exact ⟨ps, .inl ⟨rfl, k1⟩, k2⟩
        · exact ⟨_, .inr ⟨rfl, k1⟩, k2⟩
      refine WL.assign rfl rfl rfl ?_; refine WL.done ?_; refine EW.on ?_; refine EW.seq ?_; refine EW.region ?_; refine WL.field rfl rfl rfl (fldT q3 2 (by decide) _) ?_; refine WL.load rfl rfl rfl (ldF b3 rfl) ?_; refine WL.assign rfl rfl rfl ?_; refine WL.done ?_; refine EW.on ?_; refine EW.seq ?_; refine EW.seq ?_; refine EW.region ?_; refine WL.move rfl rfl rfl ?_; refine WL.len rfl rfl rfl (hf.f.len _ _) ?_; refine WL.bin rfl rfl rfl rfl (int_gt_t (by omega) _ _ _) ?_; refine WL.done ?_; refine EW.on ?_; refine EW.cond_t rfl ?_; refine EW.region ?_; refine WL.move rfl rfl rfl ?_
      obtain ⟨fv', hcut, hf'⟩ := hf.cut (by omega)
      refine WL.sliceL rfl rfl rfl rfl (hcut _) ?_; refine WL.assign rfl rfl rfl ?_; refine WL.done ?_; refine EW.on ?_; refine EW.seq ?_; refine EW.block ?_; refine EW.seq ?_; refine EW.region ?_; refine WL.move rfl rfl rfl ?_; refine WL.len rfl rfl rfl (pw.len _ _) ?_; refine WL.bin rfl rfl rfl rfl (int_eq_f (by omega) _ _ _) ?_; refine WL.move rfl rfl rfl ?_
      first | refine WL.move rfl rfl rfl ?_ | refine WL.skip _ rfl rfl rfl ?_
      refine WL.bin rfl rfl rfl rfl (int_eq_f (by omega) _ _ _) ?_; refine WL.pick rfl rfl rfl rfl ?_; refine WL.assign rfl rfl rfl ?_; refine WL.done ?_; refine EW.on ?_; refine EW.cond_f rfl ?_; refine EW.seq ?_; refine EW.region ?_; refine WL.move rfl rfl rfl ?_; refine WL.bin rfl rfl rfl rfl (eq24f _ _ _ _) ?_; refine WL.move rfl rfl rfl ?_
      first | refine WL.move rfl rfl rfl ?_ | refine WL.skip _ rfl rfl rfl ?_
      refine WL.call [.iface 109 (.pointer (some ⟨qf, 0, none⟩))] enter22 rfl rfl rfl (code_any f3 ((bw3.cell (cell_lt K.hg)).trans K.hg)) ?_
      rintro _ w4 ⟨rfl, e4⟩
      have rm4 := rm3.on e4
      have lg4 := lg3.on e4
      refine ⟨_, rfl, ?_⟩; refine WL.bin rfl rfl rfl rfl (int_ne_f rfl _ _ _) ?_; refine WL.pick rfl rfl rfl rfl ?_; refine WL.move rfl rfl rfl ?_
      first | refine WL.move rfl rfl rfl ?_ | refine WL.skip _ rfl rfl rfl ?_
      first | refine WL.nilc rfl rfl rfl ?_ | refine WL.skip _ rfl rfl rfl ?_
      refine WL.field rfl rfl rfl (fld44 q 0 (by decide) _) ?_; refine WL.load rfl rfl rfl (ldD rm4 rfl) ?_; refine WL.call [.pointer (some ⟨L.p, 0, none⟩)] enter23 rfl rfl rfl (by rw [← hp3]; exact down_dz (dz3.below e4)) ?_
      rintro _ w5 ⟨rfl, hz5⟩
      rw [hz5]
      clear hz5 w5
      refine ⟨_, rfl, ?_⟩
      first | refine WL.un rfl rfl rfl (not_t _ _) ?_ | refine WL.skip _ rfl rfl rfl ?_
      refine WL.pick rfl rfl rfl rfl ?_; refine WL.move rfl rfl rfl ?_
      first | refine WL.move rfl rfl rfl ?_ | refine WL.skip _ rfl rfl rfl ?_
      first | refine WL.nilc rfl rfl rfl ?_ | refine WL.skip _ rfl rfl rfl ?_
      refine WL.field rfl rfl rfl (fld44 q 1 (by decide) _) ?_; refine WL.load rfl rfl rfl (ldcP rm4 rfl) ?_; refine WL.call [.pointer (some ⟨ql, 0, none⟩)] enter24 rfl rfl rfl (err_any lg4) ?_
      rintro _ w5 ⟨rfl, hz5⟩
      rw [hz5]
      clear hz5 w5
      refine ⟨_, rfl, ?_⟩
      first | refine WL.move rfl rfl rfl ?_ | refine WL.skip _ rfl rfl rfl ?_
      refine WL.bin rfl rfl rfl rfl (ne24r qf _ _ _) ?_; refine WL.pick rfl rfl rfl rfl ?_; refine WL.assign rfl rfl rfl ?_; refine WL.done ?_; refine EW.on ?_; refine EW.cond_f rfl ?_; refine EW.skip ?_; refine pn_block ?_; refine EW.on ?_; refine EW.seq ?_; refine EW.region ?_; refine WL.move rfl rfl rfl ?_; refine WL.nilc rfl rfl rfl ?_; refine WL.field rfl rfl rfl (fld44 q 1 (by decide) _) ?_; refine WL.load rfl rfl rfl (ldcP rm4 rfl) ?_; refine WL.call [.pointer (some ⟨ql, 0, none⟩), .int .i64 0] enter16 rfl rfl rfl (read_ended lg4 0) ?_
      rintro _ w7 ⟨qr, rfl, fr, e7⟩
      have e37 := e4.trans (e7.mono e4.size)
      refine ⟨_, rfl, ?_⟩; refine WL.move rfl rfl rfl ?_; refine WL.extract rfl rfl rfl (ext_2 _ _ _).1 ?_; refine WL.extract rfl rfl rfl (ext_2 _ _ _).2 ?_; refine WL.assign rfl rfl rfl ?_; refine WL.assign rfl rfl rfl ?_; refine WL.done ?_; refine EW.on ?_; refine EW.seq ?_; refine EW.region ?_; refine WL.move rfl rfl rfl ?_; refine WL.call [.iface 109 (.pointer (some ⟨qr, 0, none⟩))] enter22 rfl rfl rfl (code_any fr (((bw3.trans (e37.mono bw3.size)).cell (cell_lt K.hg)).trans K.hg)) ?_
      rintro _ w8 ⟨rfl, e8⟩
      have e38 := e37.trans (e8.mono e37.size)
      have sz38 := e38.size
      refine ⟨_, rfl, ?_⟩; refine WL.bin rfl rfl rfl rfl (int_eq_t rfl _ _ _) ?_; refine WL.move rfl rfl rfl ?_
      first | refine WL.move rfl rfl rfl ?_ | refine WL.skip _ rfl rfl rfl ?_
      first | refine WL.move rfl rfl rfl ?_ | refine WL.skip _ rfl rfl rfl ?_
      have nqL3 : ¬ L3.F q := fun hF => (own3 q hF).elim (nFA q R2.rm.lt R2.fq) (fun h => by have := R2.rm.lt; omega)
      have f03 : ∀ k, L3.F k → wb.heap.size ≤ k := fun k hk => (own3 k hk).elim (fun hF => (tA.own k hF).elim (K.f0 k) (fun h => by have := bw2.size; omega)) (fun h => by have := bwA.size; omega)
      have fl3 : ∀ k, L3.F k → k < w8.heap.size := fun k hk => by
        obtain ⟨D, k1, _⟩ := dz3.ex
        have := k1.lt k hk
        omega
      have K8 : Rk wb w8 L3 q := ⟨bw3.trans (e38.mono bw3.size), f03, fl3, K.q1, by have := rm3.lt; omega, nqL3, K.hg⟩
      refine WL.call [.pointer (some ⟨q, 0, none⟩), fv'] enter25 rfl rfl rfl (reopens_any K8 ⟨⟨d3, c3, dz3.below e38, hst, Nat.le_refl _⟩, by rw [hp3]; exact rm3.on e38, Fx.refl _ _, fun k hk => .inl hk, rfl⟩ hf' hp1 hp2 hmore (by omega)) ?_
      rintro _ w9 ⟨rfl, L9, q9, D9, c9, dk9, ds9, rm9, lg9, hq9, nq9, fx9, own9, p9, hc9⟩
      rw [hp3] at rm9 lg9
      have hp9 : L9.p = L.p := p9.trans hp3
      have os9 := (os3.below e38).fx fx9 (fun k hk e => e.elim (fun hF => (own3 k hF).elim (nFA k (R2.os.lt hk) (R2.fv k hk)) (fun h => by have := R2.os.lt hk; omega)) (fun e => ne_type (own_type R2.os.row hk) R2.rm (by decide) e))
      have oa9 := (oa3.below e38).fx fx9 (fun k hk e => e.elim (fun hF => (own3 k hF).elim (nFA k (oa.lt hk) (newF k (oa.base k hk))) (fun h => by have := oa.lt hk; omega)) (fun e => by have := oa.base k hk; have := h.rm.lt; have := l1.size; omega))
      refine ⟨_, rfl, ?_⟩; refine WL.pick rfl rfl rfl rfl ?_; refine WL.assign rfl rfl rfl ?_; refine WL.done ?_; refine EW.on ?_; refine EW.seq ?_; refine EW.seq ?_; refine EW.region ?_; refine WL.move rfl rfl rfl ?_; refine WL.un rfl rfl rfl (not_t _ _) ?_; refine WL.done ?_; refine EW.on ?_; refine EW.cond_f rfl ?_; refine EW.skip ?_; refine EW.on ?_; refine EW.seq ?_; refine EW.region ?_; refine WL.move rfl rfl rfl ?_; refine WL.move rfl rfl rfl ?_; refine WL.call [.pointer (some ⟨q, 0, none⟩), v] enter21 rfl rfl rfl (stands_dec dk9 rm9 (by rw [hp9]; exact lg9) (by omega) (by omega) os9 h.ds.len) ?_
      rintro _ w10 ⟨old, rfl, hold, e10⟩
      refine ⟨_, rfl, ?_⟩; refine WL.assign rfl rfl rfl ?_; refine WL.done ?_; refine EW.on ?_; refine EW.seq ?_; refine EW.region ?_; refine WL.move rfl rfl rfl ?_; refine WL.move rfl rfl rfl ?_; refine WL.call [.pointer (some ⟨q, 0, none⟩), va] enter21 rfl rfl rfl (stands_dec (dk9.below e10) (rm9.on e10) ((by rw [hp9]; exact lg9 : Blk w9 q9 (lgC L9.p p .nilIface) 88).on e10) (by omega) (by omega) (oa9.below e10) ((aftL_len _ _).trans h.ds.len)) ?_
      rintro _ w11 ⟨now, rfl, hnow, e11⟩
      have e911 := e10.trans (e11.mono e10.size)
      refine ⟨_, rfl, ?_⟩; refine WL.assign rfl rfl rfl ?_; refine WL.done ?_; refine EW.on ?_; refine EW.seq ?_
      have hbn : (old = true ∧ now = true) ∨ (old = true ∧ now = false ∧ stp ≤ 2 * lo.length + 3) ∨ (old = false ∧ now = true ∧ 2 * lo.length + 1 < stp) := by
        rcases hpx with ⟨rfl, k1⟩ | ⟨rfl, k1⟩
        · have ho : old = true := hold.2 ds9.hom
          cases now
          · exact .inr (.inl ⟨ho, rfl, k1⟩)
          · exact .inl ⟨ho, rfl⟩
        · have hn : now = true := hnow.2 ds9.hom
          cases old
          · exact .inr (.inr ⟨rfl, hn, k1⟩)
          · exact .inl ⟨rfl, hn⟩
      rcases hbn with ⟨rfl, rfl⟩ | ⟨rfl, rfl, hst3⟩ | ⟨rfl, rfl, hst3⟩
      · refine EW.region ?_; refine WL.move rfl rfl rfl ?_; refine WL.move rfl rfl rfl ?_; refine WL.nilc rfl rfl rfl ?_; refine WL.field rfl rfl rfl (fld44 q 4 (by decide) _) ?_
        obtain ⟨w12, s12, rm12, x12⟩ := stc42 (os9.below e911).shape (j := 4) (rm9.on e911) rfl
        refine WL.store rfl rfl rfl s12 ?_; refine WL.done ?_; refine EW.on ?_; refine EW.seq ?_; refine EW.seq ?_; refine EW.region ?_; refine WL.move rfl rfl rfl ?_; refine WL.done ?_; refine EW.on ?_; refine EW.cond_t rfl ?_; refine EW.region ?_; refine WL.move rfl rfl rfl ?_; refine WL.move rfl rfl rfl ?_; refine WL.nilc rfl rfl rfl ?_; refine WL.field rfl rfl rfl (fld44 q 4 (by decide) _) ?_
        obtain ⟨w13, s13, rm13, x13'⟩ := stc42 ((oa9.below e911).fx x12 (fun k hk => ne_type (own_type (oa9.below e911).row hk) (rm9.on e911) (by decide))).shape (j := 4) rm12 rfl
        refine WL.store rfl rfl rfl s13 ?_
        have x13 : Fx (fun k => k = q) w11 w13 := x12.and x13'
        refine WL.done ?_; refine EW.on ?_; refine EW.seq ?_; refine EW.seq ?_
        have nq9' : ¬ L9.F q := fun hF => (own9 q hF).elim nqL3 (fun h => by have := R2.rm.lt; omega)
        have R13 : Rm w13 L9 c9 D9 q q9 p more va (aftL ps (wantP p (gs.take 20))) := ⟨(dk9.below e911).fxS x13 (fun k hk e => nq9' (by have e : k = q := e; rw [← e]; exact hk)), by rw [hp9]; exact rm13, by rw [hp9]; exact (lg9.on e911).fx x13 (fun e => by have := R2.rm.lt; omega), ((oa9.below e911).fx x13 (fun k hk => ne_type (own_type (oa9.below e911).row hk) (rm9.on e911) (by decide))).mono (Nat.zero_le _), ⟨ds9.log, fun i x hx => hnow.1 rfl i x hx, ds9.rst, (aftL_len _ _).trans h.ds.len⟩, nq9', nq9, fun k hk hF => (own9 k hF).elim (fun hF => (own3 k hF).elim (nFA k (oa.lt hk) (newF k (oa.base k hk))) (fun h => by have := oa.lt hk; omega)) (fun h => by have := oa.lt hk; omega), aftL_pl h.pl _⟩
        have hrg : stp ≤ 2 * lo.length + 1 ∨ (2 * lo.length + 1 < stp ∧ stp ≤ 2 * lo.length + 3) ∨ 2 * lo.length + 3 < stp := by omega
        rcases hrg with hrg | hrg | hrg
        · refine EW.region ?_; refine WL.move rfl rfl rfl ?_; refine WL.move rfl rfl rfl ?_; refine WL.len rfl rfl rfl (pw.len _ _) ?_; refine WL.bin rfl rfl rfl rfl (int_mul (c := ((2 * lo.length : Nat) : Int)) (by rw [IntKind.wrap_i64]; omega) _ _ _) ?_; refine WL.bin rfl rfl rfl rfl (int_add (c := ((2 * lo.length + 1 : Nat) : Int)) (by rw [IntKind.wrap_i64]; omega) _ _ _) ?_; refine WL.bin rfl rfl rfl rfl (int_le_t (by omega) _ _ _) ?_; refine WL.move rfl rfl rfl ?_
          first | refine WL.move rfl rfl rfl ?_ | refine WL.skip _ rfl rfl rfl ?_
          first | refine WL.un rfl rfl rfl (not_t _ _) ?_ | refine WL.skip _ rfl rfl rfl ?_
          refine WL.pick rfl rfl rfl rfl ?_; refine WL.move rfl rfl rfl ?_
          first | refine WL.move rfl rfl rfl ?_ | refine WL.skip _ rfl rfl rfl ?_
          first | refine WL.move rfl rfl rfl ?_ | refine WL.skip _ rfl rfl rfl ?_
          refine WL.len rfl rfl rfl (pw.len _ _) ?_; refine WL.bin rfl rfl rfl rfl (int_mul (c := ((2 * lo.length : Nat) : Int)) (by rw [IntKind.wrap_i64]; omega) _ _ _) ?_; refine WL.bin rfl rfl rfl rfl (int_add (c := ((2 * lo.length + 3 : Nat) : Int)) (by rw [IntKind.wrap_i64]; omega) _ _ _) ?_; refine WL.bin rfl rfl rfl rfl (int_gt_f (by omega) _ _ _) ?_
          first | refine WL.move rfl rfl rfl ?_ | refine WL.skip _ rfl rfl rfl ?_
          first | refine WL.move rfl rfl rfl ?_ | refine WL.skip _ rfl rfl rfl ?_
          first | refine WL.un rfl rfl rfl (not_t _ _) ?_ | refine WL.skip _ rfl rfl rfl ?_
          first | refine WL.pick rfl rfl rfl rfl ?_ | refine WL.skip _ rfl rfl rfl ?_
          refine WL.pick rfl rfl rfl rfl ?_; refine WL.done ?_; refine EW.on ?_; refine EW.cond_f rfl ?_; refine EW.skip ?_; refine EW.on ?_; refine EW.seq ?_; refine EW.region ?_; refine WL.move rfl rfl rfl ?_; refine WL.move rfl rfl rfl ?_
          first | refine WL.move rfl rfl rfl ?_ | refine WL.skip _ rfl rfl rfl ?_
          refine WL.pick rfl rfl rfl rfl ?_; refine WL.move rfl rfl rfl ?_
          first | refine WL.move rfl rfl rfl ?_ | refine WL.skip _ rfl rfl rfl ?_
          refine WL.call [.pointer (some ⟨q, 0, none⟩)] enter13 rfl rfl rfl (clean_ok R13.dk R13.rm R13.os R13.ds.len (by omega) (by omega) R13.pl R13.ds.img) ?_
          rintro _ w14 ⟨rfl, l14⟩
          have R14 := R13.on l14
          refine ⟨_, rfl, ?_⟩; refine WL.pick rfl rfl rfl rfl ?_; refine WL.assign rfl rfl rfl ?_; refine WL.done ?_; refine EW.on ?_; refine EW.ret ?_; refine EW.returns Tryz.results6 rfl ⟨rfl, L9, c9, D9, _, q9, _, R14, ?_, fun k hk => (own9 k hk).elim (fun hF => (own3 k hF).elim (fun hF => (tA.own k hF).imp id (fun h => by have := l12.size; omega)) (fun h => .inr (by have := l12.size; omega))) (fun h => .inr (by have := l12.size; have := fx3.size; omega)), by omega, .inr (by have := l12.size; have := fx3.size; omega)⟩
          have s12 := l12.size
          have s3 := fx3.size
          have s9 := fx9.size
          have g1 : Fx (fun k => k = q ∨ k = ql ∨ L.F k) w wA := (Fx.of_below l12).trans (tA.fx.mono (fun k _ h => .inr (.inr h))) (fun i _ h => h)
          have g2 : Fx (fun k => k = q ∨ k = ql ∨ L.F k) w w3 := g1.trans fx3 (fun i hi e => e.elim (fun hF => (tA.own i hF).elim (fun h => .inr (.inr h)) (fun h => by omega)) (fun e => .inr (.inl e)))
          have g3 : Fx (fun k => k = q ∨ k = ql ∨ L.F k) w w9 := (g2.then_below e38).trans fx9 (fun i hi e => e.elim (fun hF => (own3 i hF).elim (fun hF => (tA.own i hF).elim (fun h => .inr (.inr h)) (fun h => by omega)) (fun h => by omega)) .inl)
          exact ((g3.then_below e911).trans x13 (fun i _ e => .inl e)).then_below l14
        · refine EW.region ?_; refine WL.move rfl rfl rfl ?_; refine WL.move rfl rfl rfl ?_; refine WL.len rfl rfl rfl (pw.len _ _) ?_; refine WL.bin rfl rfl rfl rfl (int_mul (c := ((2 * lo.length : Nat) : Int)) (by rw [IntKind.wrap_i64]; omega) _ _ _) ?_; refine WL.bin rfl rfl rfl rfl (int_add (c := ((2 * lo.length + 1 : Nat) : Int)) (by rw [IntKind.wrap_i64]; omega) _ _ _) ?_; refine WL.bin rfl rfl rfl rfl (int_le_f (by omega) _ _ _) ?_; refine WL.move rfl rfl rfl ?_
          first | refine WL.move rfl rfl rfl ?_ | refine WL.skip _ rfl rfl rfl ?_
          first | refine WL.un rfl rfl rfl (not_t _ _) ?_ | refine WL.skip _ rfl rfl rfl ?_
          refine WL.pick rfl rfl rfl rfl ?_; refine WL.move rfl rfl rfl ?_
          first | refine WL.move rfl rfl rfl ?_ | refine WL.skip _ rfl rfl rfl ?_
          first | refine WL.move rfl rfl rfl ?_ | refine WL.skip _ rfl rfl rfl ?_
          refine WL.len rfl rfl rfl (pw.len _ _) ?_; refine WL.bin rfl rfl rfl rfl (int_mul (c := ((2 * lo.length : Nat) : Int)) (by rw [IntKind.wrap_i64]; omega) _ _ _) ?_; refine WL.bin rfl rfl rfl rfl (int_add (c := ((2 * lo.length + 3 : Nat) : Int)) (by rw [IntKind.wrap_i64]; omega) _ _ _) ?_; refine WL.bin rfl rfl rfl rfl (int_gt_f (by omega) _ _ _) ?_
          first | refine WL.move rfl rfl rfl ?_ | refine WL.skip _ rfl rfl rfl ?_
          first | refine WL.move rfl rfl rfl ?_ | refine WL.skip _ rfl rfl rfl ?_
          first | refine WL.un rfl rfl rfl (not_t _ _) ?_ | refine WL.skip _ rfl rfl rfl ?_
          first | refine WL.pick rfl rfl rfl rfl ?_ | refine WL.skip _ rfl rfl rfl ?_
          refine WL.pick rfl rfl rfl rfl ?_; refine WL.done ?_; refine EW.on ?_; refine EW.cond_f rfl ?_; refine EW.skip ?_; refine EW.on ?_; refine EW.seq ?_; refine EW.region ?_; refine WL.move rfl rfl rfl ?_; refine WL.move rfl rfl rfl ?_
          first | refine WL.move rfl rfl rfl ?_ | refine WL.skip _ rfl rfl rfl ?_
          refine WL.pick rfl rfl rfl rfl ?_; refine WL.move rfl rfl rfl ?_
          first | refine WL.move rfl rfl rfl ?_ | refine WL.skip _ rfl rfl rfl ?_
          refine WL.call [.pointer (some ⟨q, 0, none⟩)] enter13 rfl rfl rfl (clean_ok R13.dk R13.rm R13.os R13.ds.len (by omega) (by omega) R13.pl R13.ds.img) ?_
          rintro _ w14 ⟨rfl, l14⟩
          have R14 := R13.on l14
          refine ⟨_, rfl, ?_⟩; refine WL.pick rfl rfl rfl rfl ?_; refine WL.assign rfl rfl rfl ?_; refine WL.done ?_; refine EW.on ?_; refine EW.ret ?_; refine EW.returns Tryz.results6 rfl ⟨rfl, L9, c9, D9, _, q9, _, R14, ?_, fun k hk => (own9 k hk).elim (fun hF => (own3 k hF).elim (fun hF => (tA.own k hF).imp id (fun h => by have := l12.size; omega)) (fun h => .inr (by have := l12.size; omega))) (fun h => .inr (by have := l12.size; have := fx3.size; omega)), by omega, .inr (by have := l12.size; have := fx3.size; omega)⟩
          have s12 := l12.size
          have s3 := fx3.size
          have s9 := fx9.size
          have g1 : Fx (fun k => k = q ∨ k = ql ∨ L.F k) w wA := (Fx.of_below l12).trans (tA.fx.mono (fun k _ h => .inr (.inr h))) (fun i _ h => h)
          have g2 : Fx (fun k => k = q ∨ k = ql ∨ L.F k) w w3 := g1.trans fx3 (fun i hi e => e.elim (fun hF => (tA.own i hF).elim (fun h => .inr (.inr h)) (fun h => by omega)) (fun e => .inr (.inl e)))
          have g3 : Fx (fun k => k = q ∨ k = ql ∨ L.F k) w w9 := (g2.then_below e38).trans fx9 (fun i hi e => e.elim (fun hF => (own3 i hF).elim (fun hF => (tA.own i hF).elim (fun h => .inr (.inr h)) (fun h => by omega)) (fun h => by omega)) .inl)
          exact ((g3.then_below e911).trans x13 (fun i _ e => .inl e)).then_below l14
        · refine EW.region ?_; refine WL.move rfl rfl rfl ?_; refine WL.move rfl rfl rfl ?_; refine WL.len rfl rfl rfl (pw.len _ _) ?_; refine WL.bin rfl rfl rfl rfl (int_mul (c := ((2 * lo.length : Nat) : Int)) (by rw [IntKind.wrap_i64]; omega) _ _ _) ?_; refine WL.bin rfl rfl rfl rfl (int_add (c := ((2 * lo.length + 1 : Nat) : Int)) (by rw [IntKind.wrap_i64]; omega) _ _ _) ?_; refine WL.bin rfl rfl rfl rfl (int_le_f (by omega) _ _ _) ?_; refine WL.move rfl rfl rfl ?_
          first | refine WL.move rfl rfl rfl ?_ | refine WL.skip _ rfl rfl rfl ?_
          first | refine WL.un rfl rfl rfl (not_t _ _) ?_ | refine WL.skip _ rfl rfl rfl ?_
          refine WL.pick rfl rfl rfl rfl ?_; refine WL.move rfl rfl rfl ?_
          first | refine WL.move rfl rfl rfl ?_ | refine WL.skip _ rfl rfl rfl ?_
          first | refine WL.move rfl rfl rfl ?_ | refine WL.skip _ rfl rfl rfl ?_
          refine WL.len rfl rfl rfl (pw.len _ _) ?_; refine WL.bin rfl rfl rfl rfl (int_mul (c := ((2 * lo.length : Nat) : Int)) (by rw [IntKind.wrap_i64]; omega) _ _ _) ?_; refine WL.bin rfl rfl rfl rfl (int_add (c := ((2 * lo.length + 3 : Nat) : Int)) (by rw [IntKind.wrap_i64]; omega) _ _ _) ?_; refine WL.bin rfl rfl rfl rfl (int_gt_t (by omega) _ _ _) ?_
          first | refine WL.move rfl rfl rfl ?_ | refine WL.skip _ rfl rfl rfl ?_
          first | refine WL.move rfl rfl rfl ?_ | refine WL.skip _ rfl rfl rfl ?_
          first | refine WL.un rfl rfl rfl (not_t _ _) ?_ | refine WL.skip _ rfl rfl rfl ?_
          first | refine WL.pick rfl rfl rfl rfl ?_ | refine WL.skip _ rfl rfl rfl ?_
          refine WL.pick rfl rfl rfl rfl ?_; refine WL.done ?_; refine EW.on ?_; refine EW.cond_f rfl ?_; refine EW.skip ?_; refine EW.on ?_; refine EW.seq ?_; refine EW.region ?_; refine WL.move rfl rfl rfl ?_; refine WL.move rfl rfl rfl ?_
          first | refine WL.move rfl rfl rfl ?_ | refine WL.skip _ rfl rfl rfl ?_
          refine WL.pick rfl rfl rfl rfl ?_; refine WL.move rfl rfl rfl ?_
          first | refine WL.move rfl rfl rfl ?_ | refine WL.skip _ rfl rfl rfl ?_
          refine WL.call [.pointer (some ⟨q, 0, none⟩)] enter13 rfl rfl rfl (clean_ok R13.dk R13.rm R13.os R13.ds.len (by omega) (by omega) R13.pl R13.ds.img) ?_
          rintro _ w14 ⟨rfl, l14⟩
          have R14 := R13.on l14
          refine ⟨_, rfl, ?_⟩; refine WL.pick rfl rfl rfl rfl ?_; refine WL.assign rfl rfl rfl ?_; refine WL.done ?_; refine EW.on ?_; refine EW.ret ?_; refine EW.returns Tryz.results6 rfl ⟨rfl, L9, c9, D9, _, q9, _, R14, ?_, fun k hk => (own9 k hk).elim (fun hF => (own3 k hF).elim (fun hF => (tA.own k hF).imp id (fun h => by have := l12.size; omega)) (fun h => .inr (by have := l12.size; omega))) (fun h => .inr (by have := l12.size; have := fx3.size; omega)), by omega, .inr (by have := l12.size; have := fx3.size; omega)⟩
          have s12 := l12.size
          have s3 := fx3.size
          have s9 := fx9.size
          have g1 : Fx (fun k => k = q ∨ k = ql ∨ L.F k) w wA := (Fx.of_below l12).trans (tA.fx.mono (fun k _ h => .inr (.inr h))) (fun i _ h => h)
          have g2 : Fx (fun k => k = q ∨ k = ql ∨ L.F k) w w3 := g1.trans fx3 (fun i hi e => e.elim (fun hF => (tA.own i hF).elim (fun h => .inr (.inr h)) (fun h => by omega)) (fun e => .inr (.inl e)))
          have g3 : Fx (fun k => k = q ∨ k = ql ∨ L.F k) w w9 := (g2.then_below e38).trans fx9 (fun i hi e => e.elim (fun hF => (own3 i hF).elim (fun hF => (tA.own i hF).elim (fun h => .inr (.inr h)) (fun h => by omega)) (fun h => by omega)) .inl)
          exact ((g3.then_below e911).trans x13 (fun i _ e => .inl e)).then_below l14
      · refine EW.region ?_; refine WL.move rfl rfl rfl ?_; refine WL.move rfl rfl rfl ?_; refine WL.nilc rfl rfl rfl ?_; refine WL.field rfl rfl rfl (fld44 q 4 (by decide) _) ?_
        obtain ⟨w12, s12, rm12, x12⟩ := stc42 (os9.below e911).shape (j := 4) (rm9.on e911) rfl
        refine WL.store rfl rfl rfl s12 ?_; refine WL.done ?_; refine EW.on ?_; refine EW.seq ?_; refine EW.seq ?_; refine EW.region ?_; refine WL.move rfl rfl rfl ?_; refine WL.done ?_; refine EW.on ?_; refine EW.cond_f rfl ?_; refine EW.skip ?_; refine EW.on ?_; refine EW.seq ?_; refine EW.seq ?_
        obtain ⟨w13, hw13⟩ : ∃ w13, w13 = w12 := ⟨_, rfl⟩
        have rm13 := rm12
        have x13 := x12
        rw [← hw13] at rm13 x13
        rw [← hw13]
        have nq9' : ¬ L9.F q := fun hF => (own9 q hF).elim nqL3 (fun h => by have := R2.rm.lt; omega)
        have R13 : Rm w13 L9 c9 D9 q q9 p more v (ps) := ⟨(dk9.below e911).fxS x13 (fun k hk e => nq9' (by have e : k = q := e; rw [← e]; exact hk)), by rw [hp9]; exact rm13, by rw [hp9]; exact (lg9.on e911).fx x13 (fun e => by have := R2.rm.lt; omega), ((os9.below e911).fx x13 (fun k hk => ne_type (own_type (os9.below e911).row hk) (rm9.on e911) (by decide))).mono (Nat.zero_le _), ⟨ds9.log, fun i x hx => hold.1 rfl i x hx, ds9.rst, h.ds.len⟩, nq9', nq9, fun k hk hF => (own9 k hF).elim (fun hF => (own3 k hF).elim (nFA k (R2.os.lt hk) (R2.fv k hk)) (fun h => by have := R2.os.lt hk; omega)) (fun h => by have := R2.os.lt hk; omega), h.pl⟩
        have hrg : stp ≤ 2 * lo.length + 1 ∨ (2 * lo.length + 1 < stp ∧ stp ≤ 2 * lo.length + 3) := by omega
        rcases hrg with hrg | hrg
        · refine EW.region ?_; refine WL.move rfl rfl rfl ?_; refine WL.move rfl rfl rfl ?_; refine WL.len rfl rfl rfl (pw.len _ _) ?_; refine WL.bin rfl rfl rfl rfl (int_mul (c := ((2 * lo.length : Nat) : Int)) (by rw [IntKind.wrap_i64]; omega) _ _ _) ?_; refine WL.bin rfl rfl rfl rfl (int_add (c := ((2 * lo.length + 1 : Nat) : Int)) (by rw [IntKind.wrap_i64]; omega) _ _ _) ?_; refine WL.bin rfl rfl rfl rfl (int_le_t (by omega) _ _ _) ?_; refine WL.move rfl rfl rfl ?_
          first | refine WL.move rfl rfl rfl ?_ | refine WL.skip _ rfl rfl rfl ?_
          first | refine WL.un rfl rfl rfl (not_t _ _) ?_ | refine WL.skip _ rfl rfl rfl ?_
          refine WL.pick rfl rfl rfl rfl ?_; refine WL.move rfl rfl rfl ?_
          first | refine WL.move rfl rfl rfl ?_ | refine WL.skip _ rfl rfl rfl ?_
          first | refine WL.move rfl rfl rfl ?_ | refine WL.skip _ rfl rfl rfl ?_
          refine WL.len rfl rfl rfl (pw.len _ _) ?_; refine WL.bin rfl rfl rfl rfl (int_mul (c := ((2 * lo.length : Nat) : Int)) (by rw [IntKind.wrap_i64]; omega) _ _ _) ?_; refine WL.bin rfl rfl rfl rfl (int_add (c := ((2 * lo.length + 3 : Nat) : Int)) (by rw [IntKind.wrap_i64]; omega) _ _ _) ?_; refine WL.bin rfl rfl rfl rfl (int_gt_f (by omega) _ _ _) ?_
          first | refine WL.move rfl rfl rfl ?_ | refine WL.skip _ rfl rfl rfl ?_
          first | refine WL.move rfl rfl rfl ?_ | refine WL.skip _ rfl rfl rfl ?_
          first | refine WL.un rfl rfl rfl (not_t _ _) ?_ | refine WL.skip _ rfl rfl rfl ?_
          first | refine WL.pick rfl rfl rfl rfl ?_ | refine WL.skip _ rfl rfl rfl ?_
          refine WL.pick rfl rfl rfl rfl ?_; refine WL.done ?_; refine EW.on ?_; refine EW.cond_f rfl ?_; refine EW.skip ?_; refine EW.on ?_; refine EW.seq ?_; refine EW.region ?_; refine WL.move rfl rfl rfl ?_; refine WL.move rfl rfl rfl ?_
          first | refine WL.move rfl rfl rfl ?_ | refine WL.skip _ rfl rfl rfl ?_
          refine WL.pick rfl rfl rfl rfl ?_; refine WL.move rfl rfl rfl ?_
          first | refine WL.move rfl rfl rfl ?_ | refine WL.skip _ rfl rfl rfl ?_
          refine WL.call [.pointer (some ⟨q, 0, none⟩)] enter13 rfl rfl rfl (clean_ok R13.dk R13.rm R13.os R13.ds.len (by omega) (by omega) R13.pl R13.ds.img) ?_
          rintro _ w14 ⟨rfl, l14⟩
          have R14 := R13.on l14
          refine ⟨_, rfl, ?_⟩; refine WL.pick rfl rfl rfl rfl ?_; refine WL.assign rfl rfl rfl ?_; refine WL.done ?_; refine EW.on ?_; refine EW.ret ?_; refine EW.returns Tryz.results6 rfl ⟨rfl, L9, c9, D9, _, q9, _, R14, ?_, fun k hk => (own9 k hk).elim (fun hF => (own3 k hF).elim (fun hF => (tA.own k hF).imp id (fun h => by have := l12.size; omega)) (fun h => .inr (by have := l12.size; omega))) (fun h => .inr (by have := l12.size; have := fx3.size; omega)), by omega, .inr (by have := l12.size; have := fx3.size; omega)⟩
          have s12 := l12.size
          have s3 := fx3.size
          have s9 := fx9.size
          have g1 : Fx (fun k => k = q ∨ k = ql ∨ L.F k) w wA := (Fx.of_below l12).trans (tA.fx.mono (fun k _ h => .inr (.inr h))) (fun i _ h => h)
          have g2 : Fx (fun k => k = q ∨ k = ql ∨ L.F k) w w3 := g1.trans fx3 (fun i hi e => e.elim (fun hF => (tA.own i hF).elim (fun h => .inr (.inr h)) (fun h => by omega)) (fun e => .inr (.inl e)))
          have g3 : Fx (fun k => k = q ∨ k = ql ∨ L.F k) w w9 := (g2.then_below e38).trans fx9 (fun i hi e => e.elim (fun hF => (own3 i hF).elim (fun hF => (tA.own i hF).elim (fun h => .inr (.inr h)) (fun h => by omega)) (fun h => by omega)) .inl)
          exact ((g3.then_below e911).trans x13 (fun i _ e => .inl e)).then_below l14
        · refine EW.region ?_; refine WL.move rfl rfl rfl ?_; refine WL.move rfl rfl rfl ?_; refine WL.len rfl rfl rfl (pw.len _ _) ?_; refine WL.bin rfl rfl rfl rfl (int_mul (c := ((2 * lo.length : Nat) : Int)) (by rw [IntKind.wrap_i64]; omega) _ _ _) ?_; refine WL.bin rfl rfl rfl rfl (int_add (c := ((2 * lo.length + 1 : Nat) : Int)) (by rw [IntKind.wrap_i64]; omega) _ _ _) ?_; refine WL.bin rfl rfl rfl rfl (int_le_f (by omega) _ _ _) ?_; refine WL.move rfl rfl rfl ?_
          first | refine WL.move rfl rfl rfl ?_ | refine WL.skip _ rfl rfl rfl ?_
          first | refine WL.un rfl rfl rfl (not_t _ _) ?_ | refine WL.skip _ rfl rfl rfl ?_
          refine WL.pick rfl rfl rfl rfl ?_; refine WL.move rfl rfl rfl ?_
          first | refine WL.move rfl rfl rfl ?_ | refine WL.skip _ rfl rfl rfl ?_
          first | refine WL.move rfl rfl rfl ?_ | refine WL.skip _ rfl rfl rfl ?_
          refine WL.len rfl rfl rfl (pw.len _ _) ?_; refine WL.bin rfl rfl rfl rfl (int_mul (c := ((2 * lo.length : Nat) : Int)) (by rw [IntKind.wrap_i64]; omega) _ _ _) ?_; refine WL.bin rfl rfl rfl rfl (int_add (c := ((2 * lo.length + 3 : Nat) : Int)) (by rw [IntKind.wrap_i64]; omega) _ _ _) ?_; refine WL.bin rfl rfl rfl rfl (int_gt_f (by omega) _ _ _) ?_
          first | refine WL.move rfl rfl rfl ?_ | refine WL.skip _ rfl rfl rfl ?_
          first | refine WL.move rfl rfl rfl ?_ | refine WL.skip _ rfl rfl rfl ?_
          first | refine WL.un rfl rfl rfl (not_t _ _) ?_ | refine WL.skip _ rfl rfl rfl ?_
          first | refine WL.pick rfl rfl rfl rfl ?_ | refine WL.skip _ rfl rfl rfl ?_
          refine WL.pick rfl rfl rfl rfl ?_; refine WL.done ?_; refine EW.on ?_; refine EW.cond_f rfl ?_; refine EW.skip ?_; refine EW.on ?_; refine EW.seq ?_; refine EW.region ?_; refine WL.move rfl rfl rfl ?_; refine WL.move rfl rfl rfl ?_
          first | refine WL.move rfl rfl rfl ?_ | refine WL.skip _ rfl rfl rfl ?_
          refine WL.pick rfl rfl rfl rfl ?_; refine WL.move rfl rfl rfl ?_
          first | refine WL.move rfl rfl rfl ?_ | refine WL.skip _ rfl rfl rfl ?_
          refine WL.call [.pointer (some ⟨q, 0, none⟩)] enter13 rfl rfl rfl (clean_ok R13.dk R13.rm R13.os R13.ds.len (by omega) (by omega) R13.pl R13.ds.img) ?_
          rintro _ w14 ⟨rfl, l14⟩
          have R14 := R13.on l14
          refine ⟨_, rfl, ?_⟩; refine WL.pick rfl rfl rfl rfl ?_; refine WL.assign rfl rfl rfl ?_; refine WL.done ?_; refine EW.on ?_; refine EW.ret ?_; refine EW.returns Tryz.results6 rfl ⟨rfl, L9, c9, D9, _, q9, _, R14, ?_, fun k hk => (own9 k hk).elim (fun hF => (own3 k hF).elim (fun hF => (tA.own k hF).imp id (fun h => by have := l12.size; omega)) (fun h => .inr (by have := l12.size; omega))) (fun h => .inr (by have := l12.size; have := fx3.size; omega)), by omega, .inr (by have := l12.size; have := fx3.size; omega)⟩
          have s12 := l12.size
          have s3 := fx3.size
          have s9 := fx9.size
          have g1 : Fx (fun k => k = q ∨ k = ql ∨ L.F k) w wA := (Fx.of_below l12).trans (tA.fx.mono (fun k _ h => .inr (.inr h))) (fun i _ h => h)
          have g2 : Fx (fun k => k = q ∨ k = ql ∨ L.F k) w w3 := g1.trans fx3 (fun i hi e => e.elim (fun hF => (tA.own i hF).elim (fun h => .inr (.inr h)) (fun h => by omega)) (fun e => .inr (.inl e)))
          have g3 : Fx (fun k => k = q ∨ k = ql ∨ L.F k) w w9 := (g2.then_below e38).trans fx9 (fun i hi e => e.elim (fun hF => (own3 i hF).elim (fun hF => (tA.own i hF).elim (fun h => .inr (.inr h)) (fun h => by omega)) (fun h => by omega)) .inl)
          exact ((g3.then_below e911).trans x13 (fun i _ e => .inl e)).then_below l14
      · refine EW.region ?_; refine WL.move rfl rfl rfl ?_; refine WL.move rfl rfl rfl ?_; refine WL.nilc rfl rfl rfl ?_; refine WL.field rfl rfl rfl (fld44 q 4 (by decide) _) ?_
        obtain ⟨w12, s12, rm12, x12⟩ := stc42 (os9.below e911).shape (j := 4) (rm9.on e911) rfl
        refine WL.store rfl rfl rfl s12 ?_; refine WL.done ?_; refine EW.on ?_; refine EW.seq ?_; refine EW.seq ?_; refine EW.region ?_; refine WL.move rfl rfl rfl ?_; refine WL.done ?_; refine EW.on ?_; refine EW.cond_t rfl ?_; refine EW.region ?_; refine WL.move rfl rfl rfl ?_; refine WL.move rfl rfl rfl ?_; refine WL.nilc rfl rfl rfl ?_; refine WL.field rfl rfl rfl (fld44 q 4 (by decide) _) ?_
        obtain ⟨w13, s13, rm13, x13'⟩ := stc42 ((oa9.below e911).fx x12 (fun k hk => ne_type (own_type (oa9.below e911).row hk) (rm9.on e911) (by decide))).shape (j := 4) rm12 rfl
        refine WL.store rfl rfl rfl s13 ?_
        have x13 : Fx (fun k => k = q) w11 w13 := x12.and x13'
        refine WL.done ?_; refine EW.on ?_; refine EW.seq ?_; refine EW.seq ?_
        have nq9' : ¬ L9.F q := fun hF => (own9 q hF).elim nqL3 (fun h => by have := R2.rm.lt; omega)
        have R13 : Rm w13 L9 c9 D9 q q9 p more va (aftL ps (wantP p (gs.take 20))) := ⟨(dk9.below e911).fxS x13 (fun k hk e => nq9' (by have e : k = q := e; rw [← e]; exact hk)), by rw [hp9]; exact rm13, by rw [hp9]; exact (lg9.on e911).fx x13 (fun e => by have := R2.rm.lt; omega), ((oa9.below e911).fx x13 (fun k hk => ne_type (own_type (oa9.below e911).row hk) (rm9.on e911) (by decide))).mono (Nat.zero_le _), ⟨ds9.log, fun i x hx => hnow.1 rfl i x hx, ds9.rst, (aftL_len _ _).trans h.ds.len⟩, nq9', nq9, fun k hk hF => (own9 k hF).elim (fun hF => (own3 k hF).elim (nFA k (oa.lt hk) (newF k (oa.base k hk))) (fun h => by have := oa.lt hk; omega)) (fun h => by have := oa.lt hk; omega), aftL_pl h.pl _⟩
        have hrg : (2 * lo.length + 1 < stp ∧ stp ≤ 2 * lo.length + 3) ∨ 2 * lo.length + 3 < stp := by omega
        rcases hrg with hrg | hrg
        · refine EW.region ?_; refine WL.move rfl rfl rfl ?_; refine WL.move rfl rfl rfl ?_; refine WL.len rfl rfl rfl (pw.len _ _) ?_; refine WL.bin rfl rfl rfl rfl (int_mul (c := ((2 * lo.length : Nat) : Int)) (by rw [IntKind.wrap_i64]; omega) _ _ _) ?_; refine WL.bin rfl rfl rfl rfl (int_add (c := ((2 * lo.length + 1 : Nat) : Int)) (by rw [IntKind.wrap_i64]; omega) _ _ _) ?_; refine WL.bin rfl rfl rfl rfl (int_le_f (by omega) _ _ _) ?_; refine WL.move rfl rfl rfl ?_
          first | refine WL.move rfl rfl rfl ?_ | refine WL.skip _ rfl rfl rfl ?_
          first | refine WL.un rfl rfl rfl (not_t _ _) ?_ | refine WL.skip _ rfl rfl rfl ?_
          refine WL.pick rfl rfl rfl rfl ?_; refine WL.move rfl rfl rfl ?_
          first | refine WL.move rfl rfl rfl ?_ | refine WL.skip _ rfl rfl rfl ?_
          first | refine WL.move rfl rfl rfl ?_ | refine WL.skip _ rfl rfl rfl ?_
          refine WL.len rfl rfl rfl (pw.len _ _) ?_; refine WL.bin rfl rfl rfl rfl (int_mul (c := ((2 * lo.length : Nat) : Int)) (by rw [IntKind.wrap_i64]; omega) _ _ _) ?_; refine WL.bin rfl rfl rfl rfl (int_add (c := ((2 * lo.length + 3 : Nat) : Int)) (by rw [IntKind.wrap_i64]; omega) _ _ _) ?_; refine WL.bin rfl rfl rfl rfl (int_gt_f (by omega) _ _ _) ?_
          first | refine WL.move rfl rfl rfl ?_ | refine WL.skip _ rfl rfl rfl ?_
          first | refine WL.move rfl rfl rfl ?_ | refine WL.skip _ rfl rfl rfl ?_
          first | refine WL.un rfl rfl rfl (not_t _ _) ?_ | refine WL.skip _ rfl rfl rfl ?_
          first | refine WL.pick rfl rfl rfl rfl ?_ | refine WL.skip _ rfl rfl rfl ?_
          refine WL.pick rfl rfl rfl rfl ?_; refine WL.done ?_; refine EW.on ?_; refine EW.cond_f rfl ?_; refine EW.skip ?_; refine EW.on ?_; refine EW.seq ?_; refine EW.region ?_; refine WL.move rfl rfl rfl ?_; refine WL.move rfl rfl rfl ?_
          first | refine WL.move rfl rfl rfl ?_ | refine WL.skip _ rfl rfl rfl ?_
          refine WL.pick rfl rfl rfl rfl ?_; refine WL.move rfl rfl rfl ?_
          first | refine WL.move rfl rfl rfl ?_ | refine WL.skip _ rfl rfl rfl ?_
          refine WL.call [.pointer (some ⟨q, 0, none⟩)] enter13 rfl rfl rfl (clean_ok R13.dk R13.rm R13.os R13.ds.len (by omega) (by omega) R13.pl R13.ds.img) ?_
          rintro _ w14 ⟨rfl, l14⟩
          have R14 := R13.on l14
          refine ⟨_, rfl, ?_⟩; refine WL.pick rfl rfl rfl rfl ?_; refine WL.assign rfl rfl rfl ?_; refine WL.done ?_; refine EW.on ?_; refine EW.ret ?_; refine EW.returns Tryz.results6 rfl ⟨rfl, L9, c9, D9, _, q9, _, R14, ?_, fun k hk => (own9 k hk).elim (fun hF => (own3 k hF).elim (fun hF => (tA.own k hF).imp id (fun h => by have := l12.size; omega)) (fun h => .inr (by have := l12.size; omega))) (fun h => .inr (by have := l12.size; have := fx3.size; omega)), by omega, .inr (by have := l12.size; have := fx3.size; omega)⟩
          have s12 := l12.size
          have s3 := fx3.size
          have s9 := fx9.size
          have g1 : Fx (fun k => k = q ∨ k = ql ∨ L.F k) w wA := (Fx.of_below l12).trans (tA.fx.mono (fun k _ h => .inr (.inr h))) (fun i _ h => h)
          have g2 : Fx (fun k => k = q ∨ k = ql ∨ L.F k) w w3 := g1.trans fx3 (fun i hi e => e.elim (fun hF => (tA.own i hF).elim (fun h => .inr (.inr h)) (fun h => by omega)) (fun e => .inr (.inl e)))
          have g3 : Fx (fun k => k = q ∨ k = ql ∨ L.F k) w w9 := (g2.then_below e38).trans fx9 (fun i hi e => e.elim (fun hF => (own3 i hF).elim (fun hF => (tA.own i hF).elim (fun h => .inr (.inr h)) (fun h => by omega)) (fun h => by omega)) .inl)
          exact ((g3.then_below e911).trans x13 (fun i _ e => .inl e)).then_below l14
        · refine EW.region ?_; refine WL.move rfl rfl rfl ?_; refine WL.move rfl rfl rfl ?_; refine WL.len rfl rfl rfl (pw.len _ _) ?_; refine WL.bin rfl rfl rfl rfl (int_mul (c := ((2 * lo.length : Nat) : Int)) (by rw [IntKind.wrap_i64]; omega) _ _ _) ?_; refine WL.bin rfl rfl rfl rfl (int_add (c := ((2 * lo.length + 1 : Nat) : Int)) (by rw [IntKind.wrap_i64]; omega) _ _ _) ?_; refine WL.bin rfl rfl rfl rfl (int_le_f (by omega) _ _ _) ?_; refine WL.move rfl rfl rfl ?_
          first | refine WL.move rfl rfl rfl ?_ | refine WL.skip _ rfl rfl rfl ?_
          first | refine WL.un rfl rfl rfl (not_t _ _) ?_ | refine WL.skip _ rfl rfl rfl ?_
          refine WL.pick rfl rfl rfl rfl ?_; refine WL.move rfl rfl rfl ?_
          first | refine WL.move rfl rfl rfl ?_ | refine WL.skip _ rfl rfl rfl ?_
          first | refine WL.move rfl rfl rfl ?_ | refine WL.skip _ rfl rfl rfl ?_
          refine WL.len rfl rfl rfl (pw.len _ _) ?_; refine WL.bin rfl rfl rfl rfl (int_mul (c := ((2 * lo.length : Nat) : Int)) (by rw [IntKind.wrap_i64]; omega) _ _ _) ?_; refine WL.bin rfl rfl rfl rfl (int_add (c := ((2 * lo.length + 3 : Nat) : Int)) (by rw [IntKind.wrap_i64]; omega) _ _ _) ?_; refine WL.bin rfl rfl rfl rfl (int_gt_t (by omega) _ _ _) ?_
          first | refine WL.move rfl rfl rfl ?_ | refine WL.skip _ rfl rfl rfl ?_
          first | refine WL.move rfl rfl rfl ?_ | refine WL.skip _ rfl rfl rfl ?_
          first | refine WL.un rfl rfl rfl (not_t _ _) ?_ | refine WL.skip _ rfl rfl rfl ?_
          first | refine WL.pick rfl rfl rfl rfl ?_ | refine WL.skip _ rfl rfl rfl ?_
          refine WL.pick rfl rfl rfl rfl ?_; refine WL.done ?_; refine EW.on ?_; refine EW.cond_f rfl ?_; refine EW.skip ?_; refine EW.on ?_; refine EW.seq ?_; refine EW.region ?_; refine WL.move rfl rfl rfl ?_; refine WL.move rfl rfl rfl ?_
          first | refine WL.move rfl rfl rfl ?_ | refine WL.skip _ rfl rfl rfl ?_
          refine WL.pick rfl rfl rfl rfl ?_; refine WL.move rfl rfl rfl ?_
          first | refine WL.move rfl rfl rfl ?_ | refine WL.skip _ rfl rfl rfl ?_
          refine WL.call [.pointer (some ⟨q, 0, none⟩)] enter13 rfl rfl rfl (clean_ok R13.dk R13.rm R13.os R13.ds.len (by omega) (by omega) R13.pl R13.ds.img) ?_
          rintro _ w14 ⟨rfl, l14⟩
          have R14 := R13.on l14
          refine ⟨_, rfl, ?_⟩; refine WL.pick rfl rfl rfl rfl ?_; refine WL.assign rfl rfl rfl ?_; refine WL.done ?_; refine EW.on ?_; refine EW.ret ?_; refine EW.returns Tryz.results6 rfl ⟨rfl, L9, c9, D9, _, q9, _, R14, ?_, fun k hk => (own9 k hk).elim (fun hF => (own3 k hF).elim (fun hF => (tA.own k hF).imp id (fun h => by have := l12.size; omega)) (fun h => .inr (by have := l12.size; omega))) (fun h => .inr (by have := l12.size; have := fx3.size; omega)), by omega, .inr (by have := l12.size; have := fx3.size; omega)⟩
          have s12 := l12.size
          have s3 := fx3.size
          have s9 := fx9.size
          have g1 : Fx (fun k => k = q ∨ k = ql ∨ L.F k) w wA := (Fx.of_below l12).trans (tA.fx.mono (fun k _ h => .inr (.inr h))) (fun i _ h => h)
          have g2 : Fx (fun k => k = q ∨ k = ql ∨ L.F k) w w3 := g1.trans fx3 (fun i hi e => e.elim (fun hF => (tA.own i hF).elim (fun h => .inr (.inr h)) (fun h => by omega)) (fun e => .inr (.inl e)))
          have g3 : Fx (fun k => k = q ∨ k = ql ∨ L.F k) w w9 := (g2.then_below e38).trans fx9 (fun i hi e => e.elim (fun hF => (own3 i hF).elim (fun hF => (tA.own i hF).elim (fun h => .inr (.inr h)) (fun h => by omega)) (fun h => by omega)) .inl)
          exact ((g3.then_below e911).trans x13 (fun i _ e => .inl e)).then_below l14
end Go.Proofs.YtmbgeojjklboeaaGreatDoor
