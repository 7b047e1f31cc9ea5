import Derived.Test.YtomioemhjhhbcaaGreatDoorVbG
set_option linter.unusedVariables false
set_option linter.unusedSimpArgs false
namespace Go.Proofs.YtomioemhjhhbcaaGreatDoor
open Go.RowKit

def idE (at_ : Int) (q3 q4 q q9 : Nat) (_ : Value × Value × Bool × Bool × List Gp) : List (Nat × Value) := [(2, .int .i64 at_), (4, .pointer (some ⟨q4, 0, none⟩)), (7, .pointer (some ⟨q, 0, none⟩)), (8, .bool true), (9, .pointer (some ⟨q9, 0, none⟩))]
structure IdR (w w5 : World) (q9 : Nat) (x : Value × Value × Bool × Bool × List Gp) (W : World) : Prop where
  b9 : Blk W q9 (tnC x.1 x.2.1 x.2.2.1 x.2.2.2.1) 34
  gs : Gs w x.1 x.2.2.2.2
  fx : Fx (fun k => k = q9) w5 W
theorem rem5 (f : UInt8) (W : World) (x y : Operand) : (do eqGuard .rem 5 x y (byt f) (.int .u8 2); binOp .rem 5 (byt f) (.int .u8 2) : Sem Value).run Tryz.prog W = .ok (.int .u8 ((f.toNat % 2 : Nat) : Int)) W := by
  have e : ((f.toNat : Int).tmod 2) = (f.toNat : Int) % 2 := Int.tmod_eq_emod_of_nonneg (by omega)
  unfold byt
  go_simp
  try omega
theorem eq5d (a b : Int) (W : World) (x y : Operand) : (do eqGuard .eql 5 x y (.int .u8 a) (.int .u8 b); binOp .eql 5 (.int .u8 a) (.int .u8 b) : Sem Value).run Tryz.prog W = .ok (.bool (decide (a = b))) W := by
  by_cases e : a = b
  · subst e; go_simp
  · go_simp
theorem fldq (g k j : Nat) (hj : j < 2) (W : World) : (Instr.fieldAt 52 (.pointer (some ⟨g, 2 * k, none⟩)) j).run Tryz.prog W = .ok (.pointer (some ⟨g, 2 * k + j, none⟩)) W := by
  have h : j = 0 ∨ j = 1 := by omega
  obtain rfl | rfl := h <;> (go_simp; try simp; try rw [add_plain])
theorem lo_len {p : Nat} {gs : List Gp} {lo : List Pw} (he : lo.map (fun z => (z.n, z.b)) = (wantP p (gs.take 20)).map (fun a => (a.1, pgB a.1 a.2))) : lo.length ≤ 20 := by
  have e := congrArg List.length he
  rw [List.length_map, List.length_map] at e
  have := wantP_len p (gs.take 20)
  rw [List.length_take] at this
  omega
theorem lo_facts {w : World} {v : Value} {p : Nat} {lo : List Pw} {acc : List (Nat × UInt8)} {nI : Nat → Int} {vI : Nat → Value} (hp : Pws w v lo) (he : lo.map (fun z => (z.n, z.b)) = acc.map (fun a => (a.1, pgB a.1 a.2))) (hnI : (fun i => (((lo.getD i ⟨0, .slice none 0 0, []⟩).n : Nat) : Int)) = nI) (hvI : (fun i => (lo.getD i ⟨0, .slice none 0 0, []⟩).v) = vI) (hn : (acc.map Prod.fst).Nodup) (hlt : ∀ a ∈ acc, a.1 < p) : (∀ i, i < lo.length → 0 ≤ nI i ∧ nI i < (p : Int) ∧ ∀ j, j < i → nI j ≠ nI i) ∧ ∀ i, i < lo.length → ∃ ao c, vI i = .slice ao 1024 c := by
  have e1 : lo.map Pw.n = acc.map Prod.fst := by
    have := congrArg (List.map Prod.fst) he
    rw [List.map_map, List.map_map] at this
    exact this
  have hnd : (lo.map Pw.n).Nodup := e1 ▸ hn
  have hget : ∀ i (hi : i < lo.length), lo.getD i ⟨0, .slice none 0 0, []⟩ = lo[i] := fun i hi => by rw [List.getD_eq_getElem?_getD, List.getElem?_eq_getElem hi]; rfl
  subst hnI hvI
  refine ⟨fun i hi => ⟨by simp only; omega, ?_, fun j hj e => ?_⟩, fun i hi => ?_⟩
  · simp only
    rw [hget i hi]
    have hm : lo[i].n ∈ acc.map Prod.fst := e1 ▸ List.mem_map_of_mem (List.getElem_mem hi)
    obtain ⟨a, ha, e⟩ := List.mem_map.1 hm
    have := hlt a ha
    omega
  · simp only at e
    rw [hget i hi, hget j (by omega)] at e
    have h1 : (lo.map Pw.n)[i]? = some lo[i].n := by rw [List.getElem?_map, List.getElem?_eq_getElem hi]; rfl
    have h2 : (lo.map Pw.n)[j]? = some lo[i].n := by rw [List.getElem?_map, List.getElem?_eq_getElem (show j < lo.length by omega)]; simp; omega
    have := (List.getElem?_inj (by rw [List.length_map]; exact hi) hnd).1 (h1.trans h2.symm)
    omega
  · simp only
    rw [hget i hi]
    obtain ⟨h1, h2⟩ := hp.has lo[i] (List.getElem_mem hi)
    rcases h1 with ⟨e, e2⟩ | ⟨ad, c, e, _⟩
    · rw [e2] at h2; cases h2
    · rw [e, h2]; exact ⟨_, _, rfl⟩
theorem ld50 {W : World} {q j : Nat} {v : Value} (hc : W.cell? ⟨q, j, none⟩ = some v) (hf : W.frozen? ⟨q, j, none⟩ = false) : (Instr.loadAt 50 (.pointer (some ⟨q, j, none⟩))).run Tryz.prog W = .ok v W := by
  go_simp
theorem ldn3 {W : World} {q j : Nat} {x : Int} (hc : W.cell? ⟨q, j, none⟩ = some (.int .i64 x)) (hf : W.frozen? ⟨q, j, none⟩ = false) : (Instr.loadAt 3 (.pointer (some ⟨q, j, none⟩))).run Tryz.prog W = .ok (.int .i64 x) W := by
  go_simp
theorem lo_has {w : World} {v : Value} {lo : List Pw} {vI : Nat → Value} (hp : Pws w v lo) (hvI : (fun i => (lo.getD i ⟨0, .slice none 0 0, []⟩).v) = vI) (i : Nat) (hi : i < lo.length) : ∃ b, Has w (vI i) b ∧ b.length = 1024 := by
  subst hvI
  refine ⟨lo[i].b, ?_⟩
  simp only
  rw [show lo.getD i ⟨0, .slice none 0 0, []⟩ = lo[i] by rw [List.getD_eq_getElem?_getD, List.getElem?_eq_getElem hi]; rfl]
  exact hp.has lo[i] (List.getElem_mem hi)
theorem good_of {p n k : Nat} {nI nT : Nat → Int} {lT : Nat → Nat} (h : ∀ i, i < n → 0 ≤ nI i ∧ nI i < (p : Int) ∧ ∀ j, j < i → nI j ≠ nI i) (hk : k < n) (he : ∀ i, i < k → nT i = nI i) (hl : ∀ i, i < k → lT i = 1024) : ∀ i, i < k → 0 ≤ nT i ∧ nT i < (p : Int) ∧ lT i = 1024 ∧ ∀ j, j < i → nT j ≠ nT i := fun i hi => by
  obtain ⟨a1, a2, a3⟩ := h i (by omega)
  rw [he i hi]
  exact ⟨a1, a2, hl i hi, fun j hj => by rw [he j (by omega)]; exact a3 j hj⟩
theorem Rm.fxg {w w' : World} {L : Lay} {c : Nat} {s : Nat → List UInt8} {q ql p more g : Nat} {v : Value} {ps : List (List UInt8)} (h : Rm w L c s q ql p more v ps) (f : Fx (fun j => j = g) w w') (hF : ¬ L.F g) (gT : ∃ cur, w.heap[g]? = some (.cells cur 52 (0, 0))) : Rm w' L c s q ql p more v ps :=
  ⟨h.dk.fxS f (fun k hk e => hF (e ▸ hk)), h.rm.fx f (fun e => ne_type gT h.rm (by decide) e.symm), h.lg.fx f (fun e => ne_type gT h.lg (by decide) e.symm), h.os.fx f (fun k hk e => ne_type2 gT (own_type h.os.row hk) (by decide) e.symm), h.ds, h.fq, h.fl, h.fv, h.pl⟩
set_option maxRecDepth 100000 in
set_option maxHeartbeats 4000000 in
theorem idle_any (a m : Int) (vT : Value) (bad : Gp) (at_ : Int) (w : World) (hg : w.cell? ⟨0, 0, none⟩ = some (rty 46)) (hT : Tl w vT) : Calls Tryz.prog 3 #[.agg (lfC a m vT).toArray, .agg (gpC bad).toArray, .int .i64 at_] w fun e w' => e = .returned (.bool true) ∧ Below w.heap.size w w' := by
  obtain ⟨p, hp⟩ : ∃ p, 1 + pickN a 20 = p := ⟨_, rfl⟩
  have p20 := pickN_lt a 20 (by decide)
  have p4 := pickN_lt m 4 (by decide)
  have hp1 : 1 ≤ p := by omega
  have hp2 : p ≤ 20 := by omega
  obtain ⟨aoT, nT, cT, hvT, hTn⟩ := hT
  have r1 := run_boxR (P := Tryz.prog) 24 (lfC a m vT) w _ rfl
  have b1 := Blk.new w (lfC a m vT) 24
  have l1 := below_new w (.cells (lfC a m vT).toArray 24)
  obtain ⟨w1, hw1⟩ : ∃ x, w.alloc (.cells (lfC a m vT).toArray 24) = x := ⟨_, rfl⟩
  rw [hw1] at r1 b1 l1
  obtain ⟨q3, hq3⟩ : ∃ x, w.heap.size = x := ⟨_, rfl⟩
  rw [hq3] at r1 b1
  have r2 := run_boxR (P := Tryz.prog) 26 (gpC bad) w1 _ rfl
  have b2 := Blk.new w1 (gpC bad) 26
  have l2 := below_new w1 (.cells (gpC bad).toArray 26)
  obtain ⟨w2, hw2⟩ : ∃ x, w1.alloc (.cells (gpC bad).toArray 26) = x := ⟨_, rfl⟩
  rw [hw2] at r2 b2 l2
  obtain ⟨q4, hq4⟩ : ∃ x, w1.heap.size = x := ⟨_, rfl⟩
  rw [hq4] at r2 b2
  have l12 := l1.trans (l2.mono l1.size)
  refine calls_of_args [.agg (lfC a m vT).toArray, .agg (gpC bad).toArray, .int .i64 at_] Tryz.func3 rfl 200 Tryz.ntmps3 (by show 3 ≤ 200; decide) ?_
  refine EW.seq ?_
  refine EW.region ?_
  refine WL.box rfl rfl rfl r1 ?_
  refine WL.box rfl rfl rfl r2 ?_
  first | refine WL.assign rfl rfl rfl ?_
  refine WL.done ?_
  refine EW.on ?_
  refine EW.seq ?_
  refine EW.region ?_
  refine WL.load rfl rfl rfl (ld24L (b1.on l2)) ?_
  refine WL.call [.agg (lfC a m vT).toArray] enter4 rfl rfl rfl (entered_at a m vT w2 p hp) ?_
  rintro _ w3 ⟨q, ql, vp0, L, rfl, hq, rm3, lg3, dk3, os3, nFq, nFl, nFv, hF3, l3⟩
  refine ⟨_, rfl, ?_⟩
  have l23 := l12.trans (l3.mono l12.size)
  have R3 : Rm w3 L 0 (fun _ => zS) q ql p (pickN m 4) vp0 (List.replicate p (zerL 1024)) := ⟨dk3, rm3, lg3, os3.mono (Nat.zero_le _), Dst.zero p _, nFq, nFl, fun k hk => (nFv k hk).1, fun x hx => by rw [List.eq_of_mem_replicate hx]; exact List.length_replicate⟩
  first | refine WL.move rfl rfl rfl ?_
  first | refine WL.extract rfl rfl rfl (ext_2 _ _ _).1 ?_
  first | refine WL.extract rfl rfl rfl (ext_2 _ _ _).2 ?_
  first | refine WL.assign rfl rfl rfl ?_
  first | refine WL.assign rfl rfl rfl ?_
  refine WL.done ?_
  refine EW.on ?_
  refine EW.seq ?_
  refine EW.seq ?_
  refine EW.region ?_
  first | refine WL.move rfl rfl rfl ?_
  refine WL.un rfl rfl rfl (not_t _ _) ?_
  first | refine WL.move rfl rfl rfl ?_
  refine WL.call [] enter5 rfl rfl rfl (fixed_ok w3) ?_
  rintro _ w4 ⟨rfl, l4⟩
  refine ⟨_, rfl, ?_⟩
  have R4 := R3.on l4
  have l24 := l23.trans (l4.mono l23.size)
  refine WL.un rfl rfl rfl (not_t _ _) ?_
  first | refine WL.pick rfl rfl rfl rfl ?_
  refine WL.done ?_
  refine EW.on ?_
  refine EW.cond_f rfl ?_
  refine EW.skip ?_
  refine EW.on ?_
  refine EW.seq ?_
  refine EW.region ?_
  refine WL.buildN [] rfl rfl rfl (bld34n _) ?_
  obtain ⟨wA, q9, rA, bA, lA, hq9⟩ := new34 w4
  refine WL.new rfl rfl rA ?_
  obtain ⟨w5, s5, b5, f5⟩ := st34 (vp := .slice none 0 0) (vf := .slice none 0 0) (cr := false) (an := false) bA rfl ⟨_, _, _, rfl⟩ ⟨_, _, _, rfl⟩
  refine WL.store rfl rfl rfl s5 ?_
  have l5 : Below w4.heap.size w4 w5 := lA.trans (f5.below (fun k hk e => by have e : k = q9 := e; omega) lA.size)
  have b15 : Blk w5 q3 (lfC a m vT) 24 := ((((b1.on l2).on l3).on l4).on l5)
  have l25 := l24.trans (l5.mono l24.size)
  refine WL.done ?_
  refine EW.on ?_
  refine EW.join (idE at_ q3 q4 q q9) (IdR w w5 q9) ?_ ?_
  · refine EW.seq ?_
    refine EW.region ?_
    refine WL.field rfl rfl rfl (fldL q3 2 (by decide) _) ?_
    refine WL.load rfl rfl rfl (ldTs b15 rfl) ?_
    refine WL.len rfl rfl rfl (by rw [hvT]; exact len22 _ _ _ _ _) ?_
    refine WL.bin rfl rfl rfl rfl (int_gt_d _ _ _ _ _) ?_
    refine WL.done ?_
    refine EW.on ?_
    refine EW.cond_d rfl (fun h33 => ?_) (fun h33 => ?_)
    · refine EW.region ?_
      refine WL.field rfl rfl rfl (fldL q3 2 (by decide) _) ?_
      refine WL.load rfl rfl rfl (ldTs b15 rfl) ?_
      obtain ⟨adT, vp, vf, cr, an, gs, ixT, lxT, hvf, hgs⟩ := hTn (by omega)
      refine WL.index rfl rfl rfl rfl (ixT _) ?_
      refine WL.load rfl rfl rfl (lxT _ l25) ?_
      obtain ⟨w6, s6, b6, f6⟩ := st34 (vp := vp) (vf := vf) (cr := cr) (an := an) b5 rfl (by obtain ⟨ao, c, e⟩ := hgs.sl; exact ⟨_, _, _, e⟩) hvf
      refine WL.store rfl rfl rfl s6 ?_
      refine WL.done ?_
      exact EW.met (vp, vf, cr, an, gs) [2, 4, 7, 8, 9] rfl ⟨b6, hgs, f6⟩
    · refine EW.skip ?_
      exact EW.met (.slice none 0 0, .slice none 0 0, false, false, []) [2, 4, 7, 8, 9] rfl ⟨b5, Gs.nil _, Fx.refl _ _⟩
  · rintro ⟨vp, vf, cr, an, gs⟩ wi ⟨b9, hG, fi⟩
    simp only at b9 hG fi
    have hbi : Below w4.heap.size w4 wi := l5.trans (fi.below (fun k hk e => by have e : k = q9 := e; omega) l5.size)
    have Ri := R4.on hbi
    have bei := l24.trans (hbi.mono l24.size)
    have b4i : Blk wi q4 (gpC bad) 26 := (((b2.on l3).on l4).on hbi)
    show EW _ _ _ _ [(2, .int .i64 at_), (4, .pointer (some ⟨q4, 0, none⟩)), (7, .pointer (some ⟨q, 0, none⟩)), (8, .bool true), (9, .pointer (some ⟨q9, 0, none⟩))] _
    refine EW.seq ?_
    refine EW.region ?_
    first | refine WL.move rfl rfl rfl ?_
    refine WL.field rfl rfl rfl (fldT q9 0 (by decide) _) ?_
    refine WL.load rfl rfl rfl (ldG b9 rfl) ?_
    obtain ⟨aoV, cV, hvp⟩ := hG.sl
    refine WL.buildN [(0, vp)] rfl rfl rfl (v := .agg (tnC vp (.slice none 0 0) false false).toArray) (by rw [hvp]; exact bld34 _ _ _ _) ?_
    refine WL.call [.pointer (some ⟨q, 0, none⟩), .agg (tnC vp (.slice none 0 0) false false).toArray] enter6 rfl rfl rfl (plays_ok Ri hp1 hp2 (by omega) (by omega) (hG.below bei)) ?_
    rintro _ w7 ⟨rfl, L7, c7, s7, v7, R7, x7, own7, hc7⟩
    refine ⟨_, rfl, ?_⟩
    have n9 : ¬ (q9 = q ∨ L.F q9) := fun h => h.elim (ne_type ⟨_, b9⟩ Ri.rm (by decide)) (fun hF => by have := dk3.lt _ hF; have := l4.size; omega)
    have b97 := b9.fx x7 n9
    have be7 : Below w.heap.size w w7 := bei.trans (x7.below (fun k hk h => h.elim (fun e => by have := l12.size; omega) (fun hF => by have := hF3 k hF; have := l12.size; omega)) bei.size)
    have b47 := b4i.fx x7 (fun h => h.elim (ne_type ⟨_, b4i⟩ Ri.rm (by decide)) (fun hF => by have := hF3 _ hF; have := b2.lt; omega))
    first | refine WL.assign rfl rfl rfl ?_
    refine WL.done ?_
    refine EW.on ?_
    refine EW.seq ?_
    refine EW.region ?_
    first | refine WL.move rfl rfl rfl ?_
    refine WL.load rfl rfl rfl (ld34 b97) ?_
    refine WL.call [.pointer (some ⟨q, 0, none⟩), .agg (tnC vp vf cr an).toArray] enter7 rfl rfl rfl (wanted_ok R7.rm R7.os R7.ds.len (by omega) (by omega) (hG.below be7)) ?_
    rintro _ w8 ⟨vo, va, lo, rfl, pw, heq, ob, fo, oa, l8⟩
    refine ⟨_, rfl, ?_⟩
    have R8 := R7.on l8
    have be8 := be7.trans (l8.mono be7.size)
    have b48 := b47.on l8
    first | refine WL.move rfl rfl rfl ?_
    first | refine WL.extract rfl rfl rfl (ext_2 _ _ _).1 ?_
    first | refine WL.extract rfl rfl rfl (ext_2 _ _ _).2 ?_
    first | refine WL.assign rfl rfl rfl ?_
    first | refine WL.assign rfl rfl rfl ?_
    refine WL.done ?_
    refine EW.on ?_
    refine EW.seq ?_
    refine EW.region ?_
    first | refine WL.move rfl rfl rfl ?_
    first | refine WL.nilc rfl rfl rfl ?_
    refine WL.field rfl rfl rfl (fld44 q 0 (by decide) _) ?_
    refine WL.load rfl rfl rfl (ldD R8.rm rfl) ?_
    refine WL.call [.pointer (some ⟨L7.p, 0, none⟩)] enter8 rfl rfl rfl (kcalls_any R8.dk) ?_
    rintro _ wc ⟨rfl, hz⟩
    rw [hz]
    refine ⟨_, rfl, ?_⟩
    first | refine WL.assign rfl rfl rfl ?_
    refine WL.done ?_
    refine EW.on ?_
    refine EW.seq ?_
    refine EW.region ?_
    first | refine WL.move rfl rfl rfl ?_
    first | refine WL.nilc rfl rfl rfl ?_
    refine WL.field rfl rfl rfl (fld44 q 1 (by decide) _) ?_
    refine WL.load rfl rfl rfl (ldcP R8.rm rfl) ?_
    refine WL.call [.pointer (some ⟨ql, 0, none⟩), .slice none 0 0] enter9 rfl rfl rfl (commit_0 R8.lg (by omega) ⟨⟨rfl, .inl ⟨rfl, rfl⟩⟩, fun z hz => by cases hz⟩) ?_
    rintro _ w9 ⟨rfl, l9⟩
    refine ⟨_, rfl, ?_⟩
    have R9 := R8.on l9
    have be9 := be8.trans (l9.mono be8.size)
    have b49 := b48.on l9
    have pw9 := pw.below l9
    first | refine WL.assign rfl rfl rfl ?_
    refine WL.done ?_
    refine EW.on ?_
    refine EW.seq ?_
    refine EW.seq ?_
    refine EW.region ?_
    first | refine WL.move rfl rfl rfl ?_
    refine WL.un rfl rfl rfl (not_t _ _) ?_
    first | refine WL.move rfl rfl rfl ?_
    first | refine WL.move rfl rfl rfl ?_ | refine WL.skip _ rfl rfl rfl ?_
    refine WL.bin rfl rfl rfl rfl (ne24n _ _) ?_
    first | refine WL.pick rfl rfl rfl rfl ?_
    first | refine WL.move rfl rfl rfl ?_
    first | refine WL.move rfl rfl rfl ?_ | refine WL.skip _ rfl rfl rfl ?_
    refine WL.len rfl rfl rfl (pw9.len _ _) ?_
    refine WL.bin rfl rfl rfl rfl (int_eq_d _ _ _ _ _) ?_
    first | refine WL.pick rfl rfl rfl rfl ?_
    refine WL.done ?_
    refine EW.on ?_
    refine EW.cond_d rfl (fun h69 => ?_) (fun h69 => ?_)
    · refine EW.seq ?_
      refine EW.region ?_
      first | refine WL.move rfl rfl rfl ?_
      first | refine WL.move rfl rfl rfl ?_
      first | refine WL.move rfl rfl rfl ?_ | refine WL.skip _ rfl rfl rfl ?_
      refine WL.bin rfl rfl rfl rfl (eq24n _ _) ?_
      first | refine WL.pick rfl rfl rfl rfl ?_
      first | refine WL.move rfl rfl rfl ?_
      first | refine WL.move rfl rfl rfl ?_ | refine WL.skip _ rfl rfl rfl ?_
      first | refine WL.nilc rfl rfl rfl ?_ | refine WL.skip _ rfl rfl rfl ?_
      refine WL.field rfl rfl rfl (fld44 q 0 (by decide) _) ?_
      refine WL.load rfl rfl rfl (ldD R9.rm rfl) ?_
      refine WL.call [.pointer (some ⟨L7.p, 0, none⟩)] enter8 rfl rfl rfl (kcalls_any R9.dk) ?_
      rintro _ wc ⟨rfl, hz⟩
      rw [hz]
      refine ⟨_, rfl, ?_⟩
      first | refine WL.move rfl rfl rfl ?_ | refine WL.skip _ rfl rfl rfl ?_
      refine WL.bin rfl rfl rfl rfl (int_eq_t rfl _ _ _) ?_
      first | refine WL.pick rfl rfl rfl rfl ?_
      first | refine WL.assign rfl rfl rfl ?_
      refine WL.done ?_
      refine EW.on ?_
      refine EW.ret ?_
      refine pr_then ?_
      exact EW.returns Tryz.results3 rfl ⟨rfl, be9⟩
    · refine EW.skip ?_
      refine EW.on ?_
      refine EW.seq ?_
      have hn0 : 0 < lo.length := by omega
      obtain ⟨g, cp, hvo⟩ : ∃ g cp, vo = .slice (some ⟨g, 0, none⟩) lo.length cp := by
        obtain ⟨_, ⟨_, hz⟩ | ⟨g, cp, cur, hv, _⟩⟩ := pw9.row
        · omega
        · exact ⟨g, cp, hv⟩
      subst hvo
      have hk := pickN_lt at_ lo.length hn0
      have ml0 := pw9.ml
      obtain ⟨nI0, hnI⟩ : ∃ f, (fun i => (((lo.getD i ⟨0, .slice none 0 0, []⟩).n : Nat) : Int)) = f := ⟨_, rfl⟩
      obtain ⟨vI0, hvI⟩ : ∃ f, (fun i => (lo.getD i ⟨0, .slice none 0 0, []⟩).v) = f := ⟨_, rfl⟩
      have ml : Ml w9 g lo.length nI0 vI0 := by rw [← hnI, ← hvI]; exact ml0
      obtain ⟨p0, pvs⟩ := lo_facts pw9 heq hnI hvI (wantP_nodup p _) (wantP_lt p (by omega) _)
      have hlen := lo_len heq
      have gT := own_type pw9.row (k := g) rfl
      have q4g : ¬ q4 = g := fun e => ne_type gT b49 (by decide) e.symm
      have qg : ¬ q = g := fun e => ne_type gT R9.rm (by decide) e.symm
      have hgw : w7.heap.size ≤ g := fo g rfl
      have hFg : ¬ L7.F g := fun hF => by have := R7.dk.lt g hF; omega
      have hgw0 : w.heap.size ≤ g := by have := be7.size; omega
      refine EW.region ?_
      first | refine WL.move rfl rfl rfl ?_
      first | refine WL.move rfl rfl rfl ?_
      refine WL.len rfl rfl rfl (pw9.len _ _) ?_
      refine WL.call [.int .i64 at_, .int .i64 (lo.length : Int)] enter10 rfl rfl rfl (pick_any _ _ (by omega) (by omega) _) ?_
      rintro _ wp ⟨rfl, hz⟩
      rw [hz]
      refine ⟨_, rfl, ?_⟩
      first | refine WL.assign rfl rfl rfl ?_
      refine WL.done ?_
      refine EW.on ?_
      refine EW.seq ?_
      refine EW.region ?_
      first | refine WL.assign rfl rfl rfl ?_
      refine WL.done ?_
      refine EW.on ?_
      refine EW.seq ?_
      refine EW.seq ?_
      refine EW.region ?_
      refine WL.field rfl rfl rfl (fld75 q4 2 (by decide) _) ?_
      refine WL.load rfl rfl rfl (ldc3 b49 rfl) ?_
      refine WL.call [.int .i64 bad.cut, .int .i64 ((3 : Nat) : Int)] enter10 rfl rfl rfl (pick_any bad.cut 3 (by decide) (by decide) _) ?_
      rintro _ wp ⟨rfl, hz⟩
      rw [hz]
      refine ⟨_, rfl, ?_⟩
      refine WL.done ?_
      refine EW.on ?_
      refine EW.block ?_
      refine EW.seq ?_
      refine EW.region ?_
      refine WL.bin rfl rfl rfl rfl (int_eq_d _ _ _ _ _) ?_
      first | refine WL.assign rfl rfl rfl ?_
      refine WL.done ?_
      refine EW.on ?_
      refine EW.cond_d rfl (fun h105 => ?_) (fun h105 => ?_)
      · refine EW.seq ?_
        refine EW.region ?_
        first | refine WL.move rfl rfl rfl ?_
        first | refine WL.move rfl rfl rfl ?_
        refine WL.field rfl rfl rfl (fld75 q4 0 (by decide) _) ?_
        refine WL.load rfl rfl rfl (ldc3 b49 rfl) ?_
        refine WL.call [.int .i64 bad.num, .int .i64 ((1000 : Nat) : Int)] enter10 rfl rfl rfl (pick_any bad.num 1000 (by decide) (by decide) _) ?_
        rintro _ wp ⟨rfl, hz⟩
        rw [hz]
        refine ⟨_, rfl, ?_⟩
        have hpn := pickN_lt bad.num 1000 (by decide)
        refine WL.bin rfl rfl rfl rfl (int_sub (c := -1 - (pickN bad.num 1000 : Int)) (by rw [IntKind.wrap_i64]; omega) _ _ _) ?_
        refine WL.index rfl rfl rfl rfl (idxP g lo.length cp (pickN at_ lo.length) hk _) ?_
        refine WL.field rfl rfl rfl (fldq g (pickN at_ lo.length) 0 (by decide) _) ?_
        obtain ⟨wS, sS, mS, fS⟩ := ml.setN (pickN at_ lo.length) hk (-1 - (pickN bad.num 1000 : Int))
        refine WL.store rfl rfl rfl sS ?_
        refine WL.done ?_
        refine EW.on ?_
        refine EW.seq ?_
        refine EW.region ?_
        refine WL.field rfl rfl rfl (fld75 q4 1 (by decide) _) ?_
        refine WL.load rfl rfl rfl (ldc5 (b49.fx fS q4g) rfl) ?_
        refine WL.bin rfl rfl rfl rfl (rem5 _ _ _ _) ?_
        refine WL.bin rfl rfl rfl rfl (eq5d _ _ _ _ _) ?_
        refine WL.done ?_
        refine EW.on ?_
        refine EW.cond_d rfl (fun h118 => ?_) (fun h118 => ?_)
        · refine EW.ordB [(0, 0, 0), (1, 0, 0), (2, 0, 0), (3, 0, 0), (4, 0, 0), (5, 0, 1), (6, 0, 0), (7, 0, 1), (8, 1, 1), (9, 0, 0), (10, 0, 0), (11, 0, 0), (12, 1, 0)] (by kernel_rfl) rfl (by kernel_rfl) ?_
          simp only [opsZ, List.getD_cons_zero, List.getD_cons_succ]
          first | refine ZE.move rfl rfl rfl rfl sz0 ?_
          first | refine ZE.move rfl rfl rfl rfl sz0 ?_
          first | refine ZE.move rfl rfl rfl rfl sz0 ?_
          refine ZE.nilc rfl rfl rfl rfl sz0 ?_
          refine ZE.field rfl rfl rfl rfl sz0 (fun W => fld44 q 2 (by decide) W) ?_
          refine ZE.load rfl rfl rfl rfl sz1 (fun W hW => ldc3 ((R9.rm.fx fS qg).on (sb_of hW)) rfl) ?_
          refine ZE.field rfl rfl rfl rfl sz0 (fun W => fld75 q4 0 (by decide) W) ?_
          refine ZE.load rfl rfl rfl rfl sz1 (fun W hW => ldc3 ((b49.fx fS q4g).on (sb_of hW)) rfl) ?_
          refine ZE.callB (v := .int .i64 (pickN bad.num 1000 : Int)) [.int .i64 bad.num, .int .i64 ((1000 : Nat) : Int)] enter10 rfl rfl rfl (fun W h => .inr h) (fun W hW => (pick_any bad.num 1000 (by decide) (by decide) W).mono fun e w' h => ⟨h.1, by rw [h.2]; exact Below.refl _ _⟩) ?_
          refine ZE.bin rfl rfl rfl rfl rfl sz0 (fun W => int_add (c := ((p + pickN bad.num 1000 : Nat) : Int)) (by rw [IntKind.wrap_i64]; omega) W _ _) ?_
          refine ZE.index rfl rfl rfl rfl rfl sz0 (fun W => idxP g lo.length cp (pickN at_ lo.length) hk W) ?_
          refine ZE.field rfl rfl rfl rfl sz0 (fun W => fldq g (pickN at_ lo.length) 0 (by decide) W) ?_
          refine ZE.store (fun W => Ml W g lo.length (fun i => if i = (pickN at_ lo.length) then ((p + pickN bad.num 1000 : Nat) : Int) else (if i = (pickN at_ lo.length) then -1 - (pickN bad.num 1000 : Int) else nI0 i)) vI0 ∧ Fx (fun j => j = g) wS W) rfl rfl rfl (fun _ _ => .inl rfl) (fun W hW => ?_) ?_
          · obtain ⟨w', r, b, f⟩ := (mS.on hn0 hW).setN (pickN at_ lo.length) hk ((p + pickN bad.num 1000 : Nat) : Int)
            exact ⟨w', r, b, (Fx.of_below hW).and f⟩
          rintro wO ⟨mO, fO⟩
          refine pn_block ?_
          refine EW.on ?_
          refine EW.seq ?_
          have RT := R9.fxg (fS.and fO) hFg gT
          have beT := be9.trans ((fS.and fO).below (fun j hj e => by have e : j = g := e; omega) be9.size)
          have qr := mO.qr (cp := cp) (lI := (fun _ => 1024)) hn0 pvs
          have hgood := good_of (lT := (fun _ => 1024)) p0 hk (fun i hi => by first | exact if_neg (show ¬ i = (pickN at_ lo.length) by omega) | (rw [if_neg (show ¬ i = (pickN at_ lo.length) by omega), if_neg (show ¬ i = (pickN at_ lo.length) by omega)])) (fun i hi => rfl) (nT := fun i => if i = (pickN at_ lo.length) then ((p + pickN bad.num 1000 : Nat) : Int) else (if i = (pickN at_ lo.length) then -1 - (pickN bad.num 1000 : Int) else nI0 i))
          have hbad : Bad p (fun i => if i = (pickN at_ lo.length) then ((p + pickN bad.num 1000 : Nat) : Int) else (if i = (pickN at_ lo.length) then -1 - (pickN bad.num 1000 : Int) else nI0 i)) (fun _ => 1024) (pickN at_ lo.length) 4 := .inl ⟨by simp only [if_true]; omega, rfl⟩
          refine EW.region ?_
          first | refine WL.move rfl rfl rfl ?_
          first | refine WL.nilc rfl rfl rfl ?_
          refine WL.field rfl rfl rfl (fld44 q 1 (by decide) _) ?_
          refine WL.load rfl rfl rfl (ldcP RT.rm rfl) ?_
          first | refine WL.move rfl rfl rfl ?_
          refine WL.call [.pointer (some ⟨ql, 0, none⟩), .slice (some ⟨g, 0, none⟩) lo.length cp] enter9 rfl rfl rfl (commit_no RT.lg _ qr (by omega) (by omega) (pickN at_ lo.length) hk hgood 4 (by decide) hbad) ?_
          rintro _ wF ⟨qf, rfl, bF, lF⟩
          refine ⟨_, rfl, ?_⟩
          have RF := RT.on lF
          have beF := beT.trans (lF.mono beT.size)
          have hgF : wF.cell? ⟨0, 0, none⟩ = some (rty 46) := (beF.cell (cell_lt hg)).trans hg
          first | refine WL.assign rfl rfl rfl ?_
          refine WL.done ?_
          refine EW.on ?_
          refine EW.seq ?_
          refine EW.seq ?_
          refine EW.region ?_
          first | refine WL.move rfl rfl rfl ?_
          refine WL.done ?_
          refine EW.on ?_
          refine EW.block ?_
          refine EW.seq ?_
          refine EW.region ?_
          refine WL.tas rfl rfl rfl (as53 _ _) ?_
          first | refine WL.extract rfl rfl rfl (ext_2 _ _ _).2 ?_
          first | refine WL.extract rfl rfl rfl (ext_2 _ _ _).1 ?_
          refine WL.done ?_
          refine EW.on ?_
          refine EW.cond_t rfl ?_
          refine EW.seq ?_
          refine EW.region ?_
          first | refine WL.assign rfl rfl rfl ?_
          refine WL.done ?_
          refine EW.on ?_
          refine EW.seq ?_
          refine EW.region ?_
          first | refine WL.move rfl rfl rfl ?_
          refine WL.bin rfl rfl rfl rfl (nep _ _ _) ?_
          first | refine WL.move rfl rfl rfl ?_
          first | refine WL.move rfl rfl rfl ?_ | refine WL.skip _ rfl rfl rfl ?_
          first | refine WL.nilc rfl rfl rfl ?_ | refine WL.skip _ rfl rfl rfl ?_
          refine WL.field rfl rfl rfl (fldF qf 1 (by decide) _) ?_
          refine WL.load rfl rfl rfl (ldc3 bF rfl) ?_
          first | refine WL.move rfl rfl rfl ?_ | refine WL.skip _ rfl rfl rfl ?_
          refine WL.bin rfl rfl rfl rfl (int_eq_t rfl _ _ _) ?_
          first | refine WL.pick rfl rfl rfl rfl ?_
          first | refine WL.move rfl rfl rfl ?_
          first | refine WL.move rfl rfl rfl ?_ | refine WL.skip _ rfl rfl rfl ?_
          first | refine WL.nilc rfl rfl rfl ?_ | refine WL.skip _ rfl rfl rfl ?_
          refine WL.field rfl rfl rfl (fldF qf 0 (by decide) _) ?_
          refine WL.load rfl rfl rfl (ldS9 bF rfl) ?_
          refine WL.bin rfl rfl rfl rfl (streq sCommit _ _ _) ?_
          first | refine WL.pick rfl rfl rfl rfl ?_
          first | refine WL.move rfl rfl rfl ?_
          first | refine WL.move rfl rfl rfl ?_ | refine WL.skip _ rfl rfl rfl ?_
          refine WL.call [.iface 53 (.pointer (some ⟨qf, 0, none⟩))] enter11 rfl rfl rfl (code_any bF hgF) ?_
          rintro _ wG ⟨rfl, lG⟩
          refine ⟨_, rfl, ?_⟩
          have RG := RF.on lG
          first | refine WL.move rfl rfl rfl ?_ | refine WL.skip _ rfl rfl rfl ?_
          refine WL.bin rfl rfl rfl rfl (int_eq_t rfl _ _ _) ?_
          first | refine WL.pick rfl rfl rfl rfl ?_
          first | refine WL.move rfl rfl rfl ?_
          first | refine WL.move rfl rfl rfl ?_ | refine WL.skip _ rfl rfl rfl ?_
          first | refine WL.nilc rfl rfl rfl ?_ | refine WL.skip _ rfl rfl rfl ?_
          refine WL.field rfl rfl rfl (fld44 q 0 (by decide) _) ?_
          refine WL.load rfl rfl rfl (ldD RG.rm rfl) ?_
          refine WL.call [.pointer (some ⟨L7.p, 0, none⟩)] enter8 rfl rfl rfl (kcalls_any RG.dk) ?_
          rintro _ wc ⟨rfl, hz⟩
          rw [hz]
          refine ⟨_, rfl, ?_⟩
          first | refine WL.move rfl rfl rfl ?_ | refine WL.skip _ rfl rfl rfl ?_
          refine WL.bin rfl rfl rfl rfl (int_eq_t rfl _ _ _) ?_
          first | refine WL.pick rfl rfl rfl rfl ?_
          first | refine WL.move rfl rfl rfl ?_
          first | refine WL.move rfl rfl rfl ?_ | refine WL.skip _ rfl rfl rfl ?_
          refine WL.call [.pointer (some ⟨q, 0, none⟩)] enter12 rfl rfl rfl (clean_ok RG.dk RG.rm RG.os RG.ds.len (by omega) (by omega) RG.pl RG.ds.img) ?_
          rintro _ wH ⟨rfl, lH⟩
          refine ⟨_, rfl, ?_⟩
          have RH := RG.on lH
          first | refine WL.pick rfl rfl rfl rfl ?_
          first | refine WL.move rfl rfl rfl ?_
          first | refine WL.move rfl rfl rfl ?_ | refine WL.skip _ rfl rfl rfl ?_
          first | refine WL.move rfl rfl rfl ?_ | refine WL.skip _ rfl rfl rfl ?_
          first | refine WL.nilc rfl rfl rfl ?_ | refine WL.skip _ rfl rfl rfl ?_
          refine WL.field rfl rfl rfl (fld44 q 4 (by decide) _) ?_
          refine WL.load rfl rfl rfl (ldc42 RH.rm rfl) ?_
          refine WL.call [.pointer (some ⟨q, 0, none⟩), v7] enter13 rfl rfl rfl (stands_ok RH.dk RH.rm RH.lg (by omega) (by omega) RH.os RH.ds.len RH.ds.hom) ?_
          rintro _ wI ⟨rfl, lI_⟩
          refine ⟨_, rfl, ?_⟩
          first | refine WL.pick rfl rfl rfl rfl ?_
          first | refine WL.assign rfl rfl rfl ?_
          refine WL.done ?_
          refine EW.on ?_
          refine EW.ret ?_
          refine pr_block ?_
          refine pr_then ?_
          exact EW.returns Tryz.results3 rfl ⟨rfl, (((beF.trans (lG.mono beF.size)).trans (lH.mono (by have := beF.size; have := lG.size; omega))).trans (lI_.mono (by have := beF.size; have := lG.size; have := lH.size; omega)))⟩
        · refine EW.skip ?_
          refine pn_block ?_
          refine EW.on ?_
          refine EW.seq ?_
          have RT := R9.fxg fS hFg gT
          have beT := be9.trans (fS.below (fun j hj e => by have e : j = g := e; omega) be9.size)
          have qr := mS.qr (cp := cp) (lI := (fun _ => 1024)) hn0 pvs
          have hgood := good_of (lT := (fun _ => 1024)) p0 hk (fun i hi => by first | exact if_neg (show ¬ i = (pickN at_ lo.length) by omega) | (rw [if_neg (show ¬ i = (pickN at_ lo.length) by omega), if_neg (show ¬ i = (pickN at_ lo.length) by omega)])) (fun i hi => rfl) (nT := fun i => if i = (pickN at_ lo.length) then -1 - (pickN bad.num 1000 : Int) else nI0 i)
          have hbad : Bad p (fun i => if i = (pickN at_ lo.length) then -1 - (pickN bad.num 1000 : Int) else nI0 i) (fun _ => 1024) (pickN at_ lo.length) 4 := .inl ⟨by simp only [if_true]; omega, rfl⟩
          refine EW.region ?_
          first | refine WL.move rfl rfl rfl ?_
          first | refine WL.nilc rfl rfl rfl ?_
          refine WL.field rfl rfl rfl (fld44 q 1 (by decide) _) ?_
          refine WL.load rfl rfl rfl (ldcP RT.rm rfl) ?_
          first | refine WL.move rfl rfl rfl ?_
          refine WL.call [.pointer (some ⟨ql, 0, none⟩), .slice (some ⟨g, 0, none⟩) lo.length cp] enter9 rfl rfl rfl (commit_no RT.lg _ qr (by omega) (by omega) (pickN at_ lo.length) hk hgood 4 (by decide) hbad) ?_
          rintro _ wF ⟨qf, rfl, bF, lF⟩
          refine ⟨_, rfl, ?_⟩
          have RF := RT.on lF
          have beF := beT.trans (lF.mono beT.size)
          have hgF : wF.cell? ⟨0, 0, none⟩ = some (rty 46) := (beF.cell (cell_lt hg)).trans hg
          first | refine WL.assign rfl rfl rfl ?_
          refine WL.done ?_
          refine EW.on ?_
          refine EW.seq ?_
          refine EW.seq ?_
          refine EW.region ?_
          first | refine WL.move rfl rfl rfl ?_
          refine WL.done ?_
          refine EW.on ?_
          refine EW.block ?_
          refine EW.seq ?_
          refine EW.region ?_
          refine WL.tas rfl rfl rfl (as53 _ _) ?_
          first | refine WL.extract rfl rfl rfl (ext_2 _ _ _).2 ?_
          first | refine WL.extract rfl rfl rfl (ext_2 _ _ _).1 ?_
          refine WL.done ?_
          refine EW.on ?_
          refine EW.cond_t rfl ?_
          refine EW.seq ?_
          refine EW.region ?_
          first | refine WL.assign rfl rfl rfl ?_
          refine WL.done ?_
          refine EW.on ?_
          refine EW.seq ?_
          refine EW.region ?_
          first | refine WL.move rfl rfl rfl ?_
          refine WL.bin rfl rfl rfl rfl (nep _ _ _) ?_
          first | refine WL.move rfl rfl rfl ?_
          first | refine WL.move rfl rfl rfl ?_ | refine WL.skip _ rfl rfl rfl ?_
          first | refine WL.nilc rfl rfl rfl ?_ | refine WL.skip _ rfl rfl rfl ?_
          refine WL.field rfl rfl rfl (fldF qf 1 (by decide) _) ?_
          refine WL.load rfl rfl rfl (ldc3 bF rfl) ?_
          first | refine WL.move rfl rfl rfl ?_ | refine WL.skip _ rfl rfl rfl ?_
          refine WL.bin rfl rfl rfl rfl (int_eq_t rfl _ _ _) ?_
          first | refine WL.pick rfl rfl rfl rfl ?_
          first | refine WL.move rfl rfl rfl ?_
          first | refine WL.move rfl rfl rfl ?_ | refine WL.skip _ rfl rfl rfl ?_
          first | refine WL.nilc rfl rfl rfl ?_ | refine WL.skip _ rfl rfl rfl ?_
          refine WL.field rfl rfl rfl (fldF qf 0 (by decide) _) ?_
          refine WL.load rfl rfl rfl (ldS9 bF rfl) ?_
          refine WL.bin rfl rfl rfl rfl (streq sCommit _ _ _) ?_
          first | refine WL.pick rfl rfl rfl rfl ?_
          first | refine WL.move rfl rfl rfl ?_
          first | refine WL.move rfl rfl rfl ?_ | refine WL.skip _ rfl rfl rfl ?_
          refine WL.call [.iface 53 (.pointer (some ⟨qf, 0, none⟩))] enter11 rfl rfl rfl (code_any bF hgF) ?_
          rintro _ wG ⟨rfl, lG⟩
          refine ⟨_, rfl, ?_⟩
          have RG := RF.on lG
          first | refine WL.move rfl rfl rfl ?_ | refine WL.skip _ rfl rfl rfl ?_
          refine WL.bin rfl rfl rfl rfl (int_eq_t rfl _ _ _) ?_
          first | refine WL.pick rfl rfl rfl rfl ?_
          first | refine WL.move rfl rfl rfl ?_
          first | refine WL.move rfl rfl rfl ?_ | refine WL.skip _ rfl rfl rfl ?_
          first | refine WL.nilc rfl rfl rfl ?_ | refine WL.skip _ rfl rfl rfl ?_
          refine WL.field rfl rfl rfl (fld44 q 0 (by decide) _) ?_
          refine WL.load rfl rfl rfl (ldD RG.rm rfl) ?_
          refine WL.call [.pointer (some ⟨L7.p, 0, none⟩)] enter8 rfl rfl rfl (kcalls_any RG.dk) ?_
          rintro _ wc ⟨rfl, hz⟩
          rw [hz]
          refine ⟨_, rfl, ?_⟩
          first | refine WL.move rfl rfl rfl ?_ | refine WL.skip _ rfl rfl rfl ?_
          refine WL.bin rfl rfl rfl rfl (int_eq_t rfl _ _ _) ?_
          first | refine WL.pick rfl rfl rfl rfl ?_
          first | refine WL.move rfl rfl rfl ?_
          first | refine WL.move rfl rfl rfl ?_ | refine WL.skip _ rfl rfl rfl ?_
          refine WL.call [.pointer (some ⟨q, 0, none⟩)] enter12 rfl rfl rfl (clean_ok RG.dk RG.rm RG.os RG.ds.len (by omega) (by omega) RG.pl RG.ds.img) ?_
          rintro _ wH ⟨rfl, lH⟩
          refine ⟨_, rfl, ?_⟩
          have RH := RG.on lH
          first | refine WL.pick rfl rfl rfl rfl ?_
          first | refine WL.move rfl rfl rfl ?_
          first | refine WL.move rfl rfl rfl ?_ | refine WL.skip _ rfl rfl rfl ?_
          first | refine WL.move rfl rfl rfl ?_ | refine WL.skip _ rfl rfl rfl ?_
          first | refine WL.nilc rfl rfl rfl ?_ | refine WL.skip _ rfl rfl rfl ?_
          refine WL.field rfl rfl rfl (fld44 q 4 (by decide) _) ?_
          refine WL.load rfl rfl rfl (ldc42 RH.rm rfl) ?_
          refine WL.call [.pointer (some ⟨q, 0, none⟩), v7] enter13 rfl rfl rfl (stands_ok RH.dk RH.rm RH.lg (by omega) (by omega) RH.os RH.ds.len RH.ds.hom) ?_
          rintro _ wI ⟨rfl, lI_⟩
          refine ⟨_, rfl, ?_⟩
          first | refine WL.pick rfl rfl rfl rfl ?_
          first | refine WL.assign rfl rfl rfl ?_
          refine WL.done ?_
          refine EW.on ?_
          refine EW.ret ?_
          refine pr_block ?_
          refine pr_then ?_
          exact EW.returns Tryz.results3 rfl ⟨rfl, (((beF.trans (lG.mono beF.size)).trans (lH.mono (by have := beF.size; have := lG.size; omega))).trans (lI_.mono (by have := beF.size; have := lG.size; have := lH.size; omega)))⟩
      · refine EW.seq ?_
        refine EW.region ?_
        refine WL.bin rfl rfl rfl rfl (int_eq_d _ _ _ _ _) ?_
        first | refine WL.assign rfl rfl rfl ?_
        refine WL.done ?_
        refine EW.on ?_
        refine EW.cond_d rfl (fun h131 => ?_) (fun h131 => ?_)
        · refine EW.seq ?_
          obtain ⟨bK, hbK, hbl⟩ := lo_has pw9 hvI (pickN at_ lo.length) hk
          have hpB := pickN_lt bad.num 1024 (by decide)
          obtain ⟨aoK, cK, huK⟩ := (hbK.cut 0 (pickN bad.num 1024) (Nat.zero_le _) (by omega)).slice
          rw [show ((bK.drop 0).take (pickN bad.num 1024 - 0)).length = pickN bad.num 1024 by rw [List.length_take, List.length_drop]; omega] at huK
          refine EW.ordB [(0, 0, 0), (1, 0, 0), (2, 0, 0), (3, 0, 0), (4, 0, 0), (5, 0, 0), (6, 0, 1), (7, 0, 0), (8, 0, 1), (9, 1, 1), (10, 0, 0), (11, 0, 0), (12, 0, 0), (13, 1, 0)] (by kernel_rfl) rfl (by kernel_rfl) ?_
          simp only [opsZ, List.getD_cons_zero, List.getD_cons_succ]
          first | refine ZE.move rfl rfl rfl rfl sz0 ?_
          first | refine ZE.move rfl rfl rfl rfl sz0 ?_
          first | refine ZE.move rfl rfl rfl rfl sz0 ?_
          first | refine ZE.move rfl rfl rfl rfl sz0 ?_
          refine ZE.index rfl rfl rfl rfl rfl sz0 (fun W => idxP g lo.length cp (pickN at_ lo.length) hk W) ?_
          refine ZE.field rfl rfl rfl rfl sz0 (fun W => fldq g (pickN at_ lo.length) 1 (by decide) W) ?_
          refine ZE.load rfl rfl rfl rfl sz1 (fun W hW => ld50 ((ml.on hn0 (sb_of hW)).val (pickN at_ lo.length) hk) ((ml.on hn0 (sb_of hW)).fz _)) ?_
          refine ZE.field rfl rfl rfl rfl sz0 (fun W => fld75 q4 0 (by decide) W) ?_
          refine ZE.load rfl rfl rfl rfl sz1 (fun W hW => ldc3 (b49.on (sb_of hW)) rfl) ?_
          refine ZE.callB (v := .int .i64 (pickN bad.num 1024 : Int)) [.int .i64 bad.num, .int .i64 ((1024 : Nat) : Int)] enter10 rfl rfl rfl (fun W h => .inr h) (fun W hW => (pick_any bad.num 1024 (by decide) (by decide) W).mono fun e w' h => ⟨h.1, by rw [h.2]; exact Below.refl _ _⟩) ?_
          refine ZE.sliceH (v := .slice aoK (pickN bad.num 1024) cK) rfl rfl rfl rfl rfl sz0 (fun W => by rw [sl37, hbK.cutH _ (by omega) W, huK]) ?_
          refine ZE.index rfl rfl rfl rfl rfl sz0 (fun W => idxP g lo.length cp (pickN at_ lo.length) hk W) ?_
          refine ZE.field rfl rfl rfl rfl sz0 (fun W => fldq g (pickN at_ lo.length) 1 (by decide) W) ?_
          refine ZE.store (fun W => Ml W g lo.length nI0 (fun i => if i = (pickN at_ lo.length) then .slice aoK (pickN bad.num 1024) cK else vI0 i) ∧ Fx (fun j => j = g) w9 W) rfl rfl rfl (fun _ _ => .inl rfl) (fun W hW => ?_) ?_
          · obtain ⟨w', r, b, f⟩ := (ml.on hn0 hW).setV (pickN at_ lo.length) hk (.slice aoK (pickN bad.num 1024) cK) ⟨_, _, _, rfl⟩
            exact ⟨w', r, b, (Fx.of_below hW).and f⟩
          rintro wB ⟨mB, fB⟩
          refine EW.on ?_
          refine EW.region ?_
          first | refine WL.assign rfl rfl rfl ?_
          refine WL.done ?_
          refine pn_block ?_
          refine EW.on ?_
          refine EW.seq ?_
          have RT := R9.fxg fB hFg gT
          have beT := be9.trans (fB.below (fun j hj e => by have e : j = g := e; omega) be9.size)
          have pvB : ∀ i, i < lo.length → ∃ ao c, (fun i => if i = (pickN at_ lo.length) then Value.slice aoK (pickN bad.num 1024) cK else vI0 i) i = .slice ao ((fun i => if i = (pickN at_ lo.length) then pickN bad.num 1024 else 1024) i) c := fun i hi => by
            by_cases e : i = (pickN at_ lo.length)
            · simp only [if_pos e]; exact ⟨_, _, rfl⟩
            · simp only [if_neg e]; exact pvs i hi
          have qr := mB.qr (cp := cp) (lI := (fun i => if i = (pickN at_ lo.length) then pickN bad.num 1024 else 1024)) hn0 pvB
          have hgood := good_of (nT := nI0) (lT := (fun i => if i = (pickN at_ lo.length) then pickN bad.num 1024 else 1024)) p0 hk (fun i hi => rfl) (fun i hi => by simp only [if_neg (show ¬ i = (pickN at_ lo.length) by omega)])
          have hbad : Bad p nI0 (fun i => if i = (pickN at_ lo.length) then pickN bad.num 1024 else 1024) (pickN at_ lo.length) 82 := .inr (.inl ⟨⟨(p0 _ hk).1, (p0 _ hk).2.1⟩, by simp only [if_true]; have := pickN_lt bad.num 1024 (by decide); omega, rfl⟩)
          refine EW.region ?_
          first | refine WL.move rfl rfl rfl ?_
          first | refine WL.nilc rfl rfl rfl ?_
          refine WL.field rfl rfl rfl (fld44 q 1 (by decide) _) ?_
          refine WL.load rfl rfl rfl (ldcP RT.rm rfl) ?_
          first | refine WL.move rfl rfl rfl ?_
          refine WL.call [.pointer (some ⟨ql, 0, none⟩), .slice (some ⟨g, 0, none⟩) lo.length cp] enter9 rfl rfl rfl (commit_no RT.lg _ qr (by omega) (by omega) (pickN at_ lo.length) hk hgood 82 (by decide) hbad) ?_
          rintro _ wF ⟨qf, rfl, bF, lF⟩
          refine ⟨_, rfl, ?_⟩
          have RF := RT.on lF
          have beF := beT.trans (lF.mono beT.size)
          have hgF : wF.cell? ⟨0, 0, none⟩ = some (rty 46) := (beF.cell (cell_lt hg)).trans hg
          first | refine WL.assign rfl rfl rfl ?_
          refine WL.done ?_
          refine EW.on ?_
          refine EW.seq ?_
          refine EW.seq ?_
          refine EW.region ?_
          first | refine WL.move rfl rfl rfl ?_
          refine WL.done ?_
          refine EW.on ?_
          refine EW.block ?_
          refine EW.seq ?_
          refine EW.region ?_
          refine WL.tas rfl rfl rfl (as53 _ _) ?_
          first | refine WL.extract rfl rfl rfl (ext_2 _ _ _).2 ?_
          first | refine WL.extract rfl rfl rfl (ext_2 _ _ _).1 ?_
          refine WL.done ?_
          refine EW.on ?_
          refine EW.cond_t rfl ?_
          refine EW.seq ?_
          refine EW.region ?_
          first | refine WL.assign rfl rfl rfl ?_
          refine WL.done ?_
          refine EW.on ?_
          refine EW.seq ?_
          refine EW.region ?_
          first | refine WL.move rfl rfl rfl ?_
          refine WL.bin rfl rfl rfl rfl (nep _ _ _) ?_
          first | refine WL.move rfl rfl rfl ?_
          first | refine WL.move rfl rfl rfl ?_ | refine WL.skip _ rfl rfl rfl ?_
          first | refine WL.nilc rfl rfl rfl ?_ | refine WL.skip _ rfl rfl rfl ?_
          refine WL.field rfl rfl rfl (fldF qf 1 (by decide) _) ?_
          refine WL.load rfl rfl rfl (ldc3 bF rfl) ?_
          first | refine WL.move rfl rfl rfl ?_ | refine WL.skip _ rfl rfl rfl ?_
          refine WL.bin rfl rfl rfl rfl (int_eq_t rfl _ _ _) ?_
          first | refine WL.pick rfl rfl rfl rfl ?_
          first | refine WL.move rfl rfl rfl ?_
          first | refine WL.move rfl rfl rfl ?_ | refine WL.skip _ rfl rfl rfl ?_
          first | refine WL.nilc rfl rfl rfl ?_ | refine WL.skip _ rfl rfl rfl ?_
          refine WL.field rfl rfl rfl (fldF qf 0 (by decide) _) ?_
          refine WL.load rfl rfl rfl (ldS9 bF rfl) ?_
          refine WL.bin rfl rfl rfl rfl (streq sCommit _ _ _) ?_
          first | refine WL.pick rfl rfl rfl rfl ?_
          first | refine WL.move rfl rfl rfl ?_
          first | refine WL.move rfl rfl rfl ?_ | refine WL.skip _ rfl rfl rfl ?_
          refine WL.call [.iface 53 (.pointer (some ⟨qf, 0, none⟩))] enter11 rfl rfl rfl (code_any bF hgF) ?_
          rintro _ wG ⟨rfl, lG⟩
          refine ⟨_, rfl, ?_⟩
          have RG := RF.on lG
          first | refine WL.move rfl rfl rfl ?_ | refine WL.skip _ rfl rfl rfl ?_
          refine WL.bin rfl rfl rfl rfl (int_eq_t rfl _ _ _) ?_
          first | refine WL.pick rfl rfl rfl rfl ?_
          first | refine WL.move rfl rfl rfl ?_
          first | refine WL.move rfl rfl rfl ?_ | refine WL.skip _ rfl rfl rfl ?_
          first | refine WL.nilc rfl rfl rfl ?_ | refine WL.skip _ rfl rfl rfl ?_
          refine WL.field rfl rfl rfl (fld44 q 0 (by decide) _) ?_
          refine WL.load rfl rfl rfl (ldD RG.rm rfl) ?_
          refine WL.call [.pointer (some ⟨L7.p, 0, none⟩)] enter8 rfl rfl rfl (kcalls_any RG.dk) ?_
          rintro _ wc ⟨rfl, hz⟩
          rw [hz]
          refine ⟨_, rfl, ?_⟩
          first | refine WL.move rfl rfl rfl ?_ | refine WL.skip _ rfl rfl rfl ?_
          refine WL.bin rfl rfl rfl rfl (int_eq_t rfl _ _ _) ?_
          first | refine WL.pick rfl rfl rfl rfl ?_
          first | refine WL.move rfl rfl rfl ?_
          first | refine WL.move rfl rfl rfl ?_ | refine WL.skip _ rfl rfl rfl ?_
          refine WL.call [.pointer (some ⟨q, 0, none⟩)] enter12 rfl rfl rfl (clean_ok RG.dk RG.rm RG.os RG.ds.len (by omega) (by omega) RG.pl RG.ds.img) ?_
          rintro _ wH ⟨rfl, lH⟩
          refine ⟨_, rfl, ?_⟩
          have RH := RG.on lH
          first | refine WL.pick rfl rfl rfl rfl ?_
          first | refine WL.move rfl rfl rfl ?_
          first | refine WL.move rfl rfl rfl ?_ | refine WL.skip _ rfl rfl rfl ?_
          first | refine WL.move rfl rfl rfl ?_ | refine WL.skip _ rfl rfl rfl ?_
          first | refine WL.nilc rfl rfl rfl ?_ | refine WL.skip _ rfl rfl rfl ?_
          refine WL.field rfl rfl rfl (fld44 q 4 (by decide) _) ?_
          refine WL.load rfl rfl rfl (ldc42 RH.rm rfl) ?_
          refine WL.call [.pointer (some ⟨q, 0, none⟩), v7] enter13 rfl rfl rfl (stands_ok RH.dk RH.rm RH.lg (by omega) (by omega) RH.os RH.ds.len RH.ds.hom) ?_
          rintro _ wI ⟨rfl, lI_⟩
          refine ⟨_, rfl, ?_⟩
          first | refine WL.pick rfl rfl rfl rfl ?_
          first | refine WL.assign rfl rfl rfl ?_
          refine WL.done ?_
          refine EW.on ?_
          refine EW.ret ?_
          refine pr_block ?_
          refine pr_then ?_
          exact EW.returns Tryz.results3 rfl ⟨rfl, (((beF.trans (lG.mono beF.size)).trans (lH.mono (by have := beF.size; have := lG.size; omega))).trans (lI_.mono (by have := beF.size; have := lG.size; have := lH.size; omega)))⟩
        · refine EW.seq ?_
          refine EW.seq ?_
          refine EW.region ?_
          first | refine WL.move rfl rfl rfl ?_
          refine WL.bin rfl rfl rfl rfl (int_eq_d _ _ _ _ _) ?_
          refine WL.done ?_
          refine EW.on ?_
          refine EW.cond_d rfl (fun h92 => ?_) (fun h92 => ?_)
          · refine EW.seq ?_
            refine EW.region ?_
            first | refine WL.assign rfl rfl rfl ?_
            refine WL.done ?_
            refine EW.on ?_
            refine EW.ret ?_
            refine pr_then ?_
            refine pr_block ?_
            refine pr_then ?_
            exact EW.returns Tryz.results3 rfl ⟨rfl, be9⟩
          · refine EW.skip ?_
            refine EW.on ?_
            refine EW.seq ?_
            refine EW.region ?_
            first | refine WL.move rfl rfl rfl ?_
            first | refine WL.move rfl rfl rfl ?_
            first | refine WL.move rfl rfl rfl ?_
            refine WL.field rfl rfl rfl (fld75 q4 0 (by decide) _) ?_
            refine WL.load rfl rfl rfl (ldc3 b49 rfl) ?_
            first | refine WL.move rfl rfl rfl ?_
            refine WL.call [.int .i64 bad.num, .int .i64 (pickN at_ lo.length : Int)] enter10 rfl rfl rfl (pick_any bad.num (pickN at_ lo.length) (by omega) (by omega) _) ?_
            rintro _ wp ⟨rfl, hz⟩
            rw [hz]
            refine ⟨_, rfl, ?_⟩
            have hj := pickN_lt bad.num (pickN at_ lo.length) (by omega)
            refine WL.index rfl rfl rfl rfl (idxP g lo.length cp (pickN bad.num (pickN at_ lo.length)) (by omega) _) ?_
            refine WL.field rfl rfl rfl (fldq g (pickN bad.num (pickN at_ lo.length)) 0 (by decide) _) ?_
            refine WL.load rfl rfl rfl (ldn3 (ml.num (pickN bad.num (pickN at_ lo.length)) (by omega)) (ml.fz _)) ?_
            refine WL.index rfl rfl rfl rfl (idxP g lo.length cp (pickN at_ lo.length) (by omega) _) ?_
            refine WL.field rfl rfl rfl (fldq g (pickN at_ lo.length) 0 (by decide) _) ?_
            obtain ⟨wS, sS, mS, fS⟩ := ml.setN (pickN at_ lo.length) hk (nI0 (pickN bad.num (pickN at_ lo.length)))
            refine WL.store rfl rfl rfl sS ?_
            refine WL.done ?_
            refine EW.on ?_
            refine EW.region ?_
            first | refine WL.assign rfl rfl rfl ?_
            refine WL.done ?_
            refine pn_block ?_
            refine EW.on ?_
            refine EW.seq ?_
            have RT := R9.fxg fS hFg gT
            have beT := be9.trans (fS.below (fun j hj e => by have e : j = g := e; omega) be9.size)
            have qr := mS.qr (cp := cp) (lI := (fun _ => 1024)) hn0 pvs
            have hgood := good_of (lT := (fun _ => 1024)) p0 hk (fun i hi => by first | exact if_neg (show ¬ i = (pickN at_ lo.length) by omega) | (rw [if_neg (show ¬ i = (pickN at_ lo.length) by omega), if_neg (show ¬ i = (pickN at_ lo.length) by omega)])) (fun i hi => rfl) (nT := fun i => if i = (pickN at_ lo.length) then nI0 (pickN bad.num (pickN at_ lo.length)) else nI0 i)
            have hbad : Bad p (fun i => if i = (pickN at_ lo.length) then nI0 (pickN bad.num (pickN at_ lo.length)) else nI0 i) (fun _ => 1024) (pickN at_ lo.length) 91 := .inr (.inr ⟨by simp only [if_true]; exact ⟨(p0 _ (by omega)).1, (p0 _ (by omega)).2.1⟩, rfl, ⟨pickN bad.num (pickN at_ lo.length), hj, by simp only [if_true]; rw [if_neg (by omega)]⟩, rfl⟩)
            refine EW.region ?_
            first | refine WL.move rfl rfl rfl ?_
            first | refine WL.nilc rfl rfl rfl ?_
            refine WL.field rfl rfl rfl (fld44 q 1 (by decide) _) ?_
            refine WL.load rfl rfl rfl (ldcP RT.rm rfl) ?_
            first | refine WL.move rfl rfl rfl ?_
            refine WL.call [.pointer (some ⟨ql, 0, none⟩), .slice (some ⟨g, 0, none⟩) lo.length cp] enter9 rfl rfl rfl (commit_no RT.lg _ qr (by omega) (by omega) (pickN at_ lo.length) hk hgood 91 (by decide) hbad) ?_
            rintro _ wF ⟨qf, rfl, bF, lF⟩
            refine ⟨_, rfl, ?_⟩
            have RF := RT.on lF
            have beF := beT.trans (lF.mono beT.size)
            have hgF : wF.cell? ⟨0, 0, none⟩ = some (rty 46) := (beF.cell (cell_lt hg)).trans hg
            first | refine WL.assign rfl rfl rfl ?_
            refine WL.done ?_
            refine EW.on ?_
            refine EW.seq ?_
            refine EW.seq ?_
            refine EW.region ?_
            first | refine WL.move rfl rfl rfl ?_
            refine WL.done ?_
            refine EW.on ?_
            refine EW.block ?_
            refine EW.seq ?_
            refine EW.region ?_
            refine WL.tas rfl rfl rfl (as53 _ _) ?_
            first | refine WL.extract rfl rfl rfl (ext_2 _ _ _).2 ?_
            first | refine WL.extract rfl rfl rfl (ext_2 _ _ _).1 ?_
            refine WL.done ?_
            refine EW.on ?_
            refine EW.cond_t rfl ?_
            refine EW.seq ?_
            refine EW.region ?_
            first | refine WL.assign rfl rfl rfl ?_
            refine WL.done ?_
            refine EW.on ?_
            refine EW.seq ?_
            refine EW.region ?_
            first | refine WL.move rfl rfl rfl ?_
            refine WL.bin rfl rfl rfl rfl (nep _ _ _) ?_
            first | refine WL.move rfl rfl rfl ?_
            first | refine WL.move rfl rfl rfl ?_ | refine WL.skip _ rfl rfl rfl ?_
            first | refine WL.nilc rfl rfl rfl ?_ | refine WL.skip _ rfl rfl rfl ?_
            refine WL.field rfl rfl rfl (fldF qf 1 (by decide) _) ?_
            refine WL.load rfl rfl rfl (ldc3 bF rfl) ?_
            first | refine WL.move rfl rfl rfl ?_ | refine WL.skip _ rfl rfl rfl ?_
            refine WL.bin rfl rfl rfl rfl (int_eq_t rfl _ _ _) ?_
            first | refine WL.pick rfl rfl rfl rfl ?_
            first | refine WL.move rfl rfl rfl ?_
            first | refine WL.move rfl rfl rfl ?_ | refine WL.skip _ rfl rfl rfl ?_
            first | refine WL.nilc rfl rfl rfl ?_ | refine WL.skip _ rfl rfl rfl ?_
            refine WL.field rfl rfl rfl (fldF qf 0 (by decide) _) ?_
            refine WL.load rfl rfl rfl (ldS9 bF rfl) ?_
            refine WL.bin rfl rfl rfl rfl (streq sCommit _ _ _) ?_
            first | refine WL.pick rfl rfl rfl rfl ?_
            first | refine WL.move rfl rfl rfl ?_
            first | refine WL.move rfl rfl rfl ?_ | refine WL.skip _ rfl rfl rfl ?_
            refine WL.call [.iface 53 (.pointer (some ⟨qf, 0, none⟩))] enter11 rfl rfl rfl (code_any bF hgF) ?_
            rintro _ wG ⟨rfl, lG⟩
            refine ⟨_, rfl, ?_⟩
            have RG := RF.on lG
            first | refine WL.move rfl rfl rfl ?_ | refine WL.skip _ rfl rfl rfl ?_
            refine WL.bin rfl rfl rfl rfl (int_eq_t rfl _ _ _) ?_
            first | refine WL.pick rfl rfl rfl rfl ?_
            first | refine WL.move rfl rfl rfl ?_
            first | refine WL.move rfl rfl rfl ?_ | refine WL.skip _ rfl rfl rfl ?_
            first | refine WL.nilc rfl rfl rfl ?_ | refine WL.skip _ rfl rfl rfl ?_
            refine WL.field rfl rfl rfl (fld44 q 0 (by decide) _) ?_
            refine WL.load rfl rfl rfl (ldD RG.rm rfl) ?_
            refine WL.call [.pointer (some ⟨L7.p, 0, none⟩)] enter8 rfl rfl rfl (kcalls_any RG.dk) ?_
            rintro _ wc ⟨rfl, hz⟩
            rw [hz]
            refine ⟨_, rfl, ?_⟩
            first | refine WL.move rfl rfl rfl ?_ | refine WL.skip _ rfl rfl rfl ?_
            refine WL.bin rfl rfl rfl rfl (int_eq_t rfl _ _ _) ?_
            first | refine WL.pick rfl rfl rfl rfl ?_
            first | refine WL.move rfl rfl rfl ?_
            first | refine WL.move rfl rfl rfl ?_ | refine WL.skip _ rfl rfl rfl ?_
            refine WL.call [.pointer (some ⟨q, 0, none⟩)] enter12 rfl rfl rfl (clean_ok RG.dk RG.rm RG.os RG.ds.len (by omega) (by omega) RG.pl RG.ds.img) ?_
            rintro _ wH ⟨rfl, lH⟩
            refine ⟨_, rfl, ?_⟩
            have RH := RG.on lH
            first | refine WL.pick rfl rfl rfl rfl ?_
            first | refine WL.move rfl rfl rfl ?_
            first | refine WL.move rfl rfl rfl ?_ | refine WL.skip _ rfl rfl rfl ?_
            first | refine WL.move rfl rfl rfl ?_ | refine WL.skip _ rfl rfl rfl ?_
            first | refine WL.nilc rfl rfl rfl ?_ | refine WL.skip _ rfl rfl rfl ?_
            refine WL.field rfl rfl rfl (fld44 q 4 (by decide) _) ?_
            refine WL.load rfl rfl rfl (ldc42 RH.rm rfl) ?_
            refine WL.call [.pointer (some ⟨q, 0, none⟩), v7] enter13 rfl rfl rfl (stands_ok RH.dk RH.rm RH.lg (by omega) (by omega) RH.os RH.ds.len RH.ds.hom) ?_
            rintro _ wI ⟨rfl, lI_⟩
            refine ⟨_, rfl, ?_⟩
            first | refine WL.pick rfl rfl rfl rfl ?_
            first | refine WL.assign rfl rfl rfl ?_
            refine WL.done ?_
            refine EW.on ?_
            refine EW.ret ?_
            refine pr_block ?_
            refine pr_then ?_
            exact EW.returns Tryz.results3 rfl ⟨rfl, (((beF.trans (lG.mono beF.size)).trans (lH.mono (by have := beF.size; have := lG.size; omega))).trans (lI_.mono (by have := beF.size; have := lG.size; have := lH.size; omega)))⟩
end Go.Proofs.YtomioemhjhhbcaaGreatDoor
