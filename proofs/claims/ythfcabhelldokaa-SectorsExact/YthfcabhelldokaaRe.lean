import Derived.Test.YthfcabhelldokaaRd2
set_option linter.unusedVariables false
set_option linter.unusedSimpArgs false
namespace Go.Proofs.Ythfcabhelldokaa
open Go.RowKit

section
variable {P : Program} {n : Nat} {ops : Array Oper} {K : List (Nat × Value) → (World → Prop) → Prop} {i : Nat} {ty : TypeId} {ps : String} {af : Array Edge} {gd : Option (Nat × Bool)} {r : List (Oper × Bool)} {e : List (Nat × Value)} {S C : World → Prop}
theorem OE.min2 {t : TypeId} {x y : Operand} {u u' v : Value} (hw : wantE ops e ⟨some i, .call { callee := .builtin .min, args := #[x, y], argTypes := #[t, t] }, ty, ps, af, gd⟩ = some true) (hi : decide (i < n) = true) (hx : evE e x = some u) (hy : evE e y = some u') (hr : ∀ w, (Builtin.min_ #[t, t] ty #[u, u']).run P w = .ok v w) (k : wpOrdE P n ops K r ((i, v) :: e) S C) : wpOrdE P n ops K ((⟨some i, .call { callee := .builtin .min, args := #[x, y], argTypes := #[t, t] }, ty, ps, af, gd⟩, false) :: r) e S C :=
  OE.val hw hi (fun a ha W hW => by simp [execOp, resolve, invoke, builtin, ha.ev hx, ha.ev hy, hr W, Result.andThen]) k
theorem OE.max2 {t : TypeId} {x y : Operand} {u u' v : Value} (hw : wantE ops e ⟨some i, .call { callee := .builtin .max, args := #[x, y], argTypes := #[t, t] }, ty, ps, af, gd⟩ = some true) (hi : decide (i < n) = true) (hx : evE e x = some u) (hy : evE e y = some u') (hr : ∀ w, (Builtin.max_ #[t, t] ty #[u, u']).run P w = .ok v w) (k : wpOrdE P n ops K r ((i, v) :: e) S C) : wpOrdE P n ops K ((⟨some i, .call { callee := .builtin .max, args := #[x, y], argTypes := #[t, t] }, ty, ps, af, gd⟩, false) :: r) e S C :=
  OE.val hw hi (fun a ha W hW => by simp [execOp, resolve, invoke, builtin, ha.ev hx, ha.ev hy, hr W, Result.andThen]) k
end
theorem info78l (s : Nat) (v : Value) : (Try.prog.info? 78).map (·.size) = some (pwC s v).length := by kernel_rfl
theorem ld78 {W : World} {ad : Addr} {s : Nat} {v : Value} (h : At W ad (pwC s v)) : (Instr.loadAt 78 (.pointer (some ad))).run Try.prog W = .ok (.agg (pwC s v).toArray) W := run_loadA h Try.underlying78 rfl (info78l s v)
theorem Fx.rt {w w' : World} {L : Rl} (h : Fx (fun k => L.vb.ownBlock = some k) w w') : RT w w' L L := ⟨h.mono (fun k _ e => .inr (.inl e)), fun _ h => .inl h, rfl⟩
theorem imgT_suc (f : Nat → Nat) (pen : List (Nat × List UInt8)) (img : List UInt8) (t : Nat) (x : Nat × List UInt8) (h : pen[t]? = some x) : imgT f pen img (t + 1) = settleL (imgT f pen img t) x.1 (f t) x.2 := by
  have hge : pen.getD t (0, []) = x := by rw [List.getD_eq_getElem?_getD, h]; rfl
  rw [imgT, hge]
theorem item_own {w : World} {L : Rl} {D : Dv} (h : RDev w L D) {k g : Nat} (hk : k < D.pen.length) (hx : ∀ W, (Instr.indexAt 30 L.vl (.int .i64 (k : Int))).run Try.prog W = .ok (.pointer (some ⟨g, k * 2, none⟩)) W) : L.vl.ownBlock = some g := by
  obtain ⟨h0, ⟨e, hz⟩ | ⟨g', cap, cur, e, _⟩⟩ := h.pen
  · omega
  · have h2 := hx w
    rw [e, idx30 g' D.pen.length cap k hk w] at h2
    have : g' = g := by injection h2 with h3; injection h3 with h4; injection h4 with h5; injection h5
    rw [e, this]; rfl
def faE (p g t : Nat) : List (Nat × Value) := [(0, .pointer (some ⟨p, 0, none⟩)), (3, .pointer (some ⟨g, 0, none⟩)), (4, .int .i64 (t : Int))]
set_option maxRecDepth 100000 in
set_option maxHeartbeats 1000000 in
theorem falls_ref {w : World} {L : Rl} {D : Dv} (h : RDev w L D) (v : Value) (ks : List (BitVec 64)) (torn off : Int) (hv : Has64 w v ks) (hvn : ∀ k, ks ≠ [] → v.ownBlock = some k → L.vb.ownBlock ≠ some k) :
    Calls Try.prog 65 #[.pointer (some ⟨L.p, 0, none⟩), .agg (lossC v torn off).toArray] w fun e w' => e = .returned (.tuple #[]) ∧ RT w w' L L.bare ∧ RDev w' L.bare (crashD D ks torn off) := by
  obtain ⟨g0, hg0⟩ : ∃ g, w.heap.size = g := ⟨_, rfl⟩
  have hbox := run_boxR (P := Try.prog) 38 (lossC v torn off) w g0 hg0
  have b0 : Blk (w.alloc (.cells (lossC v torn off).toArray 38)) g0 (lossC v torn off) 38 := Blk.newAt hg0
  have be0 : Below w.heap.size w (w.alloc (.cells (lossC v torn off).toArray 38)) := below_new w _
  have h0 := h.below be0
  have hv0 := hv.below be0
  have hgn : L.vb.ownBlock ≠ some g0 := fun e => by have := ownsRow_lt h.img g0 e; omega
  obtain ⟨w0, hw0⟩ : ∃ w0, w.alloc (.cells (lossC v torn off).toArray 38) = w0 := ⟨_, rfl⟩
  rw [hw0] at hbox b0 be0 h0 hv0
  have hok := h.ok
  have hvsl := h.vsl
  refine calls_of_args [.pointer (some ⟨L.p, 0, none⟩), .agg (lossC v torn off).toArray] Try.func65 rfl 54 Try.ntmps65 (by show 2 ≤ 54; decide) ?_
  refine EW.seq ?_
  refine EW.region ?_
  refine WL.box rfl rfl rfl hbox ?_
  refine WL.done ?_
  refine EW.on ?_
  refine EW.seq ?_
  refine EW.seq ?_
  refine EW.region ?_
  first | refine WL.assign rfl rfl rfl ?_
  refine WL.done ?_
  refine EW.on ?_
  refine EW.block ?_
  refine EW.loop (faE L.p g0) (fun t w' => t ≤ D.pen.length ∧ Fx (fun k => L.vb.ownBlock = some k) w0 w' ∧ RDev w' L { D with img := imgT (survN ks torn off) D.pen D.img t }) (fun t => D.pen.length - t) 0 [0, 3, 4] rfl ⟨Nat.zero_le _, Fx.refl _ _, h0⟩ ?_
  rintro t wr ⟨htm, hfx, hr⟩
  show EW _ _ _ _ [(0, .pointer (some ⟨L.p, 0, none⟩)), (3, .pointer (some ⟨g0, 0, none⟩)), (4, .int .i64 (t : Int))] _
  have hpl := hr.plen
  by_cases hl : t < D.pen.length
  · have z1 : (t : Int) < (D.pen.length : Int) := Int.ofNat_lt.2 hl
    have tn := tnM t _ hl hok.few
    have br := b0.fx hfx hgn
    have hkp := kept_ref v ks torn off t (by have := hok.few; omega) wr (hv0.fx' hfx (fun k hn hk e => hvn k hn hk e))
    obtain ⟨x, hx⟩ : ∃ x, D.pen[t]? = some x := ⟨D.pen[t]'hl, List.getElem?_eq_getElem _⟩
    obtain ⟨vx, hvx⟩ : ∃ x, L.vs[t]? = some x := ⟨L.vs[t]'(by rw [hvsl]; exact hl), List.getElem?_eq_getElem _⟩
    have hxm := hok.sec x (List.mem_of_getElem? hx)
    have hstep := imgT_suc (survN ks torn off) D.pen D.img t x hx
    have hs : survN ks torn off t = if keptB ks t then 512 else if (t : Int) = torn then (min (max off 0) 512).toNat else 0 := rfl
    obtain ⟨K, hK⟩ : ∃ K, keptB ks t = K := ⟨_, rfl⟩
    rw [hK] at hkp hs
    refine EW.seq ?_
    refine EW.seq ?_
    refine EW.region ?_
    first | refine WL.move rfl rfl rfl ?_
    first | refine WL.move rfl rfl rfl ?_
    first | refine WL.nilc rfl rfl rfl ?_
    first | refine WL.field rfl rfl rfl (fld96_1 _ _) ?_
    refine WL.load rfl rfl rfl (ld30 hr.r1) ?_
    refine WL.len rfl rfl rfl (hpl _ _) ?_
    first | refine WL.bin rfl rfl rfl rfl (int_lt_t ‹_› _ _ _) ?_ | refine WL.bin rfl rfl rfl rfl (int_lt_f ‹_› _ _ _) ?_
    refine WL.done ?_
    refine EW.on ?_
    refine EW.cond_t rfl ?_
    refine EW.skip ?_
    refine EW.on ?_
    refine EW.seq ?_
    refine EW.block ?_
    refine EW.seq ?_
    refine EW.region ?_
    refine WL.load rfl rfl rfl (run_loadR br Try.underlying38 rfl (info38 _ _ _)) ?_
    first | refine WL.move rfl rfl rfl ?_
    refine WL.call [.agg (lossC v torn off).toArray, .int .i64 (t : Int)] enter73 rfl rfl rfl hkp ?_
    rintro x w3 ⟨rfl, be3⟩
    refine ⟨_, rfl, ?_⟩
    first | refine WL.assign rfl rfl rfl ?_
    refine WL.done ?_
    have hr3 := hr.below be3
    have hfx3 := hfx.then_below be3
    have b3 := br.on be3
    obtain ⟨gp, hix, hat⟩ := hr3.item t vx x hvx hx
    refine EW.on ?_
    refine EW.seq ?_
    refine EW.region ?_
    first | refine WL.move rfl rfl rfl ?_
    refine WL.done ?_
    refine EW.on ?_
    cases K
    · have rT : w3.cell? ⟨g0, 1, none⟩ = some (.int .i64 torn) := (b3.cell 1).trans rfl
      by_cases hte : (t : Int) = torn
      · refine EW.cond_f rfl ?_
        refine EW.seq ?_
        refine EW.region ?_
        first | refine WL.move rfl rfl rfl ?_
        refine WL.field rfl rfl rfl (fld38_1' _ _) ?_
        refine WL.load rfl rfl rfl (ld3 rT) ?_
        refine WL.bin rfl rfl rfl rfl (int_eq_t hte _ _ _) ?_
        refine WL.done ?_
        refine EW.on ?_
        refine EW.cond_t rfl ?_
        have hs : survN ks torn off t = (min (max off 0) 512).toNat := by rw [hs, if_neg (by decide), if_pos hte]
        have hmm : ((survN ks torn off t : Nat) : Int) = max 0 (min 512 off) := by rw [hs]; omega
        have hput := put_ref hr3 x.1 hxm.1 vx x.2 hxm.2 (hr3.bys t vx x hvx hx) (fun k hk => (hr3.vn vx (List.mem_of_getElem? hvx) k hk).2.1) (survN ks torn off t) (surv_le _ _ _ _)
        rw [hmm] at hput
        have hrd := hr3.below (below_drawn w3)
        have fxd := hfx3.then_below (below_drawn w3)
        have hput2 : ∀ V, Below w3.heap.size w3 V → Calls Try.prog 66 #[.pointer (some ⟨L.p, 0, none⟩), .agg (pwC x.1 vx).toArray, .int .i64 (max 0 (min 512 off))] V fun e w' => e = .returned (.tuple #[]) ∧ (Fx (fun k => L.vb.ownBlock = some k) w0 w' ∧ RDev w' L { D with img := imgT (survN ks torn off) D.pen D.img (t + 1) }) := fun V hV => by
          have hq := put_ref (hr3.below hV) x.1 hxm.1 vx x.2 hxm.2 ((hr3.below hV).bys t vx x hvx hx) (fun k hk => (hr3.vn vx (List.mem_of_getElem? hvx) k hk).2.1) (survN ks torn off t) (surv_le _ _ _ _)
          rw [hmm] at hq
          exact hq.mono fun e w' ⟨h1, h2, h3⟩ => ⟨h1, (hfx3.then_below hV).and h2, by rw [hstep]; exact h3⟩
        have hSS : ∀ V, Fx (fun k => L.vb.ownBlock = some k) w3 V → V.cell? ⟨L.p, 1, none⟩ = some L.vl ∧ At V ⟨gp, t * 2, none⟩ (pwC x.1 vx) ∧ V.cell? ⟨g0, 2, none⟩ = some (.int .i64 off) := fun V hV =>
          ⟨hV.cell hr3.r1 h.bp, fun j u hj => hV.cell (hat j u hj) (by rw [add_block]; exact fun e => h.bl gp e (item_own hr3 hl hix)), ((b3.fx hV hgn).cell 2).trans rfl⟩
        have hput3 : ∀ V, Below w3.heap.size w3 V → Calls Try.prog 66 #[.pointer (some ⟨L.p, 0, none⟩), .agg (pwC x.1 vx).toArray, .int .i64 (max 0 (min 512 off))] V fun e w' => e = .returned (.tuple #[]) ∧ (Fx (fun k => L.vb.ownBlock = some k) w3 w' ∧ RDev w' L { D with img := imgT (survN ks torn off) D.pen D.img (t + 1) }) := fun V hV => by
          have hq := put_ref (hr3.below hV) x.1 hxm.1 vx x.2 hxm.2 ((hr3.below hV).bys t vx x hvx hx) (fun k hk => (hr3.vn vx (List.mem_of_getElem? hvx) k hk).2.1) (survN ks torn off t) (surv_le _ _ _ _)
          rw [hmm] at hq
          exact hq.mono fun e w' ⟨h1, h2, h3⟩ => ⟨h1, (Fx.of_below hV).and h2, by rw [hstep]; exact h3⟩
        refine EW.ord [(0, false), (1, false), (2, false), (3, false), (4, false), (5, false), (6, false), (7, false), (8, false), (9, false), (10, false), (11, false), (12, true)] (fun V => V.cell? ⟨L.p, 1, none⟩ = some L.vl ∧ At V ⟨gp, t * 2, none⟩ (pwC x.1 vx) ∧ V.cell? ⟨g0, 2, none⟩ = some (.int .i64 off)) (by kernel_rfl) rfl (by kernel_rfl) (hSS _ (Fx.of_below (below_drawn w3))) ?_
        simp only [ordOps, List.getD_cons_zero, List.getD_cons_succ]
        refine OE.move rfl rfl rfl ?_
        refine OE.move rfl rfl rfl ?_
        refine OE.nilc rfl rfl rfl ?_
        refine OE.field rfl rfl rfl (fun V => fld96_1 _ V) ?_
        refine OE.load rfl rfl rfl (fun V hV => ld30 hV.1) ?_
        refine OE.move rfl rfl rfl ?_
        refine OE.index rfl rfl rfl rfl hix ?_
        refine OE.load rfl rfl rfl (fun V hV => ld78 hV.2.1) ?_
        refine OE.field rfl rfl rfl (fun V => fld38_2 _ V) ?_
        refine OE.load rfl rfl rfl (fun V hV => ld3 hV.2.2) ?_
        refine OE.min2 rfl rfl rfl rfl (fun V => min512 _ V _) ?_
        refine OE.max2 rfl rfl rfl rfl (fun V => max0 _ V _) ?_
        refine OE.call [.pointer (some ⟨L.p, 0, none⟩), .agg (pwC x.1 vx).toArray, .int .i64 (max 0 (min 512 off))] (.tuple #[]) (fun V => V.cell? ⟨L.p, 1, none⟩ = some L.vl ∧ At V ⟨gp, t * 2, none⟩ (pwC x.1 vx) ∧ V.cell? ⟨g0, 2, none⟩ = some (.int .i64 off)) (fun V => Fx (fun k => L.vb.ownBlock = some k) w3 V ∧ RDev V L { D with img := imgT (survN ks torn off) D.pen D.img (t + 1) }) enter66 rfl rfl rfl (fun V hV => hSS V hV.1) (fun V h => h) (fun V hV => by rw [hV]; exact hput3 _ (below_drawn w3)) ?_
        refine fun a ha w4 hW => ?_
        obtain ⟨hf4, hr4⟩ := hW
        have fx4 := hfx3.and hf4
        revert a ha
        refine pn_block ?_
        refine EW.on ?_
        refine EW.region ?_
        first | refine WL.move rfl rfl rfl ?_
        first | refine WL.bin rfl rfl rfl rfl (int_add ‹_› _ _ _) ?_
        first | refine WL.assign rfl rfl rfl ?_
        refine WL.done ?_
        exact EW.again (t + 1) [0, 3, 4] rfl ⟨hl, fx4, hr4⟩ (by show D.pen.length - (t + 1) < D.pen.length - t; omega)
      · refine EW.cond_f rfl ?_
        refine EW.seq ?_
        refine EW.region ?_
        first | refine WL.move rfl rfl rfl ?_
        refine WL.field rfl rfl rfl (fld38_1' _ _) ?_
        refine WL.load rfl rfl rfl (ld3 rT) ?_
        refine WL.bin rfl rfl rfl rfl (int_eq_f hte _ _ _) ?_
        refine WL.done ?_
        refine EW.on ?_
        refine EW.cond_f rfl ?_
        refine EW.skip ?_
        have hs : survN ks torn off t = 0 := by rw [hs, if_neg (by decide), if_neg hte]
        have fx4 := hfx3
        have hr4 : RDev w3 L { D with img := imgT (survN ks torn off) D.pen D.img (t + 1) } := by rw [hstep, hs, settle_zero]; exact hr3
        refine pn_block ?_
        refine EW.on ?_
        refine EW.region ?_
        first | refine WL.move rfl rfl rfl ?_
        first | refine WL.bin rfl rfl rfl rfl (int_add ‹_› _ _ _) ?_
        first | refine WL.assign rfl rfl rfl ?_
        refine WL.done ?_
        exact EW.again (t + 1) [0, 3, 4] rfl ⟨hl, fx4, hr4⟩ (by show D.pen.length - (t + 1) < D.pen.length - t; omega)
    · have hs : survN ks torn off t = 512 := hs
      have hput := put_ref hr3 x.1 hxm.1 vx x.2 hxm.2 (hr3.bys t vx x hvx hx) (fun k hk => (hr3.vn vx (List.mem_of_getElem? hvx) k hk).2.1) 512 (Nat.le_refl _)
      rw [show ((512 : Nat) : Int) = 512 from rfl] at hput
      refine EW.cond_t rfl ?_
      refine EW.region ?_
      first | refine WL.move rfl rfl rfl ?_
      first | refine WL.move rfl rfl rfl ?_
      first | refine WL.nilc rfl rfl rfl ?_
      first | refine WL.field rfl rfl rfl (fld96_1 _ _) ?_
      refine WL.load rfl rfl rfl (ld30 hr3.r1) ?_
      first | refine WL.move rfl rfl rfl ?_
      refine WL.index rfl rfl rfl rfl (hix _) ?_
      refine WL.load rfl rfl rfl (ld78 hat) ?_
      refine WL.call [.pointer (some ⟨L.p, 0, none⟩), .agg (pwC x.1 vx).toArray, .int .i64 512] enter66 rfl rfl rfl hput ?_
      rintro x w4 ⟨rfl, hf4, hr4⟩
      refine ⟨_, rfl, ?_⟩
      refine WL.done ?_
      have fx4 := hfx3.and hf4
      have hr4 : RDev w4 L { D with img := imgT (survN ks torn off) D.pen D.img (t + 1) } := by rw [hstep, hs]; exact hr4
      refine pn_block ?_
      refine EW.on ?_
      refine EW.region ?_
      first | refine WL.move rfl rfl rfl ?_
      first | refine WL.bin rfl rfl rfl rfl (int_add ‹_› _ _ _) ?_
      first | refine WL.assign rfl rfl rfl ?_
      refine WL.done ?_
      exact EW.again (t + 1) [0, 3, 4] rfl ⟨hl, fx4, hr4⟩ (by show D.pen.length - (t + 1) < D.pen.length - t; omega)
  · have z1 : ¬ (t : Int) < (D.pen.length : Int) := fun hh => hl (Int.ofNat_lt.1 hh)
    obtain rfl : t = D.pen.length := Nat.le_antisymm htm (Nat.le_of_not_lt hl)
    have k1 := hr.noList
    obtain ⟨w1, hw1⟩ : ∃ w1, wr.setCell ⟨L.p, 1, none⟩ (.slice none 0 0) = w1 := ⟨_, rfl⟩
    have s1 := st30 (ao := none) (l := 0) (c := 0) hr.r1 (hr.dev.frozen 1)
    rw [hw1] at k1 s1
    have hok2 : (crashD D ks torn off).ok := ⟨hok.n1, hok.n2, k1.1.ok.len, fun x hx => by simp [crashD] at hx, by simp [crashD], hok.cal⟩
    have k2 := k1.1.num 2 (.bool true) { (crashD D ks torn off) with left := D.left, keep := D.keep, torn := D.torn, off := D.off } rfl rfl rfl h.los ⟨hok2.n1, hok2.n2, hok2.len, hok2.sec, hok2.few, hok2.cal⟩
    obtain ⟨w2, hw2⟩ : ∃ w2, w1.setCell ⟨L.bare.p, 2, none⟩ (.bool true) = w2 := ⟨_, rfl⟩
    have s2 := st4 (z := true) k1.1.r2 (k1.1.dev.frozen 2)
    rw [hw2] at k2 s2
    have k3 := k2.1.num 3 (.int .i64 0) (crashD D ks torn off) rfl rfl rfl (fun e => absurd rfl e) hok2
    have s3 := st3 (z := 0) k2.1.r3 (k2.1.dev.frozen 3)
    refine EW.seq ?_
    refine EW.seq ?_
    refine EW.region ?_
    first | refine WL.move rfl rfl rfl ?_
    first | refine WL.move rfl rfl rfl ?_
    first | refine WL.nilc rfl rfl rfl ?_
    first | refine WL.field rfl rfl rfl (fld96_1 _ _) ?_
    refine WL.load rfl rfl rfl (ld30 hr.r1) ?_
    refine WL.len rfl rfl rfl (hpl _ _) ?_
    first | refine WL.bin rfl rfl rfl rfl (int_lt_t ‹_› _ _ _) ?_ | refine WL.bin rfl rfl rfl rfl (int_lt_f ‹_› _ _ _) ?_
    refine WL.done ?_
    refine EW.on ?_
    refine EW.cond_f rfl ?_
    refine EW.exit ?_
    repeat refine px_then ?_
    refine px_block ?_
    refine EW.on ?_
    refine EW.seq ?_
    refine EW.region ?_
    first | refine WL.move rfl rfl rfl ?_
    first | refine WL.nilc rfl rfl rfl ?_
    first | refine WL.field rfl rfl rfl (fld96_1 _ _) ?_
    refine WL.store rfl rfl rfl s1 ?_
    refine WL.done ?_
    refine EW.on ?_
    refine EW.seq ?_
    refine EW.region ?_
    first | refine WL.move rfl rfl rfl ?_
    first | refine WL.nilc rfl rfl rfl ?_
    first | refine WL.field rfl rfl rfl (fld96_2 _ _) ?_
    refine WL.store rfl rfl rfl s2 ?_
    refine WL.done ?_
    refine EW.on ?_
    refine EW.region ?_
    first | refine WL.move rfl rfl rfl ?_
    first | refine WL.nilc rfl rfl rfl ?_
    first | refine WL.field rfl rfl rfl (fld96_3 _ _) ?_
    refine WL.store rfl rfl rfl s3 ?_
    refine WL.done ?_
    exact EW.falls Try.results65 ⟨rfl, (RT.below be0).trans (hfx.rt.trans (k1.2.trans (k2.2.trans k3.2))), k3.1⟩
end Go.Proofs.Ythfcabhelldokaa
