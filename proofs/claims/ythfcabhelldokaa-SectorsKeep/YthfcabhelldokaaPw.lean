import Derived.Test.YthfcabhelldokaaPr
set_option linter.unusedVariables false
set_option linter.unusedSimpArgs false
namespace Go.Proofs.Ythfcabhelldokaa
open Go.RowKit
set_option maxRecDepth 100000 in
set_option maxHeartbeats 4000000 in
theorem pl_write {w W : World} {pv t : Nat} {L : Lay} {vi vl : Value} {gs : List Nat} {D : Dv} (h : Rn1 w W pv t L vi vl gs D) (ht : t ≤ 1000) (s : Stp) (hs : s.ok w) (n4k : ¬ s.kind = 4) (n7 : ¬ s.kind = 7) (n8 : ¬ s.kind = 8) (n5 : ¬ s.kind = 5) (n6 : ¬ s.kind = 6) (n1 : ¬ s.kind = 1) (n9 : ¬ s.kind = 9) :
    Calls Try.prog 28 #[.pointer (some ⟨pv, 0, none⟩), .agg (stC s).toArray] W fun e w' => e = .returned (.bool true) ∧ Rn w w' pv (t + 1) := by
  obtain ⟨g0, hg0⟩ : ∃ g, W.heap.size = g := ⟨_, rfl⟩
  have hbox := run_boxR (P := Try.prog) 53 (stC s) W g0 hg0
  have b0 : Blk (W.alloc (.cells (stC s).toArray 53)) g0 (stC s) 53 := Blk.newAt hg0
  have k0 := h.kp.below (below_new W (.cells (stC s).toArray 53))
  have hsz0 : (W.alloc (.cells (stC s).toArray 53)).heap.size = g0 + 1 := by simp [hg0]
  have hLg : ¬ L.F g0 := fun hF => by have := h.kp.mine.dev.lt g0 hF; omega
  have hBg : ¬ bkF pv vi vl gs g0 := fun hF => by have := h.kp.bk.lt g0 hF; omega
  have hwg : w.heap.size ≤ g0 := by rw [← hg0]; exact h.kp.mine.be.size
  obtain ⟨w0, hw0⟩ : ∃ w0, W.alloc (.cells (stC s).toArray 53) = w0 := ⟨_, rfl⟩
  rw [hw0] at hbox b0 k0 hsz0
  clear hw0
  have n4 := h.n4
  have dn := h.dn
  have lf := h.lf
  have cal := h.cal
  have few := h.few
  clear h
  have c0 := (b0.cell 0).trans (show _ = some (.int .i64 s.kind) from rfl)
  have c2 := (b0.cell 2).trans (show _ = some (.int .i64 s.i) from rfl)
  have r0 := (k0.bk.bl.cell 0).trans (show _ = some (.pointer (some ⟨L.p, 0, none⟩)) from rfl)
  have hpk := pick_any s.i 4 (by decide) (by decide) hs.ii w0
  have hplt := pick_lt s.i 4 (by decide)
  obtain ⟨I, hI⟩ : ∃ I, pickN s.i 4 = I := ⟨_, rfl⟩
  rw [hI, show ((4 : Nat) : Int) = 4 from rfl] at hpk
  rw [hI] at hplt
  clear hI
  have hw0s := hs.below k0.mine.be
  have sec := k0.mine.dev.ok.sec
  have hok := k0.mine.dev.ok
  have hi4 : D.img.length = 4 * 512 := by have := hok.len; rw [n4] at this; exact this
  have hsec := sector_any s.fill s.vb s.b hw0s.bl w0 hw0s.hb
  have hgb : w0.heap.size = g0 + 1 := hsz0
  rw [hgb] at hsec
  have c3 := (b0.cell 3).trans (show _ = some (.int .u8 (s.fill.toNat : Int)) from rfl)
  have c4 := (b0.cell 4).trans (show _ = some s.vb from rfl)
  have bB : Blk (w0.alloc (.cells ((secL s.fill s.b).map byt).toArray 5)) (g0 + 1) ((secL s.fill s.b).map byt) 5 := Blk.newAt hgb
  have k1 := k0.below (below_new w0 (.cells ((secL s.fill s.b).map byt).toArray 5))
  have b1 := b0.on (below_new w0 (.cells ((secL s.fill s.b).map byt).toArray 5))
  obtain ⟨w1, hw1⟩ : ∃ w1, w0.alloc (.cells ((secL s.fill s.b).map byt).toArray 5) = w1 := ⟨_, rfl⟩
  rw [hw1] at hsec bB k1 b1
  clear hw1
  have hbl := secL_length s.fill s.b
  have r1 := (k1.bk.bl.cell 0).trans (show _ = some (.pointer (some ⟨L.p, 0, none⟩)) from rfl)
  have hce : changedE D = 0 := by unfold changedE; rw [lf]; rfl
  have hcd : changedD (pushD D I (secL s.fill s.b)) = tickD (pushD D I (secL s.fill s.b)) := by unfold changedD; rw [show (pushD D I (secL s.fill s.b)).left = 0 from lf]; rfl
  have hwr := write_ok k1.mine.dev dn I (by omega) (bV (g0 + 1)) (secL s.fill s.b) hbl (Blk.hasB bB hbl) (by omega) (by omega) (by omega)
  rw [hce, hcd] at hwr
  refine calls_of_args [.pointer (some ⟨pv, 0, none⟩), .agg (stC s).toArray] Try.func28 rfl 176 Try.ntmps28 (by show 2 ≤ 176; decide) ?_
  refine EW.seq ?_
  refine EW.region ?_
  refine WL.box rfl rfl rfl hbox ?_
  first | refine WL.assign rfl rfl rfl ?_
  refine WL.done ?_
  refine EW.on ?_
  refine EW.seq ?_
  refine EW.region ?_
  first | refine WL.field rfl rfl rfl (fld53_2 _ _) ?_
  refine WL.load rfl rfl rfl (ld3 c2) ?_
  refine WL.call [.int .i64 s.i, .int .i64 4] enter9 rfl rfl rfl hpk ?_
  rintro x w3 ⟨rfl, hz⟩
  rw [hz]; clear hz w3
  refine ⟨_, rfl, ?_⟩
  first | refine WL.assign rfl rfl rfl ?_
  refine WL.done ?_
  refine EW.on ?_
  refine EW.seq ?_
  refine EW.seq ?_
  refine EW.region ?_
  first | refine WL.field rfl rfl rfl (fld53_0 _ _) ?_
  refine WL.load rfl rfl rfl (ld3 c0) ?_
  refine WL.done ?_
  refine EW.on ?_
  refine EW.block ?_
  refine EW.seq ?_
  refine EW.region ?_
  refine WL.bin rfl rfl rfl rfl (int_eq_f n4k _ _ _) ?_
  first | refine WL.assign rfl rfl rfl ?_
  refine WL.done ?_
  refine EW.on ?_
  refine EW.cond_f rfl ?_
  refine EW.seq ?_
  refine EW.seq ?_
  refine EW.region ?_
  refine WL.bin rfl rfl rfl rfl (int_eq_f n7 _ _ _) ?_
  first | refine WL.assign rfl rfl rfl ?_
  refine WL.done ?_
  refine EW.on ?_
  refine EW.cond_f rfl ?_
  refine EW.region ?_
  refine WL.bin rfl rfl rfl rfl (int_eq_f n8 _ _ _) ?_
  first | refine WL.assign rfl rfl rfl ?_
  refine WL.done ?_
  refine EW.on ?_
  refine EW.cond_f rfl ?_
  refine EW.seq ?_
  refine EW.seq ?_
  refine EW.region ?_
  refine WL.bin rfl rfl rfl rfl (int_eq_f n5 _ _ _) ?_
  first | refine WL.assign rfl rfl rfl ?_
  refine WL.done ?_
  refine EW.on ?_
  refine EW.cond_f rfl ?_
  refine EW.region ?_
  refine WL.bin rfl rfl rfl rfl (int_eq_f n6 _ _ _) ?_
  first | refine WL.assign rfl rfl rfl ?_
  refine WL.done ?_
  refine EW.on ?_
  refine EW.cond_f rfl ?_
  refine EW.seq ?_
  refine EW.seq ?_
  refine EW.region ?_
  refine WL.bin rfl rfl rfl rfl (int_eq_f n1 _ _ _) ?_
  first | refine WL.assign rfl rfl rfl ?_
  refine WL.done ?_
  refine EW.on ?_
  refine EW.cond_f rfl ?_
  refine EW.region ?_
  refine WL.bin rfl rfl rfl rfl (int_eq_f n9 _ _ _) ?_
  first | refine WL.assign rfl rfl rfl ?_
  refine WL.done ?_
  refine EW.on ?_
  refine EW.cond_f rfl ?_
  refine EW.skip ?_
  refine pn_block ?_
  refine EW.on ?_
  refine EW.seq ?_
  refine EW.region ?_
  first | refine WL.field rfl rfl rfl (fld53_3 _ _) ?_
  refine WL.load rfl rfl rfl (ld5 c3) ?_
  first | refine WL.field rfl rfl rfl (fld53_4 _ _) ?_
  refine WL.load rfl rfl rfl (ld34 c4) ?_
  refine WL.call [.int .u8 (s.fill.toNat : Int), s.vb] enter13 rfl rfl rfl hsec ?_
  rintro x w3 ⟨rfl, hz⟩
  rw [hz]; clear hz w3
  refine ⟨_, rfl, ?_⟩
  first | refine WL.assign rfl rfl rfl ?_
  refine WL.done ?_
  refine EW.on ?_
  refine EW.seq ?_
  refine EW.region ?_
  first | refine WL.move rfl rfl rfl ?_
  first | refine WL.nilc rfl rfl rfl ?_
  first | refine WL.field rfl rfl rfl (fld32_0 _ _) ?_
  refine WL.load rfl rfl rfl (ld28 r1) ?_
  first | refine WL.move rfl rfl rfl ?_
  first | refine WL.move rfl rfl rfl ?_
  refine WL.call [.pointer (some ⟨L.p, 0, none⟩), .int .i64 (I : Int), bV (g0 + 1)] enter12 rfl rfl rfl hwr ?_
  rintro x w6 ⟨rfl, L6, ht6, hd6⟩
  refine ⟨_, rfl, ?_⟩
  first | refine WL.assign rfl rfl rfl ?_
  refine WL.done ?_
  have k6 := k1.turn ht6 hd6
  have b6 := b1.fx ht6.fx hLg
  have hp6 : L6.p = L.p := ht6.p
  have k6d := k6.below (below_drawn w6)
  have b6d := b6.on (below_drawn w6)
  obtain ⟨wd, hwd⟩ : ∃ wd, { w6 with drawn := w6.drawn + 1 } = wd := ⟨_, rfl⟩
  rw [hwd] at k6d b6d
  have hs6 := hs.below k6d.mine.be
  have hsec2 := sector_any s.fill s.vb s.b hs6.bl wd hs6.hb
  obtain ⟨gb, hgb2⟩ : ∃ g, wd.heap.size = g := ⟨_, rfl⟩
  rw [hgb2] at hsec2
  have bC : Blk (wd.alloc (.cells ((secL s.fill s.b).map byt).toArray 5)) gb ((secL s.fill s.b).map byt) 5 := Blk.newAt hgb2
  have k7 := k6d.below (below_new wd (.cells ((secL s.fill s.b).map byt).toArray 5))
  have b7 := b6d.on (below_new wd (.cells ((secL s.fill s.b).map byt).toArray 5))
  have hLb : ¬ L6.F gb := fun hF => by have := k6d.mine.dev.lt _ hF; omega
  have hBb : ¬ bkF pv vi vl gs gb := fun hF => by have := k6d.bk.lt _ hF; omega
  have hlo : w.heap.size ≤ gb := by rw [← hgb2]; exact k6d.mine.be.size
  obtain ⟨w7, hw7⟩ : ∃ w7, wd.alloc (.cells ((secL s.fill s.b).map byt).toArray 5) = w7 := ⟨_, rfl⟩
  rw [hw7] at hsec2 bC k7 b7
  clear hw7
  obtain ⟨w8, ao, ln, cp, w9, hbs8, hap, hc9, hf9, hfx, k9⟩ := k7.push (by omega) I gb (secL s.fill s.b) hbl bC hlo hLb (fun e => hBb (.inl e)) (fun e => hBb (.inr (.inl e))) (fun e => hBb (.inr (.inr (.inl e)))) 30
  have b9 : Blk w9 g0 (stC s) 53 := b7.fx hfx (fun e => hBg (.inr (.inr (.inl e))))
  have hS : ∀ V, V.cell? ⟨pv, 2, none⟩ = some vl → Blk V g0 (stC s) 53 → V.cell? ⟨pv, 2, none⟩ = some vl ∧ V.cell? ⟨g0, 3, none⟩ = some (.int .u8 (s.fill.toNat : Int)) ∧ V.cell? ⟨g0, 4, none⟩ = some s.vb := fun V h1 h2 => ⟨h1, (h2.cell 3).trans rfl, (h2.cell 4).trans rfl⟩
  have S7 := hS w7 ((k7.bk.bl.cell 2).trans rfl) b7
  have S8 : w8.cell? ⟨pv, 2, none⟩ = some vl ∧ w8.cell? ⟨g0, 3, none⟩ = some (.int .u8 (s.fill.toNat : Int)) ∧ w8.cell? ⟨g0, 4, none⟩ = some s.vb := by
    have e := hbs8.symm.trans (bs30 I gb w7)
    have e2 : w8 = w7.alloc (.cells (pwC I (bV gb)).toArray 78) := by injection e
    rw [e2]
    exact hS _ (((k7.below (below_new _ _)).bk.bl.cell 2).trans rfl) (b7.on (below_new _ _))
  have S9 := hS w9 hc9 b9
  refine EW.on ?_
  refine EW.seq ?_
  refine EW.chain 10 4 3 (fun V => V.cell? ⟨pv, 2, none⟩ = some vl ∧ V.cell? ⟨g0, 3, none⟩ = some (.int .u8 (s.fill.toNat : Int)) ∧ V.cell? ⟨g0, 4, none⟩ = some s.vb) (by kernel_rfl) rfl (by kernel_rfl) (by rw [hwd]; exact hS wd ((k6d.bk.bl.cell 2).trans rfl) b6d) (by kernel_rfl) ?_
  rw [hwd]
  simp only [List.take_succ_cons, List.take_zero, List.drop_succ_cons, List.drop_zero, List.map_cons, List.map_nil, List.cons_append, List.nil_append]
  refine OE.move rfl rfl rfl ?_
  refine OE.move rfl rfl rfl ?_
  refine OE.nilc rfl rfl rfl ?_
  refine OE.field rfl rfl rfl (fun V => fld32_2 _ V) ?_
  refine OE.load rfl rfl rfl (fun V hV => ld30 hV.1) ?_
  refine OE.move rfl rfl rfl ?_
  refine OE.field rfl rfl rfl (fun V => fld53_3 _ V) ?_
  refine OE.load rfl rfl rfl (fun V hV => ld5 hV.2.1) ?_
  refine OE.field rfl rfl rfl (fun V => fld53_4 _ V) ?_
  refine OE.load rfl rfl rfl (fun V hV => ld34 hV.2.2) ?_
  refine OE.callW [.int .u8 (s.fill.toNat : Int), s.vb] _ (fun V => V.cell? ⟨pv, 2, none⟩ = some vl ∧ V.cell? ⟨g0, 3, none⟩ = some (.int .u8 (s.fill.toNat : Int)) ∧ V.cell? ⟨g0, 4, none⟩ = some s.vb) enter13 rfl rfl rfl S7 (fun V h => h) hsec2 ?_
  refine OE.build2 (fun V => V.cell? ⟨pv, 2, none⟩ = some vl ∧ V.cell? ⟨g0, 3, none⟩ = some (.int .u8 (s.fill.toNat : Int)) ∧ V.cell? ⟨g0, 4, none⟩ = some s.vb) rfl rfl S7 (fun V h => h) rfl rfl (bd78 _ _ _) ?_
  refine OE.bsl (fun V => V.cell? ⟨pv, 2, none⟩ = some vl ∧ V.cell? ⟨g0, 3, none⟩ = some (.int .u8 (s.fill.toNat : Int)) ∧ V.cell? ⟨g0, 4, none⟩ = some s.vb) rfl rfl S8 (fun V h => h) rfl hbs8 ?_
  refine OE.app (fun V => V.cell? ⟨pv, 2, none⟩ = some vl ∧ V.cell? ⟨g0, 3, none⟩ = some (.int .u8 (s.fill.toNat : Int)) ∧ V.cell? ⟨g0, 4, none⟩ = some s.vb) rfl rfl S9 (fun V h => h) rfl rfl hap ?_
  refine fun W5 hW => ?_
  rw [hW]
  refine WL.nilc rfl rfl rfl ?_
  refine WL.field rfl rfl rfl (fld32_2 _ _) ?_
  refine WL.store rfl rfl rfl (st30 hc9 hf9) ?_
  refine WL.done ?_
  have kA := k9.below (below_drawn (w9.setCell ⟨pv, 2, none⟩ (.slice ao ln cp)))
  obtain ⟨wA, hwA⟩ : ∃ wA, { (w9.setCell ⟨pv, 2, none⟩ (.slice ao ln cp)) with drawn := (w9.setCell ⟨pv, 2, none⟩ (.slice ao ln cp)).drawn + 1 } = wA := ⟨_, rfl⟩
  rw [hwA] at kA
  have hca := cache_any kA.mine.dev
  rw [hp6] at hca
  have hpl := pen_len kA.bk.pl
  have hleq : (((tickD (pushD D I (secL s.fill s.b))).pen.length : Nat) : Int) = (((D.pen ++ [(I, secL s.fill s.b)]).length : Nat) : Int) := rfl
  have rA : ∀ V, Below wA.heap.size wA V → V.cell? ⟨pv, 0, none⟩ = some (.pointer (some ⟨L.p, 0, none⟩)) ∧ V.cell? ⟨pv, 2, none⟩ = some (.slice ao ln cp) := fun V hV => by
    refine ⟨?_, ((kA.below hV).bk.bl.cell 2).trans rfl⟩
    rw [← hp6]; exact ((kA.below hV).bk.bl.cell 0).trans rfl
  refine EW.on ?_
  refine EW.seq ?_
  refine EW.ord [(0, false), (1, false), (2, false), (3, false), (4, false), (5, false), (6, false), (9, false), (10, false), (11, false), (12, false), (13, false), (7, true), (8, false), (14, false), (15, false), (16, false)] (fun V => Below wA.heap.size wA V) (by kernel_rfl) rfl (by kernel_rfl) (by rw [hwA]; exact Below.refl _ _) ?_
  rw [hwA]
  simp only [ordOps, List.getD_cons_zero, List.getD_cons_succ]
  refine OE.move rfl rfl rfl ?_
  refine OE.bin rfl rfl rfl rfl (fun V => int_eq_t rfl V _ _) ?_
  refine OE.move rfl rfl rfl ?_
  refine OE.move rfl rfl rfl ?_
  refine OE.nilc rfl rfl rfl ?_
  refine OE.field rfl rfl rfl (fun V => fld32_0 _ V) ?_
  refine OE.load rfl rfl rfl (fun V hV => ld28 (rA V hV).1) ?_
  refine OE.move rfl rfl rfl ?_
  refine OE.nilc rfl rfl rfl ?_
  refine OE.field rfl rfl rfl (fun V => fld32_2 _ V) ?_
  refine OE.load rfl rfl rfl (fun V hV => ld30 (rA V hV).2) ?_
  refine OE.len rfl rfl rfl (fun V => hpl V _) ?_
  refine OE.call [.pointer (some ⟨L.p, 0, none⟩)] _ (fun V => Below wA.heap.size wA V) (fun V => Below wA.heap.size wA V) enter24 rfl rfl rfl (fun V h => h) (fun V h => h) (fun V hV => by rw [hV]; exact hca.mono fun e w' ⟨h1, h2, _⟩ => ⟨h1, h2⟩) ?_
  refine OE.len rfl rfl rfl (fun V => len30 _ _ _ V _) ?_
  refine OE.bin rfl rfl rfl rfl (fun V => int_eq_t hleq V _ _) ?_
  refine OE.pick rfl rfl rfl rfl ?_
  refine OE.assign rfl rfl rfl ?_
  refine fun a ha WB hW => ?_
  revert a ha
  refine EW.on ?_
  refine EW.ret ?_
  repeat (first | refine pr_then ?_ | refine pr_block ?_)
  exact EW.returns Try.results28 rfl ⟨rfl, L6, vi, .slice ao ln cp, gs ++ [gb], tickD (pushD D I (secL s.fill s.b)), kA.below hW, n4, dn, by show D.left - 1 = 0; omega, Nat.succ_le_succ cal, by show (D.pen ++ [(I, secL s.fill s.b)]).length ≤ t + 1; simp; exact few⟩
end Go.Proofs.Ythfcabhelldokaa
