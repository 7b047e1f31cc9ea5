import Derived.Test.YthfcabhelldokaaPr
set_option linter.unusedVariables false
set_option linter.unusedSimpArgs false
namespace Go.Proofs.Ythfcabhelldokaa
open Go.RowKit
set_option maxRecDepth 100000 in
set_option maxHeartbeats 4000000 in
theorem pl_arm {w W : World} {pv t : Nat} {L : Lay} {vi vl : Value} {gs : List Nat} {D : Dv} (h : Rn1 w W pv t L vi vl gs D) (ht : t ≤ 1000) (s : Stp) (hs : s.ok w) (n4k : ¬ s.kind = 4) (n7 : ¬ s.kind = 7) (n8 : ¬ s.kind = 8) (n5 : s.kind = 5) :
    Calls Try.prog 28 #[.pointer (some ⟨pv, 0, none⟩), .agg (stC s).toArray] W fun e w' => e = .returned (.bool true) ∧ Rn w w' pv (t + 1) := by
  obtain ⟨g0, hg0⟩ : ∃ g, W.heap.size = g := ⟨_, rfl⟩
  have hbox := run_boxR (P := Try.prog) 53 (stC s) W g0 hg0
  have b0 : Blk (W.alloc (.cells (stC s).toArray 53)) g0 (stC s) 53 := Blk.newAt hg0
  have k0 := h.kp.below (below_new W (.cells (stC s).toArray 53))
  have hsz0 : (W.alloc (.cells (stC s).toArray 53)).heap.size = g0 + 1 := by simp [hg0]
  have hLg : ¬ L.F g0 := fun hF => by have := h.kp.mine.dev.lt g0 hF; omega
  have hBg : ¬ bkF pv vi vl gs g0 := fun hF => by have := h.kp.bk.lt g0 hF; omega
  have hwg : w.heap.size ≤ g0 := by rw [← hg0]; exact h.kp.mine.be.size
  obtain ⟨w0, hw0⟩ : ∃ w0, W.alloc (.cells (stC s).toArray 53) = w0 := ⟨_, rfl⟩
  rw [hw0] at hbox b0 k0 hsz0
  clear hw0
  have n4 := h.n4
  have dn := h.dn
  have lf := h.lf
  have cal := h.cal
  have few := h.few
  clear h
  have c0 := (b0.cell 0).trans (show _ = some (.int .i64 s.kind) from rfl)
  have c2 := (b0.cell 2).trans (show _ = some (.int .i64 s.i) from rfl)
  have r0 := (k0.bk.bl.cell 0).trans (show _ = some (.pointer (some ⟨L.p, 0, none⟩)) from rfl)
  have hpk := pick_any s.i 4 (by decide) (by decide) hs.ii w0
  have hplt := pick_lt s.i 4 (by decide)
  obtain ⟨I, hI⟩ : ∃ I, pickN s.i 4 = I := ⟨_, rfl⟩
  rw [hI, show ((4 : Nat) : Int) = 4 from rfl] at hpk
  rw [hI] at hplt
  clear hI
  have hw0s := hs.below k0.mine.be
  have sec := k0.mine.dev.ok.sec
  have hok := k0.mine.dev.ok
  have hi4 : D.img.length = 4 * 512 := by have := hok.len; rw [n4] at this; exact this
  have hsec := sector_any s.fill s.vb s.b hw0s.bl w0 hw0s.hb
  have hgb : w0.heap.size = g0 + 1 := hsz0
  rw [hgb] at hsec
  have c3 := (b0.cell 3).trans (show _ = some (.int .u8 (s.fill.toNat : Int)) from rfl)
  have c4 := (b0.cell 4).trans (show _ = some s.vb from rfl)
  have bB : Blk (w0.alloc (.cells ((secL s.fill s.b).map byt).toArray 5)) (g0 + 1) ((secL s.fill s.b).map byt) 5 := Blk.newAt hgb
  have k1 := k0.below (below_new w0 (.cells ((secL s.fill s.b).map byt).toArray 5))
  have b1 := b0.on (below_new w0 (.cells ((secL s.fill s.b).map byt).toArray 5))
  have hs1 := hw0s.below (below_new w0 (.cells ((secL s.fill s.b).map byt).toArray 5))
  have hsz1 : (w0.alloc (.cells ((secL s.fill s.b).map byt).toArray 5)).heap.size = g0 + 2 := by simp [hgb]
  have hLb : ¬ L.F (g0 + 1) := fun hF => by have := k0.mine.dev.lt _ hF; omega
  have hBb : ¬ bkF pv vi vl gs (g0 + 1) := fun hF => by have := k0.bk.lt _ hF; omega
  obtain ⟨w1, hw1⟩ : ∃ w1, w0.alloc (.cells ((secL s.fill s.b).map byt).toArray 5) = w1 := ⟨_, rfl⟩
  rw [hw1] at hsec bB k1 b1 hs1 hsz1
  clear hw1
  have hbl := secL_length s.fill s.b
  obtain ⟨bs, hbs⟩ : ∃ bs, secL s.fill s.b = bs := ⟨_, rfl⟩
  rw [hbs] at bB hbl
  clear hbs hgb
  have bd := k1.below (below_drawn w1)
  have b0d := b1.on (below_drawn w1)
  have hsd := hs1.below (below_drawn w1)
  have hszd : ({ w1 with drawn := w1.drawn + 1 } : World).heap.size = g0 + 2 := hsz1
  obtain ⟨wd, hwd⟩ : ∃ wd, { w1 with drawn := w1.drawn + 1 } = wd := ⟨_, rfl⟩
  rw [hwd] at bd b0d hsd hszd
  have htw := twin_any s.vk s.ks s.torn s.off hsd.kl wd hsd.hk
  obtain ⟨tv, htv⟩ : ∃ tv : Value, .slice (some ⟨wd.heap.size + 2, 0, none⟩) s.ks.length (s.ks.length + 2) = tv := ⟨_, rfl⟩
  have htb : ∀ k, tv.ownBlock = some k → wd.heap.size ≤ k := fun k hk => by
    rw [← htv] at hk
    have : wd.heap.size + 2 = k := by simpa [Value.ownBlock] using hk
    omega
  rw [htv] at htw
  clear htv
  have bBd : Blk wd (g0 + 1) (bs.map byt) 5 := by rw [← hwd]; exact bB.on (below_drawn w1)
  have har : ∀ V, Below wd.heap.size wd V → Has64 V tv s.ks → Calls Try.prog 19 #[.pointer (some ⟨L.p, 0, none⟩), .int .i64 1, .agg (lossC tv s.torn s.off).toArray] V fun e w' => e = .returned (.int .i64 0) ∧ ∃ L', L'.p = L.p ∧ ¬ L'.F g0 ∧ ¬ L'.F (g0 + 1) ∧ Kp w w' pv L' vi vl gs (armD D 1 s.ks s.torn s.off) (ims4 D.img) D.pen ∧ Blk w' g0 (stC s) 53 ∧ Blk w' (g0 + 1) (bs.map byt) 5 := fun V hb hv => by
    have hx := arm_ok (bd.below hb).mine.dev dn 1 (by decide) tv s.ks s.torn s.off hv (fun k hk e => by have := htb k hk; have := bd.mine.dev.lt L.p (.inl rfl); omega) (by have := hsd.kl; omega)
    rw [show ((1 : Nat) : Int) = 1 from rfl] at hx
    refine hx.mono fun e w' ⟨h1, L', h2, h3⟩ => ⟨h1, L', h2.p, fun hF => ?_, fun hF => ?_, (bd.below hb).turn h2 h3, (b0d.on hb).fx h2.fx hLg, (bBd.on hb).fx h2.fx hLb⟩
    · rcases h2.own _ hF with h4 | h4
      · exact hLg h4
      · have := hb.size; omega
    · rcases h2.own _ hF with h4 | h4
      · exact hLb h4
      · have := hb.size; omega
  refine calls_of_args [.pointer (some ⟨pv, 0, none⟩), .agg (stC s).toArray] Try.func28 rfl 176 Try.ntmps28 (by show 2 ≤ 176; decide) ?_
  refine EW.seq ?_
  refine EW.region ?_
  refine WL.box rfl rfl rfl hbox ?_
  first | refine WL.assign rfl rfl rfl ?_
  refine WL.done ?_
  refine EW.on ?_
  refine EW.seq ?_
  refine EW.region ?_
  first | refine WL.field rfl rfl rfl (fld53_2 _ _) ?_
  refine WL.load rfl rfl rfl (ld3 c2) ?_
  refine WL.call [.int .i64 s.i, .int .i64 4] enter9 rfl rfl rfl hpk ?_
  rintro x w3 ⟨rfl, hz⟩
  rw [hz]; clear hz w3
  refine ⟨_, rfl, ?_⟩
  first | refine WL.assign rfl rfl rfl ?_
  refine WL.done ?_
  refine EW.on ?_
  refine EW.seq ?_
  refine EW.seq ?_
  refine EW.region ?_
  first | refine WL.field rfl rfl rfl (fld53_0 _ _) ?_
  refine WL.load rfl rfl rfl (ld3 c0) ?_
  refine WL.done ?_
  refine EW.on ?_
  refine EW.block ?_
  refine EW.seq ?_
  refine EW.region ?_
  refine WL.bin rfl rfl rfl rfl (int_eq_f n4k _ _ _) ?_
  first | refine WL.assign rfl rfl rfl ?_
  refine WL.done ?_
  refine EW.on ?_
  refine EW.cond_f rfl ?_
  refine EW.seq ?_
  refine EW.seq ?_
  refine EW.region ?_
  refine WL.bin rfl rfl rfl rfl (int_eq_f n7 _ _ _) ?_
  first | refine WL.assign rfl rfl rfl ?_
  refine WL.done ?_
  refine EW.on ?_
  refine EW.cond_f rfl ?_
  refine EW.region ?_
  refine WL.bin rfl rfl rfl rfl (int_eq_f n8 _ _ _) ?_
  first | refine WL.assign rfl rfl rfl ?_
  refine WL.done ?_
  refine EW.on ?_
  refine EW.cond_f rfl ?_
  refine EW.seq ?_
  refine EW.seq ?_
  refine EW.region ?_
  refine WL.bin rfl rfl rfl rfl (int_eq_t n5 _ _ _) ?_
  first | refine WL.assign rfl rfl rfl ?_
  refine WL.done ?_
  refine EW.on ?_
  refine EW.cond_t rfl ?_
  refine EW.skip ?_
  refine EW.on ?_
  refine EW.cond_t rfl ?_
  refine EW.seq ?_
  refine EW.region ?_
  first | refine WL.field rfl rfl rfl (fld53_3 _ _) ?_
  refine WL.load rfl rfl rfl (ld5 c3) ?_
  first | refine WL.field rfl rfl rfl (fld53_4 _ _) ?_
  refine WL.load rfl rfl rfl (ld34 c4) ?_
  refine WL.call [.int .u8 (s.fill.toNat : Int), s.vb] enter13 rfl rfl rfl hsec ?_
  rintro x w3 ⟨rfl, hz⟩
  rw [hz]; clear hz w3
  refine ⟨_, rfl, ?_⟩
  first | refine WL.assign rfl rfl rfl ?_
  refine WL.done ?_
  refine EW.on ?_
  refine EW.seq ?_
  refine EW.ord [(0, false), (1, false), (2, false), (3, false), (4, false), (5, false), (6, true), (7, true), (8, false)] (fun V => V.cell? ⟨pv, 0, none⟩ = some (.pointer (some ⟨L.p, 0, none⟩)) ∧ Blk V g0 (stC s) 53) (by kernel_rfl) rfl (by kernel_rfl) (by rw [hwd]; exact ⟨(bd.bk.bl.cell 0).trans rfl, b0d⟩) ?_
  rw [hwd]
  simp only [ordOps, List.getD_cons_zero, List.getD_cons_succ]
  refine OE.move rfl rfl rfl ?_
  refine OE.nilc rfl rfl rfl ?_
  refine OE.field rfl rfl rfl (fun V => fld32_0 _ V) ?_
  refine OE.load rfl rfl rfl (fun V hV => ld28 hV.1) ?_
  refine OE.field rfl rfl rfl (fun V => fld53_5 _ V) ?_
  refine OE.load rfl rfl rfl (fun V hV => ldLoss hV.2) ?_
  refine OE.call [.agg (lossC s.vk s.torn s.off).toArray] (.agg (lossC tv s.torn s.off).toArray) (fun V => V.cell? ⟨pv, 0, none⟩ = some (.pointer (some ⟨L.p, 0, none⟩)) ∧ Blk V g0 (stC s) 53) (fun V => Below wd.heap.size wd V ∧ Has64 V tv s.ks) enter20 rfl rfl rfl (fun V hV => ⟨((bd.below hV.1).bk.bl.cell 0).trans rfl, b0d.on hV.1⟩) (fun V h => h) (fun V hV => by rw [hV]; exact htw) ?_
  refine OE.call [.pointer (some ⟨L.p, 0, none⟩), .int .i64 1, .agg (lossC tv s.torn s.off).toArray] (.int .i64 0) (fun V => V.cell? ⟨pv, 0, none⟩ = some (.pointer (some ⟨L.p, 0, none⟩)) ∧ Blk V g0 (stC s) 53) (fun V => ∃ L', L'.p = L.p ∧ ¬ L'.F g0 ∧ ¬ L'.F (g0 + 1) ∧ Kp w V pv L' vi vl gs (armD D 1 s.ks s.torn s.off) (ims4 D.img) D.pen ∧ Blk V g0 (stC s) 53 ∧ Blk V (g0 + 1) (bs.map byt) 5) enter19 rfl rfl rfl (fun V hV => by
    obtain ⟨L', hp, _, _, hk, hb, _⟩ := hV
    refine ⟨(hk.bk.bl.cell 0).trans ?_, hb⟩
    rw [hp]; rfl) (fun V h => h) (fun V hV => har V hV.1 hV.2) ?_
  refine OE.assign rfl rfl rfl ?_
  refine fun a ha W5 hW => ?_
  obtain ⟨L', hp, hg1, hg2, k5, b5, bB5⟩ := hW
  revert a ha
  have r5 : W5.cell? ⟨pv, 0, none⟩ = some (.pointer (some ⟨L.p, 0, none⟩)) := by rw [← hp]; exact (k5.bk.bl.cell 0).trans rfl
  have hwr := write_ok k5.mine.dev dn I (by show I < D.n; omega) (bV (g0 + 1)) bs hbl (Blk.hasB bB5 hbl) (by show D.pen.length < 1000000; omega) (by show D.calls < 1000000000000; omega) (by show 1 < 9223372036854775808; decide)
  rw [hp, show changedE (armD D 1 s.ks s.torn s.off) = 80 from rfl] at hwr
  refine EW.on ?_
  refine EW.seq ?_
  refine EW.region ?_
  first | refine WL.move rfl rfl rfl ?_
  first | refine WL.nilc rfl rfl rfl ?_
  first | refine WL.field rfl rfl rfl (fld32_0 _ _) ?_
  refine WL.load rfl rfl rfl (ld28 r5) ?_
  first | refine WL.move rfl rfl rfl ?_
  first | refine WL.move rfl rfl rfl ?_
  refine WL.call [.pointer (some ⟨L.p, 0, none⟩), .int .i64 (I : Int), bV (g0 + 1)] enter12 rfl rfl rfl hwr ?_
  rintro x w6 ⟨rfl, L6, ht6, hd6⟩
  refine ⟨_, rfl, ?_⟩
  first | refine WL.assign rfl rfl rfl ?_
  refine WL.done ?_
  have k6 := k5.turn ht6 hd6
  have b6 := b5.fx ht6.fx hg1
  have bB6 := bB5.fx ht6.fx hg2
  have hg6 : ¬ L6.F (g0 + 1) := fun hF => by
    rcases ht6.own _ hF with h4 | h4
    · exact hg2 h4
    · have := bB5.lt; omega
  have c6 := (k6.bk.bl.cell 2).trans (show _ = some vl from rfl)
  obtain ⟨w7, ao, ln, cp, w8, hbs7, hap, hc8, hf8, hfx, k8⟩ := k6.push (by omega) I (g0 + 1) bs hbl bB6 (by omega) hg6 (fun e => hBb (.inl e)) (fun e => hBb (.inr (.inl e))) (fun e => hBb (.inr (.inr (.inl e)))) 30
  have b8 : Blk (w8.setCell ⟨pv, 2, none⟩ (.slice ao ln cp)) g0 (stC s) 53 := (b6.fx hfx (fun e => hBg (.inr (.inr (.inl e))))).fx (Fx.setCell (S := fun j => j = pv) w8 pv 2 _ rfl) (fun e => hBg (.inl e))
  have hfe := fell_any k8 (img := D.img) n4 rfl rfl hi4 (fun x hx => by
    rcases List.mem_append.1 hx with hx | hx
    · have := (sec x hx).1; omega
    · rw [List.mem_singleton.1 hx]; exact hplt) s.vk s.ks s.torn s.off rfl
  refine EW.on ?_
  refine EW.seq ?_
  refine EW.region ?_
  first | refine WL.move rfl rfl rfl ?_
  first | refine WL.move rfl rfl rfl ?_
  first | refine WL.nilc rfl rfl rfl ?_
  first | refine WL.field rfl rfl rfl (fld32_2 _ _) ?_
  refine WL.load rfl rfl rfl (ld30 c6) ?_
  first | refine WL.move rfl rfl rfl ?_
  first | refine WL.move rfl rfl rfl ?_
  refine WL.build2 rfl rfl rfl rfl (bd78 _ _ _) ?_
  refine WL.bsl rfl rfl rfl hbs7 ?_
  refine WL.app rfl rfl rfl rfl hap ?_
  first | refine WL.nilc rfl rfl rfl ?_
  first | refine WL.field rfl rfl rfl (fld32_2 _ _) ?_
  refine WL.store rfl rfl rfl (st30 hc8 hf8) ?_
  refine WL.done ?_
  refine EW.on ?_
  refine EW.seq ?_
  refine EW.region ?_
  first | refine WL.move rfl rfl rfl ?_
  refine WL.bin rfl rfl rfl rfl (int_eq_t rfl _ _ _) ?_
  first | refine WL.move rfl rfl rfl ?_
  first | refine WL.move rfl rfl rfl ?_ | refine WL.skip _ rfl rfl rfl ?_
  refine WL.bin rfl rfl rfl rfl (int_eq_t rfl _ _ _) ?_
  first | refine WL.pick rfl rfl rfl rfl ?_
  first | refine WL.move rfl rfl rfl ?_
  first | refine WL.move rfl rfl rfl ?_ | refine WL.skip _ rfl rfl rfl ?_
  first | refine WL.field rfl rfl rfl (fld53_5 _ _) ?_ | refine WL.skip _ rfl rfl rfl ?_
  refine WL.load rfl rfl rfl (ldLoss b8) ?_
  refine WL.call [.pointer (some ⟨pv, 0, none⟩), .agg (lossC s.vk s.torn s.off).toArray] enter46 rfl rfl rfl hfe ?_
  rintro x w9 ⟨rfl, k9⟩
  refine ⟨_, rfl, ?_⟩
  first | refine WL.pick rfl rfl rfl rfl ?_
  first | refine WL.assign rfl rfl rfl ?_
  refine WL.done ?_
  refine EW.on ?_
  refine EW.ret ?_
  repeat (first | refine pr_then ?_ | refine pr_block ?_)
  exact EW.returns Try.results28 rfl ⟨rfl, unkL L6, vi, .slice none 0 0, [], _, k9, n4, rfl, rfl, Nat.succ_le_succ cal, Nat.zero_le _⟩
end Go.Proofs.Ythfcabhelldokaa
