import Derived.Test.YthfcabhelldokaaPr
set_option linter.unusedVariables false
set_option linter.unusedSimpArgs false
namespace Go.Proofs.Ythfcabhelldokaa
open Go.RowKit
set_option maxRecDepth 100000 in
set_option maxHeartbeats 4000000 in
theorem pl_crash {w W : World} {pv t : Nat} {L : Lay} {vi vl : Value} {gs : List Nat} {D : Dv} (h : Rn1 w W pv t L vi vl gs D) (ht : t ≤ 1000) (s : Stp) (hs : s.ok w) (n4k : ¬ s.kind = 4) (n7 : s.kind = 7) :
    Calls Try.prog 28 #[.pointer (some ⟨pv, 0, none⟩), .agg (stC s).toArray] W fun e w' => e = .returned (.bool true) ∧ Rn w w' pv (t + 1) := by
  obtain ⟨g0, hg0⟩ : ∃ g, W.heap.size = g := ⟨_, rfl⟩
  have hbox := run_boxR (P := Try.prog) 53 (stC s) W g0 hg0
  have b0 : Blk (W.alloc (.cells (stC s).toArray 53)) g0 (stC s) 53 := Blk.newAt hg0
  have k0 := h.kp.below (below_new W (.cells (stC s).toArray 53))
  have hsz0 : (W.alloc (.cells (stC s).toArray 53)).heap.size = g0 + 1 := by simp [hg0]
  have hLg : ¬ L.F g0 := fun hF => by have := h.kp.mine.dev.lt g0 hF; omega
  have hBg : ¬ bkF pv vi vl gs g0 := fun hF => by have := h.kp.bk.lt g0 hF; omega
  have hwg : w.heap.size ≤ g0 := by rw [← hg0]; exact h.kp.mine.be.size
  obtain ⟨w0, hw0⟩ : ∃ w0, W.alloc (.cells (stC s).toArray 53) = w0 := ⟨_, rfl⟩
  rw [hw0] at hbox b0 k0 hsz0
  clear hw0
  have n4 := h.n4
  have dn := h.dn
  have lf := h.lf
  have cal := h.cal
  have few := h.few
  clear h
  have c0 := (b0.cell 0).trans (show _ = some (.int .i64 s.kind) from rfl)
  have c2 := (b0.cell 2).trans (show _ = some (.int .i64 s.i) from rfl)
  have r0 := (k0.bk.bl.cell 0).trans (show _ = some (.pointer (some ⟨L.p, 0, none⟩)) from rfl)
  have hpk := pick_any s.i 4 (by decide) (by decide) hs.ii w0
  have hplt := pick_lt s.i 4 (by decide)
  obtain ⟨I, hI⟩ : ∃ I, pickN s.i 4 = I := ⟨_, rfl⟩
  rw [hI, show ((4 : Nat) : Int) = 4 from rfl] at hpk
  rw [hI] at hplt
  clear hI
  have hw0s := hs.below k0.mine.be
  have sec := k0.mine.dev.ok.sec
  have hok := k0.mine.dev.ok
  have hi4 : D.img.length = 4 * 512 := by have := hok.len; rw [n4] at this; exact this
  have bd := k0.below (below_drawn w0)
  have b0d := b0.on (below_drawn w0)
  have hsd := hw0s.below (below_drawn w0)
  have hszd : ({ w0 with drawn := w0.drawn + 1 } : World).heap.size = g0 + 1 := hsz0
  obtain ⟨wd, hwd⟩ : ∃ wd, { w0 with drawn := w0.drawn + 1 } = wd := ⟨_, rfl⟩
  rw [hwd] at bd b0d hsd hszd
  have htw := twin_any s.vk s.ks s.torn s.off hsd.kl wd hsd.hk
  obtain ⟨tv, htv⟩ : ∃ tv : Value, .slice (some ⟨wd.heap.size + 2, 0, none⟩) s.ks.length (s.ks.length + 2) = tv := ⟨_, rfl⟩
  have htb : ∀ k, tv.ownBlock = some k → wd.heap.size ≤ k := fun k hk => by
    rw [← htv] at hk
    have : wd.heap.size + 2 = k := by simpa [Value.ownBlock] using hk
    omega
  rw [htv] at htw
  clear htv
  have hcr : ∀ V, Below wd.heap.size wd V → Has64 V tv s.ks → Calls Try.prog 15 #[.pointer (some ⟨L.p, 0, none⟩), .agg (lossC tv s.torn s.off).toArray] V fun e w' => e = .returned (.int .i64 0) ∧ (Kp w w' pv (bareL L) vi vl gs (crashD D s.ks s.torn s.off) (ims4 D.img) D.pen ∧ Blk w' g0 (stC s) 53) := fun V hb hv =>
    (crash_any (bd.below hb).mine.dev dn tv s.ks s.torn s.off hv (fun k hk e => by have := htb k hk; have := bd.mine.dev.lt L.gi (.inr (.inl rfl)); omega)).mono fun e w' ⟨h1, h2, h3⟩ => ⟨h1, (bd.below hb).turn h2 h3, (b0d.on hb).fx h2.fx hLg⟩
  refine calls_of_args [.pointer (some ⟨pv, 0, none⟩), .agg (stC s).toArray] Try.func28 rfl 176 Try.ntmps28 (by show 2 ≤ 176; decide) ?_
  refine EW.seq ?_
  refine EW.region ?_
  refine WL.box rfl rfl rfl hbox ?_
  first | refine WL.assign rfl rfl rfl ?_
  refine WL.done ?_
  refine EW.on ?_
  refine EW.seq ?_
  refine EW.region ?_
  first | refine WL.field rfl rfl rfl (fld53_2 _ _) ?_
  refine WL.load rfl rfl rfl (ld3 c2) ?_
  refine WL.call [.int .i64 s.i, .int .i64 4] enter9 rfl rfl rfl hpk ?_
  rintro x w3 ⟨rfl, hz⟩
  rw [hz]; clear hz w3
  refine ⟨_, rfl, ?_⟩
  first | refine WL.assign rfl rfl rfl ?_
  refine WL.done ?_
  refine EW.on ?_
  refine EW.seq ?_
  refine EW.seq ?_
  refine EW.region ?_
  first | refine WL.field rfl rfl rfl (fld53_0 _ _) ?_
  refine WL.load rfl rfl rfl (ld3 c0) ?_
  refine WL.done ?_
  refine EW.on ?_
  refine EW.block ?_
  refine EW.seq ?_
  refine EW.region ?_
  refine WL.bin rfl rfl rfl rfl (int_eq_f n4k _ _ _) ?_
  first | refine WL.assign rfl rfl rfl ?_
  refine WL.done ?_
  refine EW.on ?_
  refine EW.cond_f rfl ?_
  refine EW.seq ?_
  refine EW.seq ?_
  refine EW.region ?_
  refine WL.bin rfl rfl rfl rfl (int_eq_t n7 _ _ _) ?_
  first | refine WL.assign rfl rfl rfl ?_
  refine WL.done ?_
  refine EW.on ?_
  refine EW.cond_t rfl ?_
  refine EW.skip ?_
  refine EW.on ?_
  refine EW.cond_t rfl ?_
  refine EW.seq ?_
  refine EW.ord [(0, false), (1, false), (2, false), (3, false), (4, false), (5, false), (6, true), (7, true), (8, false)] (fun V => V.cell? ⟨pv, 0, none⟩ = some (.pointer (some ⟨L.p, 0, none⟩)) ∧ Blk V g0 (stC s) 53) (by kernel_rfl) rfl (by kernel_rfl) (by rw [hwd]; exact ⟨(bd.bk.bl.cell 0).trans rfl, b0d⟩) ?_
  rw [hwd]
  simp only [ordOps, List.getD_cons_zero, List.getD_cons_succ]
  refine OE.move rfl rfl rfl ?_
  refine OE.nilc rfl rfl rfl ?_
  refine OE.field rfl rfl rfl (fun V => fld32_0 _ V) ?_
  refine OE.load rfl rfl rfl (fun V hV => ld28 hV.1) ?_
  refine OE.field rfl rfl rfl (fun V => fld53_5 _ V) ?_
  refine OE.load rfl rfl rfl (fun V hV => ldLoss hV.2) ?_
  refine OE.call [.agg (lossC s.vk s.torn s.off).toArray] (.agg (lossC tv s.torn s.off).toArray) (fun V => V.cell? ⟨pv, 0, none⟩ = some (.pointer (some ⟨L.p, 0, none⟩)) ∧ Blk V g0 (stC s) 53) (fun V => Below wd.heap.size wd V ∧ Has64 V tv s.ks) enter20 rfl rfl rfl (fun V hV => ⟨((bd.below hV.1).bk.bl.cell 0).trans rfl, b0d.on hV.1⟩) (fun V h => h) (fun V hV => by rw [hV]; exact htw) ?_
  refine OE.call [.pointer (some ⟨L.p, 0, none⟩), .agg (lossC tv s.torn s.off).toArray] (.int .i64 0) (fun V => V.cell? ⟨pv, 0, none⟩ = some (.pointer (some ⟨L.p, 0, none⟩)) ∧ Blk V g0 (stC s) 53) (fun V => Kp w V pv (bareL L) vi vl gs (crashD D s.ks s.torn s.off) (ims4 D.img) D.pen ∧ Blk V g0 (stC s) 53) enter15 rfl rfl rfl (fun V hV => ⟨(hV.1.bk.bl.cell 0).trans rfl, hV.2⟩) (fun V h => h) (fun V hV => hcr V hV.1 hV.2) ?_
  refine OE.assign rfl rfl rfl ?_
  refine fun a ha W5 hW => ?_
  obtain ⟨k5, b5⟩ := hW
  revert a ha
  have hfe := fell_any k5 n4 rfl rfl hi4 (fun x hx => by have := (sec x hx).1; omega) s.vk s.ks s.torn s.off rfl
  refine EW.on ?_
  refine EW.seq ?_
  refine EW.region ?_
  first | refine WL.move rfl rfl rfl ?_
  refine WL.bin rfl rfl rfl rfl (int_eq_t rfl _ _ _) ?_
  first | refine WL.move rfl rfl rfl ?_
  first | refine WL.move rfl rfl rfl ?_ | refine WL.skip _ rfl rfl rfl ?_
  first | refine WL.field rfl rfl rfl (fld53_5 _ _) ?_ | refine WL.skip _ rfl rfl rfl ?_
  refine WL.load rfl rfl rfl (ldLoss b5) ?_
  refine WL.call [.pointer (some ⟨pv, 0, none⟩), .agg (lossC s.vk s.torn s.off).toArray] enter46 rfl rfl rfl hfe ?_
  rintro x w6 ⟨rfl, k6⟩
  refine ⟨_, rfl, ?_⟩
  first | refine WL.pick rfl rfl rfl rfl ?_
  first | refine WL.assign rfl rfl rfl ?_
  refine WL.done ?_
  refine EW.on ?_
  refine EW.ret ?_
  repeat (first | refine pr_then ?_ | refine pr_block ?_)
  exact EW.returns Try.results28 rfl ⟨rfl, unkL (bareL L), vi, .slice none 0 0, [], upD (crashD D s.ks s.torn s.off), k6, n4, rfl, rfl, Nat.le_succ_of_le cal, Nat.zero_le _⟩
set_option maxRecDepth 100000 in
set_option maxHeartbeats 4000000 in
theorem pl_up {w W : World} {pv t : Nat} {L : Lay} {vi vl : Value} {gs : List Nat} {D : Dv} (h : Rn1 w W pv t L vi vl gs D) (ht : t ≤ 1000) (s : Stp) (hs : s.ok w) (n4k : ¬ s.kind = 4) (n7 : ¬ s.kind = 7) (n8 : s.kind = 8) :
    Calls Try.prog 28 #[.pointer (some ⟨pv, 0, none⟩), .agg (stC s).toArray] W fun e w' => e = .returned (.bool true) ∧ Rn w w' pv (t + 1) := by
  obtain ⟨g0, hg0⟩ : ∃ g, W.heap.size = g := ⟨_, rfl⟩
  have hbox := run_boxR (P := Try.prog) 53 (stC s) W g0 hg0
  have b0 : Blk (W.alloc (.cells (stC s).toArray 53)) g0 (stC s) 53 := Blk.newAt hg0
  have k0 := h.kp.below (below_new W (.cells (stC s).toArray 53))
  have hsz0 : (W.alloc (.cells (stC s).toArray 53)).heap.size = g0 + 1 := by simp [hg0]
  have hLg : ¬ L.F g0 := fun hF => by have := h.kp.mine.dev.lt g0 hF; omega
  have hBg : ¬ bkF pv vi vl gs g0 := fun hF => by have := h.kp.bk.lt g0 hF; omega
  have hwg : w.heap.size ≤ g0 := by rw [← hg0]; exact h.kp.mine.be.size
  obtain ⟨w0, hw0⟩ : ∃ w0, W.alloc (.cells (stC s).toArray 53) = w0 := ⟨_, rfl⟩
  rw [hw0] at hbox b0 k0 hsz0
  clear hw0
  have n4 := h.n4
  have dn := h.dn
  have lf := h.lf
  have cal := h.cal
  have few := h.few
  clear h
  have c0 := (b0.cell 0).trans (show _ = some (.int .i64 s.kind) from rfl)
  have c2 := (b0.cell 2).trans (show _ = some (.int .i64 s.i) from rfl)
  have r0 := (k0.bk.bl.cell 0).trans (show _ = some (.pointer (some ⟨L.p, 0, none⟩)) from rfl)
  have hpk := pick_any s.i 4 (by decide) (by decide) hs.ii w0
  have hplt := pick_lt s.i 4 (by decide)
  obtain ⟨I, hI⟩ : ∃ I, pickN s.i 4 = I := ⟨_, rfl⟩
  rw [hI, show ((4 : Nat) : Int) = 4 from rfl] at hpk
  rw [hI] at hplt
  clear hI
  have hw0s := hs.below k0.mine.be
  have sec := k0.mine.dev.ok.sec
  have hok := k0.mine.dev.ok
  have hi4 : D.img.length = 4 * 512 := by have := hok.len; rw [n4] at this; exact this
  have bd := k0.below (below_drawn w0)
  have b0d := b0.on (below_drawn w0)
  have hsd := hw0s.below (below_drawn w0)
  have hszd : ({ w0 with drawn := w0.drawn + 1 } : World).heap.size = g0 + 1 := hsz0
  obtain ⟨wd, hwd⟩ : ∃ wd, { w0 with drawn := w0.drawn + 1 } = wd := ⟨_, rfl⟩
  rw [hwd] at bd b0d hsd hszd
  have htw := twin_any s.vk s.ks s.torn s.off hsd.kl wd hsd.hk
  obtain ⟨tv, htv⟩ : ∃ tv : Value, .slice (some ⟨wd.heap.size + 2, 0, none⟩) s.ks.length (s.ks.length + 2) = tv := ⟨_, rfl⟩
  have htb : ∀ k, tv.ownBlock = some k → wd.heap.size ≤ k := fun k hk => by
    rw [← htv] at hk
    have : wd.heap.size + 2 = k := by simpa [Value.ownBlock] using hk
    omega
  rw [htv] at htw
  clear htv
  have hcr : ∀ V, Below wd.heap.size wd V → Has64 V tv s.ks → Calls Try.prog 15 #[.pointer (some ⟨L.p, 0, none⟩), .agg (lossC tv s.torn s.off).toArray] V fun e w' => e = .returned (.int .i64 0) ∧ (Kp w w' pv (bareL L) vi vl gs (crashD D s.ks s.torn s.off) (ims4 D.img) D.pen ∧ Blk w' g0 (stC s) 53) := fun V hb hv =>
    (crash_any (bd.below hb).mine.dev dn tv s.ks s.torn s.off hv (fun k hk e => by have := htb k hk; have := bd.mine.dev.lt L.gi (.inr (.inl rfl)); omega)).mono fun e w' ⟨h1, h2, h3⟩ => ⟨h1, (bd.below hb).turn h2 h3, (b0d.on hb).fx h2.fx hLg⟩
  refine calls_of_args [.pointer (some ⟨pv, 0, none⟩), .agg (stC s).toArray] Try.func28 rfl 176 Try.ntmps28 (by show 2 ≤ 176; decide) ?_
  refine EW.seq ?_
  refine EW.region ?_
  refine WL.box rfl rfl rfl hbox ?_
  first | refine WL.assign rfl rfl rfl ?_
  refine WL.done ?_
  refine EW.on ?_
  refine EW.seq ?_
  refine EW.region ?_
  first | refine WL.field rfl rfl rfl (fld53_2 _ _) ?_
  refine WL.load rfl rfl rfl (ld3 c2) ?_
  refine WL.call [.int .i64 s.i, .int .i64 4] enter9 rfl rfl rfl hpk ?_
  rintro x w3 ⟨rfl, hz⟩
  rw [hz]; clear hz w3
  refine ⟨_, rfl, ?_⟩
  first | refine WL.assign rfl rfl rfl ?_
  refine WL.done ?_
  refine EW.on ?_
  refine EW.seq ?_
  refine EW.seq ?_
  refine EW.region ?_
  first | refine WL.field rfl rfl rfl (fld53_0 _ _) ?_
  refine WL.load rfl rfl rfl (ld3 c0) ?_
  refine WL.done ?_
  refine EW.on ?_
  refine EW.block ?_
  refine EW.seq ?_
  refine EW.region ?_
  refine WL.bin rfl rfl rfl rfl (int_eq_f n4k _ _ _) ?_
  first | refine WL.assign rfl rfl rfl ?_
  refine WL.done ?_
  refine EW.on ?_
  refine EW.cond_f rfl ?_
  refine EW.seq ?_
  refine EW.seq ?_
  refine EW.region ?_
  refine WL.bin rfl rfl rfl rfl (int_eq_f n7 _ _ _) ?_
  first | refine WL.assign rfl rfl rfl ?_
  refine WL.done ?_
  refine EW.on ?_
  refine EW.cond_f rfl ?_
  refine EW.region ?_
  refine WL.bin rfl rfl rfl rfl (int_eq_t n8 _ _ _) ?_
  first | refine WL.assign rfl rfl rfl ?_
  refine WL.done ?_
  refine EW.on ?_
  refine EW.cond_t rfl ?_
  refine EW.seq ?_
  refine EW.ord [(0, false), (1, false), (2, false), (3, false), (4, false), (5, false), (6, true), (7, true), (8, false)] (fun V => V.cell? ⟨pv, 0, none⟩ = some (.pointer (some ⟨L.p, 0, none⟩)) ∧ Blk V g0 (stC s) 53) (by kernel_rfl) rfl (by kernel_rfl) (by rw [hwd]; exact ⟨(bd.bk.bl.cell 0).trans rfl, b0d⟩) ?_
  rw [hwd]
  simp only [ordOps, List.getD_cons_zero, List.getD_cons_succ]
  refine OE.move rfl rfl rfl ?_
  refine OE.nilc rfl rfl rfl ?_
  refine OE.field rfl rfl rfl (fun V => fld32_0 _ V) ?_
  refine OE.load rfl rfl rfl (fun V hV => ld28 hV.1) ?_
  refine OE.field rfl rfl rfl (fun V => fld53_5 _ V) ?_
  refine OE.load rfl rfl rfl (fun V hV => ldLoss hV.2) ?_
  refine OE.call [.agg (lossC s.vk s.torn s.off).toArray] (.agg (lossC tv s.torn s.off).toArray) (fun V => V.cell? ⟨pv, 0, none⟩ = some (.pointer (some ⟨L.p, 0, none⟩)) ∧ Blk V g0 (stC s) 53) (fun V => Below wd.heap.size wd V ∧ Has64 V tv s.ks) enter20 rfl rfl rfl (fun V hV => ⟨((bd.below hV.1).bk.bl.cell 0).trans rfl, b0d.on hV.1⟩) (fun V h => h) (fun V hV => by rw [hV]; exact htw) ?_
  refine OE.call [.pointer (some ⟨L.p, 0, none⟩), .agg (lossC tv s.torn s.off).toArray] (.int .i64 0) (fun V => V.cell? ⟨pv, 0, none⟩ = some (.pointer (some ⟨L.p, 0, none⟩)) ∧ Blk V g0 (stC s) 53) (fun V => Kp w V pv (bareL L) vi vl gs (crashD D s.ks s.torn s.off) (ims4 D.img) D.pen ∧ Blk V g0 (stC s) 53) enter15 rfl rfl rfl (fun V hV => ⟨(hV.1.bk.bl.cell 0).trans rfl, hV.2⟩) (fun V h => h) (fun V hV => hcr V hV.1 hV.2) ?_
  refine OE.assign rfl rfl rfl ?_
  refine fun a ha W5 hW => ?_
  obtain ⟨k5, b5⟩ := hW
  revert a ha
  have hfe := fell_any k5 n4 rfl rfl hi4 (fun x hx => by have := (sec x hx).1; omega) s.vk s.ks s.torn s.off rfl
  refine EW.on ?_
  refine EW.seq ?_
  refine EW.region ?_
  first | refine WL.move rfl rfl rfl ?_
  refine WL.bin rfl rfl rfl rfl (int_eq_t rfl _ _ _) ?_
  first | refine WL.move rfl rfl rfl ?_
  first | refine WL.move rfl rfl rfl ?_ | refine WL.skip _ rfl rfl rfl ?_
  first | refine WL.field rfl rfl rfl (fld53_5 _ _) ?_ | refine WL.skip _ rfl rfl rfl ?_
  refine WL.load rfl rfl rfl (ldLoss b5) ?_
  refine WL.call [.pointer (some ⟨pv, 0, none⟩), .agg (lossC s.vk s.torn s.off).toArray] enter46 rfl rfl rfl hfe ?_
  rintro x w6 ⟨rfl, k6⟩
  refine ⟨_, rfl, ?_⟩
  first | refine WL.pick rfl rfl rfl rfl ?_
  first | refine WL.assign rfl rfl rfl ?_
  refine WL.done ?_
  refine EW.on ?_
  refine EW.ret ?_
  repeat (first | refine pr_then ?_ | refine pr_block ?_)
  exact EW.returns Try.results28 rfl ⟨rfl, unkL (bareL L), vi, .slice none 0 0, [], upD (crashD D s.ks s.torn s.off), k6, n4, rfl, rfl, Nat.le_succ_of_le cal, Nat.zero_le _⟩
end Go.Proofs.Ythfcabhelldokaa
