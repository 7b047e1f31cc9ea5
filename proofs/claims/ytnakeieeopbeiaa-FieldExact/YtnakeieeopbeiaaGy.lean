import Derived.Test.YtnakeieeopbeiaaGx
set_option linter.unusedVariables false
set_option linter.unusedSimpArgs false
namespace Go.Proofs.Ytnakeieeopbeiaa
open Go.RowKit Prm

def S2 (q6 q9 : Nat) (x : L5) (l : Nat) (W : World) : Prop := l = 0 ∨ (Blk W q6 x.cs 27 ∧ Blk W q9 (dv (nx x)) 49)
theorem s2_anti (q6 q9 : Nat) (x : L5) (m n : Nat) (W : World) (h : m ≤ n) (k : S2 q6 q9 x n W) : S2 q6 q9 x m W := by
  rcases k with k | k
  · exact .inl (by omega)
  · exact .inr k
theorem Tb.bump {w : World} {g : Nat} {p : List L5} {r : List (List Nat)} {s : Int} (h : Tb w g p r s) (s' : Int) : ∃ W', (Instr.storeAt 3 (.pointer (some ⟨g, 84, none⟩)) (.int .i64 s')).run Try.prog w = .ok () W' ∧ CE w g p r s' W' := h.putS s'
theorem new27 (w : World) : ∃ w1 q, (Instr.alloc 27 true (.tuple #[])).run Try.prog w = .ok (.pointer (some ⟨q, 0, none⟩)) w1 ∧ Blk w1 q zeroE.cs 27 ∧ Below w.heap.size w w1 ∧ q = w.heap.size :=
  ⟨_, _, run_newR 27 zeroE.cs (fun w => by rw [Try.zeroValue27]; rfl) w _ rfl, Blk.new _ _ _, below_new _ _, rfl⟩
set_option maxRecDepth 100000 in
set_option maxHeartbeats 1000000 in
theorem powers_slow (g : Nat) (p : List L5) (r : List (List Nat)) (s : Int) (o : Opf) (hk : o.k.length = 32) (w : World) (hT : Tb w g p r s) (hA : Agr p r) (hs : 0 ≤ s) (hs1 : s ≤ 100) (h5 : 4 < s + 1) : Calls Try.prog 42 #[.pointer (some ⟨g, 0, none⟩), .agg (opF o).toArray] w (Fin w g s) := by
  obtain ⟨w1, q, r1, b1, e1, hqg⟩ := box55 o w
  obtain ⟨x, pa, xo, ra⟩ := agr_at hA hT.lp o.a
  obtain ⟨y, pb, yo, rb⟩ := agr_at hA hT.lp o.b
  have hT1 := hT.on e1
  refine calls_of_args [.pointer (some ⟨g, 0, none⟩), .agg (opF o).toArray] Try.func42 rfl 124 Try.ntmps42 (by show 2 ≤ 124; decide) ?_
  refine EW.seq ?_
  refine EW.region ?_
  refine WL.box rfl rfl rfl r1 ?_
  refine WL.assign rfl rfl rfl ?_
  refine WL.done ?_
  refine EW.on ?_
  have bq := b1
  refine EW.seq ?_
  refine EW.ordB [(0, false, 0), (1, false, 1), (3, false, 0), (4, false, 1), (2, true, 1), (5, true, 1), (6, false, 0), (7, false, 0)] (by kernel_rfl) rfl (by kernel_rfl) ?_
  simp only [opsZ, List.getD_cons_zero, List.getD_cons_succ]
  refine ZE.field rfl rfl rfl sb0 (fun W => ofld1 q W) ?_
  first | refine ZE.load rfl rfl rfl sb1 (fun W hW => ldI (bq.on (sb_of hW)) rfl) ?_ | refine ZE.load rfl rfl rfl sb1 (fun W hW => ldI (bq.on (sb_of hW)) (opF_bit o hk)) ?_
  refine ZE.field rfl rfl rfl sb0 (fun W => ofld3 q W) ?_
  first | refine ZE.load rfl rfl rfl sb1 (fun W hW => ldI (bq.on (sb_of hW)) rfl) ?_ | refine ZE.load rfl rfl rfl sb1 (fun W hW => ldI (bq.on (sb_of hW)) (opF_bit o hk)) ?_
  first | refine ZE.callQ [.int .i64 o.a, .int .i64 4] enter35 rfl rfl rfl sb1 (fun W => rest_num _ W) ?_ | refine ZE.callQ [.int .i64 o.b, .int .i64 4] enter35 rfl rfl rfl sb1 (fun W => rest_num _ W) ?_ | refine ZE.callQ [.int .i64 o.c, .int .i64 4] enter35 rfl rfl rfl sb1 (fun W => rest_num _ W) ?_
  first | refine ZE.callQ [.int .i64 o.a, .int .i64 4] enter35 rfl rfl rfl sb1 (fun W => rest_num _ W) ?_ | refine ZE.callQ [.int .i64 o.b, .int .i64 4] enter35 rfl rfl rfl sb1 (fun W => rest_num _ W) ?_ | refine ZE.callQ [.int .i64 o.c, .int .i64 4] enter35 rfl rfl rfl sb1 (fun W => rest_num _ W) ?_
  refine ZE.assign rfl rfl rfl sb0 ?_
  refine ZE.assign rfl rfl rfl sb0 ?_
  intro w2 h2
  have hT2 := hT1.on h2
  replace bq := b1.on h2
  have e2 := e1.trans (h2.mono e1.size)
  clear b1 r1
  refine EW.on ?_
  obtain ⟨w3, s3, c3⟩ := hT2.bump (s + 1)
  have sp : IntKind.i64.wrap (s + 1) = s + 1 := by rw [IntKind.wrap_i64]; omega
  have bq3 := bq.fx c3.2 (by show q ≠ g; rw [hqg]; exact Nat.ne_of_gt hT.bl.lt)
  refine EW.seq ?_
  refine EW.region ?_
  first | refine WL.move rfl rfl rfl ?_
  first | refine WL.nilc rfl rfl rfl ?_
  refine WL.field rfl rfl rfl (tfld2 g _) ?_
  first | refine WL.load rfl rfl rfl (hT2.ldS) ?_
  refine WL.bin rfl rfl rfl rfl (int_add sp _ _ _) ?_
  first | refine WL.nilc rfl rfl rfl ?_
  refine WL.field rfl rfl rfl (tfld2 g _) ?_
  refine WL.store rfl rfl rfl s3 ?_
  refine WL.done ?_
  refine EW.on ?_
  refine EW.seq ?_
  refine EW.seq ?_
  refine EW.region ?_
  first | refine WL.move rfl rfl rfl ?_
  first | refine WL.nilc rfl rfl rfl ?_
  refine WL.field rfl rfl rfl (tfld2 g _) ?_
  first | refine WL.load rfl rfl rfl (c3.1.ldS) ?_
  refine WL.bin rfl rfl rfl rfl (int_gt_t h5 _ _ _) ?_
  refine WL.done ?_
  refine EW.on ?_
  refine EW.cond_t rfl ?_
  refine EW.seq ?_
  refine EW.region ?_
  first | refine WL.assign rfl rfl rfl ?_
  refine WL.done ?_
  refine EW.on ?_
  refine EW.ret ?_
  repeat (first | refine pr_then ?_ | refine pr_block ?_)
  exact EW.returns Try.results42 rfl (fin_of e2 c3 hA (by omega) (by omega))
set_option maxRecDepth 100000 in
set_option maxHeartbeats 1000000 in
theorem powers_7 (g : Nat) (p : List L5) (r : List (List Nat)) (s : Int) (o : Opf) (hk : o.k.length = 32) (w : World) (hT : Tb w g p r s) (hA : Agr p r) (hs : 0 ≤ s) (hs1 : s ≤ 100) (h5 : ¬ 4 < s + 1) (hq : o.kind = 7) : Calls Try.prog 42 #[.pointer (some ⟨g, 0, none⟩), .agg (opF o).toArray] w (Fin w g s) := by
  obtain ⟨w1, q, r1, b1, e1, hqg⟩ := box55 o w
  obtain ⟨x, pa, xo, ra⟩ := agr_at hA hT.lp o.a
  obtain ⟨y, pb, yo, rb⟩ := agr_at hA hT.lp o.b
  have hT1 := hT.on e1
  refine calls_of_args [.pointer (some ⟨g, 0, none⟩), .agg (opF o).toArray] Try.func42 rfl 124 Try.ntmps42 (by show 2 ≤ 124; decide) ?_
  refine EW.seq ?_
  refine EW.region ?_
  refine WL.box rfl rfl rfl r1 ?_
  refine WL.assign rfl rfl rfl ?_
  refine WL.done ?_
  refine EW.on ?_
  have bq := b1
  refine EW.seq ?_
  refine EW.ordB [(0, false, 0), (1, false, 1), (3, false, 0), (4, false, 1), (2, true, 1), (5, true, 1), (6, false, 0), (7, false, 0)] (by kernel_rfl) rfl (by kernel_rfl) ?_
  simp only [opsZ, List.getD_cons_zero, List.getD_cons_succ]
  refine ZE.field rfl rfl rfl sb0 (fun W => ofld1 q W) ?_
  first | refine ZE.load rfl rfl rfl sb1 (fun W hW => ldI (bq.on (sb_of hW)) rfl) ?_ | refine ZE.load rfl rfl rfl sb1 (fun W hW => ldI (bq.on (sb_of hW)) (opF_bit o hk)) ?_
  refine ZE.field rfl rfl rfl sb0 (fun W => ofld3 q W) ?_
  first | refine ZE.load rfl rfl rfl sb1 (fun W hW => ldI (bq.on (sb_of hW)) rfl) ?_ | refine ZE.load rfl rfl rfl sb1 (fun W hW => ldI (bq.on (sb_of hW)) (opF_bit o hk)) ?_
  first | refine ZE.callQ [.int .i64 o.a, .int .i64 4] enter35 rfl rfl rfl sb1 (fun W => rest_num _ W) ?_ | refine ZE.callQ [.int .i64 o.b, .int .i64 4] enter35 rfl rfl rfl sb1 (fun W => rest_num _ W) ?_ | refine ZE.callQ [.int .i64 o.c, .int .i64 4] enter35 rfl rfl rfl sb1 (fun W => rest_num _ W) ?_
  first | refine ZE.callQ [.int .i64 o.a, .int .i64 4] enter35 rfl rfl rfl sb1 (fun W => rest_num _ W) ?_ | refine ZE.callQ [.int .i64 o.b, .int .i64 4] enter35 rfl rfl rfl sb1 (fun W => rest_num _ W) ?_ | refine ZE.callQ [.int .i64 o.c, .int .i64 4] enter35 rfl rfl rfl sb1 (fun W => rest_num _ W) ?_
  refine ZE.assign rfl rfl rfl sb0 ?_
  refine ZE.assign rfl rfl rfl sb0 ?_
  intro w2 h2
  have hT2 := hT1.on h2
  replace bq := b1.on h2
  have e2 := e1.trans (h2.mono e1.size)
  clear b1 r1
  refine EW.on ?_
  obtain ⟨w3, s3, c3⟩ := hT2.bump (s + 1)
  have sp : IntKind.i64.wrap (s + 1) = s + 1 := by rw [IntKind.wrap_i64]; omega
  have bq3 := bq.fx c3.2 (by show q ≠ g; rw [hqg]; exact Nat.ne_of_gt hT.bl.lt)
  refine EW.seq ?_
  refine EW.region ?_
  first | refine WL.move rfl rfl rfl ?_
  first | refine WL.nilc rfl rfl rfl ?_
  refine WL.field rfl rfl rfl (tfld2 g _) ?_
  first | refine WL.load rfl rfl rfl (hT2.ldS) ?_
  refine WL.bin rfl rfl rfl rfl (int_add sp _ _ _) ?_
  first | refine WL.nilc rfl rfl rfl ?_
  refine WL.field rfl rfl rfl (tfld2 g _) ?_
  refine WL.store rfl rfl rfl s3 ?_
  refine WL.done ?_
  refine EW.on ?_
  refine EW.seq ?_
  refine EW.seq ?_
  refine EW.region ?_
  first | refine WL.move rfl rfl rfl ?_
  first | refine WL.nilc rfl rfl rfl ?_
  refine WL.field rfl rfl rfl (tfld2 g _) ?_
  first | refine WL.load rfl rfl rfl (c3.1.ldS) ?_
  refine WL.bin rfl rfl rfl rfl (int_gt_f h5 _ _ _) ?_
  refine WL.done ?_
  refine EW.on ?_
  refine EW.cond_f rfl ?_
  refine EW.skip ?_
  refine EW.on ?_
  refine EW.seq ?_
  refine EW.seq ?_
  refine EW.region ?_
  refine WL.field rfl rfl rfl (ofld0 q _) ?_
  first | refine WL.load rfl rfl rfl (ldI bq3 rfl) ?_
  refine WL.done ?_
  refine EW.on ?_
  refine EW.block ?_
  refine EW.seq ?_
  refine EW.region ?_
  refine WL.bin rfl rfl rfl rfl (int_eq_t hq _ _ _) ?_
  first | refine WL.assign rfl rfl rfl ?_
  refine WL.done ?_
  refine EW.on ?_
  refine EW.cond_t rfl ?_
  have hT3 := c3.1
  clear hT2 bq h2
  have bq := bq3
  have e3 := c3.2
  have hT2 := hT3
  refine EW.ordB [(0, false, 0), (1, false, 0), (2, false, 0), (3, false, 0), (4, false, 0), (5, false, 0), (6, false, 0), (7, false, 0), (8, false, 0), (9, false, 1), (10, false, 0), (11, false, 1), (13, false, 0), (14, false, 0), (15, false, 0), (16, false, 0), (17, false, 0), (18, false, 1), (19, false, 0), (20, false, 1), (22, false, 0), (23, false, 0), (26, false, 0), (27, false, 0), (12, true, 1), (21, true, 1), (24, false, 0), (25, true, 0), (28, false, 0), (29, true, 0)] (by kernel_rfl) rfl (by kernel_rfl) ?_
  simp only [opsZ, List.getD_cons_zero, List.getD_cons_succ]
  refine ZE.move rfl rfl rfl sb0 ?_
  refine ZE.move rfl rfl rfl sb0 ?_
  refine ZE.move rfl rfl rfl sb0 ?_
  refine ZE.move rfl rfl rfl sb0 ?_
  refine ZE.move rfl rfl rfl sb0 ?_
  refine ZE.move rfl rfl rfl sb0 ?_
  refine ZE.nilc rfl rfl rfl sb0 ?_
  refine ZE.field rfl rfl rfl sb0 (fun W => tfld0 g W) ?_
  refine ZE.index rfl rfl rfl rfl sb0 (fun W => idx47 g _ (rs_lt _) W) ?_
  first | refine ZE.load rfl rfl rfl sb1 (fun W hW => run_loadA ((hT2.on (sb_of hW)).elem pa) Try.underlying27 rfl (cs_info _)) ?_ | refine ZE.load rfl rfl rfl sb1 (fun W hW => run_loadA ((hT2.on (sb_of hW)).elem pb) Try.underlying27 rfl (cs_info _)) ?_
  refine ZE.field rfl rfl rfl sb0 (fun W => ofld4 q W) ?_
  refine ZE.load rfl rfl rfl sb1 (fun W hW => ldK hk (bq.on (sb_of hW))) ?_
  refine ZE.move rfl rfl rfl sb0 ?_
  refine ZE.move rfl rfl rfl sb0 ?_
  refine ZE.nilc rfl rfl rfl sb0 ?_
  refine ZE.field rfl rfl rfl sb0 (fun W => tfld1 g W) ?_
  refine ZE.index rfl rfl rfl rfl sb0 (fun W => idx50 g _ (rs_lt _) W) ?_
  first | refine ZE.load rfl rfl rfl sb1 (fun W hW => run_loadA ((hT2.on (sb_of hW)).numb ra) Try.underlying49 rfl (info49 (nx_nm _).ln)) ?_ | refine ZE.load rfl rfl rfl sb1 (fun W hW => run_loadA ((hT2.on (sb_of hW)).numb rb) Try.underlying49 rfl (info49 (nx_nm _).ln)) ?_
  refine ZE.field rfl rfl rfl sb0 (fun W => ofld4 q W) ?_
  refine ZE.load rfl rfl rfl sb1 (fun W hW => ldK hk (bq.on (sb_of hW))) ?_
  refine ZE.nilc rfl rfl rfl sb0 ?_
  refine ZE.field rfl rfl rfl sb0 (fun W => tfld0 g W) ?_
  refine ZE.nilc rfl rfl rfl sb0 ?_
  refine ZE.field rfl rfl rfl sb0 (fun W => tfld1 g W) ?_
  refine ZE.callB [x.v, .agg (o.k.map byt).toArray] enter17 rfl rfl rfl sb1 (fun W _ => pow_any x o.k hk W) ?_
  refine ZE.callB [.agg (dv (nx x)).toArray, .agg (o.k.map byt).toArray] enter50 rfl rfl rfl sb1 (fun W _ => cPow xo o.k hk W) ?_
  refine ZE.index rfl rfl rfl rfl sb0 (fun W => idx47 g _ (rs_lt _) W) ?_
  refine ZE.store (CE w3 g (p.set (rs o.c) (powL x o.k 256)) r (s + 1)) rfl rfl rfl sb0 (fun W hW => stE (CE.of hT2 hW) (rs_lt _)) ?_
  refine ZE.index rfl rfl rfl rfl sb0 (fun W => idx50 g _ (rs_lt _) W) ?_
  refine ZE.store (CE w3 g (p.set (rs o.c) (powL x o.k 256)) (r.set (rs o.c) (nx (powL x o.k 256))) (s + 1)) rfl rfl rfl sb0 (fun W hW => stN hW (rs_lt _) (nx_nm _)) ?_
  intro w4 h4
  have hA4 := hA.set (by rw [hT.lp, hT.lr]) (rs o.c) (powL x o.k 256) ((powk_is xo o.k).1)
  refine pn_block ?_
  refine EW.on ?_
  refine EW.seq ?_
  refine EW.region ?_
  first | refine WL.assign rfl rfl rfl ?_
  refine WL.done ?_
  refine EW.on ?_
  refine EW.ret ?_
  repeat (first | refine pr_then ?_ | refine pr_block ?_)
  exact EW.returns Try.results42 rfl ⟨rfl, _, _, _, ⟨h4.1, Fx.after e2 (e3.and h4.2)⟩, hA4, by omega, by omega⟩
set_option maxRecDepth 100000 in
set_option maxHeartbeats 1000000 in
theorem powers_8 (g : Nat) (p : List L5) (r : List (List Nat)) (s : Int) (o : Opf) (hk : o.k.length = 32) (w : World) (hT : Tb w g p r s) (hA : Agr p r) (hs : 0 ≤ s) (hs1 : s ≤ 100) (h5 : ¬ 4 < s + 1) (hq : o.kind = 8) : Calls Try.prog 42 #[.pointer (some ⟨g, 0, none⟩), .agg (opF o).toArray] w (Fin w g s) := by
  have k7 : ¬ o.kind = 7 := by omega
  obtain ⟨w1, q, r1, b1, e1, hqg⟩ := box55 o w
  obtain ⟨x, pa, xo, ra⟩ := agr_at hA hT.lp o.a
  obtain ⟨y, pb, yo, rb⟩ := agr_at hA hT.lp o.b
  have hT1 := hT.on e1
  refine calls_of_args [.pointer (some ⟨g, 0, none⟩), .agg (opF o).toArray] Try.func42 rfl 124 Try.ntmps42 (by show 2 ≤ 124; decide) ?_
  refine EW.seq ?_
  refine EW.region ?_
  refine WL.box rfl rfl rfl r1 ?_
  refine WL.assign rfl rfl rfl ?_
  refine WL.done ?_
  refine EW.on ?_
  have bq := b1
  refine EW.seq ?_
  refine EW.ordB [(0, false, 0), (1, false, 1), (3, false, 0), (4, false, 1), (2, true, 1), (5, true, 1), (6, false, 0), (7, false, 0)] (by kernel_rfl) rfl (by kernel_rfl) ?_
  simp only [opsZ, List.getD_cons_zero, List.getD_cons_succ]
  refine ZE.field rfl rfl rfl sb0 (fun W => ofld1 q W) ?_
  first | refine ZE.load rfl rfl rfl sb1 (fun W hW => ldI (bq.on (sb_of hW)) rfl) ?_ | refine ZE.load rfl rfl rfl sb1 (fun W hW => ldI (bq.on (sb_of hW)) (opF_bit o hk)) ?_
  refine ZE.field rfl rfl rfl sb0 (fun W => ofld3 q W) ?_
  first | refine ZE.load rfl rfl rfl sb1 (fun W hW => ldI (bq.on (sb_of hW)) rfl) ?_ | refine ZE.load rfl rfl rfl sb1 (fun W hW => ldI (bq.on (sb_of hW)) (opF_bit o hk)) ?_
  first | refine ZE.callQ [.int .i64 o.a, .int .i64 4] enter35 rfl rfl rfl sb1 (fun W => rest_num _ W) ?_ | refine ZE.callQ [.int .i64 o.b, .int .i64 4] enter35 rfl rfl rfl sb1 (fun W => rest_num _ W) ?_ | refine ZE.callQ [.int .i64 o.c, .int .i64 4] enter35 rfl rfl rfl sb1 (fun W => rest_num _ W) ?_
  first | refine ZE.callQ [.int .i64 o.a, .int .i64 4] enter35 rfl rfl rfl sb1 (fun W => rest_num _ W) ?_ | refine ZE.callQ [.int .i64 o.b, .int .i64 4] enter35 rfl rfl rfl sb1 (fun W => rest_num _ W) ?_ | refine ZE.callQ [.int .i64 o.c, .int .i64 4] enter35 rfl rfl rfl sb1 (fun W => rest_num _ W) ?_
  refine ZE.assign rfl rfl rfl sb0 ?_
  refine ZE.assign rfl rfl rfl sb0 ?_
  intro w2 h2
  have hT2 := hT1.on h2
  replace bq := b1.on h2
  have e2 := e1.trans (h2.mono e1.size)
  clear b1 r1
  refine EW.on ?_
  obtain ⟨w3, s3, c3⟩ := hT2.bump (s + 1)
  have sp : IntKind.i64.wrap (s + 1) = s + 1 := by rw [IntKind.wrap_i64]; omega
  have bq3 := bq.fx c3.2 (by show q ≠ g; rw [hqg]; exact Nat.ne_of_gt hT.bl.lt)
  refine EW.seq ?_
  refine EW.region ?_
  first | refine WL.move rfl rfl rfl ?_
  first | refine WL.nilc rfl rfl rfl ?_
  refine WL.field rfl rfl rfl (tfld2 g _) ?_
  first | refine WL.load rfl rfl rfl (hT2.ldS) ?_
  refine WL.bin rfl rfl rfl rfl (int_add sp _ _ _) ?_
  first | refine WL.nilc rfl rfl rfl ?_
  refine WL.field rfl rfl rfl (tfld2 g _) ?_
  refine WL.store rfl rfl rfl s3 ?_
  refine WL.done ?_
  refine EW.on ?_
  refine EW.seq ?_
  refine EW.seq ?_
  refine EW.region ?_
  first | refine WL.move rfl rfl rfl ?_
  first | refine WL.nilc rfl rfl rfl ?_
  refine WL.field rfl rfl rfl (tfld2 g _) ?_
  first | refine WL.load rfl rfl rfl (c3.1.ldS) ?_
  refine WL.bin rfl rfl rfl rfl (int_gt_f h5 _ _ _) ?_
  refine WL.done ?_
  refine EW.on ?_
  refine EW.cond_f rfl ?_
  refine EW.skip ?_
  refine EW.on ?_
  refine EW.seq ?_
  refine EW.seq ?_
  refine EW.region ?_
  refine WL.field rfl rfl rfl (ofld0 q _) ?_
  first | refine WL.load rfl rfl rfl (ldI bq3 rfl) ?_
  refine WL.done ?_
  refine EW.on ?_
  refine EW.block ?_
  refine EW.seq ?_
  refine EW.region ?_
  refine WL.bin rfl rfl rfl rfl (int_eq_f k7 _ _ _) ?_
  first | refine WL.assign rfl rfl rfl ?_
  refine WL.done ?_
  refine EW.on ?_
  refine EW.cond_f rfl ?_
  refine EW.seq ?_
  refine EW.region ?_
  refine WL.bin rfl rfl rfl rfl (int_eq_t hq _ _ _) ?_
  first | refine WL.assign rfl rfl rfl ?_
  refine WL.done ?_
  refine EW.on ?_
  refine EW.cond_t rfl ?_
  have hT3 := c3.1
  clear hT2 bq h2
  have bq := bq3
  have e3 := c3.2
  have hT2 := hT3
  refine EW.ordB [(0, false, 0), (1, false, 0), (2, false, 0), (3, false, 0), (4, false, 0), (5, false, 0), (6, false, 0), (7, false, 0), (8, false, 0), (9, false, 1), (11, false, 0), (12, false, 0), (13, false, 0), (14, false, 0), (15, false, 0), (16, false, 1), (18, false, 0), (19, false, 0), (22, false, 0), (23, false, 0), (10, true, 1), (17, true, 1), (20, false, 0), (21, true, 0), (24, false, 0), (25, true, 0)] (by kernel_rfl) rfl (by kernel_rfl) ?_
  simp only [opsZ, List.getD_cons_zero, List.getD_cons_succ]
  refine ZE.move rfl rfl rfl sb0 ?_
  refine ZE.move rfl rfl rfl sb0 ?_
  refine ZE.move rfl rfl rfl sb0 ?_
  refine ZE.move rfl rfl rfl sb0 ?_
  refine ZE.move rfl rfl rfl sb0 ?_
  refine ZE.move rfl rfl rfl sb0 ?_
  refine ZE.nilc rfl rfl rfl sb0 ?_
  refine ZE.field rfl rfl rfl sb0 (fun W => tfld0 g W) ?_
  refine ZE.index rfl rfl rfl rfl sb0 (fun W => idx47 g _ (rs_lt _) W) ?_
  first | refine ZE.load rfl rfl rfl sb1 (fun W hW => run_loadA ((hT2.on (sb_of hW)).elem pa) Try.underlying27 rfl (cs_info _)) ?_ | refine ZE.load rfl rfl rfl sb1 (fun W hW => run_loadA ((hT2.on (sb_of hW)).elem pb) Try.underlying27 rfl (cs_info _)) ?_
  refine ZE.move rfl rfl rfl sb0 ?_
  refine ZE.move rfl rfl rfl sb0 ?_
  refine ZE.nilc rfl rfl rfl sb0 ?_
  refine ZE.field rfl rfl rfl sb0 (fun W => tfld1 g W) ?_
  refine ZE.index rfl rfl rfl rfl sb0 (fun W => idx50 g _ (rs_lt _) W) ?_
  first | refine ZE.load rfl rfl rfl sb1 (fun W hW => run_loadA ((hT2.on (sb_of hW)).numb ra) Try.underlying49 rfl (info49 (nx_nm _).ln)) ?_ | refine ZE.load rfl rfl rfl sb1 (fun W hW => run_loadA ((hT2.on (sb_of hW)).numb rb) Try.underlying49 rfl (info49 (nx_nm _).ln)) ?_
  refine ZE.nilc rfl rfl rfl sb0 ?_
  refine ZE.field rfl rfl rfl sb0 (fun W => tfld0 g W) ?_
  refine ZE.nilc rfl rfl rfl sb0 ?_
  refine ZE.field rfl rfl rfl sb0 (fun W => tfld1 g W) ?_
  refine ZE.callB [x.v] enter21 rfl rfl rfl sb1 (fun W _ => inv_any x W) ?_
  refine ZE.callB [.agg (dv (nx x)).toArray] enter51 rfl rfl rfl sb1 (fun W _ => cInv xo W) ?_
  refine ZE.index rfl rfl rfl rfl sb0 (fun W => idx47 g _ (rs_lt _) W) ?_
  refine ZE.store (CE w3 g (p.set (rs o.c) (invE x)) r (s + 1)) rfl rfl rfl sb0 (fun W hW => stE (CE.of hT2 hW) (rs_lt _)) ?_
  refine ZE.index rfl rfl rfl rfl sb0 (fun W => idx50 g _ (rs_lt _) W) ?_
  refine ZE.store (CE w3 g (p.set (rs o.c) (invE x)) (r.set (rs o.c) (nx (invE x))) (s + 1)) rfl rfl rfl sb0 (fun W hW => stN hW (rs_lt _) (nx_nm _)) ?_
  intro w4 h4
  have hA4 := hA.set (by rw [hT.lp, hT.lr]) (rs o.c) (invE x) ((inv_is xo).1)
  refine pn_block ?_
  refine EW.on ?_
  refine EW.seq ?_
  refine EW.region ?_
  first | refine WL.assign rfl rfl rfl ?_
  refine WL.done ?_
  refine EW.on ?_
  refine EW.ret ?_
  repeat (first | refine pr_then ?_ | refine pr_block ?_)
  exact EW.returns Try.results42 rfl ⟨rfl, _, _, _, ⟨h4.1, Fx.after e2 (e3.and h4.2)⟩, hA4, by omega, by omega⟩
set_option maxRecDepth 100000 in
set_option maxHeartbeats 1000000 in
theorem powers_9 (g : Nat) (p : List L5) (r : List (List Nat)) (s : Int) (o : Opf) (hk : o.k.length = 32) (w : World) (hT : Tb w g p r s) (hA : Agr p r) (hs : 0 ≤ s) (hs1 : s ≤ 100) (h5 : ¬ 4 < s + 1) (hq : o.kind = 9) : Calls Try.prog 42 #[.pointer (some ⟨g, 0, none⟩), .agg (opF o).toArray] w (Fin w g s) := by
  have k7 : ¬ o.kind = 7 := by omega
  have k8 : ¬ o.kind = 8 := by omega
  obtain ⟨w1, q, r1, b1, e1, hqg⟩ := box55 o w
  obtain ⟨x, pa, xo, ra⟩ := agr_at hA hT.lp o.a
  obtain ⟨y, pb, yo, rb⟩ := agr_at hA hT.lp o.b
  have hT1 := hT.on e1
  refine calls_of_args [.pointer (some ⟨g, 0, none⟩), .agg (opF o).toArray] Try.func42 rfl 124 Try.ntmps42 (by show 2 ≤ 124; decide) ?_
  refine EW.seq ?_
  refine EW.region ?_
  refine WL.box rfl rfl rfl r1 ?_
  refine WL.assign rfl rfl rfl ?_
  refine WL.done ?_
  refine EW.on ?_
  have bq := b1
  refine EW.seq ?_
  refine EW.ordB [(0, false, 0), (1, false, 1), (3, false, 0), (4, false, 1), (2, true, 1), (5, true, 1), (6, false, 0), (7, false, 0)] (by kernel_rfl) rfl (by kernel_rfl) ?_
  simp only [opsZ, List.getD_cons_zero, List.getD_cons_succ]
  refine ZE.field rfl rfl rfl sb0 (fun W => ofld1 q W) ?_
  first | refine ZE.load rfl rfl rfl sb1 (fun W hW => ldI (bq.on (sb_of hW)) rfl) ?_ | refine ZE.load rfl rfl rfl sb1 (fun W hW => ldI (bq.on (sb_of hW)) (opF_bit o hk)) ?_
  refine ZE.field rfl rfl rfl sb0 (fun W => ofld3 q W) ?_
  first | refine ZE.load rfl rfl rfl sb1 (fun W hW => ldI (bq.on (sb_of hW)) rfl) ?_ | refine ZE.load rfl rfl rfl sb1 (fun W hW => ldI (bq.on (sb_of hW)) (opF_bit o hk)) ?_
  first | refine ZE.callQ [.int .i64 o.a, .int .i64 4] enter35 rfl rfl rfl sb1 (fun W => rest_num _ W) ?_ | refine ZE.callQ [.int .i64 o.b, .int .i64 4] enter35 rfl rfl rfl sb1 (fun W => rest_num _ W) ?_ | refine ZE.callQ [.int .i64 o.c, .int .i64 4] enter35 rfl rfl rfl sb1 (fun W => rest_num _ W) ?_
  first | refine ZE.callQ [.int .i64 o.a, .int .i64 4] enter35 rfl rfl rfl sb1 (fun W => rest_num _ W) ?_ | refine ZE.callQ [.int .i64 o.b, .int .i64 4] enter35 rfl rfl rfl sb1 (fun W => rest_num _ W) ?_ | refine ZE.callQ [.int .i64 o.c, .int .i64 4] enter35 rfl rfl rfl sb1 (fun W => rest_num _ W) ?_
  refine ZE.assign rfl rfl rfl sb0 ?_
  refine ZE.assign rfl rfl rfl sb0 ?_
  intro w2 h2
  have hT2 := hT1.on h2
  replace bq := b1.on h2
  have e2 := e1.trans (h2.mono e1.size)
  clear b1 r1
  refine EW.on ?_
  obtain ⟨w3, s3, c3⟩ := hT2.bump (s + 1)
  have sp : IntKind.i64.wrap (s + 1) = s + 1 := by rw [IntKind.wrap_i64]; omega
  have bq3 := bq.fx c3.2 (by show q ≠ g; rw [hqg]; exact Nat.ne_of_gt hT.bl.lt)
  refine EW.seq ?_
  refine EW.region ?_
  first | refine WL.move rfl rfl rfl ?_
  first | refine WL.nilc rfl rfl rfl ?_
  refine WL.field rfl rfl rfl (tfld2 g _) ?_
  first | refine WL.load rfl rfl rfl (hT2.ldS) ?_
  refine WL.bin rfl rfl rfl rfl (int_add sp _ _ _) ?_
  first | refine WL.nilc rfl rfl rfl ?_
  refine WL.field rfl rfl rfl (tfld2 g _) ?_
  refine WL.store rfl rfl rfl s3 ?_
  refine WL.done ?_
  refine EW.on ?_
  refine EW.seq ?_
  refine EW.seq ?_
  refine EW.region ?_
  first | refine WL.move rfl rfl rfl ?_
  first | refine WL.nilc rfl rfl rfl ?_
  refine WL.field rfl rfl rfl (tfld2 g _) ?_
  first | refine WL.load rfl rfl rfl (c3.1.ldS) ?_
  refine WL.bin rfl rfl rfl rfl (int_gt_f h5 _ _ _) ?_
  refine WL.done ?_
  refine EW.on ?_
  refine EW.cond_f rfl ?_
  refine EW.skip ?_
  refine EW.on ?_
  refine EW.seq ?_
  refine EW.seq ?_
  refine EW.region ?_
  refine WL.field rfl rfl rfl (ofld0 q _) ?_
  first | refine WL.load rfl rfl rfl (ldI bq3 rfl) ?_
  refine WL.done ?_
  refine EW.on ?_
  refine EW.block ?_
  refine EW.seq ?_
  refine EW.region ?_
  refine WL.bin rfl rfl rfl rfl (int_eq_f k7 _ _ _) ?_
  first | refine WL.assign rfl rfl rfl ?_
  refine WL.done ?_
  refine EW.on ?_
  refine EW.cond_f rfl ?_
  refine EW.seq ?_
  refine EW.region ?_
  refine WL.bin rfl rfl rfl rfl (int_eq_f k8 _ _ _) ?_
  first | refine WL.assign rfl rfl rfl ?_
  refine WL.done ?_
  refine EW.on ?_
  refine EW.cond_f rfl ?_
  refine EW.seq ?_
  refine EW.region ?_
  refine WL.bin rfl rfl rfl rfl (int_eq_t hq _ _ _) ?_
  first | refine WL.assign rfl rfl rfl ?_
  refine WL.done ?_
  refine EW.on ?_
  refine EW.cond_t rfl ?_
  have hT3 := c3.1
  clear hT2 bq h2
  have bq := bq3
  have e3 := c3.2
  have hT2 := hT3
  refine EW.seq ?_
  refine EW.region ?_
  first | refine WL.move rfl rfl rfl ?_
  first | refine WL.move rfl rfl rfl ?_
  first | refine WL.nilc rfl rfl rfl ?_
  refine WL.field rfl rfl rfl (tfld0 g _) ?_
  refine WL.index rfl rfl rfl rfl (idx47 g _ (rs_lt _) _) ?_
  first | refine WL.load rfl rfl rfl (run_loadA (hT2.elem pa) Try.underlying27 rfl (cs_info _)) ?_
  refine WL.call [x.v] enter22 rfl rfl rfl (root_any x _) ?_
  rintro _ w5 ⟨rfl, h5b⟩
  refine ⟨_, rfl, ?_⟩
  first | refine WL.move rfl rfl rfl ?_
  first | refine WL.extract rfl rfl rfl (ext_2 _ _ _).1 ?_
  first | refine WL.extract rfl rfl rfl (ext_2 _ _ _).2 ?_
  obtain ⟨w6, q6, r6, b6, e6, hq6⟩ := new27 w5
  refine WL.new rfl rfl r6 ?_
  refine WL.store rfl rfl rfl (run_storeR b6 (cs_info _) (cs_ln _ _) (cs_one _)) ?_
  first | refine WL.assign rfl rfl rfl ?_
  refine WL.done ?_
  have hT6 := (hT2.on h5b).on e6
  have b7 := b6.setRow (rootE x).cs
  have fq : Fx (fun k => k = q6) w6 (w6.setRow q6 (rootE x).cs.toArray) := Fx.setRow (S := fun k => k = q6) b6 _ rfl
  obtain ⟨w7, hw7⟩ : ∃ w7, w6.setRow q6 (rootE x).cs.toArray = w7 := ⟨_, rfl⟩
  rw [hw7] at b7 fq ⊢
  have l3 : g < w3.heap.size := hT2.bl.lt
  have l5 : w3.heap.size ≤ w5.heap.size := h5b.size
  have hT7 : Tb w7 g p r (s + 1) := ⟨hT6.bl.fx fq (by show g ≠ q6; omega), hT6.lp, hT6.lr, hT6.nm⟩
  have x7 : Below w3.heap.size w3 w7 := (h5b.trans (e6.mono l5)).trans (fq.below (fun k hk hk' => by omega) (by have := e6.size; omega))
  refine EW.on ?_
  refine EW.seq ?_
  refine EW.region ?_
  first | refine WL.move rfl rfl rfl ?_
  first | refine WL.move rfl rfl rfl ?_
  first | refine WL.nilc rfl rfl rfl ?_
  refine WL.field rfl rfl rfl (tfld1 g _) ?_
  refine WL.index rfl rfl rfl rfl (idx50 g _ (rs_lt _) _) ?_
  first | refine WL.load rfl rfl rfl (run_loadA (hT7.numb ra) Try.underlying49 rfl (info49 (nx_nm _).ln)) ?_
  refine WL.call [.agg (dv (nx x)).toArray] enter52 rfl rfl rfl (cSqrt xo _) ?_
  rintro _ w8 ⟨rfl, h8b⟩
  refine ⟨_, rfl, ?_⟩
  first | refine WL.move rfl rfl rfl ?_
  first | refine WL.extract rfl rfl rfl (ext_2 _ _ _).1 ?_
  first | refine WL.extract rfl rfl rfl (ext_2 _ _ _).2 ?_
  have b9 := Blk.new w8 (dv z16) 49
  have e9 : Below w8.heap.size w8 (w8.alloc (.cells (dv z16).toArray 49)) := below_new _ _
  refine WL.new rfl rfl (new49 w8) ?_
  refine WL.store rfl rfl rfl (st49 rfl (nx_nm _).ln b9) ?_
  first | refine WL.assign rfl rfl rfl ?_
  refine WL.done ?_
  obtain ⟨q9, hq9⟩ : ∃ q9, w8.heap.size = q9 := ⟨_, rfl⟩
  have b10 := b9.setRow (dv (nx (rootE x)))
  have f10 : Fx (fun k => k = w8.heap.size) (w8.alloc (.cells (dv z16).toArray 49)) ((w8.alloc (.cells (dv z16).toArray 49)).setRow w8.heap.size (dv (nx (rootE x))).toArray) := Fx.setRow (S := fun k => k = w8.heap.size) b9 _ rfl
  obtain ⟨w10, hw10⟩ : ∃ w10, (w8.alloc (.cells (dv z16).toArray 49)).setRow w8.heap.size (dv (nx (rootE x))).toArray = w10 := ⟨_, rfl⟩
  rw [hw10] at b10 f10 ⊢
  have l7 : w3.heap.size ≤ w7.heap.size := x7.size
  have l8 : w7.heap.size ≤ w8.heap.size := h8b.size
  have q6l : q6 < w7.heap.size := b7.lt
  have gl : g < w8.heap.size := by omega
  have x10 : Below w8.heap.size w8 w10 := e9.trans (f10.below (fun k hk hk' => by omega) (by have := e9.size; omega))
  have hT10 := (hT7.on h8b).on x10
  have b7' := (b7.on h8b).on x10
  have x310 : Below w3.heap.size w3 w10 := (x7.trans (h8b.mono l7)).trans (x10.mono (by omega))
  have ng7 : q6 ≠ g := by omega
  have ng9 : w8.heap.size ≠ g := by omega
  rw [hq9] at b10 ng9 ⊢
  refine EW.on ?_
  refine EW.seq ?_
  have s13 : ∀ W, Below w10.heap.size w10 W → S2 q6 q9 (rootE x) 1 W := fun W h => .inr ⟨b7'.on h, b10.on h⟩
  have sx : ∀ {W}, S2 q6 q9 (rootE x) 1 W → Blk W q6 (rootE x).cs 27 ∧ Blk W q9 (dv (nx (rootE x))) 49 := fun h => h.resolve_left (by decide)
  refine EW.ordZ [(0, false, 0), (1, false, 0), (2, false, 0), (3, false, 0), (4, false, 1), (5, false, 1), (6, false, 0), (7, false, 0), (8, false, 0), (10, false, 0), (11, false, 0), (9, true, 1), (12, false, 0), (13, true, 0)] (S2 q6 q9 (rootE x)) (fun W => Below w10.heap.size w10 W) (by kernel_rfl) rfl (by kernel_rfl) (s2_anti _ _ _) (below_drawn _) ?_
  simp only [opsZ, List.getD_cons_zero, List.getD_cons_succ]
  refine ZE.move rfl rfl rfl (fun _ _ => .inl rfl) ?_
  refine ZE.move rfl rfl rfl (fun _ _ => .inl rfl) ?_
  refine ZE.move rfl rfl rfl (fun _ _ => .inl rfl) ?_
  refine ZE.move rfl rfl rfl (fun _ _ => .inl rfl) ?_
  refine ZE.load rfl rfl rfl (fun W h => s13 W h) (fun W hW => run_loadR (sx hW).1 Try.underlying27 rfl (cs_info _)) ?_
  refine ZE.load rfl rfl rfl (fun W h => s13 W h) (fun W hW => run_loadR (sx hW).2 Try.underlying49 rfl (info49 (nx_nm _).ln)) ?_
  refine ZE.nilc rfl rfl rfl (fun _ _ => .inl rfl) ?_
  refine ZE.field rfl rfl rfl (fun _ _ => .inl rfl) (fun W => tfld0 g W) ?_
  refine ZE.index rfl rfl rfl rfl (fun _ _ => .inl rfl) (fun W => idx47 g _ (rs_lt _) W) ?_
  refine ZE.nilc rfl rfl rfl (fun _ _ => .inl rfl) ?_
  refine ZE.field rfl rfl rfl (fun _ _ => .inl rfl) (fun W => tfld1 g W) ?_
  refine ZE.store (fun W => CE w10 g (p.set (rs o.c) (rootE x)) r (s + 1) W) rfl rfl rfl (fun W hW => .inr ⟨b7'.fx hW.2 ng7, b10.fx hW.2 ng9⟩) (fun W hW => stE (CE.of hT10 hW) (rs_lt _)) ?_
  refine ZE.index rfl rfl rfl rfl (fun _ _ => .inl rfl) (fun W => idx50 g _ (rs_lt _) W) ?_
  refine ZE.store (fun W => CE w10 g (p.set (rs o.c) (rootE x)) (r.set (rs o.c) (nx (rootE x))) (s + 1) W) rfl rfl rfl (fun _ _ => .inl rfl) (fun W hW => stN hW (rs_lt _) (nx_nm _)) ?_
  intro w11 h4
  have hA4 := hA.set (by rw [hT.lp, hT.lr]) (rs o.c) (rootE x) (root_ok xo)
  refine EW.on ?_
  refine EW.seq ?_
  refine EW.region ?_
  first | refine WL.move rfl rfl rfl ?_
  first | refine WL.move rfl rfl rfl ?_
  refine WL.bin rfl rfl rfl rfl (bool_eql _ _ rfl _ _ _) ?_
  first | refine WL.assign rfl rfl rfl ?_
  refine WL.done ?_
  refine EW.on ?_
  refine EW.ret ?_
  repeat (first | refine pr_then ?_ | refine pr_block ?_)
  exact EW.returns Try.results42 rfl ⟨rfl, _, _, _, ⟨h4.1, Fx.after e2 (e3.and (Fx.after x310 h4.2))⟩, hA4, by omega, by omega⟩
end Go.Proofs.Ytnakeieeopbeiaa
