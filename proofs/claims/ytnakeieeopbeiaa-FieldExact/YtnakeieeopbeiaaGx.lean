import Derived.Test.YtnakeieeopbeiaaGw
set_option linter.unusedVariables false
set_option linter.unusedSimpArgs false
namespace Go.Proofs.Ytnakeieeopbeiaa
open Go.RowKit Prm

/-- The table lies there, and nothing else of w has turned. -/
def CE (w : World) (g : Nat) (p : List L5) (r : List (List Nat)) (s : Int) (W : World) : Prop := Tb W g p r s ∧ Fx (fun k => k = g) w W
theorem CE.of {w W : World} {g : Nat} {p : List L5} {r : List (List Nat)} {s : Int} (h : Tb w g p r s) (hW : Below w.heap.size w W) : CE w g p r s W := ⟨h.on hW, Fx.of_below hW⟩
theorem stE {w W : World} {g : Nat} {p : List L5} {r : List (List Nat)} {s : Int} (h : CE w g p r s W) {c : Nat} (hc : c < 4) {x : L5} : ∃ W', (Instr.storeAt 27 (.pointer (some ⟨g, 5 * c, none⟩)) x.v).run Try.prog W = .ok () W' ∧ CE w g (p.set c x) r s W' := by
  obtain ⟨W', h1, h2, h3⟩ := h.1.putE hc x
  exact ⟨W', h1, h2, h.2.and h3⟩
theorem stN {w W : World} {g : Nat} {p : List L5} {r : List (List Nat)} {s : Int} (h : CE w g p r s W) {c : Nat} (hc : c < 4) {y : List Nat} (hy : Nm y) : ∃ W', (Instr.storeAt 49 (.pointer (some ⟨g, 20 + 16 * c, none⟩)) (.agg (dv y).toArray)).run Try.prog W = .ok () W' ∧ CE w g p (r.set c y) s W' := by
  obtain ⟨W', h1, h2, h3⟩ := h.1.putN hc y hy
  exact ⟨W', h1, h2, h.2.and h3⟩
/-- How a step ends. -/
def Fin (w : World) (g : Nat) (s : Int) (e : Ending) (W : World) : Prop := e = .returned (.bool true) ∧ ∃ p r s', CE w g p r s' W ∧ Agr p r ∧ s ≤ s' ∧ s' ≤ s + 1
theorem Fx.after {w w2 W : World} {g : Nat} (h : Below w.heap.size w w2) (k : Fx (fun k => k = g) w2 W) : Fx (fun k => k = g) w W := (Fx.of_below h).and k
theorem fin_of {w w2 W : World} {g : Nat} {p : List L5} {r : List (List Nat)} {s s' : Int} (h : Below w.heap.size w w2) (k : CE w2 g p r s' W) (ha : Agr p r) (h1 : s ≤ s') (h2 : s' ≤ s + 1) : Fin w g s (.returned (.bool true)) W := ⟨rfl, p, r, s', ⟨k.1, Fx.after h k.2⟩, ha, h1, h2⟩
theorem box55 (o : Opf) (w : World) : ∃ w1 q, (Instr.box 55 (.agg (opF o).toArray)).run Try.prog w = .ok (.pointer (some ⟨q, 0, none⟩)) w1 ∧ Blk w1 q (opF o) 55 ∧ Below w.heap.size w w1 ∧ q = w.heap.size :=
  ⟨_, _, run_boxR 55 (opF o) w _ rfl, Blk.new _ _ _, below_new _ _, rfl⟩
theorem bool_eql (a b : Bool) (h : a = b) (W : World) (x y : Operand) : (do eqGuard .eql 4 x y (.bool a) (.bool b); binOp .eql 4 (.bool a) (.bool b) : Sem Value).run Try.prog W = .ok (.bool true) W := by
  subst h
  cases a <;> go_simp
theorem conv34 (n : BitVec 32) (W : World) : (Go.convert 34 24 (.int .u32 (n.toNat : Int))).run Try.prog W = .ok (.int .u64 (n.toNat : Int)) W := by
  have h := n.isLt
  have e : IntKind.u64.wrap (n.toNat : Int) = (n.toNat : Int) := by rw [IntKind.wrap_u64]; omega
  go_simp
theorem agr_at {p : List L5} {r : List (List Nat)} (h : Agr p r) (hp : p.length = 4) (i : Int) : ∃ x, p[rs i]? = some x ∧ x.Ok ∧ r[rs i]? = some (nx x) := by
  have hl : rs i < p.length := by rw [hp]; exact rs_lt i
  exact ⟨p[rs i], List.getElem?_eq_getElem hl, h.ok _ _ (List.getElem?_eq_getElem hl), h.eq _ _ (List.getElem?_eq_getElem hl)⟩
set_option maxRecDepth 100000 in
set_option maxHeartbeats 1000000 in
theorem plays_1 (g : Nat) (p : List L5) (r : List (List Nat)) (s : Int) (o : Opf) (hk : o.k.length = 32) (w : World) (hT : Tb w g p r s) (hA : Agr p r) (hq : o.kind = 1) : Calls Try.prog 23 #[.pointer (some ⟨g, 0, none⟩), .agg (opF o).toArray] w (Fin w g s) := by
  obtain ⟨w1, q, r1, b1, e1, hqg⟩ := box55 o w
  obtain ⟨x, pa, xo, ra⟩ := agr_at hA hT.lp o.a
  obtain ⟨y, pb, yo, rb⟩ := agr_at hA hT.lp o.b
  have hT1 := hT.on e1
  refine calls_of_args [.pointer (some ⟨g, 0, none⟩), .agg (opF o).toArray] Try.func23 rfl 301 Try.ntmps23 (by show 2 ≤ 301; decide) ?_
  refine EW.seq ?_
  refine EW.region ?_
  refine WL.box rfl rfl rfl r1 ?_
  refine WL.assign rfl rfl rfl ?_
  refine WL.done ?_
  refine EW.on ?_
  have bq := b1
  refine EW.seq ?_
  refine EW.ordB [(0, false, 0), (1, false, 1), (3, false, 0), (4, false, 1), (6, false, 0), (7, false, 1), (2, true, 1), (5, true, 1), (8, true, 1), (9, false, 0), (10, false, 0), (11, false, 0)] (by kernel_rfl) rfl (by kernel_rfl) ?_
  simp only [opsZ, List.getD_cons_zero, List.getD_cons_succ]
  refine ZE.field rfl rfl rfl sb0 (fun W => ofld1 q W) ?_
  first | refine ZE.load rfl rfl rfl sb1 (fun W hW => ldI (bq.on (sb_of hW)) rfl) ?_ | refine ZE.load rfl rfl rfl sb1 (fun W hW => ldI (bq.on (sb_of hW)) (opF_bit o hk)) ?_
  refine ZE.field rfl rfl rfl sb0 (fun W => ofld2 q W) ?_
  first | refine ZE.load rfl rfl rfl sb1 (fun W hW => ldI (bq.on (sb_of hW)) rfl) ?_ | refine ZE.load rfl rfl rfl sb1 (fun W hW => ldI (bq.on (sb_of hW)) (opF_bit o hk)) ?_
  refine ZE.field rfl rfl rfl sb0 (fun W => ofld3 q W) ?_
  first | refine ZE.load rfl rfl rfl sb1 (fun W hW => ldI (bq.on (sb_of hW)) rfl) ?_ | refine ZE.load rfl rfl rfl sb1 (fun W hW => ldI (bq.on (sb_of hW)) (opF_bit o hk)) ?_
  first | refine ZE.callQ [.int .i64 o.a, .int .i64 4] enter35 rfl rfl rfl sb1 (fun W => rest_num _ W) ?_ | refine ZE.callQ [.int .i64 o.b, .int .i64 4] enter35 rfl rfl rfl sb1 (fun W => rest_num _ W) ?_ | refine ZE.callQ [.int .i64 o.c, .int .i64 4] enter35 rfl rfl rfl sb1 (fun W => rest_num _ W) ?_
  first | refine ZE.callQ [.int .i64 o.a, .int .i64 4] enter35 rfl rfl rfl sb1 (fun W => rest_num _ W) ?_ | refine ZE.callQ [.int .i64 o.b, .int .i64 4] enter35 rfl rfl rfl sb1 (fun W => rest_num _ W) ?_ | refine ZE.callQ [.int .i64 o.c, .int .i64 4] enter35 rfl rfl rfl sb1 (fun W => rest_num _ W) ?_
  first | refine ZE.callQ [.int .i64 o.a, .int .i64 4] enter35 rfl rfl rfl sb1 (fun W => rest_num _ W) ?_ | refine ZE.callQ [.int .i64 o.b, .int .i64 4] enter35 rfl rfl rfl sb1 (fun W => rest_num _ W) ?_ | refine ZE.callQ [.int .i64 o.c, .int .i64 4] enter35 rfl rfl rfl sb1 (fun W => rest_num _ W) ?_
  refine ZE.assign rfl rfl rfl sb0 ?_
  refine ZE.assign rfl rfl rfl sb0 ?_
  refine ZE.assign rfl rfl rfl sb0 ?_
  intro w2 h2
  have hT2 := hT1.on h2
  replace bq := b1.on h2
  have e2 := e1.trans (h2.mono e1.size)
  clear b1 r1
  refine EW.on ?_
  refine EW.seq ?_
  refine EW.seq ?_
  refine EW.region ?_
  refine WL.field rfl rfl rfl (ofld0 q _) ?_
  first | refine WL.load rfl rfl rfl (ldI bq rfl) ?_
  refine WL.done ?_
  refine EW.on ?_
  refine EW.block ?_
  refine EW.seq ?_
  refine EW.region ?_
  refine WL.bin rfl rfl rfl rfl (int_eq_t hq _ _ _) ?_
  first | refine WL.assign rfl rfl rfl ?_
  refine WL.done ?_
  refine EW.on ?_
  refine EW.cond_t rfl ?_
  refine EW.seq ?_
  refine EW.ordB [(0, false, 0), (1, false, 0), (2, false, 0), (3, false, 0), (4, false, 0), (5, false, 1), (7, false, 0), (8, false, 1), (10, false, 0), (11, false, 0), (14, false, 0), (15, false, 0), (6, true, 1), (9, true, 1), (12, false, 0), (13, true, 0), (16, false, 0), (17, true, 0)] (by kernel_rfl) rfl (by kernel_rfl) ?_
  simp only [opsZ, List.getD_cons_zero, List.getD_cons_succ]
  refine ZE.move rfl rfl rfl sb0 ?_
  refine ZE.move rfl rfl rfl sb0 ?_
  refine ZE.move rfl rfl rfl sb0 ?_
  refine ZE.move rfl rfl rfl sb0 ?_
  refine ZE.field rfl rfl rfl sb0 (fun W => ofld4 q W) ?_
  refine ZE.load rfl rfl rfl sb1 (fun W hW => ldK hk (bq.on (sb_of hW))) ?_
  refine ZE.field rfl rfl rfl sb0 (fun W => ofld4 q W) ?_
  refine ZE.load rfl rfl rfl sb1 (fun W hW => ldK hk (bq.on (sb_of hW))) ?_
  refine ZE.nilc rfl rfl rfl sb0 ?_
  refine ZE.field rfl rfl rfl sb0 (fun W => tfld0 g W) ?_
  refine ZE.nilc rfl rfl rfl sb0 ?_
  refine ZE.field rfl rfl rfl sb0 (fun W => tfld1 g W) ?_
  refine ZE.callB [.agg (o.k.map byt).toArray] enter9 rfl rfl rfl sb1 (fun W _ => read_any o.k hk W) ?_
  refine ZE.callB [.agg (o.k.map byt).toArray] enter36 rfl rfl rfl sb1 (fun W _ => cFrom o.k hk W) ?_
  refine ZE.index rfl rfl rfl rfl sb0 (fun W => idx47 g _ (rs_lt _) W) ?_
  refine ZE.store (CE w2 g (p.set (rs o.c) (readE o.k)) r s) rfl rfl rfl sb0 (fun W hW => stE (CE.of hT2 hW) (rs_lt _)) ?_
  refine ZE.index rfl rfl rfl rfl sb0 (fun W => idx50 g _ (rs_lt _) W) ?_
  refine ZE.store (CE w2 g (p.set (rs o.c) (readE o.k)) (r.set (rs o.c) (nx (readE o.k))) s) rfl rfl rfl sb0 (fun W hW => stN hW (rs_lt _) (nx_nm _)) ?_
  intro w3 h3
  have hA3 := hA.set (by rw [hT.lp, hT.lr]) (rs o.c) (readE o.k) (read_ok _)
  refine EW.on ?_
  refine EW.seq ?_
  have bq3 := bq.fx h3.2 (by show q ≠ g; rw [hqg]; exact Nat.ne_of_gt hT.bl.lt)
  clear bq
  have bq := bq3
  refine EW.ordB [(0, false, 0), (1, false, 1), (3, false, 0), (4, false, 1), (2, true, 1), (5, true, 1), (6, false, 0), (7, false, 0)] (by kernel_rfl) rfl (by kernel_rfl) ?_
  simp only [opsZ, List.getD_cons_zero, List.getD_cons_succ]
  refine ZE.field rfl rfl rfl sb0 (fun W => ofld4 q W) ?_
  refine ZE.load rfl rfl rfl sb1 (fun W hW => ldK hk (bq.on (sb_of hW))) ?_
  refine ZE.field rfl rfl rfl sb0 (fun W => ofld4 q W) ?_
  refine ZE.load rfl rfl rfl sb1 (fun W hW => ldK hk (bq.on (sb_of hW))) ?_
  refine ZE.callB [.agg (o.k.map byt).toArray] enter11 rfl rfl rfl sb1 (fun W _ => fitsE o.k hk W) ?_
  refine ZE.callB [.agg (o.k.map byt).toArray] enter37 rfl rfl rfl sb1 (fun W _ => fits_num o.k hk W) ?_
  refine ZE.bin rfl rfl rfl rfl sb0 (fun W => bool_eql _ _ (fits_eq o.k hk).symm W _ _) ?_
  refine ZE.assign rfl rfl rfl sb0 ?_
  intro w4 h4
  refine EW.on ?_
  refine EW.ret ?_
  repeat (first | refine pr_then ?_ | refine pr_block ?_)
  exact EW.returns Try.results23 rfl (fin_of e2 ⟨h3.1.on h4, h3.2.then_below h4⟩ hA3 (by omega) (by omega))
set_option maxRecDepth 100000 in
set_option maxHeartbeats 1000000 in
theorem plays_2 (g : Nat) (p : List L5) (r : List (List Nat)) (s : Int) (o : Opf) (hk : o.k.length = 32) (w : World) (hT : Tb w g p r s) (hA : Agr p r) (hq : o.kind = 2) : Calls Try.prog 23 #[.pointer (some ⟨g, 0, none⟩), .agg (opF o).toArray] w (Fin w g s) := by
  have k1 : ¬ o.kind = 1 := by omega
  obtain ⟨w1, q, r1, b1, e1, hqg⟩ := box55 o w
  obtain ⟨x, pa, xo, ra⟩ := agr_at hA hT.lp o.a
  obtain ⟨y, pb, yo, rb⟩ := agr_at hA hT.lp o.b
  have hT1 := hT.on e1
  refine calls_of_args [.pointer (some ⟨g, 0, none⟩), .agg (opF o).toArray] Try.func23 rfl 301 Try.ntmps23 (by show 2 ≤ 301; decide) ?_
  refine EW.seq ?_
  refine EW.region ?_
  refine WL.box rfl rfl rfl r1 ?_
  refine WL.assign rfl rfl rfl ?_
  refine WL.done ?_
  refine EW.on ?_
  have bq := b1
  refine EW.seq ?_
  refine EW.ordB [(0, false, 0), (1, false, 1), (3, false, 0), (4, false, 1), (6, false, 0), (7, false, 1), (2, true, 1), (5, true, 1), (8, true, 1), (9, false, 0), (10, false, 0), (11, false, 0)] (by kernel_rfl) rfl (by kernel_rfl) ?_
  simp only [opsZ, List.getD_cons_zero, List.getD_cons_succ]
  refine ZE.field rfl rfl rfl sb0 (fun W => ofld1 q W) ?_
  first | refine ZE.load rfl rfl rfl sb1 (fun W hW => ldI (bq.on (sb_of hW)) rfl) ?_ | refine ZE.load rfl rfl rfl sb1 (fun W hW => ldI (bq.on (sb_of hW)) (opF_bit o hk)) ?_
  refine ZE.field rfl rfl rfl sb0 (fun W => ofld2 q W) ?_
  first | refine ZE.load rfl rfl rfl sb1 (fun W hW => ldI (bq.on (sb_of hW)) rfl) ?_ | refine ZE.load rfl rfl rfl sb1 (fun W hW => ldI (bq.on (sb_of hW)) (opF_bit o hk)) ?_
  refine ZE.field rfl rfl rfl sb0 (fun W => ofld3 q W) ?_
  first | refine ZE.load rfl rfl rfl sb1 (fun W hW => ldI (bq.on (sb_of hW)) rfl) ?_ | refine ZE.load rfl rfl rfl sb1 (fun W hW => ldI (bq.on (sb_of hW)) (opF_bit o hk)) ?_
  first | refine ZE.callQ [.int .i64 o.a, .int .i64 4] enter35 rfl rfl rfl sb1 (fun W => rest_num _ W) ?_ | refine ZE.callQ [.int .i64 o.b, .int .i64 4] enter35 rfl rfl rfl sb1 (fun W => rest_num _ W) ?_ | refine ZE.callQ [.int .i64 o.c, .int .i64 4] enter35 rfl rfl rfl sb1 (fun W => rest_num _ W) ?_
  first | refine ZE.callQ [.int .i64 o.a, .int .i64 4] enter35 rfl rfl rfl sb1 (fun W => rest_num _ W) ?_ | refine ZE.callQ [.int .i64 o.b, .int .i64 4] enter35 rfl rfl rfl sb1 (fun W => rest_num _ W) ?_ | refine ZE.callQ [.int .i64 o.c, .int .i64 4] enter35 rfl rfl rfl sb1 (fun W => rest_num _ W) ?_
  first | refine ZE.callQ [.int .i64 o.a, .int .i64 4] enter35 rfl rfl rfl sb1 (fun W => rest_num _ W) ?_ | refine ZE.callQ [.int .i64 o.b, .int .i64 4] enter35 rfl rfl rfl sb1 (fun W => rest_num _ W) ?_ | refine ZE.callQ [.int .i64 o.c, .int .i64 4] enter35 rfl rfl rfl sb1 (fun W => rest_num _ W) ?_
  refine ZE.assign rfl rfl rfl sb0 ?_
  refine ZE.assign rfl rfl rfl sb0 ?_
  refine ZE.assign rfl rfl rfl sb0 ?_
  intro w2 h2
  have hT2 := hT1.on h2
  replace bq := b1.on h2
  have e2 := e1.trans (h2.mono e1.size)
  clear b1 r1
  refine EW.on ?_
  refine EW.seq ?_
  refine EW.seq ?_
  refine EW.region ?_
  refine WL.field rfl rfl rfl (ofld0 q _) ?_
  first | refine WL.load rfl rfl rfl (ldI bq rfl) ?_
  refine WL.done ?_
  refine EW.on ?_
  refine EW.block ?_
  refine EW.seq ?_
  refine EW.region ?_
  refine WL.bin rfl rfl rfl rfl (int_eq_f k1 _ _ _) ?_
  first | refine WL.assign rfl rfl rfl ?_
  refine WL.done ?_
  refine EW.on ?_
  refine EW.cond_f rfl ?_
  refine EW.seq ?_
  refine EW.region ?_
  refine WL.bin rfl rfl rfl rfl (int_eq_t hq _ _ _) ?_
  first | refine WL.assign rfl rfl rfl ?_
  refine WL.done ?_
  refine EW.on ?_
  refine EW.cond_t rfl ?_
  refine EW.ordB [(0, false, 0), (1, false, 0), (2, false, 0), (3, false, 0), (4, false, 0), (5, false, 1), (7, false, 0), (8, false, 1), (9, false, 0), (11, false, 0), (12, false, 0), (15, false, 0), (16, false, 0), (6, true, 1), (10, true, 1), (13, false, 0), (14, true, 0), (17, false, 0), (18, true, 0)] (by kernel_rfl) rfl (by kernel_rfl) ?_
  simp only [opsZ, List.getD_cons_zero, List.getD_cons_succ]
  refine ZE.move rfl rfl rfl sb0 ?_
  refine ZE.move rfl rfl rfl sb0 ?_
  refine ZE.move rfl rfl rfl sb0 ?_
  refine ZE.move rfl rfl rfl sb0 ?_
  refine ZE.field rfl rfl rfl sb0 (fun W => ofld5 q W) ?_
  refine ZE.load rfl rfl rfl sb1 (fun W hW => ldU (bq.on (sb_of hW)) (opF_n o hk)) ?_
  refine ZE.field rfl rfl rfl sb0 (fun W => ofld5 q W) ?_
  refine ZE.load rfl rfl rfl sb1 (fun W hW => ldU (bq.on (sb_of hW)) (opF_n o hk)) ?_
  refine ZE.conv rfl rfl rfl sb0 (fun W _ => conv34 o.n W) ?_
  refine ZE.nilc rfl rfl rfl sb0 ?_
  refine ZE.field rfl rfl rfl sb0 (fun W => tfld0 g W) ?_
  refine ZE.nilc rfl rfl rfl sb0 ?_
  refine ZE.field rfl rfl rfl sb0 (fun W => tfld1 g W) ?_
  refine ZE.callB [.int .u32 (o.n.toNat : Int)] enter14 rfl rfl rfl sb1 (fun W _ => small_any o.n W) ?_
  refine ZE.callB [.int .u64 (o.n.toNat : Int)] enter38 rfl rfl rfl sb1 (fun W _ => cInt o.n W) ?_
  refine ZE.index rfl rfl rfl rfl sb0 (fun W => idx47 g _ (rs_lt _) W) ?_
  refine ZE.store (CE w2 g (p.set (rs o.c) (small o.n)) r s) rfl rfl rfl sb0 (fun W hW => stE (CE.of hT2 hW) (rs_lt _)) ?_
  refine ZE.index rfl rfl rfl rfl sb0 (fun W => idx50 g _ (rs_lt _) W) ?_
  refine ZE.store (CE w2 g (p.set (rs o.c) (small o.n)) (r.set (rs o.c) (nx (small o.n))) s) rfl rfl rfl sb0 (fun W hW => stN hW (rs_lt _) (nx_nm _)) ?_
  intro w3 h3
  have hA3 := hA.set (by rw [hT.lp, hT.lr]) (rs o.c) (small o.n) (small_ok _)
  refine pn_block ?_
  refine EW.on ?_
  refine EW.seq ?_
  refine EW.region ?_
  first | refine WL.assign rfl rfl rfl ?_
  refine WL.done ?_
  refine EW.on ?_
  refine EW.ret ?_
  repeat (first | refine pr_then ?_ | refine pr_block ?_)
  exact EW.returns Try.results23 rfl (fin_of e2 h3 hA3 (by omega) (by omega))
set_option maxRecDepth 100000 in
set_option maxHeartbeats 1000000 in
theorem plays_3 (g : Nat) (p : List L5) (r : List (List Nat)) (s : Int) (o : Opf) (hk : o.k.length = 32) (w : World) (hT : Tb w g p r s) (hA : Agr p r) (hq : o.kind = 3) : Calls Try.prog 23 #[.pointer (some ⟨g, 0, none⟩), .agg (opF o).toArray] w (Fin w g s) := by
  have k1 : ¬ o.kind = 1 := by omega
  have k2 : ¬ o.kind = 2 := by omega
  obtain ⟨w1, q, r1, b1, e1, hqg⟩ := box55 o w
  obtain ⟨x, pa, xo, ra⟩ := agr_at hA hT.lp o.a
  obtain ⟨y, pb, yo, rb⟩ := agr_at hA hT.lp o.b
  have hT1 := hT.on e1
  refine calls_of_args [.pointer (some ⟨g, 0, none⟩), .agg (opF o).toArray] Try.func23 rfl 301 Try.ntmps23 (by show 2 ≤ 301; decide) ?_
  refine EW.seq ?_
  refine EW.region ?_
  refine WL.box rfl rfl rfl r1 ?_
  refine WL.assign rfl rfl rfl ?_
  refine WL.done ?_
  refine EW.on ?_
  have bq := b1
  refine EW.seq ?_
  refine EW.ordB [(0, false, 0), (1, false, 1), (3, false, 0), (4, false, 1), (6, false, 0), (7, false, 1), (2, true, 1), (5, true, 1), (8, true, 1), (9, false, 0), (10, false, 0), (11, false, 0)] (by kernel_rfl) rfl (by kernel_rfl) ?_
  simp only [opsZ, List.getD_cons_zero, List.getD_cons_succ]
  refine ZE.field rfl rfl rfl sb0 (fun W => ofld1 q W) ?_
  first | refine ZE.load rfl rfl rfl sb1 (fun W hW => ldI (bq.on (sb_of hW)) rfl) ?_ | refine ZE.load rfl rfl rfl sb1 (fun W hW => ldI (bq.on (sb_of hW)) (opF_bit o hk)) ?_
  refine ZE.field rfl rfl rfl sb0 (fun W => ofld2 q W) ?_
  first | refine ZE.load rfl rfl rfl sb1 (fun W hW => ldI (bq.on (sb_of hW)) rfl) ?_ | refine ZE.load rfl rfl rfl sb1 (fun W hW => ldI (bq.on (sb_of hW)) (opF_bit o hk)) ?_
  refine ZE.field rfl rfl rfl sb0 (fun W => ofld3 q W) ?_
  first | refine ZE.load rfl rfl rfl sb1 (fun W hW => ldI (bq.on (sb_of hW)) rfl) ?_ | refine ZE.load rfl rfl rfl sb1 (fun W hW => ldI (bq.on (sb_of hW)) (opF_bit o hk)) ?_
  first | refine ZE.callQ [.int .i64 o.a, .int .i64 4] enter35 rfl rfl rfl sb1 (fun W => rest_num _ W) ?_ | refine ZE.callQ [.int .i64 o.b, .int .i64 4] enter35 rfl rfl rfl sb1 (fun W => rest_num _ W) ?_ | refine ZE.callQ [.int .i64 o.c, .int .i64 4] enter35 rfl rfl rfl sb1 (fun W => rest_num _ W) ?_
  first | refine ZE.callQ [.int .i64 o.a, .int .i64 4] enter35 rfl rfl rfl sb1 (fun W => rest_num _ W) ?_ | refine ZE.callQ [.int .i64 o.b, .int .i64 4] enter35 rfl rfl rfl sb1 (fun W => rest_num _ W) ?_ | refine ZE.callQ [.int .i64 o.c, .int .i64 4] enter35 rfl rfl rfl sb1 (fun W => rest_num _ W) ?_
  first | refine ZE.callQ [.int .i64 o.a, .int .i64 4] enter35 rfl rfl rfl sb1 (fun W => rest_num _ W) ?_ | refine ZE.callQ [.int .i64 o.b, .int .i64 4] enter35 rfl rfl rfl sb1 (fun W => rest_num _ W) ?_ | refine ZE.callQ [.int .i64 o.c, .int .i64 4] enter35 rfl rfl rfl sb1 (fun W => rest_num _ W) ?_
  refine ZE.assign rfl rfl rfl sb0 ?_
  refine ZE.assign rfl rfl rfl sb0 ?_
  refine ZE.assign rfl rfl rfl sb0 ?_
  intro w2 h2
  have hT2 := hT1.on h2
  replace bq := b1.on h2
  have e2 := e1.trans (h2.mono e1.size)
  clear b1 r1
  refine EW.on ?_
  refine EW.seq ?_
  refine EW.seq ?_
  refine EW.region ?_
  refine WL.field rfl rfl rfl (ofld0 q _) ?_
  first | refine WL.load rfl rfl rfl (ldI bq rfl) ?_
  refine WL.done ?_
  refine EW.on ?_
  refine EW.block ?_
  refine EW.seq ?_
  refine EW.region ?_
  refine WL.bin rfl rfl rfl rfl (int_eq_f k1 _ _ _) ?_
  first | refine WL.assign rfl rfl rfl ?_
  refine WL.done ?_
  refine EW.on ?_
  refine EW.cond_f rfl ?_
  refine EW.seq ?_
  refine EW.region ?_
  refine WL.bin rfl rfl rfl rfl (int_eq_f k2 _ _ _) ?_
  first | refine WL.assign rfl rfl rfl ?_
  refine WL.done ?_
  refine EW.on ?_
  refine EW.cond_f rfl ?_
  refine EW.seq ?_
  refine EW.region ?_
  refine WL.bin rfl rfl rfl rfl (int_eq_t hq _ _ _) ?_
  first | refine WL.assign rfl rfl rfl ?_
  refine WL.done ?_
  refine EW.on ?_
  refine EW.cond_t rfl ?_
  refine EW.ordB [(0, false, 0), (1, false, 0), (2, false, 0), (3, false, 0), (4, false, 0), (5, false, 0), (6, false, 0), (7, false, 0), (8, false, 0), (9, false, 1), (10, false, 0), (11, false, 0), (12, false, 0), (13, false, 0), (14, false, 0), (15, false, 1), (17, false, 0), (18, false, 0), (19, false, 0), (20, false, 0), (21, false, 0), (22, false, 1), (23, false, 0), (24, false, 0), (25, false, 0), (26, false, 0), (27, false, 0), (28, false, 1), (30, false, 0), (31, false, 0), (34, false, 0), (35, false, 0), (16, true, 1), (29, true, 1), (32, false, 0), (33, true, 0), (36, false, 0), (37, true, 0)] (by kernel_rfl) rfl (by kernel_rfl) ?_
  simp only [opsZ, List.getD_cons_zero, List.getD_cons_succ]
  refine ZE.move rfl rfl rfl sb0 ?_
  refine ZE.move rfl rfl rfl sb0 ?_
  refine ZE.move rfl rfl rfl sb0 ?_
  refine ZE.move rfl rfl rfl sb0 ?_
  refine ZE.move rfl rfl rfl sb0 ?_
  refine ZE.move rfl rfl rfl sb0 ?_
  refine ZE.nilc rfl rfl rfl sb0 ?_
  refine ZE.field rfl rfl rfl sb0 (fun W => tfld0 g W) ?_
  refine ZE.index rfl rfl rfl rfl sb0 (fun W => idx47 g _ (rs_lt _) W) ?_
  first | refine ZE.load rfl rfl rfl sb1 (fun W hW => run_loadA ((hT2.on (sb_of hW)).elem pa) Try.underlying27 rfl (cs_info _)) ?_ | refine ZE.load rfl rfl rfl sb1 (fun W hW => run_loadA ((hT2.on (sb_of hW)).elem pb) Try.underlying27 rfl (cs_info _)) ?_
  refine ZE.move rfl rfl rfl sb0 ?_
  refine ZE.move rfl rfl rfl sb0 ?_
  refine ZE.nilc rfl rfl rfl sb0 ?_
  refine ZE.field rfl rfl rfl sb0 (fun W => tfld0 g W) ?_
  refine ZE.index rfl rfl rfl rfl sb0 (fun W => idx47 g _ (rs_lt _) W) ?_
  first | refine ZE.load rfl rfl rfl sb1 (fun W hW => run_loadA ((hT2.on (sb_of hW)).elem pa) Try.underlying27 rfl (cs_info _)) ?_ | refine ZE.load rfl rfl rfl sb1 (fun W hW => run_loadA ((hT2.on (sb_of hW)).elem pb) Try.underlying27 rfl (cs_info _)) ?_
  refine ZE.move rfl rfl rfl sb0 ?_
  refine ZE.move rfl rfl rfl sb0 ?_
  refine ZE.nilc rfl rfl rfl sb0 ?_
  refine ZE.field rfl rfl rfl sb0 (fun W => tfld1 g W) ?_
  refine ZE.index rfl rfl rfl rfl sb0 (fun W => idx50 g _ (rs_lt _) W) ?_
  first | refine ZE.load rfl rfl rfl sb1 (fun W hW => run_loadA ((hT2.on (sb_of hW)).numb ra) Try.underlying49 rfl (info49 (nx_nm _).ln)) ?_ | refine ZE.load rfl rfl rfl sb1 (fun W hW => run_loadA ((hT2.on (sb_of hW)).numb rb) Try.underlying49 rfl (info49 (nx_nm _).ln)) ?_
  refine ZE.move rfl rfl rfl sb0 ?_
  refine ZE.move rfl rfl rfl sb0 ?_
  refine ZE.nilc rfl rfl rfl sb0 ?_
  refine ZE.field rfl rfl rfl sb0 (fun W => tfld1 g W) ?_
  refine ZE.index rfl rfl rfl rfl sb0 (fun W => idx50 g _ (rs_lt _) W) ?_
  first | refine ZE.load rfl rfl rfl sb1 (fun W hW => run_loadA ((hT2.on (sb_of hW)).numb ra) Try.underlying49 rfl (info49 (nx_nm _).ln)) ?_ | refine ZE.load rfl rfl rfl sb1 (fun W hW => run_loadA ((hT2.on (sb_of hW)).numb rb) Try.underlying49 rfl (info49 (nx_nm _).ln)) ?_
  refine ZE.nilc rfl rfl rfl sb0 ?_
  refine ZE.field rfl rfl rfl sb0 (fun W => tfld0 g W) ?_
  refine ZE.nilc rfl rfl rfl sb0 ?_
  refine ZE.field rfl rfl rfl sb0 (fun W => tfld1 g W) ?_
  refine ZE.callB [x.v, y.v] enter18 rfl rfl rfl sb1 (fun W _ => add_any x y W) ?_
  refine ZE.callB [.agg (dv (nx x)).toArray, .agg (dv (nx y)).toArray] enter39 rfl rfl rfl sb1 (fun W _ => cAdd xo yo W) ?_
  refine ZE.index rfl rfl rfl rfl sb0 (fun W => idx47 g _ (rs_lt _) W) ?_
  refine ZE.store (CE w2 g (p.set (rs o.c) (addE x y)) r s) rfl rfl rfl sb0 (fun W hW => stE (CE.of hT2 hW) (rs_lt _)) ?_
  refine ZE.index rfl rfl rfl rfl sb0 (fun W => idx50 g _ (rs_lt _) W) ?_
  refine ZE.store (CE w2 g (p.set (rs o.c) (addE x y)) (r.set (rs o.c) (nx (addE x y))) s) rfl rfl rfl sb0 (fun W hW => stN hW (rs_lt _) (nx_nm _)) ?_
  intro w3 h3
  have hA3 := hA.set (by rw [hT.lp, hT.lr]) (rs o.c) (addE x y) (add_ok _ _)
  refine pn_block ?_
  refine EW.on ?_
  refine EW.seq ?_
  refine EW.region ?_
  first | refine WL.assign rfl rfl rfl ?_
  refine WL.done ?_
  refine EW.on ?_
  refine EW.ret ?_
  repeat (first | refine pr_then ?_ | refine pr_block ?_)
  exact EW.returns Try.results23 rfl (fin_of e2 h3 hA3 (by omega) (by omega))
set_option maxRecDepth 100000 in
set_option maxHeartbeats 1000000 in
theorem plays_4 (g : Nat) (p : List L5) (r : List (List Nat)) (s : Int) (o : Opf) (hk : o.k.length = 32) (w : World) (hT : Tb w g p r s) (hA : Agr p r) (hq : o.kind = 4) : Calls Try.prog 23 #[.pointer (some ⟨g, 0, none⟩), .agg (opF o).toArray] w (Fin w g s) := by
  have k1 : ¬ o.kind = 1 := by omega
  have k2 : ¬ o.kind = 2 := by omega
  have k3 : ¬ o.kind = 3 := by omega
  obtain ⟨w1, q, r1, b1, e1, hqg⟩ := box55 o w
  obtain ⟨x, pa, xo, ra⟩ := agr_at hA hT.lp o.a
  obtain ⟨y, pb, yo, rb⟩ := agr_at hA hT.lp o.b
  have hT1 := hT.on e1
  refine calls_of_args [.pointer (some ⟨g, 0, none⟩), .agg (opF o).toArray] Try.func23 rfl 301 Try.ntmps23 (by show 2 ≤ 301; decide) ?_
  refine EW.seq ?_
  refine EW.region ?_
  refine WL.box rfl rfl rfl r1 ?_
  refine WL.assign rfl rfl rfl ?_
  refine WL.done ?_
  refine EW.on ?_
  have bq := b1
  refine EW.seq ?_
  refine EW.ordB [(0, false, 0), (1, false, 1), (3, false, 0), (4, false, 1), (6, false, 0), (7, false, 1), (2, true, 1), (5, true, 1), (8, true, 1), (9, false, 0), (10, false, 0), (11, false, 0)] (by kernel_rfl) rfl (by kernel_rfl) ?_
  simp only [opsZ, List.getD_cons_zero, List.getD_cons_succ]
  refine ZE.field rfl rfl rfl sb0 (fun W => ofld1 q W) ?_
  first | refine ZE.load rfl rfl rfl sb1 (fun W hW => ldI (bq.on (sb_of hW)) rfl) ?_ | refine ZE.load rfl rfl rfl sb1 (fun W hW => ldI (bq.on (sb_of hW)) (opF_bit o hk)) ?_
  refine ZE.field rfl rfl rfl sb0 (fun W => ofld2 q W) ?_
  first | refine ZE.load rfl rfl rfl sb1 (fun W hW => ldI (bq.on (sb_of hW)) rfl) ?_ | refine ZE.load rfl rfl rfl sb1 (fun W hW => ldI (bq.on (sb_of hW)) (opF_bit o hk)) ?_
  refine ZE.field rfl rfl rfl sb0 (fun W => ofld3 q W) ?_
  first | refine ZE.load rfl rfl rfl sb1 (fun W hW => ldI (bq.on (sb_of hW)) rfl) ?_ | refine ZE.load rfl rfl rfl sb1 (fun W hW => ldI (bq.on (sb_of hW)) (opF_bit o hk)) ?_
  first | refine ZE.callQ [.int .i64 o.a, .int .i64 4] enter35 rfl rfl rfl sb1 (fun W => rest_num _ W) ?_ | refine ZE.callQ [.int .i64 o.b, .int .i64 4] enter35 rfl rfl rfl sb1 (fun W => rest_num _ W) ?_ | refine ZE.callQ [.int .i64 o.c, .int .i64 4] enter35 rfl rfl rfl sb1 (fun W => rest_num _ W) ?_
  first | refine ZE.callQ [.int .i64 o.a, .int .i64 4] enter35 rfl rfl rfl sb1 (fun W => rest_num _ W) ?_ | refine ZE.callQ [.int .i64 o.b, .int .i64 4] enter35 rfl rfl rfl sb1 (fun W => rest_num _ W) ?_ | refine ZE.callQ [.int .i64 o.c, .int .i64 4] enter35 rfl rfl rfl sb1 (fun W => rest_num _ W) ?_
  first | refine ZE.callQ [.int .i64 o.a, .int .i64 4] enter35 rfl rfl rfl sb1 (fun W => rest_num _ W) ?_ | refine ZE.callQ [.int .i64 o.b, .int .i64 4] enter35 rfl rfl rfl sb1 (fun W => rest_num _ W) ?_ | refine ZE.callQ [.int .i64 o.c, .int .i64 4] enter35 rfl rfl rfl sb1 (fun W => rest_num _ W) ?_
  refine ZE.assign rfl rfl rfl sb0 ?_
  refine ZE.assign rfl rfl rfl sb0 ?_
  refine ZE.assign rfl rfl rfl sb0 ?_
  intro w2 h2
  have hT2 := hT1.on h2
  replace bq := b1.on h2
  have e2 := e1.trans (h2.mono e1.size)
  clear b1 r1
  refine EW.on ?_
  refine EW.seq ?_
  refine EW.seq ?_
  refine EW.region ?_
  refine WL.field rfl rfl rfl (ofld0 q _) ?_
  first | refine WL.load rfl rfl rfl (ldI bq rfl) ?_
  refine WL.done ?_
  refine EW.on ?_
  refine EW.block ?_
  refine EW.seq ?_
  refine EW.region ?_
  refine WL.bin rfl rfl rfl rfl (int_eq_f k1 _ _ _) ?_
  first | refine WL.assign rfl rfl rfl ?_
  refine WL.done ?_
  refine EW.on ?_
  refine EW.cond_f rfl ?_
  refine EW.seq ?_
  refine EW.region ?_
  refine WL.bin rfl rfl rfl rfl (int_eq_f k2 _ _ _) ?_
  first | refine WL.assign rfl rfl rfl ?_
  refine WL.done ?_
  refine EW.on ?_
  refine EW.cond_f rfl ?_
  refine EW.seq ?_
  refine EW.region ?_
  refine WL.bin rfl rfl rfl rfl (int_eq_f k3 _ _ _) ?_
  first | refine WL.assign rfl rfl rfl ?_
  refine WL.done ?_
  refine EW.on ?_
  refine EW.cond_f rfl ?_
  refine EW.seq ?_
  refine EW.region ?_
  refine WL.bin rfl rfl rfl rfl (int_eq_t hq _ _ _) ?_
  first | refine WL.assign rfl rfl rfl ?_
  refine WL.done ?_
  refine EW.on ?_
  refine EW.cond_t rfl ?_
  refine EW.ordB [(0, false, 0), (1, false, 0), (2, false, 0), (3, false, 0), (4, false, 0), (5, false, 0), (6, false, 0), (7, false, 0), (8, false, 0), (9, false, 1), (10, false, 0), (11, false, 0), (12, false, 0), (13, false, 0), (14, false, 0), (15, false, 1), (17, false, 0), (18, false, 0), (19, false, 0), (20, false, 0), (21, false, 0), (22, false, 1), (23, false, 0), (24, false, 0), (25, false, 0), (26, false, 0), (27, false, 0), (28, false, 1), (30, false, 0), (31, false, 0), (34, false, 0), (35, false, 0), (16, true, 1), (29, true, 1), (32, false, 0), (33, true, 0), (36, false, 0), (37, true, 0)] (by kernel_rfl) rfl (by kernel_rfl) ?_
  simp only [opsZ, List.getD_cons_zero, List.getD_cons_succ]
  refine ZE.move rfl rfl rfl sb0 ?_
  refine ZE.move rfl rfl rfl sb0 ?_
  refine ZE.move rfl rfl rfl sb0 ?_
  refine ZE.move rfl rfl rfl sb0 ?_
  refine ZE.move rfl rfl rfl sb0 ?_
  refine ZE.move rfl rfl rfl sb0 ?_
  refine ZE.nilc rfl rfl rfl sb0 ?_
  refine ZE.field rfl rfl rfl sb0 (fun W => tfld0 g W) ?_
  refine ZE.index rfl rfl rfl rfl sb0 (fun W => idx47 g _ (rs_lt _) W) ?_
  first | refine ZE.load rfl rfl rfl sb1 (fun W hW => run_loadA ((hT2.on (sb_of hW)).elem pa) Try.underlying27 rfl (cs_info _)) ?_ | refine ZE.load rfl rfl rfl sb1 (fun W hW => run_loadA ((hT2.on (sb_of hW)).elem pb) Try.underlying27 rfl (cs_info _)) ?_
  refine ZE.move rfl rfl rfl sb0 ?_
  refine ZE.move rfl rfl rfl sb0 ?_
  refine ZE.nilc rfl rfl rfl sb0 ?_
  refine ZE.field rfl rfl rfl sb0 (fun W => tfld0 g W) ?_
  refine ZE.index rfl rfl rfl rfl sb0 (fun W => idx47 g _ (rs_lt _) W) ?_
  first | refine ZE.load rfl rfl rfl sb1 (fun W hW => run_loadA ((hT2.on (sb_of hW)).elem pa) Try.underlying27 rfl (cs_info _)) ?_ | refine ZE.load rfl rfl rfl sb1 (fun W hW => run_loadA ((hT2.on (sb_of hW)).elem pb) Try.underlying27 rfl (cs_info _)) ?_
  refine ZE.move rfl rfl rfl sb0 ?_
  refine ZE.move rfl rfl rfl sb0 ?_
  refine ZE.nilc rfl rfl rfl sb0 ?_
  refine ZE.field rfl rfl rfl sb0 (fun W => tfld1 g W) ?_
  refine ZE.index rfl rfl rfl rfl sb0 (fun W => idx50 g _ (rs_lt _) W) ?_
  first | refine ZE.load rfl rfl rfl sb1 (fun W hW => run_loadA ((hT2.on (sb_of hW)).numb ra) Try.underlying49 rfl (info49 (nx_nm _).ln)) ?_ | refine ZE.load rfl rfl rfl sb1 (fun W hW => run_loadA ((hT2.on (sb_of hW)).numb rb) Try.underlying49 rfl (info49 (nx_nm _).ln)) ?_
  refine ZE.move rfl rfl rfl sb0 ?_
  refine ZE.move rfl rfl rfl sb0 ?_
  refine ZE.nilc rfl rfl rfl sb0 ?_
  refine ZE.field rfl rfl rfl sb0 (fun W => tfld1 g W) ?_
  refine ZE.index rfl rfl rfl rfl sb0 (fun W => idx50 g _ (rs_lt _) W) ?_
  first | refine ZE.load rfl rfl rfl sb1 (fun W hW => run_loadA ((hT2.on (sb_of hW)).numb ra) Try.underlying49 rfl (info49 (nx_nm _).ln)) ?_ | refine ZE.load rfl rfl rfl sb1 (fun W hW => run_loadA ((hT2.on (sb_of hW)).numb rb) Try.underlying49 rfl (info49 (nx_nm _).ln)) ?_
  refine ZE.nilc rfl rfl rfl sb0 ?_
  refine ZE.field rfl rfl rfl sb0 (fun W => tfld0 g W) ?_
  refine ZE.nilc rfl rfl rfl sb0 ?_
  refine ZE.field rfl rfl rfl sb0 (fun W => tfld1 g W) ?_
  refine ZE.callB [x.v, y.v] enter19 rfl rfl rfl sb1 (fun W _ => sub_any x y W) ?_
  refine ZE.callB [.agg (dv (nx x)).toArray, .agg (dv (nx y)).toArray] enter40 rfl rfl rfl sb1 (fun W _ => cSub xo yo W) ?_
  refine ZE.index rfl rfl rfl rfl sb0 (fun W => idx47 g _ (rs_lt _) W) ?_
  refine ZE.store (CE w2 g (p.set (rs o.c) (subE x y)) r s) rfl rfl rfl sb0 (fun W hW => stE (CE.of hT2 hW) (rs_lt _)) ?_
  refine ZE.index rfl rfl rfl rfl sb0 (fun W => idx50 g _ (rs_lt _) W) ?_
  refine ZE.store (CE w2 g (p.set (rs o.c) (subE x y)) (r.set (rs o.c) (nx (subE x y))) s) rfl rfl rfl sb0 (fun W hW => stN hW (rs_lt _) (nx_nm _)) ?_
  intro w3 h3
  have hA3 := hA.set (by rw [hT.lp, hT.lr]) (rs o.c) (subE x y) (sub_ok _ _)
  refine pn_block ?_
  refine EW.on ?_
  refine EW.seq ?_
  refine EW.region ?_
  first | refine WL.assign rfl rfl rfl ?_
  refine WL.done ?_
  refine EW.on ?_
  refine EW.ret ?_
  repeat (first | refine pr_then ?_ | refine pr_block ?_)
  exact EW.returns Try.results23 rfl (fin_of e2 h3 hA3 (by omega) (by omega))
set_option maxRecDepth 100000 in
set_option maxHeartbeats 1000000 in
theorem plays_5 (g : Nat) (p : List L5) (r : List (List Nat)) (s : Int) (o : Opf) (hk : o.k.length = 32) (w : World) (hT : Tb w g p r s) (hA : Agr p r) (hq : o.kind = 5) : Calls Try.prog 23 #[.pointer (some ⟨g, 0, none⟩), .agg (opF o).toArray] w (Fin w g s) := by
  have k1 : ¬ o.kind = 1 := by omega
  have k2 : ¬ o.kind = 2 := by omega
  have k3 : ¬ o.kind = 3 := by omega
  have k4 : ¬ o.kind = 4 := by omega
  obtain ⟨w1, q, r1, b1, e1, hqg⟩ := box55 o w
  obtain ⟨x, pa, xo, ra⟩ := agr_at hA hT.lp o.a
  obtain ⟨y, pb, yo, rb⟩ := agr_at hA hT.lp o.b
  have hT1 := hT.on e1
  refine calls_of_args [.pointer (some ⟨g, 0, none⟩), .agg (opF o).toArray] Try.func23 rfl 301 Try.ntmps23 (by show 2 ≤ 301; decide) ?_
  refine EW.seq ?_
  refine EW.region ?_
  refine WL.box rfl rfl rfl r1 ?_
  refine WL.assign rfl rfl rfl ?_
  refine WL.done ?_
  refine EW.on ?_
  have bq := b1
  refine EW.seq ?_
  refine EW.ordB [(0, false, 0), (1, false, 1), (3, false, 0), (4, false, 1), (6, false, 0), (7, false, 1), (2, true, 1), (5, true, 1), (8, true, 1), (9, false, 0), (10, false, 0), (11, false, 0)] (by kernel_rfl) rfl (by kernel_rfl) ?_
  simp only [opsZ, List.getD_cons_zero, List.getD_cons_succ]
  refine ZE.field rfl rfl rfl sb0 (fun W => ofld1 q W) ?_
  first | refine ZE.load rfl rfl rfl sb1 (fun W hW => ldI (bq.on (sb_of hW)) rfl) ?_ | refine ZE.load rfl rfl rfl sb1 (fun W hW => ldI (bq.on (sb_of hW)) (opF_bit o hk)) ?_
  refine ZE.field rfl rfl rfl sb0 (fun W => ofld2 q W) ?_
  first | refine ZE.load rfl rfl rfl sb1 (fun W hW => ldI (bq.on (sb_of hW)) rfl) ?_ | refine ZE.load rfl rfl rfl sb1 (fun W hW => ldI (bq.on (sb_of hW)) (opF_bit o hk)) ?_
  refine ZE.field rfl rfl rfl sb0 (fun W => ofld3 q W) ?_
  first | refine ZE.load rfl rfl rfl sb1 (fun W hW => ldI (bq.on (sb_of hW)) rfl) ?_ | refine ZE.load rfl rfl rfl sb1 (fun W hW => ldI (bq.on (sb_of hW)) (opF_bit o hk)) ?_
  first | refine ZE.callQ [.int .i64 o.a, .int .i64 4] enter35 rfl rfl rfl sb1 (fun W => rest_num _ W) ?_ | refine ZE.callQ [.int .i64 o.b, .int .i64 4] enter35 rfl rfl rfl sb1 (fun W => rest_num _ W) ?_ | refine ZE.callQ [.int .i64 o.c, .int .i64 4] enter35 rfl rfl rfl sb1 (fun W => rest_num _ W) ?_
  first | refine ZE.callQ [.int .i64 o.a, .int .i64 4] enter35 rfl rfl rfl sb1 (fun W => rest_num _ W) ?_ | refine ZE.callQ [.int .i64 o.b, .int .i64 4] enter35 rfl rfl rfl sb1 (fun W => rest_num _ W) ?_ | refine ZE.callQ [.int .i64 o.c, .int .i64 4] enter35 rfl rfl rfl sb1 (fun W => rest_num _ W) ?_
  first | refine ZE.callQ [.int .i64 o.a, .int .i64 4] enter35 rfl rfl rfl sb1 (fun W => rest_num _ W) ?_ | refine ZE.callQ [.int .i64 o.b, .int .i64 4] enter35 rfl rfl rfl sb1 (fun W => rest_num _ W) ?_ | refine ZE.callQ [.int .i64 o.c, .int .i64 4] enter35 rfl rfl rfl sb1 (fun W => rest_num _ W) ?_
  refine ZE.assign rfl rfl rfl sb0 ?_
  refine ZE.assign rfl rfl rfl sb0 ?_
  refine ZE.assign rfl rfl rfl sb0 ?_
  intro w2 h2
  have hT2 := hT1.on h2
  replace bq := b1.on h2
  have e2 := e1.trans (h2.mono e1.size)
  clear b1 r1
  refine EW.on ?_
  refine EW.seq ?_
  refine EW.seq ?_
  refine EW.region ?_
  refine WL.field rfl rfl rfl (ofld0 q _) ?_
  first | refine WL.load rfl rfl rfl (ldI bq rfl) ?_
  refine WL.done ?_
  refine EW.on ?_
  refine EW.block ?_
  refine EW.seq ?_
  refine EW.region ?_
  refine WL.bin rfl rfl rfl rfl (int_eq_f k1 _ _ _) ?_
  first | refine WL.assign rfl rfl rfl ?_
  refine WL.done ?_
  refine EW.on ?_
  refine EW.cond_f rfl ?_
  refine EW.seq ?_
  refine EW.region ?_
  refine WL.bin rfl rfl rfl rfl (int_eq_f k2 _ _ _) ?_
  first | refine WL.assign rfl rfl rfl ?_
  refine WL.done ?_
  refine EW.on ?_
  refine EW.cond_f rfl ?_
  refine EW.seq ?_
  refine EW.region ?_
  refine WL.bin rfl rfl rfl rfl (int_eq_f k3 _ _ _) ?_
  first | refine WL.assign rfl rfl rfl ?_
  refine WL.done ?_
  refine EW.on ?_
  refine EW.cond_f rfl ?_
  refine EW.seq ?_
  refine EW.region ?_
  refine WL.bin rfl rfl rfl rfl (int_eq_f k4 _ _ _) ?_
  first | refine WL.assign rfl rfl rfl ?_
  refine WL.done ?_
  refine EW.on ?_
  refine EW.cond_f rfl ?_
  refine EW.seq ?_
  refine EW.region ?_
  refine WL.bin rfl rfl rfl rfl (int_eq_t hq _ _ _) ?_
  first | refine WL.assign rfl rfl rfl ?_
  refine WL.done ?_
  refine EW.on ?_
  refine EW.cond_t rfl ?_
  refine EW.ordB [(0, false, 0), (1, false, 0), (2, false, 0), (3, false, 0), (4, false, 0), (5, false, 0), (6, false, 0), (7, false, 0), (8, false, 0), (9, false, 1), (10, false, 0), (11, false, 0), (12, false, 0), (13, false, 0), (14, false, 0), (15, false, 1), (17, false, 0), (18, false, 0), (19, false, 0), (20, false, 0), (21, false, 0), (22, false, 1), (23, false, 0), (24, false, 0), (25, false, 0), (26, false, 0), (27, false, 0), (28, false, 1), (30, false, 0), (31, false, 0), (34, false, 0), (35, false, 0), (16, true, 1), (29, true, 1), (32, false, 0), (33, true, 0), (36, false, 0), (37, true, 0)] (by kernel_rfl) rfl (by kernel_rfl) ?_
  simp only [opsZ, List.getD_cons_zero, List.getD_cons_succ]
  refine ZE.move rfl rfl rfl sb0 ?_
  refine ZE.move rfl rfl rfl sb0 ?_
  refine ZE.move rfl rfl rfl sb0 ?_
  refine ZE.move rfl rfl rfl sb0 ?_
  refine ZE.move rfl rfl rfl sb0 ?_
  refine ZE.move rfl rfl rfl sb0 ?_
  refine ZE.nilc rfl rfl rfl sb0 ?_
  refine ZE.field rfl rfl rfl sb0 (fun W => tfld0 g W) ?_
  refine ZE.index rfl rfl rfl rfl sb0 (fun W => idx47 g _ (rs_lt _) W) ?_
  first | refine ZE.load rfl rfl rfl sb1 (fun W hW => run_loadA ((hT2.on (sb_of hW)).elem pa) Try.underlying27 rfl (cs_info _)) ?_ | refine ZE.load rfl rfl rfl sb1 (fun W hW => run_loadA ((hT2.on (sb_of hW)).elem pb) Try.underlying27 rfl (cs_info _)) ?_
  refine ZE.move rfl rfl rfl sb0 ?_
  refine ZE.move rfl rfl rfl sb0 ?_
  refine ZE.nilc rfl rfl rfl sb0 ?_
  refine ZE.field rfl rfl rfl sb0 (fun W => tfld0 g W) ?_
  refine ZE.index rfl rfl rfl rfl sb0 (fun W => idx47 g _ (rs_lt _) W) ?_
  first | refine ZE.load rfl rfl rfl sb1 (fun W hW => run_loadA ((hT2.on (sb_of hW)).elem pa) Try.underlying27 rfl (cs_info _)) ?_ | refine ZE.load rfl rfl rfl sb1 (fun W hW => run_loadA ((hT2.on (sb_of hW)).elem pb) Try.underlying27 rfl (cs_info _)) ?_
  refine ZE.move rfl rfl rfl sb0 ?_
  refine ZE.move rfl rfl rfl sb0 ?_
  refine ZE.nilc rfl rfl rfl sb0 ?_
  refine ZE.field rfl rfl rfl sb0 (fun W => tfld1 g W) ?_
  refine ZE.index rfl rfl rfl rfl sb0 (fun W => idx50 g _ (rs_lt _) W) ?_
  first | refine ZE.load rfl rfl rfl sb1 (fun W hW => run_loadA ((hT2.on (sb_of hW)).numb ra) Try.underlying49 rfl (info49 (nx_nm _).ln)) ?_ | refine ZE.load rfl rfl rfl sb1 (fun W hW => run_loadA ((hT2.on (sb_of hW)).numb rb) Try.underlying49 rfl (info49 (nx_nm _).ln)) ?_
  refine ZE.move rfl rfl rfl sb0 ?_
  refine ZE.move rfl rfl rfl sb0 ?_
  refine ZE.nilc rfl rfl rfl sb0 ?_
  refine ZE.field rfl rfl rfl sb0 (fun W => tfld1 g W) ?_
  refine ZE.index rfl rfl rfl rfl sb0 (fun W => idx50 g _ (rs_lt _) W) ?_
  first | refine ZE.load rfl rfl rfl sb1 (fun W hW => run_loadA ((hT2.on (sb_of hW)).numb ra) Try.underlying49 rfl (info49 (nx_nm _).ln)) ?_ | refine ZE.load rfl rfl rfl sb1 (fun W hW => run_loadA ((hT2.on (sb_of hW)).numb rb) Try.underlying49 rfl (info49 (nx_nm _).ln)) ?_
  refine ZE.nilc rfl rfl rfl sb0 ?_
  refine ZE.field rfl rfl rfl sb0 (fun W => tfld0 g W) ?_
  refine ZE.nilc rfl rfl rfl sb0 ?_
  refine ZE.field rfl rfl rfl sb0 (fun W => tfld1 g W) ?_
  refine ZE.callB [x.v, y.v] enter16 rfl rfl rfl sb1 (fun W _ => mul_any x y W) ?_
  refine ZE.callB [.agg (dv (nx x)).toArray, .agg (dv (nx y)).toArray] enter41 rfl rfl rfl sb1 (fun W _ => cMul xo yo W) ?_
  refine ZE.index rfl rfl rfl rfl sb0 (fun W => idx47 g _ (rs_lt _) W) ?_
  refine ZE.store (CE w2 g (p.set (rs o.c) (mulE x y)) r s) rfl rfl rfl sb0 (fun W hW => stE (CE.of hT2 hW) (rs_lt _)) ?_
  refine ZE.index rfl rfl rfl rfl sb0 (fun W => idx50 g _ (rs_lt _) W) ?_
  refine ZE.store (CE w2 g (p.set (rs o.c) (mulE x y)) (r.set (rs o.c) (nx (mulE x y))) s) rfl rfl rfl sb0 (fun W hW => stN hW (rs_lt _) (nx_nm _)) ?_
  intro w3 h3
  have hA3 := hA.set (by rw [hT.lp, hT.lr]) (rs o.c) (mulE x y) (mul_ok _ _)
  refine pn_block ?_
  refine EW.on ?_
  refine EW.seq ?_
  refine EW.region ?_
  first | refine WL.assign rfl rfl rfl ?_
  refine WL.done ?_
  refine EW.on ?_
  refine EW.ret ?_
  repeat (first | refine pr_then ?_ | refine pr_block ?_)
  exact EW.returns Try.results23 rfl (fin_of e2 h3 hA3 (by omega) (by omega))
set_option maxRecDepth 100000 in
set_option maxHeartbeats 1000000 in
theorem plays_6 (g : Nat) (p : List L5) (r : List (List Nat)) (s : Int) (o : Opf) (hk : o.k.length = 32) (w : World) (hT : Tb w g p r s) (hA : Agr p r) (hq : o.kind = 6) : Calls Try.prog 23 #[.pointer (some ⟨g, 0, none⟩), .agg (opF o).toArray] w (Fin w g s) := by
  have k1 : ¬ o.kind = 1 := by omega
  have k2 : ¬ o.kind = 2 := by omega
  have k3 : ¬ o.kind = 3 := by omega
  have k4 : ¬ o.kind = 4 := by omega
  have k5 : ¬ o.kind = 5 := by omega
  obtain ⟨w1, q, r1, b1, e1, hqg⟩ := box55 o w
  obtain ⟨x, pa, xo, ra⟩ := agr_at hA hT.lp o.a
  obtain ⟨y, pb, yo, rb⟩ := agr_at hA hT.lp o.b
  have hT1 := hT.on e1
  refine calls_of_args [.pointer (some ⟨g, 0, none⟩), .agg (opF o).toArray] Try.func23 rfl 301 Try.ntmps23 (by show 2 ≤ 301; decide) ?_
  refine EW.seq ?_
  refine EW.region ?_
  refine WL.box rfl rfl rfl r1 ?_
  refine WL.assign rfl rfl rfl ?_
  refine WL.done ?_
  refine EW.on ?_
  have bq := b1
  refine EW.seq ?_
  refine EW.ordB [(0, false, 0), (1, false, 1), (3, false, 0), (4, false, 1), (6, false, 0), (7, false, 1), (2, true, 1), (5, true, 1), (8, true, 1), (9, false, 0), (10, false, 0), (11, false, 0)] (by kernel_rfl) rfl (by kernel_rfl) ?_
  simp only [opsZ, List.getD_cons_zero, List.getD_cons_succ]
  refine ZE.field rfl rfl rfl sb0 (fun W => ofld1 q W) ?_
  first | refine ZE.load rfl rfl rfl sb1 (fun W hW => ldI (bq.on (sb_of hW)) rfl) ?_ | refine ZE.load rfl rfl rfl sb1 (fun W hW => ldI (bq.on (sb_of hW)) (opF_bit o hk)) ?_
  refine ZE.field rfl rfl rfl sb0 (fun W => ofld2 q W) ?_
  first | refine ZE.load rfl rfl rfl sb1 (fun W hW => ldI (bq.on (sb_of hW)) rfl) ?_ | refine ZE.load rfl rfl rfl sb1 (fun W hW => ldI (bq.on (sb_of hW)) (opF_bit o hk)) ?_
  refine ZE.field rfl rfl rfl sb0 (fun W => ofld3 q W) ?_
  first | refine ZE.load rfl rfl rfl sb1 (fun W hW => ldI (bq.on (sb_of hW)) rfl) ?_ | refine ZE.load rfl rfl rfl sb1 (fun W hW => ldI (bq.on (sb_of hW)) (opF_bit o hk)) ?_
  first | refine ZE.callQ [.int .i64 o.a, .int .i64 4] enter35 rfl rfl rfl sb1 (fun W => rest_num _ W) ?_ | refine ZE.callQ [.int .i64 o.b, .int .i64 4] enter35 rfl rfl rfl sb1 (fun W => rest_num _ W) ?_ | refine ZE.callQ [.int .i64 o.c, .int .i64 4] enter35 rfl rfl rfl sb1 (fun W => rest_num _ W) ?_
  first | refine ZE.callQ [.int .i64 o.a, .int .i64 4] enter35 rfl rfl rfl sb1 (fun W => rest_num _ W) ?_ | refine ZE.callQ [.int .i64 o.b, .int .i64 4] enter35 rfl rfl rfl sb1 (fun W => rest_num _ W) ?_ | refine ZE.callQ [.int .i64 o.c, .int .i64 4] enter35 rfl rfl rfl sb1 (fun W => rest_num _ W) ?_
  first | refine ZE.callQ [.int .i64 o.a, .int .i64 4] enter35 rfl rfl rfl sb1 (fun W => rest_num _ W) ?_ | refine ZE.callQ [.int .i64 o.b, .int .i64 4] enter35 rfl rfl rfl sb1 (fun W => rest_num _ W) ?_ | refine ZE.callQ [.int .i64 o.c, .int .i64 4] enter35 rfl rfl rfl sb1 (fun W => rest_num _ W) ?_
  refine ZE.assign rfl rfl rfl sb0 ?_
  refine ZE.assign rfl rfl rfl sb0 ?_
  refine ZE.assign rfl rfl rfl sb0 ?_
  intro w2 h2
  have hT2 := hT1.on h2
  replace bq := b1.on h2
  have e2 := e1.trans (h2.mono e1.size)
  clear b1 r1
  refine EW.on ?_
  refine EW.seq ?_
  refine EW.seq ?_
  refine EW.region ?_
  refine WL.field rfl rfl rfl (ofld0 q _) ?_
  first | refine WL.load rfl rfl rfl (ldI bq rfl) ?_
  refine WL.done ?_
  refine EW.on ?_
  refine EW.block ?_
  refine EW.seq ?_
  refine EW.region ?_
  refine WL.bin rfl rfl rfl rfl (int_eq_f k1 _ _ _) ?_
  first | refine WL.assign rfl rfl rfl ?_
  refine WL.done ?_
  refine EW.on ?_
  refine EW.cond_f rfl ?_
  refine EW.seq ?_
  refine EW.region ?_
  refine WL.bin rfl rfl rfl rfl (int_eq_f k2 _ _ _) ?_
  first | refine WL.assign rfl rfl rfl ?_
  refine WL.done ?_
  refine EW.on ?_
  refine EW.cond_f rfl ?_
  refine EW.seq ?_
  refine EW.region ?_
  refine WL.bin rfl rfl rfl rfl (int_eq_f k3 _ _ _) ?_
  first | refine WL.assign rfl rfl rfl ?_
  refine WL.done ?_
  refine EW.on ?_
  refine EW.cond_f rfl ?_
  refine EW.seq ?_
  refine EW.region ?_
  refine WL.bin rfl rfl rfl rfl (int_eq_f k4 _ _ _) ?_
  first | refine WL.assign rfl rfl rfl ?_
  refine WL.done ?_
  refine EW.on ?_
  refine EW.cond_f rfl ?_
  refine EW.seq ?_
  refine EW.region ?_
  refine WL.bin rfl rfl rfl rfl (int_eq_f k5 _ _ _) ?_
  first | refine WL.assign rfl rfl rfl ?_
  refine WL.done ?_
  refine EW.on ?_
  refine EW.cond_f rfl ?_
  refine EW.seq ?_
  refine EW.region ?_
  refine WL.bin rfl rfl rfl rfl (int_eq_t hq _ _ _) ?_
  first | refine WL.assign rfl rfl rfl ?_
  refine WL.done ?_
  refine EW.on ?_
  refine EW.cond_t rfl ?_
  refine EW.ordB [(0, false, 0), (1, false, 0), (2, false, 0), (3, false, 0), (4, false, 0), (5, false, 0), (6, false, 0), (7, false, 0), (8, false, 0), (9, false, 1), (11, false, 0), (12, false, 0), (13, false, 0), (14, false, 0), (15, false, 0), (16, false, 1), (17, false, 0), (18, false, 0), (19, false, 0), (20, false, 0), (21, false, 0), (22, false, 1), (24, false, 0), (25, false, 0), (28, false, 0), (29, false, 0), (10, true, 1), (23, true, 1), (26, false, 0), (27, true, 0), (30, false, 0), (31, true, 0)] (by kernel_rfl) rfl (by kernel_rfl) ?_
  simp only [opsZ, List.getD_cons_zero, List.getD_cons_succ]
  refine ZE.move rfl rfl rfl sb0 ?_
  refine ZE.move rfl rfl rfl sb0 ?_
  refine ZE.move rfl rfl rfl sb0 ?_
  refine ZE.move rfl rfl rfl sb0 ?_
  refine ZE.move rfl rfl rfl sb0 ?_
  refine ZE.move rfl rfl rfl sb0 ?_
  refine ZE.nilc rfl rfl rfl sb0 ?_
  refine ZE.field rfl rfl rfl sb0 (fun W => tfld0 g W) ?_
  refine ZE.index rfl rfl rfl rfl sb0 (fun W => idx47 g _ (rs_lt _) W) ?_
  first | refine ZE.load rfl rfl rfl sb1 (fun W hW => run_loadA ((hT2.on (sb_of hW)).elem pa) Try.underlying27 rfl (cs_info _)) ?_ | refine ZE.load rfl rfl rfl sb1 (fun W hW => run_loadA ((hT2.on (sb_of hW)).elem pb) Try.underlying27 rfl (cs_info _)) ?_
  refine ZE.move rfl rfl rfl sb0 ?_
  refine ZE.move rfl rfl rfl sb0 ?_
  refine ZE.nilc rfl rfl rfl sb0 ?_
  refine ZE.field rfl rfl rfl sb0 (fun W => tfld1 g W) ?_
  refine ZE.index rfl rfl rfl rfl sb0 (fun W => idx50 g _ (rs_lt _) W) ?_
  first | refine ZE.load rfl rfl rfl sb1 (fun W hW => run_loadA ((hT2.on (sb_of hW)).numb ra) Try.underlying49 rfl (info49 (nx_nm _).ln)) ?_ | refine ZE.load rfl rfl rfl sb1 (fun W hW => run_loadA ((hT2.on (sb_of hW)).numb rb) Try.underlying49 rfl (info49 (nx_nm _).ln)) ?_
  refine ZE.move rfl rfl rfl sb0 ?_
  refine ZE.move rfl rfl rfl sb0 ?_
  refine ZE.nilc rfl rfl rfl sb0 ?_
  refine ZE.field rfl rfl rfl sb0 (fun W => tfld1 g W) ?_
  refine ZE.index rfl rfl rfl rfl sb0 (fun W => idx50 g _ (rs_lt _) W) ?_
  first | refine ZE.load rfl rfl rfl sb1 (fun W hW => run_loadA ((hT2.on (sb_of hW)).numb ra) Try.underlying49 rfl (info49 (nx_nm _).ln)) ?_ | refine ZE.load rfl rfl rfl sb1 (fun W hW => run_loadA ((hT2.on (sb_of hW)).numb rb) Try.underlying49 rfl (info49 (nx_nm _).ln)) ?_
  refine ZE.nilc rfl rfl rfl sb0 ?_
  refine ZE.field rfl rfl rfl sb0 (fun W => tfld0 g W) ?_
  refine ZE.nilc rfl rfl rfl sb0 ?_
  refine ZE.field rfl rfl rfl sb0 (fun W => tfld1 g W) ?_
  refine ZE.callB [x.v] enter20 rfl rfl rfl sb1 (fun W _ => square_any x W) ?_
  refine ZE.callB [.agg (dv (nx x)).toArray, .agg (dv (nx x)).toArray] enter41 rfl rfl rfl sb1 (fun W _ => cMul xo xo W) ?_
  refine ZE.index rfl rfl rfl rfl sb0 (fun W => idx47 g _ (rs_lt _) W) ?_
  refine ZE.store (CE w2 g (p.set (rs o.c) (mulE x x)) r s) rfl rfl rfl sb0 (fun W hW => stE (CE.of hT2 hW) (rs_lt _)) ?_
  refine ZE.index rfl rfl rfl rfl sb0 (fun W => idx50 g _ (rs_lt _) W) ?_
  refine ZE.store (CE w2 g (p.set (rs o.c) (mulE x x)) (r.set (rs o.c) (nx (mulE x x))) s) rfl rfl rfl sb0 (fun W hW => stN hW (rs_lt _) (nx_nm _)) ?_
  intro w3 h3
  have hA3 := hA.set (by rw [hT.lp, hT.lr]) (rs o.c) (mulE x x) (mul_ok _ _)
  refine pn_block ?_
  refine EW.on ?_
  refine EW.seq ?_
  refine EW.region ?_
  first | refine WL.assign rfl rfl rfl ?_
  refine WL.done ?_
  refine EW.on ?_
  refine EW.ret ?_
  repeat (first | refine pr_then ?_ | refine pr_block ?_)
  exact EW.returns Try.results23 rfl (fin_of e2 h3 hA3 (by omega) (by omega))
end Go.Proofs.Ytnakeieeopbeiaa
