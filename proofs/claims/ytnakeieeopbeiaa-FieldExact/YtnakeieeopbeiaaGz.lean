import Derived.Test.YtnakeieeopbeiaaGy
set_option linter.unusedVariables false
set_option linter.unusedSimpArgs false
namespace Go.Proofs.Ytnakeieeopbeiaa
open Go.RowKit Prm

theorem powers_all (g : Nat) (p : List L5) (r : List (List Nat)) (s : Int) (o : Opf) (hk : o.k.length = 32) (w : World) (hT : Tb w g p r s) (hA : Agr p r) (hs : 0 ≤ s) (hs1 : s ≤ 100) (hq : o.kind = 7 ∨ o.kind = 8 ∨ o.kind = 9) : Calls Try.prog 42 #[.pointer (some ⟨g, 0, none⟩), .agg (opF o).toArray] w (Fin w g s) := by
  by_cases h5 : 4 < s + 1
  · exact powers_slow g p r s o hk w hT hA hs hs1 h5
  · rcases hq with hq | hq | hq
    · exact powers_7 g p r s o hk w hT hA hs hs1 h5 hq
    · exact powers_8 g p r s o hk w hT hA hs hs1 h5 hq
    · exact powers_9 g p r s o hk w hT hA hs hs1 h5 hq
theorem Fin.after {w w2 W : World} {g : Nat} {s : Int} {e : Ending} (h : Below w.heap.size w w2) (k : Fin w2 g s e W) : Fin w g s e W := by
  obtain ⟨h1, p, r, s', h2, h3, h4, h5⟩ := k
  exact ⟨h1, p, r, s', ⟨h2.1, Fx.after h h2.2⟩, h3, h4, h5⟩
theorem ld55 {W : World} {q : Nat} {o : Opf} (hk : o.k.length = 32) (hb : Blk W q (opF o) 55) : (Instr.loadAt 55 (.pointer (some ⟨q, 0, none⟩))).run Try.prog W = .ok (.agg (opF o).toArray) W := run_loadR hb Try.underlying55 rfl (by rw [opF_len o hk]; rfl)
theorem set_self {α : Type} {l : List α} {i : Nat} {x : α} (h : l[i]? = some x) : l.set i x = l := by
  obtain ⟨hi, rfl⟩ := List.getElem?_eq_some_iff.1 h
  exact List.set_getElem_self hi
theorem Agr.swap {p : List L5} {r : List (List Nat)} (h : Agr p r) (hl : p.length = r.length) {a b : Nat} {x y : L5} (ha : p[a]? = some x) (hb : p[b]? = some y) : Agr ((p.set a y).set b x) ((r.set a (nx y)).set b (nx x)) :=
  (h.set hl a y (h.ok b y hb)).set (by simp [hl]) b x (h.ok a x ha)
theorem and1_i64z (z : Int) : bits .and .i64 z (1 : Int) = z % 2 := by
  have e : ((BitVec.ofInt 64 z &&& BitVec.ofInt 64 1).toNat : Int) = z % 2 := by
    rw [show BitVec.ofInt 64 1 = 1#64 from rfl, and1_bv, BitVec.toNat_ofInt]
    omega
  show IntKind.i64.wrap ((BitVec.ofInt 64 z &&& BitVec.ofInt 64 1).toNat : Int) = _
  rw [e, IntKind.wrap_i64]
  omega
theorem bit_odd {z : Int} (h : z % 2 = 1) : bits .and .i64 z (1 : Int) = 1 := by
  rw [and1_i64z]; omega
theorem bit_even {z : Int} (h : z % 2 = 0) : bits .and .i64 z (1 : Int) = 0 := by
  rw [and1_i64z]; omega
theorem and1_t {z : Int} (h : z % 2 = 1) (W : World) (x y : Operand) : (do eqGuard .and 3 x y (.int .i64 z) (.int .i64 1); binOp .and 3 (.int .i64 z) (.int .i64 1) : Sem Value).run Try.prog W = .ok (.int .i64 1) W := by
  have e := bit_odd h
  go_simp
theorem and1_f {z : Int} (h : z % 2 = 0) (W : World) (x y : Operand) : (do eqGuard .and 3 x y (.int .i64 z) (.int .i64 1); binOp .and 3 (.int .i64 z) (.int .i64 1) : Sem Value).run Try.prog W = .ok (.int .i64 0) W := by
  have e := bit_even h
  go_simp
set_option maxRecDepth 100000 in
set_option maxHeartbeats 1000000 in
theorem plays_7 (g : Nat) (p : List L5) (r : List (List Nat)) (s : Int) (o : Opf) (hk : o.k.length = 32) (w : World) (hT : Tb w g p r s) (hA : Agr p r) (hs : 0 ≤ s) (hs1 : s ≤ 100) (hq : o.kind = 7) : Calls Try.prog 23 #[.pointer (some ⟨g, 0, none⟩), .agg (opF o).toArray] w (Fin w g s) := by
  have k1 : ¬ o.kind = 1 := by omega
  have k2 : ¬ o.kind = 2 := by omega
  have k3 : ¬ o.kind = 3 := by omega
  have k4 : ¬ o.kind = 4 := by omega
  have k5 : ¬ o.kind = 5 := by omega
  have k6 : ¬ o.kind = 6 := by omega
  obtain ⟨w1, q, r1, b1, e1, hqg⟩ := box55 o w
  obtain ⟨x, pa, xo, ra⟩ := agr_at hA hT.lp o.a
  obtain ⟨y, pb, yo, rb⟩ := agr_at hA hT.lp o.b
  have hT1 := hT.on e1
  refine calls_of_args [.pointer (some ⟨g, 0, none⟩), .agg (opF o).toArray] Try.func23 rfl 301 Try.ntmps23 (by show 2 ≤ 301; decide) ?_
  refine EW.seq ?_
  refine EW.region ?_
  refine WL.box rfl rfl rfl r1 ?_
  refine WL.assign rfl rfl rfl ?_
  refine WL.done ?_
  refine EW.on ?_
  have bq := b1
  refine EW.seq ?_
  refine EW.ordB [(0, false, 0), (1, false, 1), (3, false, 0), (4, false, 1), (6, false, 0), (7, false, 1), (2, true, 1), (5, true, 1), (8, true, 1), (9, false, 0), (10, false, 0), (11, false, 0)] (by kernel_rfl) rfl (by kernel_rfl) ?_
  simp only [opsZ, List.getD_cons_zero, List.getD_cons_succ]
  refine ZE.field rfl rfl rfl sb0 (fun W => ofld1 q W) ?_
  first | refine ZE.load rfl rfl rfl sb1 (fun W hW => ldI (bq.on (sb_of hW)) rfl) ?_ | refine ZE.load rfl rfl rfl sb1 (fun W hW => ldI (bq.on (sb_of hW)) (opF_bit o hk)) ?_
  refine ZE.field rfl rfl rfl sb0 (fun W => ofld2 q W) ?_
  first | refine ZE.load rfl rfl rfl sb1 (fun W hW => ldI (bq.on (sb_of hW)) rfl) ?_ | refine ZE.load rfl rfl rfl sb1 (fun W hW => ldI (bq.on (sb_of hW)) (opF_bit o hk)) ?_
  refine ZE.field rfl rfl rfl sb0 (fun W => ofld3 q W) ?_
  first | refine ZE.load rfl rfl rfl sb1 (fun W hW => ldI (bq.on (sb_of hW)) rfl) ?_ | refine ZE.load rfl rfl rfl sb1 (fun W hW => ldI (bq.on (sb_of hW)) (opF_bit o hk)) ?_
  first | refine ZE.callQ [.int .i64 o.a, .int .i64 4] enter35 rfl rfl rfl sb1 (fun W => rest_num _ W) ?_ | refine ZE.callQ [.int .i64 o.b, .int .i64 4] enter35 rfl rfl rfl sb1 (fun W => rest_num _ W) ?_ | refine ZE.callQ [.int .i64 o.c, .int .i64 4] enter35 rfl rfl rfl sb1 (fun W => rest_num _ W) ?_
  first | refine ZE.callQ [.int .i64 o.a, .int .i64 4] enter35 rfl rfl rfl sb1 (fun W => rest_num _ W) ?_ | refine ZE.callQ [.int .i64 o.b, .int .i64 4] enter35 rfl rfl rfl sb1 (fun W => rest_num _ W) ?_ | refine ZE.callQ [.int .i64 o.c, .int .i64 4] enter35 rfl rfl rfl sb1 (fun W => rest_num _ W) ?_
  first | refine ZE.callQ [.int .i64 o.a, .int .i64 4] enter35 rfl rfl rfl sb1 (fun W => rest_num _ W) ?_ | refine ZE.callQ [.int .i64 o.b, .int .i64 4] enter35 rfl rfl rfl sb1 (fun W => rest_num _ W) ?_ | refine ZE.callQ [.int .i64 o.c, .int .i64 4] enter35 rfl rfl rfl sb1 (fun W => rest_num _ W) ?_
  refine ZE.assign rfl rfl rfl sb0 ?_
  refine ZE.assign rfl rfl rfl sb0 ?_
  refine ZE.assign rfl rfl rfl sb0 ?_
  intro w2 h2
  have hT2 := hT1.on h2
  replace bq := b1.on h2
  have e2 := e1.trans (h2.mono e1.size)
  clear b1 r1
  refine EW.on ?_
  refine EW.seq ?_
  refine EW.seq ?_
  refine EW.region ?_
  refine WL.field rfl rfl rfl (ofld0 q _) ?_
  first | refine WL.load rfl rfl rfl (ldI bq rfl) ?_
  refine WL.done ?_
  refine EW.on ?_
  refine EW.block ?_
  refine EW.seq ?_
  refine EW.region ?_
  refine WL.bin rfl rfl rfl rfl (int_eq_f k1 _ _ _) ?_
  first | refine WL.assign rfl rfl rfl ?_
  refine WL.done ?_
  refine EW.on ?_
  refine EW.cond_f rfl ?_
  refine EW.seq ?_
  refine EW.region ?_
  refine WL.bin rfl rfl rfl rfl (int_eq_f k2 _ _ _) ?_
  first | refine WL.assign rfl rfl rfl ?_
  refine WL.done ?_
  refine EW.on ?_
  refine EW.cond_f rfl ?_
  refine EW.seq ?_
  refine EW.region ?_
  refine WL.bin rfl rfl rfl rfl (int_eq_f k3 _ _ _) ?_
  first | refine WL.assign rfl rfl rfl ?_
  refine WL.done ?_
  refine EW.on ?_
  refine EW.cond_f rfl ?_
  refine EW.seq ?_
  refine EW.region ?_
  refine WL.bin rfl rfl rfl rfl (int_eq_f k4 _ _ _) ?_
  first | refine WL.assign rfl rfl rfl ?_
  refine WL.done ?_
  refine EW.on ?_
  refine EW.cond_f rfl ?_
  refine EW.seq ?_
  refine EW.region ?_
  refine WL.bin rfl rfl rfl rfl (int_eq_f k5 _ _ _) ?_
  first | refine WL.assign rfl rfl rfl ?_
  refine WL.done ?_
  refine EW.on ?_
  refine EW.cond_f rfl ?_
  refine EW.seq ?_
  refine EW.region ?_
  refine WL.bin rfl rfl rfl rfl (int_eq_f k6 _ _ _) ?_
  first | refine WL.assign rfl rfl rfl ?_
  refine WL.done ?_
  refine EW.on ?_
  refine EW.cond_f rfl ?_
  refine EW.seq ?_
  refine EW.seq ?_
  refine EW.region ?_
  refine WL.bin rfl rfl rfl rfl (int_eq_t hq _ _ _) ?_
  first | refine WL.assign rfl rfl rfl ?_
  refine WL.done ?_
  refine EW.on ?_
  refine EW.cond_t rfl ?_
  refine EW.skip ?_
  refine EW.on ?_
  refine EW.cond_t rfl ?_
  refine EW.seq ?_
  refine EW.region ?_
  first | refine WL.move rfl rfl rfl ?_
  first | refine WL.load rfl rfl rfl (ld55 hk bq) ?_
  refine WL.call [.pointer (some ⟨g, 0, none⟩), .agg (opF o).toArray] enter42 rfl rfl rfl (powers_all g p r s o hk _ hT2 hA hs hs1 (by omega)) ?_
  intro e w3 h3
  obtain ⟨rfl, h3'⟩ := id h3
  refine ⟨_, rfl, ?_⟩
  first | refine WL.assign rfl rfl rfl ?_
  refine WL.done ?_
  refine EW.on ?_
  refine EW.ret ?_
  repeat (first | refine pr_then ?_ | refine pr_block ?_)
  exact EW.returns Try.results23 rfl (Fin.after e2 h3)
set_option maxRecDepth 100000 in
set_option maxHeartbeats 1000000 in
theorem plays_8 (g : Nat) (p : List L5) (r : List (List Nat)) (s : Int) (o : Opf) (hk : o.k.length = 32) (w : World) (hT : Tb w g p r s) (hA : Agr p r) (hs : 0 ≤ s) (hs1 : s ≤ 100) (hq : o.kind = 8) : Calls Try.prog 23 #[.pointer (some ⟨g, 0, none⟩), .agg (opF o).toArray] w (Fin w g s) := by
  have k1 : ¬ o.kind = 1 := by omega
  have k2 : ¬ o.kind = 2 := by omega
  have k3 : ¬ o.kind = 3 := by omega
  have k4 : ¬ o.kind = 4 := by omega
  have k5 : ¬ o.kind = 5 := by omega
  have k6 : ¬ o.kind = 6 := by omega
  have k7 : ¬ o.kind = 7 := by omega
  obtain ⟨w1, q, r1, b1, e1, hqg⟩ := box55 o w
  obtain ⟨x, pa, xo, ra⟩ := agr_at hA hT.lp o.a
  obtain ⟨y, pb, yo, rb⟩ := agr_at hA hT.lp o.b
  have hT1 := hT.on e1
  refine calls_of_args [.pointer (some ⟨g, 0, none⟩), .agg (opF o).toArray] Try.func23 rfl 301 Try.ntmps23 (by show 2 ≤ 301; decide) ?_
  refine EW.seq ?_
  refine EW.region ?_
  refine WL.box rfl rfl rfl r1 ?_
  refine WL.assign rfl rfl rfl ?_
  refine WL.done ?_
  refine EW.on ?_
  have bq := b1
  refine EW.seq ?_
  refine EW.ordB [(0, false, 0), (1, false, 1), (3, false, 0), (4, false, 1), (6, false, 0), (7, false, 1), (2, true, 1), (5, true, 1), (8, true, 1), (9, false, 0), (10, false, 0), (11, false, 0)] (by kernel_rfl) rfl (by kernel_rfl) ?_
  simp only [opsZ, List.getD_cons_zero, List.getD_cons_succ]
  refine ZE.field rfl rfl rfl sb0 (fun W => ofld1 q W) ?_
  first | refine ZE.load rfl rfl rfl sb1 (fun W hW => ldI (bq.on (sb_of hW)) rfl) ?_ | refine ZE.load rfl rfl rfl sb1 (fun W hW => ldI (bq.on (sb_of hW)) (opF_bit o hk)) ?_
  refine ZE.field rfl rfl rfl sb0 (fun W => ofld2 q W) ?_
  first | refine ZE.load rfl rfl rfl sb1 (fun W hW => ldI (bq.on (sb_of hW)) rfl) ?_ | refine ZE.load rfl rfl rfl sb1 (fun W hW => ldI (bq.on (sb_of hW)) (opF_bit o hk)) ?_
  refine ZE.field rfl rfl rfl sb0 (fun W => ofld3 q W) ?_
  first | refine ZE.load rfl rfl rfl sb1 (fun W hW => ldI (bq.on (sb_of hW)) rfl) ?_ | refine ZE.load rfl rfl rfl sb1 (fun W hW => ldI (bq.on (sb_of hW)) (opF_bit o hk)) ?_
  first | refine ZE.callQ [.int .i64 o.a, .int .i64 4] enter35 rfl rfl rfl sb1 (fun W => rest_num _ W) ?_ | refine ZE.callQ [.int .i64 o.b, .int .i64 4] enter35 rfl rfl rfl sb1 (fun W => rest_num _ W) ?_ | refine ZE.callQ [.int .i64 o.c, .int .i64 4] enter35 rfl rfl rfl sb1 (fun W => rest_num _ W) ?_
  first | refine ZE.callQ [.int .i64 o.a, .int .i64 4] enter35 rfl rfl rfl sb1 (fun W => rest_num _ W) ?_ | refine ZE.callQ [.int .i64 o.b, .int .i64 4] enter35 rfl rfl rfl sb1 (fun W => rest_num _ W) ?_ | refine ZE.callQ [.int .i64 o.c, .int .i64 4] enter35 rfl rfl rfl sb1 (fun W => rest_num _ W) ?_
  first | refine ZE.callQ [.int .i64 o.a, .int .i64 4] enter35 rfl rfl rfl sb1 (fun W => rest_num _ W) ?_ | refine ZE.callQ [.int .i64 o.b, .int .i64 4] enter35 rfl rfl rfl sb1 (fun W => rest_num _ W) ?_ | refine ZE.callQ [.int .i64 o.c, .int .i64 4] enter35 rfl rfl rfl sb1 (fun W => rest_num _ W) ?_
  refine ZE.assign rfl rfl rfl sb0 ?_
  refine ZE.assign rfl rfl rfl sb0 ?_
  refine ZE.assign rfl rfl rfl sb0 ?_
  intro w2 h2
  have hT2 := hT1.on h2
  replace bq := b1.on h2
  have e2 := e1.trans (h2.mono e1.size)
  clear b1 r1
  refine EW.on ?_
  refine EW.seq ?_
  refine EW.seq ?_
  refine EW.region ?_
  refine WL.field rfl rfl rfl (ofld0 q _) ?_
  first | refine WL.load rfl rfl rfl (ldI bq rfl) ?_
  refine WL.done ?_
  refine EW.on ?_
  refine EW.block ?_
  refine EW.seq ?_
  refine EW.region ?_
  refine WL.bin rfl rfl rfl rfl (int_eq_f k1 _ _ _) ?_
  first | refine WL.assign rfl rfl rfl ?_
  refine WL.done ?_
  refine EW.on ?_
  refine EW.cond_f rfl ?_
  refine EW.seq ?_
  refine EW.region ?_
  refine WL.bin rfl rfl rfl rfl (int_eq_f k2 _ _ _) ?_
  first | refine WL.assign rfl rfl rfl ?_
  refine WL.done ?_
  refine EW.on ?_
  refine EW.cond_f rfl ?_
  refine EW.seq ?_
  refine EW.region ?_
  refine WL.bin rfl rfl rfl rfl (int_eq_f k3 _ _ _) ?_
  first | refine WL.assign rfl rfl rfl ?_
  refine WL.done ?_
  refine EW.on ?_
  refine EW.cond_f rfl ?_
  refine EW.seq ?_
  refine EW.region ?_
  refine WL.bin rfl rfl rfl rfl (int_eq_f k4 _ _ _) ?_
  first | refine WL.assign rfl rfl rfl ?_
  refine WL.done ?_
  refine EW.on ?_
  refine EW.cond_f rfl ?_
  refine EW.seq ?_
  refine EW.region ?_
  refine WL.bin rfl rfl rfl rfl (int_eq_f k5 _ _ _) ?_
  first | refine WL.assign rfl rfl rfl ?_
  refine WL.done ?_
  refine EW.on ?_
  refine EW.cond_f rfl ?_
  refine EW.seq ?_
  refine EW.region ?_
  refine WL.bin rfl rfl rfl rfl (int_eq_f k6 _ _ _) ?_
  first | refine WL.assign rfl rfl rfl ?_
  refine WL.done ?_
  refine EW.on ?_
  refine EW.cond_f rfl ?_
  refine EW.seq ?_
  refine EW.seq ?_
  refine EW.region ?_
  refine WL.bin rfl rfl rfl rfl (int_eq_f k7 _ _ _) ?_
  first | refine WL.assign rfl rfl rfl ?_
  refine WL.done ?_
  refine EW.on ?_
  refine EW.cond_f rfl ?_
  refine EW.seq ?_
  refine EW.region ?_
  refine WL.bin rfl rfl rfl rfl (int_eq_t hq _ _ _) ?_
  first | refine WL.assign rfl rfl rfl ?_
  refine WL.done ?_
  refine EW.on ?_
  refine EW.cond_t rfl ?_
  refine EW.skip ?_
  refine EW.on ?_
  refine EW.cond_t rfl ?_
  refine EW.seq ?_
  refine EW.region ?_
  first | refine WL.move rfl rfl rfl ?_
  first | refine WL.load rfl rfl rfl (ld55 hk bq) ?_
  refine WL.call [.pointer (some ⟨g, 0, none⟩), .agg (opF o).toArray] enter42 rfl rfl rfl (powers_all g p r s o hk _ hT2 hA hs hs1 (by omega)) ?_
  intro e w3 h3
  obtain ⟨rfl, h3'⟩ := id h3
  refine ⟨_, rfl, ?_⟩
  first | refine WL.assign rfl rfl rfl ?_
  refine WL.done ?_
  refine EW.on ?_
  refine EW.ret ?_
  repeat (first | refine pr_then ?_ | refine pr_block ?_)
  exact EW.returns Try.results23 rfl (Fin.after e2 h3)
set_option maxRecDepth 100000 in
set_option maxHeartbeats 1000000 in
theorem plays_9 (g : Nat) (p : List L5) (r : List (List Nat)) (s : Int) (o : Opf) (hk : o.k.length = 32) (w : World) (hT : Tb w g p r s) (hA : Agr p r) (hs : 0 ≤ s) (hs1 : s ≤ 100) (hq : o.kind = 9) : Calls Try.prog 23 #[.pointer (some ⟨g, 0, none⟩), .agg (opF o).toArray] w (Fin w g s) := by
  have k1 : ¬ o.kind = 1 := by omega
  have k2 : ¬ o.kind = 2 := by omega
  have k3 : ¬ o.kind = 3 := by omega
  have k4 : ¬ o.kind = 4 := by omega
  have k5 : ¬ o.kind = 5 := by omega
  have k6 : ¬ o.kind = 6 := by omega
  have k7 : ¬ o.kind = 7 := by omega
  have k8 : ¬ o.kind = 8 := by omega
  obtain ⟨w1, q, r1, b1, e1, hqg⟩ := box55 o w
  obtain ⟨x, pa, xo, ra⟩ := agr_at hA hT.lp o.a
  obtain ⟨y, pb, yo, rb⟩ := agr_at hA hT.lp o.b
  have hT1 := hT.on e1
  refine calls_of_args [.pointer (some ⟨g, 0, none⟩), .agg (opF o).toArray] Try.func23 rfl 301 Try.ntmps23 (by show 2 ≤ 301; decide) ?_
  refine EW.seq ?_
  refine EW.region ?_
  refine WL.box rfl rfl rfl r1 ?_
  refine WL.assign rfl rfl rfl ?_
  refine WL.done ?_
  refine EW.on ?_
  have bq := b1
  refine EW.seq ?_
  refine EW.ordB [(0, false, 0), (1, false, 1), (3, false, 0), (4, false, 1), (6, false, 0), (7, false, 1), (2, true, 1), (5, true, 1), (8, true, 1), (9, false, 0), (10, false, 0), (11, false, 0)] (by kernel_rfl) rfl (by kernel_rfl) ?_
  simp only [opsZ, List.getD_cons_zero, List.getD_cons_succ]
  refine ZE.field rfl rfl rfl sb0 (fun W => ofld1 q W) ?_
  first | refine ZE.load rfl rfl rfl sb1 (fun W hW => ldI (bq.on (sb_of hW)) rfl) ?_ | refine ZE.load rfl rfl rfl sb1 (fun W hW => ldI (bq.on (sb_of hW)) (opF_bit o hk)) ?_
  refine ZE.field rfl rfl rfl sb0 (fun W => ofld2 q W) ?_
  first | refine ZE.load rfl rfl rfl sb1 (fun W hW => ldI (bq.on (sb_of hW)) rfl) ?_ | refine ZE.load rfl rfl rfl sb1 (fun W hW => ldI (bq.on (sb_of hW)) (opF_bit o hk)) ?_
  refine ZE.field rfl rfl rfl sb0 (fun W => ofld3 q W) ?_
  first | refine ZE.load rfl rfl rfl sb1 (fun W hW => ldI (bq.on (sb_of hW)) rfl) ?_ | refine ZE.load rfl rfl rfl sb1 (fun W hW => ldI (bq.on (sb_of hW)) (opF_bit o hk)) ?_
  first | refine ZE.callQ [.int .i64 o.a, .int .i64 4] enter35 rfl rfl rfl sb1 (fun W => rest_num _ W) ?_ | refine ZE.callQ [.int .i64 o.b, .int .i64 4] enter35 rfl rfl rfl sb1 (fun W => rest_num _ W) ?_ | refine ZE.callQ [.int .i64 o.c, .int .i64 4] enter35 rfl rfl rfl sb1 (fun W => rest_num _ W) ?_
  first | refine ZE.callQ [.int .i64 o.a, .int .i64 4] enter35 rfl rfl rfl sb1 (fun W => rest_num _ W) ?_ | refine ZE.callQ [.int .i64 o.b, .int .i64 4] enter35 rfl rfl rfl sb1 (fun W => rest_num _ W) ?_ | refine ZE.callQ [.int .i64 o.c, .int .i64 4] enter35 rfl rfl rfl sb1 (fun W => rest_num _ W) ?_
  first | refine ZE.callQ [.int .i64 o.a, .int .i64 4] enter35 rfl rfl rfl sb1 (fun W => rest_num _ W) ?_ | refine ZE.callQ [.int .i64 o.b, .int .i64 4] enter35 rfl rfl rfl sb1 (fun W => rest_num _ W) ?_ | refine ZE.callQ [.int .i64 o.c, .int .i64 4] enter35 rfl rfl rfl sb1 (fun W => rest_num _ W) ?_
  refine ZE.assign rfl rfl rfl sb0 ?_
  refine ZE.assign rfl rfl rfl sb0 ?_
  refine ZE.assign rfl rfl rfl sb0 ?_
  intro w2 h2
  have hT2 := hT1.on h2
  replace bq := b1.on h2
  have e2 := e1.trans (h2.mono e1.size)
  clear b1 r1
  refine EW.on ?_
  refine EW.seq ?_
  refine EW.seq ?_
  refine EW.region ?_
  refine WL.field rfl rfl rfl (ofld0 q _) ?_
  first | refine WL.load rfl rfl rfl (ldI bq rfl) ?_
  refine WL.done ?_
  refine EW.on ?_
  refine EW.block ?_
  refine EW.seq ?_
  refine EW.region ?_
  refine WL.bin rfl rfl rfl rfl (int_eq_f k1 _ _ _) ?_
  first | refine WL.assign rfl rfl rfl ?_
  refine WL.done ?_
  refine EW.on ?_
  refine EW.cond_f rfl ?_
  refine EW.seq ?_
  refine EW.region ?_
  refine WL.bin rfl rfl rfl rfl (int_eq_f k2 _ _ _) ?_
  first | refine WL.assign rfl rfl rfl ?_
  refine WL.done ?_
  refine EW.on ?_
  refine EW.cond_f rfl ?_
  refine EW.seq ?_
  refine EW.region ?_
  refine WL.bin rfl rfl rfl rfl (int_eq_f k3 _ _ _) ?_
  first | refine WL.assign rfl rfl rfl ?_
  refine WL.done ?_
  refine EW.on ?_
  refine EW.cond_f rfl ?_
  refine EW.seq ?_
  refine EW.region ?_
  refine WL.bin rfl rfl rfl rfl (int_eq_f k4 _ _ _) ?_
  first | refine WL.assign rfl rfl rfl ?_
  refine WL.done ?_
  refine EW.on ?_
  refine EW.cond_f rfl ?_
  refine EW.seq ?_
  refine EW.region ?_
  refine WL.bin rfl rfl rfl rfl (int_eq_f k5 _ _ _) ?_
  first | refine WL.assign rfl rfl rfl ?_
  refine WL.done ?_
  refine EW.on ?_
  refine EW.cond_f rfl ?_
  refine EW.seq ?_
  refine EW.region ?_
  refine WL.bin rfl rfl rfl rfl (int_eq_f k6 _ _ _) ?_
  first | refine WL.assign rfl rfl rfl ?_
  refine WL.done ?_
  refine EW.on ?_
  refine EW.cond_f rfl ?_
  refine EW.seq ?_
  refine EW.seq ?_
  refine EW.region ?_
  refine WL.bin rfl rfl rfl rfl (int_eq_f k7 _ _ _) ?_
  first | refine WL.assign rfl rfl rfl ?_
  refine WL.done ?_
  refine EW.on ?_
  refine EW.cond_f rfl ?_
  refine EW.seq ?_
  refine EW.region ?_
  refine WL.bin rfl rfl rfl rfl (int_eq_f k8 _ _ _) ?_
  first | refine WL.assign rfl rfl rfl ?_
  refine WL.done ?_
  refine EW.on ?_
  refine EW.cond_f rfl ?_
  refine EW.region ?_
  refine WL.bin rfl rfl rfl rfl (int_eq_t hq _ _ _) ?_
  first | refine WL.assign rfl rfl rfl ?_
  refine WL.done ?_
  refine EW.on ?_
  refine EW.cond_t rfl ?_
  refine EW.seq ?_
  refine EW.region ?_
  first | refine WL.move rfl rfl rfl ?_
  first | refine WL.load rfl rfl rfl (ld55 hk bq) ?_
  refine WL.call [.pointer (some ⟨g, 0, none⟩), .agg (opF o).toArray] enter42 rfl rfl rfl (powers_all g p r s o hk _ hT2 hA hs hs1 (by omega)) ?_
  intro e w3 h3
  obtain ⟨rfl, h3'⟩ := id h3
  refine ⟨_, rfl, ?_⟩
  first | refine WL.assign rfl rfl rfl ?_
  refine WL.done ?_
  refine EW.on ?_
  refine EW.ret ?_
  repeat (first | refine pr_then ?_ | refine pr_block ?_)
  exact EW.returns Try.results23 rfl (Fin.after e2 h3)
set_option maxRecDepth 100000 in
set_option maxHeartbeats 1000000 in
theorem plays_11 (g : Nat) (p : List L5) (r : List (List Nat)) (s : Int) (o : Opf) (hk : o.k.length = 32) (w : World) (hT : Tb w g p r s) (hA : Agr p r) (hs : 0 ≤ s) (hs1 : s ≤ 100) (hq : o.kind = 11) : Calls Try.prog 23 #[.pointer (some ⟨g, 0, none⟩), .agg (opF o).toArray] w (Fin w g s) := by
  have k1 : ¬ o.kind = 1 := by omega
  have k2 : ¬ o.kind = 2 := by omega
  have k3 : ¬ o.kind = 3 := by omega
  have k4 : ¬ o.kind = 4 := by omega
  have k5 : ¬ o.kind = 5 := by omega
  have k6 : ¬ o.kind = 6 := by omega
  have k7 : ¬ o.kind = 7 := by omega
  have k8 : ¬ o.kind = 8 := by omega
  have k9 : ¬ o.kind = 9 := by omega
  have k10 : ¬ o.kind = 10 := by omega
  obtain ⟨w1, q, r1, b1, e1, hqg⟩ := box55 o w
  obtain ⟨x, pa, xo, ra⟩ := agr_at hA hT.lp o.a
  obtain ⟨y, pb, yo, rb⟩ := agr_at hA hT.lp o.b
  have hT1 := hT.on e1
  refine calls_of_args [.pointer (some ⟨g, 0, none⟩), .agg (opF o).toArray] Try.func23 rfl 301 Try.ntmps23 (by show 2 ≤ 301; decide) ?_
  refine EW.seq ?_
  refine EW.region ?_
  refine WL.box rfl rfl rfl r1 ?_
  refine WL.assign rfl rfl rfl ?_
  refine WL.done ?_
  refine EW.on ?_
  have bq := b1
  refine EW.seq ?_
  refine EW.ordB [(0, false, 0), (1, false, 1), (3, false, 0), (4, false, 1), (6, false, 0), (7, false, 1), (2, true, 1), (5, true, 1), (8, true, 1), (9, false, 0), (10, false, 0), (11, false, 0)] (by kernel_rfl) rfl (by kernel_rfl) ?_
  simp only [opsZ, List.getD_cons_zero, List.getD_cons_succ]
  refine ZE.field rfl rfl rfl sb0 (fun W => ofld1 q W) ?_
  first | refine ZE.load rfl rfl rfl sb1 (fun W hW => ldI (bq.on (sb_of hW)) rfl) ?_ | refine ZE.load rfl rfl rfl sb1 (fun W hW => ldI (bq.on (sb_of hW)) (opF_bit o hk)) ?_
  refine ZE.field rfl rfl rfl sb0 (fun W => ofld2 q W) ?_
  first | refine ZE.load rfl rfl rfl sb1 (fun W hW => ldI (bq.on (sb_of hW)) rfl) ?_ | refine ZE.load rfl rfl rfl sb1 (fun W hW => ldI (bq.on (sb_of hW)) (opF_bit o hk)) ?_
  refine ZE.field rfl rfl rfl sb0 (fun W => ofld3 q W) ?_
  first | refine ZE.load rfl rfl rfl sb1 (fun W hW => ldI (bq.on (sb_of hW)) rfl) ?_ | refine ZE.load rfl rfl rfl sb1 (fun W hW => ldI (bq.on (sb_of hW)) (opF_bit o hk)) ?_
  first | refine ZE.callQ [.int .i64 o.a, .int .i64 4] enter35 rfl rfl rfl sb1 (fun W => rest_num _ W) ?_ | refine ZE.callQ [.int .i64 o.b, .int .i64 4] enter35 rfl rfl rfl sb1 (fun W => rest_num _ W) ?_ | refine ZE.callQ [.int .i64 o.c, .int .i64 4] enter35 rfl rfl rfl sb1 (fun W => rest_num _ W) ?_
  first | refine ZE.callQ [.int .i64 o.a, .int .i64 4] enter35 rfl rfl rfl sb1 (fun W => rest_num _ W) ?_ | refine ZE.callQ [.int .i64 o.b, .int .i64 4] enter35 rfl rfl rfl sb1 (fun W => rest_num _ W) ?_ | refine ZE.callQ [.int .i64 o.c, .int .i64 4] enter35 rfl rfl rfl sb1 (fun W => rest_num _ W) ?_
  first | refine ZE.callQ [.int .i64 o.a, .int .i64 4] enter35 rfl rfl rfl sb1 (fun W => rest_num _ W) ?_ | refine ZE.callQ [.int .i64 o.b, .int .i64 4] enter35 rfl rfl rfl sb1 (fun W => rest_num _ W) ?_ | refine ZE.callQ [.int .i64 o.c, .int .i64 4] enter35 rfl rfl rfl sb1 (fun W => rest_num _ W) ?_
  refine ZE.assign rfl rfl rfl sb0 ?_
  refine ZE.assign rfl rfl rfl sb0 ?_
  refine ZE.assign rfl rfl rfl sb0 ?_
  intro w2 h2
  have hT2 := hT1.on h2
  replace bq := b1.on h2
  have e2 := e1.trans (h2.mono e1.size)
  clear b1 r1
  refine EW.on ?_
  refine EW.seq ?_
  refine EW.seq ?_
  refine EW.region ?_
  refine WL.field rfl rfl rfl (ofld0 q _) ?_
  first | refine WL.load rfl rfl rfl (ldI bq rfl) ?_
  refine WL.done ?_
  refine EW.on ?_
  refine EW.block ?_
  refine EW.seq ?_
  refine EW.region ?_
  refine WL.bin rfl rfl rfl rfl (int_eq_f k1 _ _ _) ?_
  first | refine WL.assign rfl rfl rfl ?_
  refine WL.done ?_
  refine EW.on ?_
  refine EW.cond_f rfl ?_
  refine EW.seq ?_
  refine EW.region ?_
  refine WL.bin rfl rfl rfl rfl (int_eq_f k2 _ _ _) ?_
  first | refine WL.assign rfl rfl rfl ?_
  refine WL.done ?_
  refine EW.on ?_
  refine EW.cond_f rfl ?_
  refine EW.seq ?_
  refine EW.region ?_
  refine WL.bin rfl rfl rfl rfl (int_eq_f k3 _ _ _) ?_
  first | refine WL.assign rfl rfl rfl ?_
  refine WL.done ?_
  refine EW.on ?_
  refine EW.cond_f rfl ?_
  refine EW.seq ?_
  refine EW.region ?_
  refine WL.bin rfl rfl rfl rfl (int_eq_f k4 _ _ _) ?_
  first | refine WL.assign rfl rfl rfl ?_
  refine WL.done ?_
  refine EW.on ?_
  refine EW.cond_f rfl ?_
  refine EW.seq ?_
  refine EW.region ?_
  refine WL.bin rfl rfl rfl rfl (int_eq_f k5 _ _ _) ?_
  first | refine WL.assign rfl rfl rfl ?_
  refine WL.done ?_
  refine EW.on ?_
  refine EW.cond_f rfl ?_
  refine EW.seq ?_
  refine EW.region ?_
  refine WL.bin rfl rfl rfl rfl (int_eq_f k6 _ _ _) ?_
  first | refine WL.assign rfl rfl rfl ?_
  refine WL.done ?_
  refine EW.on ?_
  refine EW.cond_f rfl ?_
  refine EW.seq ?_
  refine EW.seq ?_
  refine EW.region ?_
  refine WL.bin rfl rfl rfl rfl (int_eq_f k7 _ _ _) ?_
  first | refine WL.assign rfl rfl rfl ?_
  refine WL.done ?_
  refine EW.on ?_
  refine EW.cond_f rfl ?_
  refine EW.seq ?_
  refine EW.region ?_
  refine WL.bin rfl rfl rfl rfl (int_eq_f k8 _ _ _) ?_
  first | refine WL.assign rfl rfl rfl ?_
  refine WL.done ?_
  refine EW.on ?_
  refine EW.cond_f rfl ?_
  refine EW.region ?_
  refine WL.bin rfl rfl rfl rfl (int_eq_f k9 _ _ _) ?_
  first | refine WL.assign rfl rfl rfl ?_
  refine WL.done ?_
  refine EW.on ?_
  refine EW.cond_f rfl ?_
  refine EW.seq ?_
  refine EW.region ?_
  refine WL.bin rfl rfl rfl rfl (int_eq_f k10 _ _ _) ?_
  first | refine WL.assign rfl rfl rfl ?_
  refine WL.done ?_
  refine EW.on ?_
  refine EW.cond_f rfl ?_
  refine EW.seq ?_
  refine EW.region ?_
  refine WL.bin rfl rfl rfl rfl (int_eq_t hq _ _ _) ?_
  first | refine WL.assign rfl rfl rfl ?_
  refine WL.done ?_
  refine EW.on ?_
  refine EW.cond_t rfl ?_
  refine EW.seq ?_
  refine EW.ordB [(0, false, 0), (1, false, 0), (2, false, 0), (3, false, 0), (4, false, 0), (5, false, 1), (6, false, 0), (7, false, 0), (8, false, 0), (9, false, 0), (10, false, 0), (11, false, 1), (13, false, 0), (14, false, 0), (15, false, 0), (16, false, 0), (17, false, 0), (18, false, 1), (19, false, 0), (20, false, 0), (21, false, 0), (22, false, 0), (23, false, 0), (24, false, 1), (25, false, 0), (12, true, 1), (26, false, 0), (27, false, 0)] (by kernel_rfl) rfl (by kernel_rfl) ?_
  simp only [opsZ, List.getD_cons_zero, List.getD_cons_succ]
  refine ZE.move rfl rfl rfl sb0 ?_
  refine ZE.move rfl rfl rfl sb0 ?_
  refine ZE.nilc rfl rfl rfl sb0 ?_
  refine ZE.field rfl rfl rfl sb0 (fun W => tfld0 g W) ?_
  refine ZE.index rfl rfl rfl rfl sb0 (fun W => idx47 g _ (rs_lt _) W) ?_
  first | refine ZE.load rfl rfl rfl sb1 (fun W hW => run_loadA ((hT2.on (sb_of hW)).elem pa) Try.underlying27 rfl (cs_info _)) ?_ | refine ZE.load rfl rfl rfl sb1 (fun W hW => run_loadA ((hT2.on (sb_of hW)).elem pb) Try.underlying27 rfl (cs_info _)) ?_
  refine ZE.move rfl rfl rfl sb0 ?_
  refine ZE.move rfl rfl rfl sb0 ?_
  refine ZE.nilc rfl rfl rfl sb0 ?_
  refine ZE.field rfl rfl rfl sb0 (fun W => tfld0 g W) ?_
  refine ZE.index rfl rfl rfl rfl sb0 (fun W => idx47 g _ (rs_lt _) W) ?_
  first | refine ZE.load rfl rfl rfl sb1 (fun W hW => run_loadA ((hT2.on (sb_of hW)).elem pa) Try.underlying27 rfl (cs_info _)) ?_ | refine ZE.load rfl rfl rfl sb1 (fun W hW => run_loadA ((hT2.on (sb_of hW)).elem pb) Try.underlying27 rfl (cs_info _)) ?_
  refine ZE.move rfl rfl rfl sb0 ?_
  refine ZE.move rfl rfl rfl sb0 ?_
  refine ZE.nilc rfl rfl rfl sb0 ?_
  refine ZE.field rfl rfl rfl sb0 (fun W => tfld1 g W) ?_
  refine ZE.index rfl rfl rfl rfl sb0 (fun W => idx50 g _ (rs_lt _) W) ?_
  first | refine ZE.load rfl rfl rfl sb1 (fun W hW => run_loadA ((hT2.on (sb_of hW)).numb ra) Try.underlying49 rfl (info49 (nx_nm _).ln)) ?_ | refine ZE.load rfl rfl rfl sb1 (fun W hW => run_loadA ((hT2.on (sb_of hW)).numb rb) Try.underlying49 rfl (info49 (nx_nm _).ln)) ?_
  refine ZE.move rfl rfl rfl sb0 ?_
  refine ZE.move rfl rfl rfl sb0 ?_
  refine ZE.nilc rfl rfl rfl sb0 ?_
  refine ZE.field rfl rfl rfl sb0 (fun W => tfld1 g W) ?_
  refine ZE.index rfl rfl rfl rfl sb0 (fun W => idx50 g _ (rs_lt _) W) ?_
  first | refine ZE.load rfl rfl rfl sb1 (fun W hW => run_loadA ((hT2.on (sb_of hW)).numb ra) Try.underlying49 rfl (info49 (nx_nm _).ln)) ?_ | refine ZE.load rfl rfl rfl sb1 (fun W hW => run_loadA ((hT2.on (sb_of hW)).numb rb) Try.underlying49 rfl (info49 (nx_nm _).ln)) ?_
  refine ZE.bin rfl rfl rfl rfl sb0 (fun W => eql49 _ _ (nx_nm x).ln (nx_nm y).ln (eqE x y) (nx_same xo yo) W _ _) ?_
  refine ZE.callB [x.v, y.v] enter12 rfl rfl rfl sb1 (fun W _ => equalE x y W) ?_
  refine ZE.bin rfl rfl rfl rfl sb0 (fun W => bool_eql _ _ rfl W _ _) ?_
  refine ZE.assign rfl rfl rfl sb0 ?_
  intro w3 h3
  refine EW.on ?_
  refine EW.ret ?_
  repeat (first | refine pr_then ?_ | refine pr_block ?_)
  exact EW.returns Try.results23 rfl (fin_of e2 (CE.of hT2 h3) hA (by omega) (by omega))
set_option maxRecDepth 100000 in
set_option maxHeartbeats 1000000 in
theorem plays_0 (g : Nat) (p : List L5) (r : List (List Nat)) (s : Int) (o : Opf) (hk : o.k.length = 32) (w : World) (hT : Tb w g p r s) (hA : Agr p r) (hs : 0 ≤ s) (hs1 : s ≤ 100) (hq : o.kind < 1 ∨ 11 < o.kind) : Calls Try.prog 23 #[.pointer (some ⟨g, 0, none⟩), .agg (opF o).toArray] w (Fin w g s) := by
  have k1 : ¬ o.kind = 1 := by omega
  have k2 : ¬ o.kind = 2 := by omega
  have k3 : ¬ o.kind = 3 := by omega
  have k4 : ¬ o.kind = 4 := by omega
  have k5 : ¬ o.kind = 5 := by omega
  have k6 : ¬ o.kind = 6 := by omega
  have k7 : ¬ o.kind = 7 := by omega
  have k8 : ¬ o.kind = 8 := by omega
  have k9 : ¬ o.kind = 9 := by omega
  have k10 : ¬ o.kind = 10 := by omega
  have k11 : ¬ o.kind = 11 := by omega
  obtain ⟨w1, q, r1, b1, e1, hqg⟩ := box55 o w
  obtain ⟨x, pa, xo, ra⟩ := agr_at hA hT.lp o.a
  obtain ⟨y, pb, yo, rb⟩ := agr_at hA hT.lp o.b
  have hT1 := hT.on e1
  refine calls_of_args [.pointer (some ⟨g, 0, none⟩), .agg (opF o).toArray] Try.func23 rfl 301 Try.ntmps23 (by show 2 ≤ 301; decide) ?_
  refine EW.seq ?_
  refine EW.region ?_
  refine WL.box rfl rfl rfl r1 ?_
  refine WL.assign rfl rfl rfl ?_
  refine WL.done ?_
  refine EW.on ?_
  have bq := b1
  refine EW.seq ?_
  refine EW.ordB [(0, false, 0), (1, false, 1), (3, false, 0), (4, false, 1), (6, false, 0), (7, false, 1), (2, true, 1), (5, true, 1), (8, true, 1), (9, false, 0), (10, false, 0), (11, false, 0)] (by kernel_rfl) rfl (by kernel_rfl) ?_
  simp only [opsZ, List.getD_cons_zero, List.getD_cons_succ]
  refine ZE.field rfl rfl rfl sb0 (fun W => ofld1 q W) ?_
  first | refine ZE.load rfl rfl rfl sb1 (fun W hW => ldI (bq.on (sb_of hW)) rfl) ?_ | refine ZE.load rfl rfl rfl sb1 (fun W hW => ldI (bq.on (sb_of hW)) (opF_bit o hk)) ?_
  refine ZE.field rfl rfl rfl sb0 (fun W => ofld2 q W) ?_
  first | refine ZE.load rfl rfl rfl sb1 (fun W hW => ldI (bq.on (sb_of hW)) rfl) ?_ | refine ZE.load rfl rfl rfl sb1 (fun W hW => ldI (bq.on (sb_of hW)) (opF_bit o hk)) ?_
  refine ZE.field rfl rfl rfl sb0 (fun W => ofld3 q W) ?_
  first | refine ZE.load rfl rfl rfl sb1 (fun W hW => ldI (bq.on (sb_of hW)) rfl) ?_ | refine ZE.load rfl rfl rfl sb1 (fun W hW => ldI (bq.on (sb_of hW)) (opF_bit o hk)) ?_
  first | refine ZE.callQ [.int .i64 o.a, .int .i64 4] enter35 rfl rfl rfl sb1 (fun W => rest_num _ W) ?_ | refine ZE.callQ [.int .i64 o.b, .int .i64 4] enter35 rfl rfl rfl sb1 (fun W => rest_num _ W) ?_ | refine ZE.callQ [.int .i64 o.c, .int .i64 4] enter35 rfl rfl rfl sb1 (fun W => rest_num _ W) ?_
  first | refine ZE.callQ [.int .i64 o.a, .int .i64 4] enter35 rfl rfl rfl sb1 (fun W => rest_num _ W) ?_ | refine ZE.callQ [.int .i64 o.b, .int .i64 4] enter35 rfl rfl rfl sb1 (fun W => rest_num _ W) ?_ | refine ZE.callQ [.int .i64 o.c, .int .i64 4] enter35 rfl rfl rfl sb1 (fun W => rest_num _ W) ?_
  first | refine ZE.callQ [.int .i64 o.a, .int .i64 4] enter35 rfl rfl rfl sb1 (fun W => rest_num _ W) ?_ | refine ZE.callQ [.int .i64 o.b, .int .i64 4] enter35 rfl rfl rfl sb1 (fun W => rest_num _ W) ?_ | refine ZE.callQ [.int .i64 o.c, .int .i64 4] enter35 rfl rfl rfl sb1 (fun W => rest_num _ W) ?_
  refine ZE.assign rfl rfl rfl sb0 ?_
  refine ZE.assign rfl rfl rfl sb0 ?_
  refine ZE.assign rfl rfl rfl sb0 ?_
  intro w2 h2
  have hT2 := hT1.on h2
  replace bq := b1.on h2
  have e2 := e1.trans (h2.mono e1.size)
  clear b1 r1
  refine EW.on ?_
  refine EW.seq ?_
  refine EW.seq ?_
  refine EW.region ?_
  refine WL.field rfl rfl rfl (ofld0 q _) ?_
  first | refine WL.load rfl rfl rfl (ldI bq rfl) ?_
  refine WL.done ?_
  refine EW.on ?_
  refine EW.block ?_
  refine EW.seq ?_
  refine EW.region ?_
  refine WL.bin rfl rfl rfl rfl (int_eq_f k1 _ _ _) ?_
  first | refine WL.assign rfl rfl rfl ?_
  refine WL.done ?_
  refine EW.on ?_
  refine EW.cond_f rfl ?_
  refine EW.seq ?_
  refine EW.region ?_
  refine WL.bin rfl rfl rfl rfl (int_eq_f k2 _ _ _) ?_
  first | refine WL.assign rfl rfl rfl ?_
  refine WL.done ?_
  refine EW.on ?_
  refine EW.cond_f rfl ?_
  refine EW.seq ?_
  refine EW.region ?_
  refine WL.bin rfl rfl rfl rfl (int_eq_f k3 _ _ _) ?_
  first | refine WL.assign rfl rfl rfl ?_
  refine WL.done ?_
  refine EW.on ?_
  refine EW.cond_f rfl ?_
  refine EW.seq ?_
  refine EW.region ?_
  refine WL.bin rfl rfl rfl rfl (int_eq_f k4 _ _ _) ?_
  first | refine WL.assign rfl rfl rfl ?_
  refine WL.done ?_
  refine EW.on ?_
  refine EW.cond_f rfl ?_
  refine EW.seq ?_
  refine EW.region ?_
  refine WL.bin rfl rfl rfl rfl (int_eq_f k5 _ _ _) ?_
  first | refine WL.assign rfl rfl rfl ?_
  refine WL.done ?_
  refine EW.on ?_
  refine EW.cond_f rfl ?_
  refine EW.seq ?_
  refine EW.region ?_
  refine WL.bin rfl rfl rfl rfl (int_eq_f k6 _ _ _) ?_
  first | refine WL.assign rfl rfl rfl ?_
  refine WL.done ?_
  refine EW.on ?_
  refine EW.cond_f rfl ?_
  refine EW.seq ?_
  refine EW.seq ?_
  refine EW.region ?_
  refine WL.bin rfl rfl rfl rfl (int_eq_f k7 _ _ _) ?_
  first | refine WL.assign rfl rfl rfl ?_
  refine WL.done ?_
  refine EW.on ?_
  refine EW.cond_f rfl ?_
  refine EW.seq ?_
  refine EW.region ?_
  refine WL.bin rfl rfl rfl rfl (int_eq_f k8 _ _ _) ?_
  first | refine WL.assign rfl rfl rfl ?_
  refine WL.done ?_
  refine EW.on ?_
  refine EW.cond_f rfl ?_
  refine EW.region ?_
  refine WL.bin rfl rfl rfl rfl (int_eq_f k9 _ _ _) ?_
  first | refine WL.assign rfl rfl rfl ?_
  refine WL.done ?_
  refine EW.on ?_
  refine EW.cond_f rfl ?_
  refine EW.seq ?_
  refine EW.region ?_
  refine WL.bin rfl rfl rfl rfl (int_eq_f k10 _ _ _) ?_
  first | refine WL.assign rfl rfl rfl ?_
  refine WL.done ?_
  refine EW.on ?_
  refine EW.cond_f rfl ?_
  refine EW.seq ?_
  refine EW.region ?_
  refine WL.bin rfl rfl rfl rfl (int_eq_f k11 _ _ _) ?_
  first | refine WL.assign rfl rfl rfl ?_
  refine WL.done ?_
  refine EW.on ?_
  refine EW.cond_f rfl ?_
  refine EW.skip ?_
  refine pn_block ?_
  refine EW.on ?_
  refine EW.seq ?_
  refine EW.region ?_
  first | refine WL.assign rfl rfl rfl ?_
  refine WL.done ?_
  refine EW.on ?_
  refine EW.ret ?_
  repeat (first | refine pr_then ?_ | refine pr_block ?_)
  exact EW.returns Try.results23 rfl (fin_of e2 (CE.of hT2 (Below.refl _ _)) hA (by omega) (by omega))
set_option maxRecDepth 100000 in
set_option maxHeartbeats 1000000 in
theorem plays_10o (g : Nat) (p : List L5) (r : List (List Nat)) (s : Int) (o : Opf) (hk : o.k.length = 32) (w : World) (hT : Tb w g p r s) (hA : Agr p r) (hs : 0 ≤ s) (hs1 : s ≤ 100) (hq : o.kind = 10) (hb : o.bit % 2 = 1) : Calls Try.prog 23 #[.pointer (some ⟨g, 0, none⟩), .agg (opF o).toArray] w (Fin w g s) := by
  have k1 : ¬ o.kind = 1 := by omega
  have k2 : ¬ o.kind = 2 := by omega
  have k3 : ¬ o.kind = 3 := by omega
  have k4 : ¬ o.kind = 4 := by omega
  have k5 : ¬ o.kind = 5 := by omega
  have k6 : ¬ o.kind = 6 := by omega
  have k7 : ¬ o.kind = 7 := by omega
  have k8 : ¬ o.kind = 8 := by omega
  have k9 : ¬ o.kind = 9 := by omega
  obtain ⟨w1, q, r1, b1, e1, hqg⟩ := box55 o w
  obtain ⟨x, pa, xo, ra⟩ := agr_at hA hT.lp o.a
  obtain ⟨y, pb, yo, rb⟩ := agr_at hA hT.lp o.b
  have hT1 := hT.on e1
  refine calls_of_args [.pointer (some ⟨g, 0, none⟩), .agg (opF o).toArray] Try.func23 rfl 301 Try.ntmps23 (by show 2 ≤ 301; decide) ?_
  refine EW.seq ?_
  refine EW.region ?_
  refine WL.box rfl rfl rfl r1 ?_
  refine WL.assign rfl rfl rfl ?_
  refine WL.done ?_
  refine EW.on ?_
  have bq := b1
  refine EW.seq ?_
  refine EW.ordB [(0, false, 0), (1, false, 1), (3, false, 0), (4, false, 1), (6, false, 0), (7, false, 1), (2, true, 1), (5, true, 1), (8, true, 1), (9, false, 0), (10, false, 0), (11, false, 0)] (by kernel_rfl) rfl (by kernel_rfl) ?_
  simp only [opsZ, List.getD_cons_zero, List.getD_cons_succ]
  refine ZE.field rfl rfl rfl sb0 (fun W => ofld1 q W) ?_
  first | refine ZE.load rfl rfl rfl sb1 (fun W hW => ldI (bq.on (sb_of hW)) rfl) ?_ | refine ZE.load rfl rfl rfl sb1 (fun W hW => ldI (bq.on (sb_of hW)) (opF_bit o hk)) ?_
  refine ZE.field rfl rfl rfl sb0 (fun W => ofld2 q W) ?_
  first | refine ZE.load rfl rfl rfl sb1 (fun W hW => ldI (bq.on (sb_of hW)) rfl) ?_ | refine ZE.load rfl rfl rfl sb1 (fun W hW => ldI (bq.on (sb_of hW)) (opF_bit o hk)) ?_
  refine ZE.field rfl rfl rfl sb0 (fun W => ofld3 q W) ?_
  first | refine ZE.load rfl rfl rfl sb1 (fun W hW => ldI (bq.on (sb_of hW)) rfl) ?_ | refine ZE.load rfl rfl rfl sb1 (fun W hW => ldI (bq.on (sb_of hW)) (opF_bit o hk)) ?_
  first | refine ZE.callQ [.int .i64 o.a, .int .i64 4] enter35 rfl rfl rfl sb1 (fun W => rest_num _ W) ?_ | refine ZE.callQ [.int .i64 o.b, .int .i64 4] enter35 rfl rfl rfl sb1 (fun W => rest_num _ W) ?_ | refine ZE.callQ [.int .i64 o.c, .int .i64 4] enter35 rfl rfl rfl sb1 (fun W => rest_num _ W) ?_
  first | refine ZE.callQ [.int .i64 o.a, .int .i64 4] enter35 rfl rfl rfl sb1 (fun W => rest_num _ W) ?_ | refine ZE.callQ [.int .i64 o.b, .int .i64 4] enter35 rfl rfl rfl sb1 (fun W => rest_num _ W) ?_ | refine ZE.callQ [.int .i64 o.c, .int .i64 4] enter35 rfl rfl rfl sb1 (fun W => rest_num _ W) ?_
  first | refine ZE.callQ [.int .i64 o.a, .int .i64 4] enter35 rfl rfl rfl sb1 (fun W => rest_num _ W) ?_ | refine ZE.callQ [.int .i64 o.b, .int .i64 4] enter35 rfl rfl rfl sb1 (fun W => rest_num _ W) ?_ | refine ZE.callQ [.int .i64 o.c, .int .i64 4] enter35 rfl rfl rfl sb1 (fun W => rest_num _ W) ?_
  refine ZE.assign rfl rfl rfl sb0 ?_
  refine ZE.assign rfl rfl rfl sb0 ?_
  refine ZE.assign rfl rfl rfl sb0 ?_
  intro w2 h2
  have hT2 := hT1.on h2
  replace bq := b1.on h2
  have e2 := e1.trans (h2.mono e1.size)
  clear b1 r1
  refine EW.on ?_
  refine EW.seq ?_
  refine EW.seq ?_
  refine EW.region ?_
  refine WL.field rfl rfl rfl (ofld0 q _) ?_
  first | refine WL.load rfl rfl rfl (ldI bq rfl) ?_
  refine WL.done ?_
  refine EW.on ?_
  refine EW.block ?_
  refine EW.seq ?_
  refine EW.region ?_
  refine WL.bin rfl rfl rfl rfl (int_eq_f k1 _ _ _) ?_
  first | refine WL.assign rfl rfl rfl ?_
  refine WL.done ?_
  refine EW.on ?_
  refine EW.cond_f rfl ?_
  refine EW.seq ?_
  refine EW.region ?_
  refine WL.bin rfl rfl rfl rfl (int_eq_f k2 _ _ _) ?_
  first | refine WL.assign rfl rfl rfl ?_
  refine WL.done ?_
  refine EW.on ?_
  refine EW.cond_f rfl ?_
  refine EW.seq ?_
  refine EW.region ?_
  refine WL.bin rfl rfl rfl rfl (int_eq_f k3 _ _ _) ?_
  first | refine WL.assign rfl rfl rfl ?_
  refine WL.done ?_
  refine EW.on ?_
  refine EW.cond_f rfl ?_
  refine EW.seq ?_
  refine EW.region ?_
  refine WL.bin rfl rfl rfl rfl (int_eq_f k4 _ _ _) ?_
  first | refine WL.assign rfl rfl rfl ?_
  refine WL.done ?_
  refine EW.on ?_
  refine EW.cond_f rfl ?_
  refine EW.seq ?_
  refine EW.region ?_
  refine WL.bin rfl rfl rfl rfl (int_eq_f k5 _ _ _) ?_
  first | refine WL.assign rfl rfl rfl ?_
  refine WL.done ?_
  refine EW.on ?_
  refine EW.cond_f rfl ?_
  refine EW.seq ?_
  refine EW.region ?_
  refine WL.bin rfl rfl rfl rfl (int_eq_f k6 _ _ _) ?_
  first | refine WL.assign rfl rfl rfl ?_
  refine WL.done ?_
  refine EW.on ?_
  refine EW.cond_f rfl ?_
  refine EW.seq ?_
  refine EW.seq ?_
  refine EW.region ?_
  refine WL.bin rfl rfl rfl rfl (int_eq_f k7 _ _ _) ?_
  first | refine WL.assign rfl rfl rfl ?_
  refine WL.done ?_
  refine EW.on ?_
  refine EW.cond_f rfl ?_
  refine EW.seq ?_
  refine EW.region ?_
  refine WL.bin rfl rfl rfl rfl (int_eq_f k8 _ _ _) ?_
  first | refine WL.assign rfl rfl rfl ?_
  refine WL.done ?_
  refine EW.on ?_
  refine EW.cond_f rfl ?_
  refine EW.region ?_
  refine WL.bin rfl rfl rfl rfl (int_eq_f k9 _ _ _) ?_
  first | refine WL.assign rfl rfl rfl ?_
  refine WL.done ?_
  refine EW.on ?_
  refine EW.cond_f rfl ?_
  refine EW.seq ?_
  refine EW.region ?_
  refine WL.bin rfl rfl rfl rfl (int_eq_t hq _ _ _) ?_
  first | refine WL.assign rfl rfl rfl ?_
  refine WL.done ?_
  refine EW.on ?_
  refine EW.cond_t rfl ?_
  refine EW.seq ?_
  refine EW.ordB [(0, false, 0), (1, false, 0), (2, false, 0), (3, false, 0), (4, false, 0), (5, false, 1), (6, false, 0), (7, false, 0), (8, false, 0), (9, false, 0), (10, false, 0), (11, false, 1), (12, false, 0), (13, false, 0), (14, false, 0), (15, false, 0), (16, false, 0), (17, false, 1), (22, false, 0), (23, false, 0), (26, false, 0), (27, false, 0), (18, true, 1), (19, false, 0), (20, false, 0), (21, false, 0), (24, false, 0), (25, true, 0), (28, false, 0), (29, true, 0)] (by kernel_rfl) rfl (by kernel_rfl) ?_
  simp only [opsZ, List.getD_cons_zero, List.getD_cons_succ]
  refine ZE.move rfl rfl rfl sb0 ?_
  refine ZE.move rfl rfl rfl sb0 ?_
  refine ZE.move rfl rfl rfl sb0 ?_
  refine ZE.move rfl rfl rfl sb0 ?_
  refine ZE.field rfl rfl rfl sb0 (fun W => ofld6 q W) ?_
  first | refine ZE.load rfl rfl rfl sb1 (fun W hW => ldI (bq.on (sb_of hW)) rfl) ?_ | refine ZE.load rfl rfl rfl sb1 (fun W hW => ldI (bq.on (sb_of hW)) (opF_bit o hk)) ?_
  refine ZE.move rfl rfl rfl sb0 ?_
  refine ZE.move rfl rfl rfl sb0 ?_
  refine ZE.nilc rfl rfl rfl sb0 ?_
  refine ZE.field rfl rfl rfl sb0 (fun W => tfld0 g W) ?_
  refine ZE.index rfl rfl rfl rfl sb0 (fun W => idx47 g _ (rs_lt _) W) ?_
  first | refine ZE.load rfl rfl rfl sb1 (fun W hW => run_loadA ((hT2.on (sb_of hW)).elem pa) Try.underlying27 rfl (cs_info _)) ?_ | refine ZE.load rfl rfl rfl sb1 (fun W hW => run_loadA ((hT2.on (sb_of hW)).elem pb) Try.underlying27 rfl (cs_info _)) ?_
  refine ZE.move rfl rfl rfl sb0 ?_
  refine ZE.move rfl rfl rfl sb0 ?_
  refine ZE.nilc rfl rfl rfl sb0 ?_
  refine ZE.field rfl rfl rfl sb0 (fun W => tfld0 g W) ?_
  refine ZE.index rfl rfl rfl rfl sb0 (fun W => idx47 g _ (rs_lt _) W) ?_
  first | refine ZE.load rfl rfl rfl sb1 (fun W hW => run_loadA ((hT2.on (sb_of hW)).elem pa) Try.underlying27 rfl (cs_info _)) ?_ | refine ZE.load rfl rfl rfl sb1 (fun W hW => run_loadA ((hT2.on (sb_of hW)).elem pb) Try.underlying27 rfl (cs_info _)) ?_
  refine ZE.nilc rfl rfl rfl sb0 ?_
  refine ZE.field rfl rfl rfl sb0 (fun W => tfld0 g W) ?_
  refine ZE.nilc rfl rfl rfl sb0 ?_
  refine ZE.field rfl rfl rfl sb0 (fun W => tfld0 g W) ?_
  refine ZE.callB [.int .i64 o.bit, x.v, y.v] enter15 rfl rfl rfl sb1 (fun W _ => swap_odd hb x y W) ?_
  refine ZE.move rfl rfl rfl sb0 ?_
  refine ZE.extract rfl rfl rfl sb0 (fun W => (ext_2 _ _ W).1) ?_
  refine ZE.extract rfl rfl rfl sb0 (fun W => (ext_2 _ _ W).2) ?_
  refine ZE.index rfl rfl rfl rfl sb0 (fun W => idx47 g _ (rs_lt _) W) ?_
  refine ZE.store (CE w2 g (p.set (rs o.a) y) r s) rfl rfl rfl sb0 (fun W hW => stE (CE.of hT2 hW) (rs_lt _)) ?_
  refine ZE.index rfl rfl rfl rfl sb0 (fun W => idx47 g _ (rs_lt _) W) ?_
  refine ZE.store (CE w2 g ((p.set (rs o.a) y).set (rs o.b) x) r s) rfl rfl rfl sb0 (fun W hW => stE hW (rs_lt _)) ?_
  intro w3 h3
  have bq3 := bq.fx h3.2 (by show q ≠ g; rw [hqg]; exact Nat.ne_of_gt hT.bl.lt)
  refine EW.on ?_
  refine EW.seq ?_
  refine EW.region ?_
  refine WL.field rfl rfl rfl (ofld6 q _) ?_
  first | refine WL.load rfl rfl rfl (ldI bq3 (opF_bit o hk)) ?_
  refine WL.bin rfl rfl rfl rfl (and1_t hb _ _ _) ?_
  refine WL.bin rfl rfl rfl rfl (int_eq_t (by decide) _ _ _) ?_
  refine WL.done ?_
  refine EW.on ?_
  refine EW.cond_t rfl ?_
  have hTw := h3.1
  have e3 := h3.2
  clear hT2
  have hT2 := hTw
  refine EW.ordB [(0, false, 0), (1, false, 0), (2, false, 0), (3, false, 0), (4, false, 0), (5, false, 0), (6, false, 0), (7, false, 0), (8, false, 0), (9, false, 1), (10, false, 0), (11, false, 0), (12, false, 0), (13, false, 0), (14, false, 0), (15, false, 1), (16, false, 0), (17, false, 0), (18, false, 0), (20, false, 0), (21, false, 0), (19, true, 0), (22, false, 0), (23, true, 0)] (by kernel_rfl) rfl (by kernel_rfl) ?_
  simp only [opsZ, List.getD_cons_zero, List.getD_cons_succ]
  refine ZE.move rfl rfl rfl sb0 ?_
  refine ZE.move rfl rfl rfl sb0 ?_
  refine ZE.move rfl rfl rfl sb0 ?_
  refine ZE.move rfl rfl rfl sb0 ?_
  refine ZE.move rfl rfl rfl sb0 ?_
  refine ZE.move rfl rfl rfl sb0 ?_
  refine ZE.nilc rfl rfl rfl sb0 ?_
  refine ZE.field rfl rfl rfl sb0 (fun W => tfld1 g W) ?_
  refine ZE.index rfl rfl rfl rfl sb0 (fun W => idx50 g _ (rs_lt _) W) ?_
  first | refine ZE.load rfl rfl rfl sb1 (fun W hW => run_loadA ((hT2.on (sb_of hW)).numb ra) Try.underlying49 rfl (info49 (nx_nm _).ln)) ?_ | refine ZE.load rfl rfl rfl sb1 (fun W hW => run_loadA ((hT2.on (sb_of hW)).numb rb) Try.underlying49 rfl (info49 (nx_nm _).ln)) ?_
  refine ZE.move rfl rfl rfl sb0 ?_
  refine ZE.move rfl rfl rfl sb0 ?_
  refine ZE.nilc rfl rfl rfl sb0 ?_
  refine ZE.field rfl rfl rfl sb0 (fun W => tfld1 g W) ?_
  refine ZE.index rfl rfl rfl rfl sb0 (fun W => idx50 g _ (rs_lt _) W) ?_
  first | refine ZE.load rfl rfl rfl sb1 (fun W hW => run_loadA ((hT2.on (sb_of hW)).numb ra) Try.underlying49 rfl (info49 (nx_nm _).ln)) ?_ | refine ZE.load rfl rfl rfl sb1 (fun W hW => run_loadA ((hT2.on (sb_of hW)).numb rb) Try.underlying49 rfl (info49 (nx_nm _).ln)) ?_
  refine ZE.nilc rfl rfl rfl sb0 ?_
  refine ZE.field rfl rfl rfl sb0 (fun W => tfld1 g W) ?_
  refine ZE.index rfl rfl rfl rfl sb0 (fun W => idx50 g _ (rs_lt _) W) ?_
  refine ZE.nilc rfl rfl rfl sb0 ?_
  refine ZE.field rfl rfl rfl sb0 (fun W => tfld1 g W) ?_
  refine ZE.store (CE w3 g ((p.set (rs o.a) y).set (rs o.b) x) (r.set (rs o.a) (nx y)) s) rfl rfl rfl sb0 (fun W hW => stN (CE.of hT2 hW) (rs_lt _) (nx_nm _)) ?_
  refine ZE.index rfl rfl rfl rfl sb0 (fun W => idx50 g _ (rs_lt _) W) ?_
  refine ZE.store (CE w3 g ((p.set (rs o.a) y).set (rs o.b) x) ((r.set (rs o.a) (nx y)).set (rs o.b) (nx x)) s) rfl rfl rfl sb0 (fun W hW => stN hW (rs_lt _) (nx_nm _)) ?_
  intro w4 h4
  have hA4 := hA.swap (by rw [hT.lp, hT.lr]) pa pb
  refine pn_block ?_
  refine EW.on ?_
  refine EW.seq ?_
  refine EW.region ?_
  first | refine WL.assign rfl rfl rfl ?_
  refine WL.done ?_
  refine EW.on ?_
  refine EW.ret ?_
  repeat (first | refine pr_then ?_ | refine pr_block ?_)
  exact EW.returns Try.results23 rfl ⟨rfl, _, _, _, ⟨h4.1, Fx.after e2 (e3.and h4.2)⟩, hA4, by omega, by omega⟩
set_option maxRecDepth 100000 in
set_option maxHeartbeats 1000000 in
theorem plays_10e (g : Nat) (p : List L5) (r : List (List Nat)) (s : Int) (o : Opf) (hk : o.k.length = 32) (w : World) (hT : Tb w g p r s) (hA : Agr p r) (hs : 0 ≤ s) (hs1 : s ≤ 100) (hq : o.kind = 10) (hb : o.bit % 2 = 0) : Calls Try.prog 23 #[.pointer (some ⟨g, 0, none⟩), .agg (opF o).toArray] w (Fin w g s) := by
  have k1 : ¬ o.kind = 1 := by omega
  have k2 : ¬ o.kind = 2 := by omega
  have k3 : ¬ o.kind = 3 := by omega
  have k4 : ¬ o.kind = 4 := by omega
  have k5 : ¬ o.kind = 5 := by omega
  have k6 : ¬ o.kind = 6 := by omega
  have k7 : ¬ o.kind = 7 := by omega
  have k8 : ¬ o.kind = 8 := by omega
  have k9 : ¬ o.kind = 9 := by omega
  obtain ⟨w1, q, r1, b1, e1, hqg⟩ := box55 o w
  obtain ⟨x, pa, xo, ra⟩ := agr_at hA hT.lp o.a
  obtain ⟨y, pb, yo, rb⟩ := agr_at hA hT.lp o.b
  have hT1 := hT.on e1
  refine calls_of_args [.pointer (some ⟨g, 0, none⟩), .agg (opF o).toArray] Try.func23 rfl 301 Try.ntmps23 (by show 2 ≤ 301; decide) ?_
  refine EW.seq ?_
  refine EW.region ?_
  refine WL.box rfl rfl rfl r1 ?_
  refine WL.assign rfl rfl rfl ?_
  refine WL.done ?_
  refine EW.on ?_
  have bq := b1
  refine EW.seq ?_
  refine EW.ordB [(0, false, 0), (1, false, 1), (3, false, 0), (4, false, 1), (6, false, 0), (7, false, 1), (2, true, 1), (5, true, 1), (8, true, 1), (9, false, 0), (10, false, 0), (11, false, 0)] (by kernel_rfl) rfl (by kernel_rfl) ?_
  simp only [opsZ, List.getD_cons_zero, List.getD_cons_succ]
  refine ZE.field rfl rfl rfl sb0 (fun W => ofld1 q W) ?_
  first | refine ZE.load rfl rfl rfl sb1 (fun W hW => ldI (bq.on (sb_of hW)) rfl) ?_ | refine ZE.load rfl rfl rfl sb1 (fun W hW => ldI (bq.on (sb_of hW)) (opF_bit o hk)) ?_
  refine ZE.field rfl rfl rfl sb0 (fun W => ofld2 q W) ?_
  first | refine ZE.load rfl rfl rfl sb1 (fun W hW => ldI (bq.on (sb_of hW)) rfl) ?_ | refine ZE.load rfl rfl rfl sb1 (fun W hW => ldI (bq.on (sb_of hW)) (opF_bit o hk)) ?_
  refine ZE.field rfl rfl rfl sb0 (fun W => ofld3 q W) ?_
  first | refine ZE.load rfl rfl rfl sb1 (fun W hW => ldI (bq.on (sb_of hW)) rfl) ?_ | refine ZE.load rfl rfl rfl sb1 (fun W hW => ldI (bq.on (sb_of hW)) (opF_bit o hk)) ?_
  first | refine ZE.callQ [.int .i64 o.a, .int .i64 4] enter35 rfl rfl rfl sb1 (fun W => rest_num _ W) ?_ | refine ZE.callQ [.int .i64 o.b, .int .i64 4] enter35 rfl rfl rfl sb1 (fun W => rest_num _ W) ?_ | refine ZE.callQ [.int .i64 o.c, .int .i64 4] enter35 rfl rfl rfl sb1 (fun W => rest_num _ W) ?_
  first | refine ZE.callQ [.int .i64 o.a, .int .i64 4] enter35 rfl rfl rfl sb1 (fun W => rest_num _ W) ?_ | refine ZE.callQ [.int .i64 o.b, .int .i64 4] enter35 rfl rfl rfl sb1 (fun W => rest_num _ W) ?_ | refine ZE.callQ [.int .i64 o.c, .int .i64 4] enter35 rfl rfl rfl sb1 (fun W => rest_num _ W) ?_
  first | refine ZE.callQ [.int .i64 o.a, .int .i64 4] enter35 rfl rfl rfl sb1 (fun W => rest_num _ W) ?_ | refine ZE.callQ [.int .i64 o.b, .int .i64 4] enter35 rfl rfl rfl sb1 (fun W => rest_num _ W) ?_ | refine ZE.callQ [.int .i64 o.c, .int .i64 4] enter35 rfl rfl rfl sb1 (fun W => rest_num _ W) ?_
  refine ZE.assign rfl rfl rfl sb0 ?_
  refine ZE.assign rfl rfl rfl sb0 ?_
  refine ZE.assign rfl rfl rfl sb0 ?_
  intro w2 h2
  have hT2 := hT1.on h2
  replace bq := b1.on h2
  have e2 := e1.trans (h2.mono e1.size)
  clear b1 r1
  refine EW.on ?_
  refine EW.seq ?_
  refine EW.seq ?_
  refine EW.region ?_
  refine WL.field rfl rfl rfl (ofld0 q _) ?_
  first | refine WL.load rfl rfl rfl (ldI bq rfl) ?_
  refine WL.done ?_
  refine EW.on ?_
  refine EW.block ?_
  refine EW.seq ?_
  refine EW.region ?_
  refine WL.bin rfl rfl rfl rfl (int_eq_f k1 _ _ _) ?_
  first | refine WL.assign rfl rfl rfl ?_
  refine WL.done ?_
  refine EW.on ?_
  refine EW.cond_f rfl ?_
  refine EW.seq ?_
  refine EW.region ?_
  refine WL.bin rfl rfl rfl rfl (int_eq_f k2 _ _ _) ?_
  first | refine WL.assign rfl rfl rfl ?_
  refine WL.done ?_
  refine EW.on ?_
  refine EW.cond_f rfl ?_
  refine EW.seq ?_
  refine EW.region ?_
  refine WL.bin rfl rfl rfl rfl (int_eq_f k3 _ _ _) ?_
  first | refine WL.assign rfl rfl rfl ?_
  refine WL.done ?_
  refine EW.on ?_
  refine EW.cond_f rfl ?_
  refine EW.seq ?_
  refine EW.region ?_
  refine WL.bin rfl rfl rfl rfl (int_eq_f k4 _ _ _) ?_
  first | refine WL.assign rfl rfl rfl ?_
  refine WL.done ?_
  refine EW.on ?_
  refine EW.cond_f rfl ?_
  refine EW.seq ?_
  refine EW.region ?_
  refine WL.bin rfl rfl rfl rfl (int_eq_f k5 _ _ _) ?_
  first | refine WL.assign rfl rfl rfl ?_
  refine WL.done ?_
  refine EW.on ?_
  refine EW.cond_f rfl ?_
  refine EW.seq ?_
  refine EW.region ?_
  refine WL.bin rfl rfl rfl rfl (int_eq_f k6 _ _ _) ?_
  first | refine WL.assign rfl rfl rfl ?_
  refine WL.done ?_
  refine EW.on ?_
  refine EW.cond_f rfl ?_
  refine EW.seq ?_
  refine EW.seq ?_
  refine EW.region ?_
  refine WL.bin rfl rfl rfl rfl (int_eq_f k7 _ _ _) ?_
  first | refine WL.assign rfl rfl rfl ?_
  refine WL.done ?_
  refine EW.on ?_
  refine EW.cond_f rfl ?_
  refine EW.seq ?_
  refine EW.region ?_
  refine WL.bin rfl rfl rfl rfl (int_eq_f k8 _ _ _) ?_
  first | refine WL.assign rfl rfl rfl ?_
  refine WL.done ?_
  refine EW.on ?_
  refine EW.cond_f rfl ?_
  refine EW.region ?_
  refine WL.bin rfl rfl rfl rfl (int_eq_f k9 _ _ _) ?_
  first | refine WL.assign rfl rfl rfl ?_
  refine WL.done ?_
  refine EW.on ?_
  refine EW.cond_f rfl ?_
  refine EW.seq ?_
  refine EW.region ?_
  refine WL.bin rfl rfl rfl rfl (int_eq_t hq _ _ _) ?_
  first | refine WL.assign rfl rfl rfl ?_
  refine WL.done ?_
  refine EW.on ?_
  refine EW.cond_t rfl ?_
  refine EW.seq ?_
  refine EW.ordB [(0, false, 0), (1, false, 0), (2, false, 0), (3, false, 0), (4, false, 0), (5, false, 1), (6, false, 0), (7, false, 0), (8, false, 0), (9, false, 0), (10, false, 0), (11, false, 1), (12, false, 0), (13, false, 0), (14, false, 0), (15, false, 0), (16, false, 0), (17, false, 1), (22, false, 0), (23, false, 0), (26, false, 0), (27, false, 0), (18, true, 1), (19, false, 0), (20, false, 0), (21, false, 0), (24, false, 0), (25, true, 0), (28, false, 0), (29, true, 0)] (by kernel_rfl) rfl (by kernel_rfl) ?_
  simp only [opsZ, List.getD_cons_zero, List.getD_cons_succ]
  refine ZE.move rfl rfl rfl sb0 ?_
  refine ZE.move rfl rfl rfl sb0 ?_
  refine ZE.move rfl rfl rfl sb0 ?_
  refine ZE.move rfl rfl rfl sb0 ?_
  refine ZE.field rfl rfl rfl sb0 (fun W => ofld6 q W) ?_
  first | refine ZE.load rfl rfl rfl sb1 (fun W hW => ldI (bq.on (sb_of hW)) rfl) ?_ | refine ZE.load rfl rfl rfl sb1 (fun W hW => ldI (bq.on (sb_of hW)) (opF_bit o hk)) ?_
  refine ZE.move rfl rfl rfl sb0 ?_
  refine ZE.move rfl rfl rfl sb0 ?_
  refine ZE.nilc rfl rfl rfl sb0 ?_
  refine ZE.field rfl rfl rfl sb0 (fun W => tfld0 g W) ?_
  refine ZE.index rfl rfl rfl rfl sb0 (fun W => idx47 g _ (rs_lt _) W) ?_
  first | refine ZE.load rfl rfl rfl sb1 (fun W hW => run_loadA ((hT2.on (sb_of hW)).elem pa) Try.underlying27 rfl (cs_info _)) ?_ | refine ZE.load rfl rfl rfl sb1 (fun W hW => run_loadA ((hT2.on (sb_of hW)).elem pb) Try.underlying27 rfl (cs_info _)) ?_
  refine ZE.move rfl rfl rfl sb0 ?_
  refine ZE.move rfl rfl rfl sb0 ?_
  refine ZE.nilc rfl rfl rfl sb0 ?_
  refine ZE.field rfl rfl rfl sb0 (fun W => tfld0 g W) ?_
  refine ZE.index rfl rfl rfl rfl sb0 (fun W => idx47 g _ (rs_lt _) W) ?_
  first | refine ZE.load rfl rfl rfl sb1 (fun W hW => run_loadA ((hT2.on (sb_of hW)).elem pa) Try.underlying27 rfl (cs_info _)) ?_ | refine ZE.load rfl rfl rfl sb1 (fun W hW => run_loadA ((hT2.on (sb_of hW)).elem pb) Try.underlying27 rfl (cs_info _)) ?_
  refine ZE.nilc rfl rfl rfl sb0 ?_
  refine ZE.field rfl rfl rfl sb0 (fun W => tfld0 g W) ?_
  refine ZE.nilc rfl rfl rfl sb0 ?_
  refine ZE.field rfl rfl rfl sb0 (fun W => tfld0 g W) ?_
  refine ZE.callB [.int .i64 o.bit, x.v, y.v] enter15 rfl rfl rfl sb1 (fun W _ => swap_even hb x y W) ?_
  refine ZE.move rfl rfl rfl sb0 ?_
  refine ZE.extract rfl rfl rfl sb0 (fun W => (ext_2 _ _ W).1) ?_
  refine ZE.extract rfl rfl rfl sb0 (fun W => (ext_2 _ _ W).2) ?_
  refine ZE.index rfl rfl rfl rfl sb0 (fun W => idx47 g _ (rs_lt _) W) ?_
  refine ZE.store (CE w2 g (p.set (rs o.a) x) r s) rfl rfl rfl sb0 (fun W hW => stE (CE.of hT2 hW) (rs_lt _)) ?_
  refine ZE.index rfl rfl rfl rfl sb0 (fun W => idx47 g _ (rs_lt _) W) ?_
  refine ZE.store (CE w2 g ((p.set (rs o.a) x).set (rs o.b) y) r s) rfl rfl rfl sb0 (fun W hW => stE hW (rs_lt _)) ?_
  intro w3 h3
  have bq3 := bq.fx h3.2 (by show q ≠ g; rw [hqg]; exact Nat.ne_of_gt hT.bl.lt)
  refine EW.on ?_
  refine EW.seq ?_
  refine EW.region ?_
  refine WL.field rfl rfl rfl (ofld6 q _) ?_
  first | refine WL.load rfl rfl rfl (ldI bq3 (opF_bit o hk)) ?_
  refine WL.bin rfl rfl rfl rfl (and1_f hb _ _ _) ?_
  refine WL.bin rfl rfl rfl rfl (int_eq_f (by decide) _ _ _) ?_
  refine WL.done ?_
  refine EW.on ?_
  refine EW.cond_f rfl ?_
  refine EW.skip ?_
  rw [set_self pa, set_self pb] at h3
  refine pn_block ?_
  refine EW.on ?_
  refine EW.seq ?_
  refine EW.region ?_
  first | refine WL.assign rfl rfl rfl ?_
  refine WL.done ?_
  refine EW.on ?_
  refine EW.ret ?_
  repeat (first | refine pr_then ?_ | refine pr_block ?_)
  exact EW.returns Try.results23 rfl (fin_of e2 h3 hA (by omega) (by omega))
theorem plays_any (g : Nat) (p : List L5) (r : List (List Nat)) (s : Int) (o : Opf) (hk : o.k.length = 32) (w : World) (hT : Tb w g p r s) (hA : Agr p r) (hs : 0 ≤ s) (hs1 : s ≤ 100) : Calls Try.prog 23 #[.pointer (some ⟨g, 0, none⟩), .agg (opF o).toArray] w (Fin w g s) := by
  by_cases h0 : o.kind < 1 ∨ 11 < o.kind
  · exact plays_0 g p r s o hk w hT hA hs hs1 h0
  by_cases h1 : o.kind = 1
  · exact plays_1 g p r s o hk w hT hA h1
  by_cases h2 : o.kind = 2
  · exact plays_2 g p r s o hk w hT hA h2
  by_cases h3 : o.kind = 3
  · exact plays_3 g p r s o hk w hT hA h3
  by_cases h4 : o.kind = 4
  · exact plays_4 g p r s o hk w hT hA h4
  by_cases h5 : o.kind = 5
  · exact plays_5 g p r s o hk w hT hA h5
  by_cases h6 : o.kind = 6
  · exact plays_6 g p r s o hk w hT hA h6
  by_cases h7 : o.kind = 7
  · exact plays_7 g p r s o hk w hT hA hs hs1 h7
  by_cases h8 : o.kind = 8
  · exact plays_8 g p r s o hk w hT hA hs hs1 h8
  by_cases h9 : o.kind = 9
  · exact plays_9 g p r s o hk w hT hA hs hs1 h9
  by_cases h11 : o.kind = 11
  · exact plays_11 g p r s o hk w hT hA hs hs1 h11
  have h10 : o.kind = 10 := by omega
  by_cases hb : o.bit % 2 = 1
  · exact plays_10o g p r s o hk w hT hA hs hs1 h10 hb
  · exact plays_10e g p r s o hk w hT hA hs hs1 h10 (by omega)
end Go.Proofs.Ytnakeieeopbeiaa
