import Derived.Test.YtmbgeojjklboeaaGreatDoorZbG
set_option linter.unusedVariables false
set_option linter.unusedSimpArgs false
namespace Go.Proofs.YtmbgeojjklboeaaGreatDoor
open Go.RowKit

theorem st3c {w : World} {q : Nat} {v0 : Value} (c : Int) (hb : Blk w q [v0] 3) : ∃ w', (Instr.storeAt 3 (.pointer (some ⟨q, 0, none⟩)) (.int .i64 c)).run Tryz.prog w = .ok () w' ∧ Blk w' q [.int .i64 c] 3 ∧ Fx (fun k => k = q) w w' := by
  have hc : w.cell? ⟨q, 0, none⟩ = some v0 := hb.cell 0
  have hf := hb.frozen 0
  refine ⟨w.setCell ⟨q, 0, none⟩ (.int .i64 c), by go_simp, hb.set 0 _, Fx.setCell _ _ _ _ rfl⟩
theorem new3 (w : World) : ∃ w1 q, (Instr.alloc 3 true (.tuple #[])).run Tryz.prog w = .ok (.pointer (some ⟨q, 0, none⟩)) w1 ∧ Blk w1 q [.int .i64 0] 3 ∧ Below w.heap.size w w1 ∧ q = w.heap.size :=
  ⟨w.alloc (.cells [.int .i64 0].toArray 3), w.heap.size, by go_simp, Blk.new _ _ _, below_new _ _, rfl⟩
set_option maxRecDepth 100000 in
set_option maxHeartbeats 1000000 in
theorem order2_any {w : World} {v : Value} {l : List Pw} (h : Pws w v l) (a b : Nat) (ha : a < l.length) (hb : b < l.length) (q : Nat) (c : Int) (hq : Blk w q [.int .i64 c] 3) : Calls Tryz.prog 107 #[v, .int .i64 (a : Int), .int .i64 (b : Int), .pointer (some ⟨q, 0, none⟩), fnV] w fun e w' => ∃ x y c', e = .returned (.tuple #[.int .i64 ((x : Nat) : Int), .int .i64 ((y : Nat) : Int)]) ∧ (x = a ∨ x = b) ∧ (y = a ∨ y = b) ∧ Blk w' q [.int .i64 c'] 3 ∧ Fx (fun k => k = q) w w' := by
  have pi := Prm.refl h
  refine calls_of_args [v, .int .i64 (a : Int), .int .i64 (b : Int), .pointer (some ⟨q, 0, none⟩), fnV] Tryz.func107 rfl 32 Tryz.ntmps107 (by show 5 ≤ 32; decide) ?_; refine EW.seq ?_; refine EW.region ?_; refine WL.assign rfl rfl rfl ?_; refine WL.assign rfl rfl rfl ?_; refine WL.done ?_; refine EW.on ?_; refine EW.seq ?_; refine EW.seq ?_; refine EW.ordB [(0, 0, 0), (1, 0, 0), (2, 0, 0), (3, 0, 0), (4, 0, 1), (5, 0, 0), (6, 0, 0), (7, 0, 0), (8, 0, 1), (9, 1, 1), (10, 0, 0)] (by kernel_rfl) rfl (by kernel_rfl) ?_; simp only [opsZ, List.getD_cons_zero, List.getD_cons_succ]; refine ZE.move rfl rfl rfl rfl sz0 ?_; refine ZE.move rfl rfl rfl rfl sz0 ?_; refine ZE.move rfl rfl rfl rfl sz0 ?_
  obtain ⟨x1, ad1, hx1, hm1, ix1, lx1⟩ := pi.r.at' (t := b) (by rw [pi.len]; omega)
  refine ZE.index rfl rfl rfl rfl rfl sz0 (fun W => ix1 W) ?_; refine ZE.load rfl rfl rfl rfl sz1 (fun W hW => lx1 W (sb_of hW)) ?_; refine ZE.move rfl rfl rfl rfl sz0 ?_; refine ZE.move rfl rfl rfl rfl sz0 ?_
  obtain ⟨x2, ad2, hx2, hm2, ix2, lx2⟩ := pi.r.at' (t := a) (by rw [pi.len]; omega)
  refine ZE.index rfl rfl rfl rfl rfl sz0 (fun W => ix2 W) ?_; refine ZE.load rfl rfl rfl rfl sz1 (fun W hW => lx2 W (sb_of hW)) ?_; refine ZE.callFR [.agg (pgC x1).toArray, .agg (pgC x2).toArray] (fun v W => (∃ r, v = .int .i64 r) ∧ Below w.heap.size w W) enter70 rfl rfl rfl rfl (fun _ _ h => .inr h.2) (fun W hW => (cmpf_any x1 x2 W).mono fun e w' ⟨⟨r, g1⟩, g2⟩ => ⟨_, g1, ⟨r, rfl⟩, hW.trans (g2.mono hW.size)⟩) ?_
  rintro _ ⟨_, ⟨rc, rfl⟩, _⟩
  refine ZE.bin rfl rfl rfl rfl rfl sz0 (fun W => int_lt_d _ _ W _ _) ?_
  rintro wc ⟨_, ec⟩
  have bq := hq.on ec
  refine EW.on ?_; refine EW.cond_d rfl (fun h22 => ?_) (fun h22 => ?_)
  · refine EW.seq ?_; refine EW.region ?_; refine WL.move rfl rfl rfl ?_; refine WL.nilc rfl rfl rfl ?_; refine WL.load rfl rfl rfl (ldc3 bq rfl) ?_; refine WL.bin rfl rfl rfl rfl (int_add rfl _ _ _) ?_; refine WL.nilc rfl rfl rfl ?_
    obtain ⟨w5, s5, b5, x5⟩ := st3c (IntKind.i64.wrap (c + 1)) bq
    refine WL.store rfl rfl rfl s5 ?_; refine WL.done ?_; refine EW.on ?_; refine EW.seq ?_; refine EW.region ?_; refine WL.move rfl rfl rfl ?_; refine WL.move rfl rfl rfl ?_; refine WL.assign rfl rfl rfl ?_; refine WL.assign rfl rfl rfl ?_; refine WL.done ?_; refine EW.on ?_; refine EW.ret ?_; refine pr_then ?_
    exact EW.returns2 Tryz.results107 rfl rfl ⟨b, a, _, rfl, .inr rfl, .inl rfl, b5, (Fx.of_below ec).and x5⟩
  · refine EW.skip ?_; refine EW.on ?_; refine EW.seq ?_; refine EW.region ?_; refine WL.move rfl rfl rfl ?_; refine WL.move rfl rfl rfl ?_; refine WL.assign rfl rfl rfl ?_; refine WL.assign rfl rfl rfl ?_; refine WL.done ?_; refine EW.on ?_; refine EW.ret ?_
    exact EW.returns2 Tryz.results107 rfl rfl ⟨a, b, _, rfl, .inl rfl, .inr rfl, bq, Fx.of_below ec⟩
set_option maxRecDepth 100000 in
set_option maxHeartbeats 1000000 in
theorem median_any {w : World} {v : Value} {l : List Pw} (h : Pws w v l) (a b d : Nat) (ha : a < l.length) (hb : b < l.length) (hd : d < l.length) (q : Nat) (c : Int) (hq : Blk w q [.int .i64 c] 3) (hvq : ∀ k, v.ownBlock = some k → ¬ k = q) (hxq : ∀ x ∈ l, ∀ k, x.v.ownBlock = some k → ¬ k = q) : Calls Tryz.prog 105 #[v, .int .i64 (a : Int), .int .i64 (b : Int), .int .i64 (d : Int), .pointer (some ⟨q, 0, none⟩), fnV] w fun e w' => ∃ x c', e = .returned (.int .i64 ((x : Nat) : Int)) ∧ (x = a ∨ x = b ∨ x = d) ∧ Blk w' q [.int .i64 c'] 3 ∧ Fx (fun k => k = q) w w' := by
  refine calls_of_args [v, .int .i64 (a : Int), .int .i64 (b : Int), .int .i64 (d : Int), .pointer (some ⟨q, 0, none⟩), fnV] Tryz.func105 rfl 41 Tryz.ntmps105 (by show 6 ≤ 41; decide) ?_; refine EW.seq ?_; refine EW.region ?_; refine WL.assign rfl rfl rfl ?_; refine WL.done ?_; refine EW.on ?_; refine EW.seq ?_; refine EW.region ?_; refine WL.move rfl rfl rfl ?_; refine WL.move rfl rfl rfl ?_; refine WL.move rfl rfl rfl ?_; refine WL.move rfl rfl rfl ?_; refine WL.move rfl rfl rfl ?_; refine WL.call [v, .int .i64 (a : Int), .int .i64 (b : Int), .pointer (some ⟨q, 0, none⟩), fnV] enter107 rfl rfl rfl (order2_any h a b (by omega) (by omega) q _ hq) ?_
  rintro _ w1 ⟨x1, y1, c1, rfl, hx1, hy1, q1, f1⟩
  have p1 := h.fx f1 hvq hxq
  refine ⟨_, rfl, ?_⟩; refine WL.move rfl rfl rfl ?_; refine WL.extract rfl rfl rfl (ext_2 _ _ _).1 ?_; refine WL.extract rfl rfl rfl (ext_2 _ _ _).2 ?_; refine WL.assign rfl rfl rfl ?_; refine WL.assign rfl rfl rfl ?_; refine WL.done ?_; refine EW.on ?_; refine EW.seq ?_; refine EW.region ?_; refine WL.move rfl rfl rfl ?_; refine WL.move rfl rfl rfl ?_; refine WL.move rfl rfl rfl ?_; refine WL.move rfl rfl rfl ?_; refine WL.move rfl rfl rfl ?_; refine WL.call [v, .int .i64 (y1 : Int), .int .i64 (d : Int), .pointer (some ⟨q, 0, none⟩), fnV] enter107 rfl rfl rfl (order2_any p1 y1 d (by omega) (by omega) q _ q1) ?_
  rintro _ w2 ⟨x2, y2, c2, rfl, hx2, hy2, q2, f2⟩
  have p2 := p1.fx f2 hvq hxq
  refine ⟨_, rfl, ?_⟩; refine WL.move rfl rfl rfl ?_; refine WL.extract rfl rfl rfl (ext_2 _ _ _).1 ?_; refine WL.extract rfl rfl rfl (ext_2 _ _ _).2 ?_; refine WL.assign rfl rfl rfl ?_; refine WL.assign rfl rfl rfl ?_; refine WL.done ?_; refine EW.on ?_; refine EW.seq ?_; refine EW.region ?_; refine WL.move rfl rfl rfl ?_; refine WL.move rfl rfl rfl ?_; refine WL.move rfl rfl rfl ?_; refine WL.move rfl rfl rfl ?_; refine WL.move rfl rfl rfl ?_; refine WL.call [v, .int .i64 (x1 : Int), .int .i64 (x2 : Int), .pointer (some ⟨q, 0, none⟩), fnV] enter107 rfl rfl rfl (order2_any p2 x1 x2 (by omega) (by omega) q _ q2) ?_
  rintro _ w3 ⟨x3, y3, c3, rfl, hx3, hy3, q3, f3⟩
  have p3 := p2.fx f3 hvq hxq
  refine ⟨_, rfl, ?_⟩; refine WL.move rfl rfl rfl ?_; refine WL.extract rfl rfl rfl (ext_2 _ _ _).1 ?_; refine WL.extract rfl rfl rfl (ext_2 _ _ _).2 ?_; refine WL.assign rfl rfl rfl ?_; refine WL.assign rfl rfl rfl ?_; refine WL.done ?_; refine EW.on ?_; refine EW.seq ?_; refine EW.region ?_; refine WL.move rfl rfl rfl ?_; refine WL.assign rfl rfl rfl ?_; refine WL.done ?_; refine EW.on ?_; refine EW.ret ?_
  exact EW.returns Tryz.results105 rfl ⟨y3, c3, rfl, by omega, q3, (f1.and f2).and f3⟩
set_option maxRecDepth 100000 in
set_option maxHeartbeats 1000000 in
theorem pivot_any {w : World} {v : Value} {l : List Pw} (h : Pws w v l) (hl : l.length ≤ 1000) (hxl : ∀ x ∈ l, ∀ k, x.v.ownBlock = some k → k < w.heap.size) (a b : Nat) (hab : a + 8 ≤ b) (h50 : b < a + 50) (hb : b ≤ l.length) : Calls Tryz.prog 93 #[v, .int .i64 (a : Int), .int .i64 (b : Int), fnV] w fun e w' => ∃ x t, e = .returned (.tuple #[.int .i64 ((x : Nat) : Int), .int .i64 t]) ∧ a ≤ x ∧ x < b ∧ Below w.heap.size w w' := by
  refine calls_of_args [v, .int .i64 (a : Int), .int .i64 (b : Int), fnV] Tryz.func93 rfl 63 Tryz.ntmps93 (by show 4 ≤ 63; decide) ?_; refine EW.seq ?_; refine EW.region ?_; refine WL.assign rfl rfl rfl ?_; refine WL.assign rfl rfl rfl ?_; refine WL.done ?_; refine EW.on ?_; refine EW.seq ?_; refine EW.region ?_; refine WL.move rfl rfl rfl ?_; refine WL.move rfl rfl rfl ?_; refine WL.bin rfl rfl rfl rfl (int_sub (c := ((b - a : Nat) : Int)) (by rw [IntKind.wrap_i64]; omega) _ _ _) ?_; refine WL.assign rfl rfl rfl ?_; refine WL.done ?_; refine EW.on ?_; refine EW.seq ?_; refine EW.region ?_
  obtain ⟨w1, q, r1, b1, e1, hq⟩ := new3 w
  refine WL.new rfl rfl r1 ?_; refine WL.done ?_; refine EW.on ?_; refine EW.seq ?_; refine EW.region ?_; refine WL.move rfl rfl rfl ?_; refine WL.move rfl rfl rfl ?_; refine WL.bin rfl rfl rfl rfl (int_quo4 (c := (((b - a) / 4 : Nat) : Int)) (by rw [Int.tdiv_eq_ediv_of_nonneg (by omega), IntKind.wrap_i64]; omega) _ _ _) ?_; refine WL.bin rfl rfl rfl rfl (int_mulc (c := (((b - a) / 4 * 1 : Nat) : Int)) (by rw [IntKind.wrap_i64]; omega) _ _ _) ?_; refine WL.bin rfl rfl rfl rfl (int_add (c := ((a + (b - a) / 4 * 1 : Nat) : Int)) (by rw [IntKind.wrap_i64]; omega) _ _ _) ?_; refine WL.assign rfl rfl rfl ?_; refine WL.done ?_; refine EW.on ?_; refine EW.seq ?_; refine EW.region ?_; refine WL.move rfl rfl rfl ?_; refine WL.move rfl rfl rfl ?_; refine WL.bin rfl rfl rfl rfl (int_quo4 (c := (((b - a) / 4 : Nat) : Int)) (by rw [Int.tdiv_eq_ediv_of_nonneg (by omega), IntKind.wrap_i64]; omega) _ _ _) ?_; refine WL.bin rfl rfl rfl rfl (int_mulc (c := (((b - a) / 4 * 2 : Nat) : Int)) (by rw [IntKind.wrap_i64]; omega) _ _ _) ?_; refine WL.bin rfl rfl rfl rfl (int_add (c := ((a + (b - a) / 4 * 2 : Nat) : Int)) (by rw [IntKind.wrap_i64]; omega) _ _ _) ?_; refine WL.assign rfl rfl rfl ?_; refine WL.done ?_; refine EW.on ?_; refine EW.seq ?_; refine EW.region ?_; refine WL.move rfl rfl rfl ?_; refine WL.move rfl rfl rfl ?_; refine WL.bin rfl rfl rfl rfl (int_quo4 (c := (((b - a) / 4 : Nat) : Int)) (by rw [Int.tdiv_eq_ediv_of_nonneg (by omega), IntKind.wrap_i64]; omega) _ _ _) ?_; refine WL.bin rfl rfl rfl rfl (int_mulc (c := (((b - a) / 4 * 3 : Nat) : Int)) (by rw [IntKind.wrap_i64]; omega) _ _ _) ?_; refine WL.bin rfl rfl rfl rfl (int_add (c := ((a + (b - a) / 4 * 3 : Nat) : Int)) (by rw [IntKind.wrap_i64]; omega) _ _ _) ?_; refine WL.assign rfl rfl rfl ?_; refine WL.done ?_; refine EW.on ?_; refine EW.seq ?_; refine EW.seq ?_; refine EW.region ?_; refine WL.move rfl rfl rfl ?_; refine WL.bin rfl rfl rfl rfl (int_ge_t (by omega) _ _ _) ?_; refine WL.done ?_; refine EW.on ?_; refine EW.cond_t rfl ?_; refine EW.seq ?_; refine EW.seq ?_; refine EW.region ?_; refine WL.move rfl rfl rfl ?_; refine WL.bin rfl rfl rfl rfl (int_ge_f (by omega) _ _ _) ?_; refine WL.done ?_; refine EW.on ?_; refine EW.cond_f rfl ?_; refine EW.skip ?_; refine EW.on ?_; refine EW.region ?_; refine WL.move rfl rfl rfl ?_; refine WL.move rfl rfl rfl ?_; refine WL.move rfl rfl rfl ?_; refine WL.move rfl rfl rfl ?_; refine WL.move rfl rfl rfl ?_; refine WL.call [v, .int .i64 ((a + (b - a) / 4 * 1 : Nat) : Int), .int .i64 ((a + (b - a) / 4 * 2 : Nat) : Int), .int .i64 ((a + (b - a) / 4 * 3 : Nat) : Int), .pointer (some ⟨q, 0, none⟩), fnV] enter105 rfl rfl rfl (median_any (h.below e1) _ _ _ (by omega) (by omega) (by omega) q 0 b1 (fun k hk => by have := ownsRow_lt h.row k hk; omega) (fun x hx k hk => by have := hxl x hx k hk; omega)) ?_
  rintro _ w2 ⟨x, c2, rfl, hx2, q2, f2⟩
  refine ⟨_, rfl, ?_⟩; refine WL.assign rfl rfl rfl ?_; refine WL.done ?_; refine EW.on ?_; refine EW.seq ?_; refine EW.region ?_; refine WL.load rfl rfl rfl (ldc3 q2 rfl) ?_; refine WL.done ?_; refine EW.on ?_; refine EW.block ?_; refine EW.seq ?_; refine EW.region ?_; refine WL.bin rfl rfl rfl rfl (int_eq_d _ _ _ _ _) ?_; refine WL.assign rfl rfl rfl ?_; refine WL.done ?_; refine EW.on ?_; refine EW.cond_d rfl (fun h57 => ?_) (fun h57 => ?_)
  · refine EW.seq ?_; refine EW.region ?_; refine WL.move rfl rfl rfl ?_; refine WL.assign rfl rfl rfl ?_; refine WL.assign rfl rfl rfl ?_; refine WL.done ?_; refine EW.on ?_; refine EW.ret ?_; refine pr_block ?_
    exact EW.returns2 Tryz.results93 rfl rfl ⟨x, _, rfl, by omega, by omega, below_of_new e1 f2 (fun k hk => by omega)⟩
  · refine EW.seq ?_; refine EW.region ?_; refine WL.bin rfl rfl rfl rfl (int_eq_d _ _ _ _ _) ?_; refine WL.assign rfl rfl rfl ?_; refine WL.done ?_; refine EW.on ?_; refine EW.cond_d rfl (fun h60 => ?_) (fun h60 => ?_)
    · refine EW.seq ?_; refine EW.region ?_; refine WL.move rfl rfl rfl ?_; refine WL.assign rfl rfl rfl ?_; refine WL.assign rfl rfl rfl ?_; refine WL.done ?_; refine EW.on ?_; refine EW.ret ?_; refine pr_block ?_
      exact EW.returns2 Tryz.results93 rfl rfl ⟨x, _, rfl, by omega, by omega, below_of_new e1 f2 (fun k hk => by omega)⟩
    · refine EW.seq ?_; refine EW.region ?_; refine WL.move rfl rfl rfl ?_; refine WL.assign rfl rfl rfl ?_; refine WL.assign rfl rfl rfl ?_; refine WL.done ?_; refine EW.on ?_; refine EW.ret ?_; refine pr_block ?_
      exact EW.returns2 Tryz.results93 rfl rfl ⟨x, _, rfl, by omega, by omega, below_of_new e1 f2 (fun k hk => by omega)⟩
def rvE (v : Value) (x : Nat × Nat × List Pw) : List (Nat × Value) := [(0, v), (8, .int .i64 (x.1 : Int)), (9, .int .i64 (x.2.1 : Int))]
structure RvR (w : World) (v : Value) (l : List Pw) (a b : Nat) (x : Nat × Nat × List Pw) (W : World) : Prop where
  p : Prm w v l W x.2.2
  lo : a ≤ x.1
  hi : x.2.1 < b
  mid : x.1 ≤ x.2.1 + 1
set_option maxRecDepth 100000 in
set_option maxHeartbeats 1000000 in
theorem reverse_any {w : World} {v : Value} {l : List Pw} (h : Pws w v l) (hs : Apt v l) (hl : l.length ≤ 1000) (a b : Nat) (hab : a < b) (hb : b ≤ l.length) : Calls Tryz.prog 94 #[v, .int .i64 (a : Int), .int .i64 (b : Int), fnV] w fun e w' => e = .returned (.tuple #[]) ∧ ∃ l', Prm w v l w' l' := by
  refine calls_of_args [v, .int .i64 (a : Int), .int .i64 (b : Int), fnV] Tryz.func94 rfl 34 Tryz.ntmps94 (by show 4 ≤ 34; decide) ?_; refine EW.seq ?_; refine EW.region ?_; refine WL.move rfl rfl rfl ?_; refine WL.assign rfl rfl rfl ?_; refine WL.done ?_; refine EW.on ?_; refine EW.seq ?_; refine EW.region ?_; refine WL.move rfl rfl rfl ?_; refine WL.bin rfl rfl rfl rfl (int_sub (c := ((b - 1 : Nat) : Int)) (by rw [IntKind.wrap_i64]; omega) _ _ _) ?_; refine WL.assign rfl rfl rfl ?_; refine WL.done ?_; refine EW.on ?_; refine EW.block ?_; refine EW.loop (rvE v) (RvR w v l a b) (fun x => x.2.1 + 1 - x.1) (a, b - 1, l) [0, 8, 9] rfl ⟨Prm.refl h, Nat.le_refl _, by show b - 1 < b; omega, by show a ≤ b - 1 + 1; omega⟩ ?_
  rintro ⟨i, j, li⟩ wi ⟨pi, hlo, hhi, hmid⟩
  simp only at pi hlo hhi hmid
  show EW _ _ _ _ [(0, v), (8, .int .i64 (i : Int)), (9, .int .i64 (j : Int))] _
  refine EW.seq ?_; refine EW.seq ?_; refine EW.region ?_; refine WL.move rfl rfl rfl ?_; refine WL.move rfl rfl rfl ?_; refine WL.bin rfl rfl rfl rfl (int_lt_d _ _ _ _ _) ?_; refine WL.done ?_; refine EW.on ?_; refine EW.cond_d rfl (fun h15 => ?_) (fun h15 => ?_)
  · refine EW.skip ?_; refine EW.on ?_; refine EW.block ?_; refine EW.seq ?_
    obtain ⟨li0, hli0⟩ : ∃ l0, li = l0 := ⟨_, rfl⟩
    refine EW.ordB [(0, 0, 0), (1, 0, 0), (2, 0, 0), (3, 0, 0), (4, 0, 0), (5, 0, 0), (6, 0, 0), (7, 0, 1), (8, 0, 0), (9, 0, 0), (10, 0, 0), (11, 0, 1), (12, 0, 0), (13, 1, 0), (14, 0, 0), (15, 1, 0)] (by kernel_rfl) rfl (by kernel_rfl) ?_; simp only [opsZ, List.getD_cons_zero, List.getD_cons_succ]; refine ZE.move rfl rfl rfl rfl sz0 ?_; refine ZE.move rfl rfl rfl rfl sz0 ?_; refine ZE.move rfl rfl rfl rfl sz0 ?_; refine ZE.move rfl rfl rfl rfl sz0 ?_; refine ZE.move rfl rfl rfl rfl sz0 ?_; refine ZE.move rfl rfl rfl rfl sz0 ?_
    obtain ⟨x1, ad1, hx1, hm1, ix1, lx1⟩ := pi.r.at' (t := j) (by rw [pi.len]; omega)
    refine ZE.index rfl rfl rfl rfl rfl sz0 (fun W => ix1 W) ?_; refine ZE.load rfl rfl rfl rfl sz1 (fun W hW => lx1 W (sb_of hW)) ?_; refine ZE.move rfl rfl rfl rfl sz0 ?_; refine ZE.move rfl rfl rfl rfl sz0 ?_
    obtain ⟨x2, ad2, hx2, hm2, ix2, lx2⟩ := pi.r.at' (t := i) (by rw [pi.len]; omega)
    refine ZE.index rfl rfl rfl rfl rfl sz0 (fun W => ix2 W) ?_; refine ZE.load rfl rfl rfl rfl sz1 (fun W hW => lx2 W (sb_of hW)) ?_; refine ZE.index rfl rfl rfl rfl rfl sz0 (fun W => ix2 W) ?_
    refine ZE.store (fun W => Pws W v (li.set (i) x1) ∧ Fx (fun k => v.ownBlock = some k) wi W) rfl rfl rfl (fun _ _ => .inl rfl) (fun W hW => by
      obtain ⟨w', g1, g2, g3⟩ := pi.r.swap1 (pi.apt hs) (I := i) (by rw [pi.len]; omega) hm1 ix2 W hW
      exact ⟨w', g1, g2, g3⟩) ?_
    refine ZE.index rfl rfl rfl rfl rfl sz0 (fun W => ix1 W) ?_; refine ZE.store (fun W => Prm wi v li W ((li.set (i) x1).set (j) x2)) rfl rfl rfl (fun _ _ => .inl rfl) (fun W hW => pi.r.swap2 (pi.apt hs) hx2 hx1 ix1 W hW.1 hW.2) ?_
    rintro ws ps_
    replace pi := pi.trans ps_
    refine EW.on ?_; refine EW.seq ?_; refine EW.region ?_; refine WL.move rfl rfl rfl ?_; refine WL.bin rfl rfl rfl rfl (int_add (c := ((i + 1 : Nat) : Int)) (by rw [IntKind.wrap_i64]; omega) _ _ _) ?_; refine WL.assign rfl rfl rfl ?_; refine WL.done ?_; refine EW.on ?_; refine EW.region ?_; refine WL.move rfl rfl rfl ?_; refine WL.bin rfl rfl rfl rfl (int_sub (c := ((j - 1 : Nat) : Int)) (by rw [IntKind.wrap_i64]; omega) _ _ _) ?_; refine WL.assign rfl rfl rfl ?_; refine WL.done ?_; refine pn_block ?_; refine EW.again (E := rvE v) (R := RvR w v l a b) (m := fun x => x.2.1 + 1 - x.1) (x := (i, j, li0)) (i + 1, j - 1, _) [0, 8, 9] rfl ⟨pi, by show a ≤ i + 1; omega, by show j - 1 < b; omega, by show i + 1 ≤ j - 1 + 1; omega⟩ (by show j - 1 + 1 - (i + 1) < j + 1 - i; omega)
  · refine EW.exit ?_; refine px_then ?_; refine px_then ?_; refine px_block ?_
    exact EW.falls Tryz.results94 ⟨rfl, _, pi⟩
end Go.Proofs.YtmbgeojjklboeaaGreatDoor
