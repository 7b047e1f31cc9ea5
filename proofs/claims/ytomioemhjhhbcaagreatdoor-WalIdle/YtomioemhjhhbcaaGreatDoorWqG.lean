import Derived.Test.YtomioemhjhhbcaaGreatDoorWo
set_option linter.unusedVariables false
set_option linter.unusedSimpArgs false
namespace Go.Proofs.YtomioemhjhhbcaaGreatDoor
open Go.RowKit

theorem ne5 (u : Nat) (W : World) (x y : Operand) : (do eqGuard .neq 5 x y (.int .u8 (u : Int)) (.int .u8 0); binOp .neq 5 (.int .u8 (u : Int)) (.int .u8 0) : Sem Value).run Tryz.prog W = .ok (.bool (decide (¬ u = 0))) W := by
  have e : decide (¬ (u : Int) = 0) = decide (¬ u = 0) := decide_eq_decide.2 (by omega)
  rw [← e]
  go_simp
  by_cases h : u = 0 <;> simp [h]
theorem wip_set {sp : List (Nat × Nat)} {s : Nat → List UInt8} {b : List UInt8} (h : covB sp 0 = true) (j : Nat) : wipS sp (setS s 0 b) j = wipS sp s j := by
  unfold wipS setS
  by_cases e : covB sp j = true
  · rw [if_pos e, if_pos e]
  · rw [if_neg e, if_neg e, if_neg (fun e0 => e (by rw [e0]; exact h))]
theorem sp_two {n N : Nat} (h : 4 * n + 1 ≤ N) : ∀ x ∈ [(0, 1 + 2 * n), (1 + 2 * (n + n), N)], x.2 ≤ N := fun x hx => by
  rcases List.mem_cons.1 hx with rfl | hx
  · show 1 + 2 * n ≤ N; omega
  · rw [List.mem_singleton.1 hx]; exact Nat.le_refl _
theorem covB_two (n N : Nat) : covB [(0, 1 + 2 * n), (1 + 2 * (n + n), N)] 0 = true := by
  unfold covB
  rw [List.any_cons, show decide (((0, 1 + 2 * n) : Nat × Nat).1 ≤ 0 ∧ 0 < ((0, 1 + 2 * n) : Nat × Nat).2) = true from decide_eq_true ⟨Nat.le_refl _, by show 0 < 1 + 2 * n; omega⟩, Bool.true_or]
end Go.Proofs.YtomioemhjhhbcaaGreatDoor

set_option linter.unusedVariables false
set_option linter.unusedSimpArgs false
namespace Go.Proofs.YtomioemhjhhbcaaGreatDoor
open Go.RowKit

set_option maxRecDepth 100000 in
set_option maxHeartbeats 1000000 in
theorem commit1_none (v0 v1 : Value) (w : World) : CallsD Tryz.prog 26 #[v0, v1] .returning w fun x u w' => (∃ v, x = .returned v) ∧ u = .returning ∧ w' = w := by
  refine callsD_of_args [v0, v1] Tryz.func26 rfl 10 Tryz.ntmps26 (by show 2 ≤ 10; decide) (fun c₀ cs hc => ?_)
  refine ES.seq ?_
  refine ES.region ?_
  refine WS.recover0 rfl rfl rfl (recover_no hc) ?_
  refine WS.call [.nilIface] enter27 rfl rfl rfl rfl (caught_nil _) ?_
  rintro _ w1 ⟨rfl, hz⟩
  rw [hz]
  refine ⟨_, rfl, ?_⟩
  refine WS.assign rfl rfl rfl rfl ?_
  refine WS.on ?_
  refine ES.of ?_
  refine EW.seq ?_
  refine EW.region ?_
  refine WL.move rfl rfl rfl ?_
  refine WL.bin rfl rfl rfl rfl (int_ne_f rfl _ _ _) ?_
  refine WL.done ?_
  refine EW.on ?_
  refine EW.cond_f rfl ?_
  refine EW.skip ?_
  intro a ha
  exact ⟨ha.df, .returning, by rw [← hc], _, by rw [results_none Tryz.results26], ⟨_, rfl⟩, rfl, rfl⟩
set_option maxRecDepth 100000 in
set_option maxHeartbeats 1000000 in
theorem read1_none (v0 v1 v2 : Value) (w : World) : CallsD Tryz.prog 46 #[v0, v1, v2] .returning w fun x u w' => (∃ v, x = .returned v) ∧ u = .returning ∧ w' = w := by
  refine callsD_of_args [v0, v1, v2] Tryz.func46 rfl 11 Tryz.ntmps46 (by show 3 ≤ 11; decide) (fun c₀ cs hc => ?_)
  refine ES.seq ?_
  refine ES.region ?_
  refine WS.recover0 rfl rfl rfl (recover_no hc) ?_
  refine WS.call [.nilIface] enter27 rfl rfl rfl rfl (caught_nil _) ?_
  rintro _ w1 ⟨rfl, hz⟩
  rw [hz]
  refine ⟨_, rfl, ?_⟩
  refine WS.assign rfl rfl rfl rfl ?_
  refine WS.on ?_
  refine ES.of ?_
  refine EW.seq ?_
  refine EW.region ?_
  refine WL.move rfl rfl rfl ?_
  refine WL.bin rfl rfl rfl rfl (int_ne_f rfl _ _ _) ?_
  refine WL.done ?_
  refine EW.on ?_
  refine EW.cond_f rfl ?_
  refine EW.skip ?_
  intro a ha
  exact ⟨ha.df, .returning, by rw [← hc], _, by rw [results_none Tryz.results46], ⟨_, rfl⟩, rfl, rfl⟩
theorem fld66_0 (q : Nat) (W : World) : (Instr.fieldAt 87 (.pointer (some ⟨q, 0, none⟩)) 0).run Tryz.prog W = .ok (.pointer (some ⟨q, 0, none⟩)) W := by go_simp
theorem fld66_1 (q : Nat) (W : World) : (Instr.fieldAt 87 (.pointer (some ⟨q, 0, none⟩)) 1).run Tryz.prog W = .ok (.pointer (some ⟨q, 2, none⟩)) W := by go_simp
theorem ldl3 {W : World} {q p n : Nat} {x : Value} (hb : Blk W q (lgC p n x) 87) : (Instr.loadAt 3 (.pointer (some ⟨q, 1, none⟩))).run Tryz.prog W = .ok (.int .i64 (n : Int)) W := by
  have hc : W.cell? ⟨q, 1, none⟩ = some (.int .i64 (n : Int)) := hb.cell 1
  have hf := hb.frozen 1
  go_simp
theorem ldl24 {W : World} {q p n : Nat} {x : Value} (hb : Blk W q (lgC p n x) 87) : (Instr.loadAt 46 (.pointer (some ⟨q, 2, none⟩))).run Tryz.prog W = .ok x W := by
  have hc : W.cell? ⟨q, 2, none⟩ = some x := hb.cell 2
  have hf := hb.frozen 2
  go_simp
theorem ldl55 {W : World} {q p n : Nat} {x : Value} (hb : Blk W q (lgC p n x) 87) : (Instr.loadAt 85 (.pointer (some ⟨q, 0, none⟩))).run Tryz.prog W = .ok (dkV p n) W := by
  refine run_loadA (fun j v hj => ?_) Tryz.underlying85 rfl (info55 p n)
  rw [add_plain0, hb.cell]
  have hlt := (List.getElem?_eq_some_iff.1 hj).1
  rw [← hj]
  match j, hlt with
  | 0, _ => rfl
  | 1, _ => rfl
theorem box22 (v : Option Addr) (w : World) : ∃ w1 q, (Instr.box 41 (.pointer v)).run Tryz.prog w = .ok (.pointer (some ⟨q, 0, none⟩)) w1 ∧ Blk w1 q [.pointer v] 41 ∧ Below w.heap.size w w1 ∧ q = w.heap.size ∧ w1.heap.size = w.heap.size + 1 :=
  ⟨w.alloc (.cells [.pointer v].toArray 41), w.heap.size, by go_simp, Blk.new _ _ _, below_new _ _, rfl, by show (w.heap.push _).size = _; rw [Array.size_push]⟩
theorem new37 (w : World) : ∃ w1 q, (Instr.alloc 50 true (.tuple #[])).run Tryz.prog w = .ok (.pointer (some ⟨q, 0, none⟩)) w1 ∧ Blk w1 q [.slice none 0 0] 50 ∧ Below w.heap.size w w1 ∧ q = w.heap.size ∧ w1.heap.size = w.heap.size + 1 :=
  ⟨w.alloc (.cells [.slice none 0 0].toArray 50), w.heap.size, by go_simp, Blk.new _ _ _, below_new _ _, rfl, by show (w.heap.push _).size = _; rw [Array.size_push]⟩
theorem st37c {w : World} {q : Nat} {v0 : Value} (ao : Option Addr) (n c : Nat) (hb : Blk w q [v0] 50) : ∃ w', (Instr.storeAt 50 (.pointer (some ⟨q, 0, none⟩)) (.slice ao n c)).run Tryz.prog w = .ok () w' ∧ Blk w' q [.slice ao n c] 50 ∧ Fx (fun k => k = q) w w' := by
  have hc : w.cell? ⟨q, 0, none⟩ = some v0 := hb.cell 0
  have hf := hb.frozen 0
  refine ⟨w.setCell ⟨q, 0, none⟩ (.slice ao n c), by go_simp, hb.set 0 _, Fx.setCell _ _ _ _ rfl⟩
theorem ld37c {w : World} {q : Nat} {v : Value} (hb : Blk w q [v] 50) : (Instr.loadAt 50 (.pointer (some ⟨q, 0, none⟩))).run Tryz.prog w = .ok v w := by
  have hc : w.cell? ⟨q, 0, none⟩ = some v := hb.cell 0
  have hf := hb.frozen 0
  go_simp
theorem ne24n (W : World) (x : Operand) : (do eqGuard .neq 46 x (.const .nilIface) .nilIface .nilIface; binOp .neq 46 .nilIface .nilIface : Sem Value).run Tryz.prog W = .ok (.bool false) W := by
  have h : eqGuard .neq 46 x (.const .nilIface) .nilIface .nilIface = pure () := by
    unfold eqGuard
    cases x <;> simp
  rw [h]
  go_simp
set_option maxRecDepth 100000 in
set_option maxHeartbeats 1000000 in
theorem pages_any {w : World} {q p n : Nat} {x : Value} (hb : Blk w q (lgC p n x) 87) : Calls Tryz.prog 17 #[.pointer (some ⟨q, 0, none⟩)] w fun e w' => e = .returned (.int .i64 (n : Int)) ∧ w' = w := by
  refine calls_of_args [.pointer (some ⟨q, 0, none⟩)] Tryz.func17 rfl 8 Tryz.ntmps17 (by show 1 ≤ 8; decide) ?_
  refine EW.seq ?_
  refine EW.region ?_
  first | refine WL.assign rfl rfl rfl ?_
  refine WL.done ?_
  refine EW.on ?_
  refine EW.seq ?_
  refine EW.region ?_
  first | refine WL.move rfl rfl rfl ?_
  first | refine WL.nilc rfl rfl rfl ?_
  refine WL.field rfl rfl rfl (fld66_0 q _) ?_
  refine WL.field rfl rfl rfl (fld55_1 q _) ?_
  refine WL.load rfl rfl rfl (ldl3 hb) ?_
  first | refine WL.assign rfl rfl rfl ?_
  refine WL.done ?_
  refine EW.on ?_
  refine EW.ret ?_
  exact EW.returns Tryz.results17 rfl ⟨rfl, rfl⟩
set_option maxRecDepth 100000 in
set_option maxHeartbeats 1000000 in
theorem has_ok {w : World} {q p n : Nat} {x : Value} (hb : Blk w q (lgC p n x) 87) (i : Nat) (hi : i < n) : Calls Tryz.prog 47 #[.pointer (some ⟨q, 0, none⟩), .int .i64 (i : Int)] w fun e w' => e = .returned (.bool true) ∧ w' = w := by
  have h0 : (0 : Int) ≤ (i : Int) := by omega
  have h1 : (i : Int) < (n : Int) := by omega
  refine calls_of_args [.pointer (some ⟨q, 0, none⟩), .int .i64 (i : Int)] Tryz.func47 rfl 13 Tryz.ntmps47 (by show 2 ≤ 13; decide) ?_
  refine EW.seq ?_
  refine EW.region ?_
  first | refine WL.assign rfl rfl rfl ?_
  refine WL.done ?_
  refine EW.on ?_
  refine EW.seq ?_
  refine EW.region ?_
  first | refine WL.move rfl rfl rfl ?_
  refine WL.bin rfl rfl rfl rfl (int_ge_t h0 _ _ _) ?_
  first | refine WL.move rfl rfl rfl ?_
  first | refine WL.move rfl rfl rfl ?_ | refine WL.skip _ rfl rfl rfl ?_
  first | refine WL.move rfl rfl rfl ?_ | refine WL.skip _ rfl rfl rfl ?_
  refine WL.call [.pointer (some ⟨q, 0, none⟩)] enter17 rfl rfl rfl (pages_any hb) ?_
  rintro _ w1 ⟨rfl, hz⟩
  rw [hz]
  refine ⟨_, rfl, ?_⟩
  refine WL.bin rfl rfl rfl rfl (int_lt_t h1 _ _ _) ?_
  first | refine WL.pick rfl rfl rfl rfl ?_
  first | refine WL.assign rfl rfl rfl ?_
  refine WL.done ?_
  refine EW.on ?_
  refine EW.ret ?_
  exact EW.returns Tryz.results47 rfl ⟨rfl, rfl⟩
def rfC (s : ByteArray) (a c : Int) : List Value := [.string s, .int .i64 a, .int .i64 c]
theorem fld81_0 (q : Nat) (W : World) : (Instr.fieldAt 55 (.pointer (some ⟨q, 0, none⟩)) 0).run Tryz.prog W = .ok (.pointer (some ⟨q, 0, none⟩)) W := by go_simp
theorem fld81_1 (q : Nat) (W : World) : (Instr.fieldAt 55 (.pointer (some ⟨q, 0, none⟩)) 1).run Tryz.prog W = .ok (.pointer (some ⟨q, 1, none⟩)) W := by go_simp
theorem fld81_2 (q : Nat) (W : World) : (Instr.fieldAt 55 (.pointer (some ⟨q, 0, none⟩)) 2).run Tryz.prog W = .ok (.pointer (some ⟨q, 2, none⟩)) W := by go_simp
theorem ldc9 {W : World} {q j : Nat} {cs : List Value} {t : TypeId} {s : ByteArray} (hb : Blk W q cs t) (h : cs[j]? = some (.string s)) : (Instr.loadAt 9 (.pointer (some ⟨q, j, none⟩))).run Tryz.prog W = .ok (.string s) W := by
  have hc : W.cell? ⟨q, j, none⟩ = some (.string s) := (hb.cell j).trans h
  have hf := hb.frozen j
  go_simp
theorem ldc3 {W : World} {q j : Nat} {cs : List Value} {t : TypeId} {i : Int} (hb : Blk W q cs t) (h : cs[j]? = some (.int .i64 i)) : (Instr.loadAt 3 (.pointer (some ⟨q, j, none⟩))).run Tryz.prog W = .ok (.int .i64 i) W := by
  have hc : W.cell? ⟨q, j, none⟩ = some (.int .i64 i) := (hb.cell j).trans h
  have hf := hb.frozen j
  go_simp
theorem ldc24 {W : World} {q j : Nat} {cs : List Value} {t : TypeId} {v : Value} (hb : Blk W q cs t) (h : cs[j]? = some v) : (Instr.loadAt 46 (.pointer (some ⟨q, j, none⟩))).run Tryz.prog W = .ok v W := by
  have hc : W.cell? ⟨q, j, none⟩ = some v := (hb.cell j).trans h
  have hf := hb.frozen j
  go_simp
theorem tas79 (v : Value) (W : World) : (Instr.typeAssert (.iface 53 v) 46 53 true).run Tryz.prog W = .ok (.tuple #[v, .bool true]) W := by
  simp [Instr.typeAssert, run_underlying Tryz.underlying53]
theorem tas45 (v : Value) (W : World) : (Instr.typeAssert (.iface 49 v) 46 49 true).run Tryz.prog W = .ok (.tuple #[v, .bool true]) W := by
  simp [Instr.typeAssert, run_underlying Tryz.underlying49]
theorem eq79s (q : Nat) (W : World) (x y : Operand) : (do eqGuard .eql 53 x y (.pointer (some ⟨q, 0, none⟩)) (.pointer none); binOp .eql 53 (.pointer (some ⟨q, 0, none⟩)) (.pointer none) : Sem Value).run Tryz.prog W = .ok (.bool false) W := by go_simp
theorem ne9s (s : ByteArray) (W : World) (x y : Operand) : (do eqGuard .neq 9 x y (.string s) (.string s); binOp .neq 9 (.string s) (.string s) : Sem Value).run Tryz.prog W = .ok (.bool false) W := by go_simp
set_option maxRecDepth 100000 in
set_option maxHeartbeats 1000000 in
theorem read_log {w : World} {L : Lay} {N : Nat} {s : Nat → List UInt8} {m c n q : Nat} (h : Dk w L N s m c) (hb : Blk w q (lgC L.p n .nilIface) 87) (hnN : 4 * n + 1 ≤ N) (hN : N ≤ 4096) (i : Nat) (hi : i < n) : Calls Tryz.prog 19 #[.pointer (some ⟨q, 0, none⟩), .int .i64 (i : Int)] w fun e w' => ∃ u, e = .returned (.tuple #[u, .nilIface]) ∧ Ob w' w.heap.size u (s (1 + 2 * (n + i)) ++ s (1 + 2 * (n + i) + 1)) ∧ Below w.heap.size w w' := by
  refine calls_of_argsD [.pointer (some ⟨q, 0, none⟩), .int .i64 (i : Int)] Tryz.func19 rfl 30 Tryz.ntmps19 (by show 2 ≤ 30; decide) ?_
  refine EW.seq ?_
  refine EW.region ?_
  obtain ⟨w1, q1, r1, b1, e1, hq1, z1⟩ := box22 (some ⟨q, 0, none⟩) w
  refine WL.box rfl rfl rfl r1 ?_
  obtain ⟨w2, q2, r2, b2, e2, hq2, z2⟩ := new37 w1
  refine WL.new rfl rfl r2 ?_
  obtain ⟨w3, q3, r3, b3, e3, hq3, z3⟩ := new24 w2
  have e03 := (e1.trans (e2.mono e1.size)).trans (e3.mono (Nat.le_trans e1.size e2.size))
  have h3 := h.below e03
  have g3 := hb.on e03
  have b13 := (b1.on e2).on e3
  have b23 := b2.on e3
  refine WL.new rfl rfl r3 ?_
  refine WL.done ?_
  refine EW.on ?_
  refine EW.seq ?_
  refine EW.region ?_
  refine WL.mkf [.pointer (some ⟨q1, 0, none⟩), .pointer (some ⟨q2, 0, none⟩), .pointer (some ⟨q3, 0, none⟩)] rfl rfl rfl ?_
  refine WL.defer rfl rfl ?_
  refine WL.done ?_
  refine EW.on ?_
  refine EW.seq ?_
  refine EW.seq ?_
  refine EW.region ?_
  refine WL.load rfl rfl rfl (ld22c b13) ?_
  first | refine WL.nilc rfl rfl rfl ?_
  refine WL.field rfl rfl rfl (fld66_1 q _) ?_
  refine WL.load rfl rfl rfl (ldl24 g3) ?_
  refine WL.bin rfl rfl rfl rfl (ne24n _ _) ?_
  refine WL.done ?_
  refine EW.on ?_
  refine EW.cond_f rfl ?_
  refine EW.skip ?_
  refine EW.on ?_
  refine EW.seq ?_
  refine EW.seq ?_
  refine EW.region ?_
  refine WL.load rfl rfl rfl (ld22c b13) ?_
  first | refine WL.move rfl rfl rfl ?_
  refine WL.call [.pointer (some ⟨q, 0, none⟩), .int .i64 (i : Int)] enter47 rfl rfl rfl (has_ok g3 i hi) ?_
  rintro _ w4 ⟨rfl, hz4⟩
  rw [hz4]
  refine ⟨_, rfl, ?_⟩
  first | refine WL.un rfl rfl rfl (not_t _ _) ?_
  refine WL.done ?_
  refine EW.on ?_
  refine EW.cond_f rfl ?_
  refine EW.skip ?_
  refine EW.on ?_
  refine EW.seq ?_
  refine EW.ordB [(0, 0, 1), (1, 0, 0), (2, 0, 0), (3, 0, 1), (4, 0, 1), (5, 0, 0), (6, 0, 0), (7, 0, 1), (8, 0, 0), (9, 1, 1), (10, 1, 1), (11, 1, 0), (12, 1, 0)] (by kernel_rfl) rfl (by kernel_rfl) ?_
  simp only [opsZ, List.getD_cons_zero, List.getD_cons_succ]
  refine ZE.load rfl rfl rfl rfl sz1 (fun W hW => ld22c (b13.on (sb_of hW))) ?_
  refine ZE.nilc rfl rfl rfl rfl sz0 ?_
  refine ZE.field rfl rfl rfl rfl sz0 (fun W => fld66_0 q W) ?_
  refine ZE.load rfl rfl rfl rfl sz1 (fun W hW => ldl55 (g3.on (sb_of hW))) ?_
  refine ZE.load rfl rfl rfl rfl sz1 (fun W hW => ld22c (b13.on (sb_of hW))) ?_
  refine ZE.nilc rfl rfl rfl rfl sz0 ?_
  refine ZE.field rfl rfl rfl rfl sz0 (fun W => fld66_0 q W) ?_
  refine ZE.load rfl rfl rfl rfl sz1 (fun W hW => ldl55 (g3.on (sb_of hW))) ?_
  first | refine ZE.move rfl rfl rfl rfl sz0 ?_
  refine ZE.callR [dkV L.p n, .int .i64 (i : Int)] (fun v W => v = .int .i64 ((1 + 2 * (n + i) : Nat) : Int) ∧ Below w3.heap.size w3 W) enter49 rfl rfl rfl (fun _ _ h => .inr h.2) (fun W hW => (home_any L.p n i W (by omega)).mono fun e w' ⟨g1, g2⟩ => ⟨_, g1, rfl, hW.trans (g2.mono hW.size)⟩) ?_
  rintro _ ⟨_, rfl, _⟩
  refine ZE.callR [dkV L.p n, .int .i64 ((1 + 2 * (n + i) : Nat) : Int)] (fun v W => Ob W w3.heap.size v (s (1 + 2 * (n + i)) ++ s (1 + 2 * (n + i) + 1)) ∧ Below w3.heap.size w3 W) enter48 rfl rfl rfl (fun _ _ h => .inr h.2) (fun W hW => (readPage_ok n (h3.below hW.2) (1 + 2 * (n + i)) (by omega) (by omega)).mono fun e w' ⟨u, g1, g2, g3⟩ => ⟨u, g1, g2.mono hW.2.size, hW.2.trans (g3.mono hW.2.size)⟩) ?_
  rintro vp ⟨_, op_, _⟩
  obtain ⟨ao, cp, hvp⟩ := op_.has.slice
  rw [hvp]
  refine ZE.store (fun W => Ob W w3.heap.size (.slice ao (s (1 + 2 * (n + i)) ++ s (1 + 2 * (n + i) + 1)).length cp) (s (1 + 2 * (n + i)) ++ s (1 + 2 * (n + i) + 1)) ∧ Below w.heap.size w W ∧ Blk W q2 [.slice ao (s (1 + 2 * (n + i)) ++ s (1 + 2 * (n + i) + 1)).length cp] 50 ∧ Blk W q3 [.nilIface] 46) rfl rfl rfl (fun W h => .inl rfl) (fun W hW => by
      obtain ⟨w', g1, g2, g3⟩ := st37c ao _ cp (b23.on hW.2)
      exact ⟨w', g1, hW.1.fx g3 (fun k hk hv => by have := hW.1.base k hv; have := b23.lt; omega), below_of_new (e03.trans (hW.2.mono e03.size)) g3 (fun k hk => by omega), g2, (b3.on hW.2).fx g3 (by omega)⟩) ?_
  refine ZE.store (fun W => Ob W w3.heap.size (.slice ao (s (1 + 2 * (n + i)) ++ s (1 + 2 * (n + i) + 1)).length cp) (s (1 + 2 * (n + i)) ++ s (1 + 2 * (n + i) + 1)) ∧ Below w.heap.size w W ∧ Blk W q2 [.slice ao (s (1 + 2 * (n + i)) ++ s (1 + 2 * (n + i) + 1)).length cp] 50 ∧ Blk W q3 [.nilIface] 46) rfl rfl rfl (fun W h => .inl rfl) (fun W hW => by
      obtain ⟨w', g1, g2, g3⟩ := st24n hW.2.2.2
      exact ⟨w', g1, hW.1.fx g3 (fun k hk hv => by have := hW.1.base k hv; have := b3.lt; omega), below_of_new hW.2.1 g3 (fun k hk => by omega), hW.2.2.1.fx g3 (by omega), g2⟩) ?_
  rintro w5 ⟨o5, e5, c2, c3⟩
  refine EW.on ?_
  refine EW.ret ?_
  refine EW.leaves enter46 (read1_none _ _ _ _) ?_
  rintro u w' ⟨hu, hw⟩
  subst hu
  rw [hw]
  exact ⟨rfl, fun a ha => ⟨_, results_c2 Tryz.results19 a.tmps w5 (ha.kn 4 _ rfl) (ha.kn 5 _ rfl) (ld37c c2) (ld24c c3), _, rfl, o5.mono e03.size, e5⟩⟩
end Go.Proofs.YtomioemhjhhbcaaGreatDoor
