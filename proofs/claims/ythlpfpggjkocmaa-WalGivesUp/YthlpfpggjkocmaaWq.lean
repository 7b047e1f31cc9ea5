import Derived.Test.YthlpfpggjkocmaaWp
set_option linter.unusedVariables false
set_option linter.unusedSimpArgs false
namespace Go.Proofs.Ythlpfpggjkocmaa
open Go.RowKit

set_option maxRecDepth 100000 in
set_option maxHeartbeats 1000000 in
theorem commit1_none (v0 v1 : Value) (w : World) : CallsD Try.prog 58 #[v0, v1] .returning w fun x u w' => (∃ v, x = .returned v) ∧ u = .returning ∧ w' = w := by
  refine callsD_of_args [v0, v1] Try.func58 rfl 10 Try.ntmps58 (by show 2 ≤ 10; decide) (fun c₀ cs hc => ?_)
  refine ES.seq ?_
  refine ES.region ?_
  refine WS.recover0 rfl rfl rfl (recover_no hc) ?_
  refine WS.call [.nilIface] enter18 rfl rfl rfl rfl (caught_nil _) ?_
  rintro _ w1 ⟨rfl, hz⟩
  rw [hz]
  refine ⟨_, rfl, ?_⟩
  refine WS.assign rfl rfl rfl rfl ?_
  refine WS.on ?_
  refine ES.of ?_
  refine EW.seq ?_
  refine EW.region ?_
  refine WL.move rfl rfl rfl ?_
  refine WL.bin rfl rfl rfl rfl (int_ne_f rfl _ _ _) ?_
  refine WL.done ?_
  refine EW.on ?_
  refine EW.cond_f rfl ?_
  refine EW.skip ?_
  intro a ha
  exact ⟨ha.df, .returning, by rw [← hc], _, by rw [results_none Try.results58], ⟨_, rfl⟩, rfl, rfl⟩
set_option maxRecDepth 100000 in
set_option maxHeartbeats 1000000 in
theorem read1_none (v0 v1 v2 : Value) (w : World) : CallsD Try.prog 64 #[v0, v1, v2] .returning w fun x u w' => (∃ v, x = .returned v) ∧ u = .returning ∧ w' = w := by
  refine callsD_of_args [v0, v1, v2] Try.func64 rfl 11 Try.ntmps64 (by show 3 ≤ 11; decide) (fun c₀ cs hc => ?_)
  refine ES.seq ?_
  refine ES.region ?_
  refine WS.recover0 rfl rfl rfl (recover_no hc) ?_
  refine WS.call [.nilIface] enter18 rfl rfl rfl rfl (caught_nil _) ?_
  rintro _ w1 ⟨rfl, hz⟩
  rw [hz]
  refine ⟨_, rfl, ?_⟩
  refine WS.assign rfl rfl rfl rfl ?_
  refine WS.on ?_
  refine ES.of ?_
  refine EW.seq ?_
  refine EW.region ?_
  refine WL.move rfl rfl rfl ?_
  refine WL.bin rfl rfl rfl rfl (int_ne_f rfl _ _ _) ?_
  refine WL.done ?_
  refine EW.on ?_
  refine EW.cond_f rfl ?_
  refine EW.skip ?_
  intro a ha
  exact ⟨ha.df, .returning, by rw [← hc], _, by rw [results_none Try.results64], ⟨_, rfl⟩, rfl, rfl⟩
theorem fld66_0 (q : Nat) (W : World) : (Instr.fieldAt 66 (.pointer (some ⟨q, 0, none⟩)) 0).run Try.prog W = .ok (.pointer (some ⟨q, 0, none⟩)) W := by go_simp
theorem fld66_1 (q : Nat) (W : World) : (Instr.fieldAt 66 (.pointer (some ⟨q, 0, none⟩)) 1).run Try.prog W = .ok (.pointer (some ⟨q, 2, none⟩)) W := by go_simp
theorem ldl3 {W : World} {q p n : Nat} {x : Value} (hb : Blk W q (lgC p n x) 66) : (Instr.loadAt 3 (.pointer (some ⟨q, 1, none⟩))).run Try.prog W = .ok (.int .i64 (n : Int)) W := by
  have hc : W.cell? ⟨q, 1, none⟩ = some (.int .i64 (n : Int)) := hb.cell 1
  have hf := hb.frozen 1
  go_simp
theorem ldl24 {W : World} {q p n : Nat} {x : Value} (hb : Blk W q (lgC p n x) 66) : (Instr.loadAt 24 (.pointer (some ⟨q, 2, none⟩))).run Try.prog W = .ok x W := by
  have hc : W.cell? ⟨q, 2, none⟩ = some x := hb.cell 2
  have hf := hb.frozen 2
  go_simp
theorem ldl55 {W : World} {q p n : Nat} {x : Value} (hb : Blk W q (lgC p n x) 66) : (Instr.loadAt 55 (.pointer (some ⟨q, 0, none⟩))).run Try.prog W = .ok (dkV p n) W := by
  refine run_loadA (fun j v hj => ?_) Try.underlying55 rfl (info55 p n)
  rw [add_plain0, hb.cell]
  have hlt := (List.getElem?_eq_some_iff.1 hj).1
  rw [← hj]
  match j, hlt with
  | 0, _ => rfl
  | 1, _ => rfl
theorem box22 (v : Option Addr) (w : World) : ∃ w1 q, (Instr.box 22 (.pointer v)).run Try.prog w = .ok (.pointer (some ⟨q, 0, none⟩)) w1 ∧ Blk w1 q [.pointer v] 22 ∧ Below w.heap.size w w1 ∧ q = w.heap.size ∧ w1.heap.size = w.heap.size + 1 :=
  ⟨w.alloc (.cells [.pointer v].toArray 22), w.heap.size, by go_simp, Blk.new _ _ _, below_new _ _, rfl, by show (w.heap.push _).size = _; rw [Array.size_push]⟩
theorem new37 (w : World) : ∃ w1 q, (Instr.alloc 37 true (.tuple #[])).run Try.prog w = .ok (.pointer (some ⟨q, 0, none⟩)) w1 ∧ Blk w1 q [.slice none 0 0] 37 ∧ Below w.heap.size w w1 ∧ q = w.heap.size ∧ w1.heap.size = w.heap.size + 1 :=
  ⟨w.alloc (.cells [.slice none 0 0].toArray 37), w.heap.size, by go_simp, Blk.new _ _ _, below_new _ _, rfl, by show (w.heap.push _).size = _; rw [Array.size_push]⟩
theorem st37c {w : World} {q : Nat} {v0 : Value} (ao : Option Addr) (n c : Nat) (hb : Blk w q [v0] 37) : ∃ w', (Instr.storeAt 37 (.pointer (some ⟨q, 0, none⟩)) (.slice ao n c)).run Try.prog w = .ok () w' ∧ Blk w' q [.slice ao n c] 37 ∧ Fx (fun k => k = q) w w' := by
  have hc : w.cell? ⟨q, 0, none⟩ = some v0 := hb.cell 0
  have hf := hb.frozen 0
  refine ⟨w.setCell ⟨q, 0, none⟩ (.slice ao n c), by go_simp, hb.set 0 _, Fx.setCell _ _ _ _ rfl⟩
theorem ld37c {w : World} {q : Nat} {v : Value} (hb : Blk w q [v] 37) : (Instr.loadAt 37 (.pointer (some ⟨q, 0, none⟩))).run Try.prog w = .ok v w := by
  have hc : w.cell? ⟨q, 0, none⟩ = some v := hb.cell 0
  have hf := hb.frozen 0
  go_simp
theorem ne24n (W : World) (x : Operand) : (do eqGuard .neq 24 x (.const .nilIface) .nilIface .nilIface; binOp .neq 24 .nilIface .nilIface : Sem Value).run Try.prog W = .ok (.bool false) W := by
  have h : eqGuard .neq 24 x (.const .nilIface) .nilIface .nilIface = pure () := by
    unfold eqGuard
    cases x <;> simp
  rw [h]
  go_simp
set_option maxRecDepth 100000 in
set_option maxHeartbeats 1000000 in
theorem pages_any {w : World} {q p n : Nat} {x : Value} (hb : Blk w q (lgC p n x) 66) : Calls Try.prog 35 #[.pointer (some ⟨q, 0, none⟩)] w fun e w' => e = .returned (.int .i64 (n : Int)) ∧ w' = w := by
  refine calls_of_args [.pointer (some ⟨q, 0, none⟩)] Try.func35 rfl 8 Try.ntmps35 (by show 1 ≤ 8; decide) ?_
  refine EW.seq ?_
  refine EW.region ?_
  first | refine WL.assign rfl rfl rfl ?_
  refine WL.done ?_
  refine EW.on ?_
  refine EW.seq ?_
  refine EW.region ?_
  first | refine WL.move rfl rfl rfl ?_
  first | refine WL.nilc rfl rfl rfl ?_
  refine WL.field rfl rfl rfl (fld66_0 q _) ?_
  refine WL.field rfl rfl rfl (fld55_1 q _) ?_
  refine WL.load rfl rfl rfl (ldl3 hb) ?_
  first | refine WL.assign rfl rfl rfl ?_
  refine WL.done ?_
  refine EW.on ?_
  refine EW.ret ?_
  exact EW.returns Try.results35 rfl ⟨rfl, rfl⟩
set_option maxRecDepth 100000 in
set_option maxHeartbeats 1000000 in
theorem has_ok {w : World} {q p n : Nat} {x : Value} (hb : Blk w q (lgC p n x) 66) (i : Nat) (hi : i < n) : Calls Try.prog 65 #[.pointer (some ⟨q, 0, none⟩), .int .i64 (i : Int)] w fun e w' => e = .returned (.bool true) ∧ w' = w := by
  have h0 : (0 : Int) ≤ (i : Int) := by omega
  have h1 : (i : Int) < (n : Int) := by omega
  refine calls_of_args [.pointer (some ⟨q, 0, none⟩), .int .i64 (i : Int)] Try.func65 rfl 13 Try.ntmps65 (by show 2 ≤ 13; decide) ?_
  refine EW.seq ?_
  refine EW.region ?_
  first | refine WL.assign rfl rfl rfl ?_
  refine WL.done ?_
  refine EW.on ?_
  refine EW.seq ?_
  refine EW.region ?_
  first | refine WL.move rfl rfl rfl ?_
  refine WL.bin rfl rfl rfl rfl (int_ge_t h0 _ _ _) ?_
  first | refine WL.move rfl rfl rfl ?_
  first | refine WL.move rfl rfl rfl ?_ | refine WL.skip _ rfl rfl rfl ?_
  first | refine WL.move rfl rfl rfl ?_ | refine WL.skip _ rfl rfl rfl ?_
  refine WL.call [.pointer (some ⟨q, 0, none⟩)] enter35 rfl rfl rfl (pages_any hb) ?_
  rintro _ w1 ⟨rfl, hz⟩
  rw [hz]
  refine ⟨_, rfl, ?_⟩
  refine WL.bin rfl rfl rfl rfl (int_lt_t h1 _ _ _) ?_
  first | refine WL.pick rfl rfl rfl rfl ?_
  first | refine WL.assign rfl rfl rfl ?_
  refine WL.done ?_
  refine EW.on ?_
  refine EW.ret ?_
  exact EW.returns Try.results65 rfl ⟨rfl, rfl⟩
def rfC (s : ByteArray) (a c : Int) : List Value := [.string s, .int .i64 a, .int .i64 c]
theorem fld31_0 (q : Nat) (W : World) : (Instr.fieldAt 31 (.pointer (some ⟨q, 0, none⟩)) 0).run Try.prog W = .ok (.pointer (some ⟨q, 0, none⟩)) W := by go_simp
theorem fld31_1 (q : Nat) (W : World) : (Instr.fieldAt 31 (.pointer (some ⟨q, 0, none⟩)) 1).run Try.prog W = .ok (.pointer (some ⟨q, 1, none⟩)) W := by go_simp
theorem fld31_2 (q : Nat) (W : World) : (Instr.fieldAt 31 (.pointer (some ⟨q, 0, none⟩)) 2).run Try.prog W = .ok (.pointer (some ⟨q, 2, none⟩)) W := by go_simp
theorem fld81_0 (q : Nat) (W : World) : (Instr.fieldAt 81 (.pointer (some ⟨q, 0, none⟩)) 0).run Try.prog W = .ok (.pointer (some ⟨q, 0, none⟩)) W := by go_simp
theorem fld81_1 (q : Nat) (W : World) : (Instr.fieldAt 81 (.pointer (some ⟨q, 0, none⟩)) 1).run Try.prog W = .ok (.pointer (some ⟨q, 1, none⟩)) W := by go_simp
theorem fld81_2 (q : Nat) (W : World) : (Instr.fieldAt 81 (.pointer (some ⟨q, 0, none⟩)) 2).run Try.prog W = .ok (.pointer (some ⟨q, 2, none⟩)) W := by go_simp
theorem ldc9 {W : World} {q j : Nat} {cs : List Value} {t : TypeId} {s : ByteArray} (hb : Blk W q cs t) (h : cs[j]? = some (.string s)) : (Instr.loadAt 9 (.pointer (some ⟨q, j, none⟩))).run Try.prog W = .ok (.string s) W := by
  have hc : W.cell? ⟨q, j, none⟩ = some (.string s) := (hb.cell j).trans h
  have hf := hb.frozen j
  go_simp
theorem ldc3 {W : World} {q j : Nat} {cs : List Value} {t : TypeId} {i : Int} (hb : Blk W q cs t) (h : cs[j]? = some (.int .i64 i)) : (Instr.loadAt 3 (.pointer (some ⟨q, j, none⟩))).run Try.prog W = .ok (.int .i64 i) W := by
  have hc : W.cell? ⟨q, j, none⟩ = some (.int .i64 i) := (hb.cell j).trans h
  have hf := hb.frozen j
  go_simp
theorem ldc24 {W : World} {q j : Nat} {cs : List Value} {t : TypeId} {v : Value} (hb : Blk W q cs t) (h : cs[j]? = some v) : (Instr.loadAt 24 (.pointer (some ⟨q, j, none⟩))).run Try.prog W = .ok v W := by
  have hc : W.cell? ⟨q, j, none⟩ = some v := (hb.cell j).trans h
  have hf := hb.frozen j
  go_simp
theorem tas79 (v : Value) (W : World) : (Instr.typeAssert (.iface 79 v) 24 79 true).run Try.prog W = .ok (.tuple #[v, .bool true]) W := by
  simp [Instr.typeAssert, run_underlying Try.underlying79]
theorem tas45 (v : Value) (W : World) : (Instr.typeAssert (.iface 45 v) 24 45 true).run Try.prog W = .ok (.tuple #[v, .bool true]) W := by
  simp [Instr.typeAssert, run_underlying Try.underlying45]
theorem eq79s (q : Nat) (W : World) (x y : Operand) : (do eqGuard .eql 79 x y (.pointer (some ⟨q, 0, none⟩)) (.pointer none); binOp .eql 79 (.pointer (some ⟨q, 0, none⟩)) (.pointer none) : Sem Value).run Try.prog W = .ok (.bool false) W := by go_simp
theorem ne9s (s : ByteArray) (W : World) (x y : Operand) : (do eqGuard .neq 9 x y (.string s) (.string s); binOp .neq 9 (.string s) (.string s) : Sem Value).run Try.prog W = .ok (.bool false) W := by go_simp
set_option maxRecDepth 100000 in
set_option maxHeartbeats 1000000 in
theorem told_yes {w : World} {q : Nat} (s : ByteArray) (a c : Int) (hc : ¬ c = 0) (hf : Blk w q (fltC s a c) 81) : Calls Try.prog 8 #[.iface 79 (.pointer (some ⟨q, 0, none⟩)), .agg (rfC s a c).toArray] w fun e w' => e = .returned (.bool true) ∧ Below w.heap.size w w' := by
  refine calls_of_args [.iface 79 (.pointer (some ⟨q, 0, none⟩)), .agg (rfC s a c).toArray] Try.func8 rfl 47 Try.ntmps8 (by show 2 ≤ 47; decide) ?_
  refine EW.seq ?_
  refine EW.region ?_
  have e1 := below_new w (.cells (rfC s a c).toArray 31)
  have b1 := Blk.new w (rfC s a c) 31
  obtain ⟨q1, hq1⟩ : ∃ q1, w.heap.size = q1 := ⟨_, rfl⟩
  obtain ⟨w1, hw1⟩ : ∃ w1, w.alloc (.cells (rfC s a c).toArray 31) = w1 := ⟨_, rfl⟩
  have r1 := run_boxR (P := Try.prog) 31 (rfC s a c) w q1 hq1
  rw [hw1] at e1 b1 r1
  rw [hq1] at b1
  have f1 := hf.on e1
  refine WL.box rfl rfl rfl r1 ?_
  first | refine WL.assign rfl rfl rfl ?_
  refine WL.done ?_
  refine EW.on ?_
  refine EW.seq ?_
  refine EW.seq ?_
  refine EW.region ?_
  refine WL.field rfl rfl rfl (fld31_2 _ _) ?_
  refine WL.load rfl rfl rfl (ldc3 b1 rfl) ?_
  refine WL.bin rfl rfl rfl rfl (int_eq_f hc _ _ _) ?_
  refine WL.done ?_
  refine EW.on ?_
  refine EW.cond_f rfl ?_
  refine EW.skip ?_
  refine EW.on ?_
  refine EW.seq ?_
  refine EW.seq ?_
  refine EW.region ?_
  first | refine WL.move rfl rfl rfl ?_
  refine WL.done ?_
  refine EW.on ?_
  refine EW.block ?_
  refine EW.seq ?_
  refine EW.region ?_
  refine WL.tas rfl rfl rfl (tas79 _ _) ?_
  first | refine WL.extract rfl rfl rfl (ext_2 _ _ _).2 ?_
  first | refine WL.extract rfl rfl rfl (ext_2 _ _ _).1 ?_
  refine WL.done ?_
  refine EW.on ?_
  refine EW.cond_t rfl ?_
  refine EW.seq ?_
  refine EW.region ?_
  first | refine WL.assign rfl rfl rfl ?_
  refine WL.done ?_
  refine EW.on ?_
  refine EW.seq ?_
  refine EW.seq ?_
  refine EW.ordB [(0, 0, 0), (1, 0, 0), (2, 0, 0), (3, 0, 0), (4, 0, 0), (5, 0, 0), (6, 0, 1), (7, 0, 0), (8, 0, 1), (9, 0, 0), (10, 0, 0), (11, 0, 0), (12, 0, 0), (13, 0, 0), (14, 0, 0), (15, 0, 1), (16, 0, 0), (17, 0, 1), (18, 0, 0), (19, 0, 0)] (by kernel_rfl) rfl (by kernel_rfl) ?_
  simp only [opsZ, List.getD_cons_zero, List.getD_cons_succ]
  first | refine ZE.move rfl rfl rfl rfl sz0 ?_
  refine ZE.bin rfl rfl rfl rfl rfl sz0 (fun W => eq79s q W _ _) ?_
  first | refine ZE.move rfl rfl rfl rfl sz0 ?_
  first | refine ZE.move rfl rfl rfl rfl sz0 ?_ | refine ZE.skip rfl rfl rfl sz0 ?_
  refine ZE.nilc rfl rfl rfl rfl sz0 ?_
  refine ZE.field rfl rfl rfl rfl sz0 (fun W => fld81_0 _ W) ?_
  refine ZE.load rfl rfl rfl rfl sz1 (fun W hW => ldc9 (f1.on (sb_of hW)) rfl) ?_
  refine ZE.field rfl rfl rfl rfl sz0 (fun W => fld31_0 _ W) ?_
  refine ZE.load rfl rfl rfl rfl sz1 (fun W hW => ldc9 (b1.on (sb_of hW)) rfl) ?_
  refine ZE.bin rfl rfl rfl rfl rfl sz0 (fun W => ne9s s W _ _) ?_
  first | refine ZE.pick rfl rfl rfl rfl rfl sz0 ?_
  first | refine ZE.move rfl rfl rfl rfl sz0 ?_
  first | refine ZE.move rfl rfl rfl rfl sz0 ?_ | refine ZE.skip rfl rfl rfl sz0 ?_
  refine ZE.nilc rfl rfl rfl rfl sz0 ?_
  refine ZE.field rfl rfl rfl rfl sz0 (fun W => fld81_1 _ W) ?_
  refine ZE.load rfl rfl rfl rfl sz1 (fun W hW => ldc3 (f1.on (sb_of hW)) rfl) ?_
  refine ZE.field rfl rfl rfl rfl sz0 (fun W => fld31_1 _ W) ?_
  refine ZE.load rfl rfl rfl rfl sz1 (fun W hW => ldc3 (b1.on (sb_of hW)) rfl) ?_
  refine ZE.bin rfl rfl rfl rfl rfl sz0 (fun W => int_ne_f rfl W _ _) ?_
  first | refine ZE.pick rfl rfl rfl rfl rfl sz0 ?_
  rintro w2 e2
  replace f1 := f1.on e2
  replace b1 := b1.on e2
  refine EW.on ?_
  refine EW.cond_f rfl ?_
  refine EW.skip ?_
  refine EW.on ?_
  refine EW.seq ?_
  refine EW.region ?_
  first | refine WL.move rfl rfl rfl ?_
  first | refine WL.nilc rfl rfl rfl ?_
  refine WL.field rfl rfl rfl (fld81_2 _ _) ?_
  refine WL.load rfl rfl rfl (ldc24 f1 rfl) ?_
  refine WL.done ?_
  refine EW.on ?_
  refine EW.block ?_
  refine EW.seq ?_
  refine EW.region ?_
  refine WL.tas rfl rfl rfl (tas45 _ _) ?_
  first | refine WL.extract rfl rfl rfl (ext_2 _ _ _).2 ?_
  first | refine WL.extract rfl rfl rfl (ext_2 _ _ _).1 ?_
  refine WL.done ?_
  refine EW.on ?_
  refine EW.cond_t rfl ?_
  refine EW.seq ?_
  refine EW.region ?_
  first | refine WL.assign rfl rfl rfl ?_
  refine WL.done ?_
  refine EW.on ?_
  refine EW.seq ?_
  refine EW.region ?_
  first | refine WL.move rfl rfl rfl ?_
  refine WL.field rfl rfl rfl (fld31_2 _ _) ?_
  refine WL.load rfl rfl rfl (ldc3 b1 rfl) ?_
  refine WL.bin rfl rfl rfl rfl (int_eq_t rfl _ _ _) ?_
  first | refine WL.assign rfl rfl rfl ?_
  refine WL.done ?_
  refine EW.on ?_
  refine EW.ret ?_
  refine pr_block ?_
  refine pr_block ?_
  refine pr_then ?_
  exact EW.returns Try.results8 rfl ⟨rfl, e1.trans (e2.mono e1.size)⟩
set_option maxRecDepth 100000 in
set_option maxHeartbeats 1000000 in
theorem read_log {w : World} {L : Lay} {N : Nat} {s : Nat → List UInt8} {m c n q : Nat} (h : Dk w L N s m c) (hb : Blk w q (lgC L.p n .nilIface) 66) (hnN : 4 * n + 1 ≤ N) (hN : N ≤ 4096) (i : Nat) (hi : i < n) : Calls Try.prog 38 #[.pointer (some ⟨q, 0, none⟩), .int .i64 (i : Int)] w fun e w' => ∃ u, e = .returned (.tuple #[u, .nilIface]) ∧ Ob w' w.heap.size u (s (1 + 2 * (n + i)) ++ s (1 + 2 * (n + i) + 1)) ∧ Below w.heap.size w w' := by
  refine calls_of_argsD [.pointer (some ⟨q, 0, none⟩), .int .i64 (i : Int)] Try.func38 rfl 30 Try.ntmps38 (by show 2 ≤ 30; decide) ?_
  refine EW.seq ?_
  refine EW.region ?_
  obtain ⟨w1, q1, r1, b1, e1, hq1, z1⟩ := box22 (some ⟨q, 0, none⟩) w
  refine WL.box rfl rfl rfl r1 ?_
  obtain ⟨w2, q2, r2, b2, e2, hq2, z2⟩ := new37 w1
  refine WL.new rfl rfl r2 ?_
  obtain ⟨w3, q3, r3, b3, e3, hq3, z3⟩ := new24 w2
  have e03 := (e1.trans (e2.mono e1.size)).trans (e3.mono (Nat.le_trans e1.size e2.size))
  have h3 := h.below e03
  have g3 := hb.on e03
  have b13 := (b1.on e2).on e3
  have b23 := b2.on e3
  refine WL.new rfl rfl r3 ?_
  refine WL.done ?_
  refine EW.on ?_
  refine EW.seq ?_
  refine EW.region ?_
  refine WL.mkf [.pointer (some ⟨q1, 0, none⟩), .pointer (some ⟨q2, 0, none⟩), .pointer (some ⟨q3, 0, none⟩)] rfl rfl rfl ?_
  refine WL.defer rfl rfl ?_
  refine WL.done ?_
  refine EW.on ?_
  refine EW.seq ?_
  refine EW.seq ?_
  refine EW.region ?_
  refine WL.load rfl rfl rfl (ld22c b13) ?_
  first | refine WL.nilc rfl rfl rfl ?_
  refine WL.field rfl rfl rfl (fld66_1 q _) ?_
  refine WL.load rfl rfl rfl (ldl24 g3) ?_
  refine WL.bin rfl rfl rfl rfl (ne24n _ _) ?_
  refine WL.done ?_
  refine EW.on ?_
  refine EW.cond_f rfl ?_
  refine EW.skip ?_
  refine EW.on ?_
  refine EW.seq ?_
  refine EW.seq ?_
  refine EW.region ?_
  refine WL.load rfl rfl rfl (ld22c b13) ?_
  first | refine WL.move rfl rfl rfl ?_
  refine WL.call [.pointer (some ⟨q, 0, none⟩), .int .i64 (i : Int)] enter65 rfl rfl rfl (has_ok g3 i hi) ?_
  rintro _ w4 ⟨rfl, hz4⟩
  rw [hz4]
  refine ⟨_, rfl, ?_⟩
  first | refine WL.un rfl rfl rfl (not_t _ _) ?_
  refine WL.done ?_
  refine EW.on ?_
  refine EW.cond_f rfl ?_
  refine EW.skip ?_
  refine EW.on ?_
  refine EW.seq ?_
  refine EW.ordB [(0, 0, 1), (1, 0, 0), (2, 0, 0), (3, 0, 1), (4, 0, 1), (5, 0, 0), (6, 0, 0), (7, 0, 1), (8, 0, 0), (9, 1, 1), (10, 1, 1), (11, 1, 0), (12, 1, 0)] (by kernel_rfl) rfl (by kernel_rfl) ?_
  simp only [opsZ, List.getD_cons_zero, List.getD_cons_succ]
  refine ZE.load rfl rfl rfl rfl sz1 (fun W hW => ld22c (b13.on (sb_of hW))) ?_
  refine ZE.nilc rfl rfl rfl rfl sz0 ?_
  refine ZE.field rfl rfl rfl rfl sz0 (fun W => fld66_0 q W) ?_
  refine ZE.load rfl rfl rfl rfl sz1 (fun W hW => ldl55 (g3.on (sb_of hW))) ?_
  refine ZE.load rfl rfl rfl rfl sz1 (fun W hW => ld22c (b13.on (sb_of hW))) ?_
  refine ZE.nilc rfl rfl rfl rfl sz0 ?_
  refine ZE.field rfl rfl rfl rfl sz0 (fun W => fld66_0 q W) ?_
  refine ZE.load rfl rfl rfl rfl sz1 (fun W hW => ldl55 (g3.on (sb_of hW))) ?_
  first | refine ZE.move rfl rfl rfl rfl sz0 ?_
  refine ZE.callR [dkV L.p n, .int .i64 (i : Int)] (fun v W => v = .int .i64 ((1 + 2 * (n + i) : Nat) : Int) ∧ Below w3.heap.size w3 W) enter51 rfl rfl rfl (fun _ _ h => .inr h.2) (fun W hW => (home_any L.p n i W (by omega)).mono fun e w' ⟨g1, g2⟩ => ⟨_, g1, rfl, hW.trans (g2.mono hW.size)⟩) ?_
  rintro _ ⟨_, rfl, _⟩
  refine ZE.callR [dkV L.p n, .int .i64 ((1 + 2 * (n + i) : Nat) : Int)] (fun v W => Ob W w3.heap.size v (s (1 + 2 * (n + i)) ++ s (1 + 2 * (n + i) + 1)) ∧ Below w3.heap.size w3 W) enter52 rfl rfl rfl (fun _ _ h => .inr h.2) (fun W hW => (readPage_ok n (h3.below hW.2) (1 + 2 * (n + i)) (by omega) (by omega)).mono fun e w' ⟨u, g1, g2, g3⟩ => ⟨u, g1, g2.mono hW.2.size, hW.2.trans (g3.mono hW.2.size)⟩) ?_
  rintro vp ⟨_, op_, _⟩
  obtain ⟨ao, cp, hvp⟩ := op_.has.slice
  rw [hvp]
  refine ZE.store (fun W => Ob W w3.heap.size (.slice ao (s (1 + 2 * (n + i)) ++ s (1 + 2 * (n + i) + 1)).length cp) (s (1 + 2 * (n + i)) ++ s (1 + 2 * (n + i) + 1)) ∧ Below w.heap.size w W ∧ Blk W q2 [.slice ao (s (1 + 2 * (n + i)) ++ s (1 + 2 * (n + i) + 1)).length cp] 37 ∧ Blk W q3 [.nilIface] 24) rfl rfl rfl (fun W h => .inl rfl) (fun W hW => by
      obtain ⟨w', g1, g2, g3⟩ := st37c ao _ cp (b23.on hW.2)
      exact ⟨w', g1, hW.1.fx g3 (fun k hk hv => by have := hW.1.base k hv; have := b23.lt; omega), below_of_new (e03.trans (hW.2.mono e03.size)) g3 (fun k hk => by omega), g2, (b3.on hW.2).fx g3 (by omega)⟩) ?_
  refine ZE.store (fun W => Ob W w3.heap.size (.slice ao (s (1 + 2 * (n + i)) ++ s (1 + 2 * (n + i) + 1)).length cp) (s (1 + 2 * (n + i)) ++ s (1 + 2 * (n + i) + 1)) ∧ Below w.heap.size w W ∧ Blk W q2 [.slice ao (s (1 + 2 * (n + i)) ++ s (1 + 2 * (n + i) + 1)).length cp] 37 ∧ Blk W q3 [.nilIface] 24) rfl rfl rfl (fun W h => .inl rfl) (fun W hW => by
      obtain ⟨w', g1, g2, g3⟩ := st24n hW.2.2.2
      exact ⟨w', g1, hW.1.fx g3 (fun k hk hv => by have := hW.1.base k hv; have := b3.lt; omega), below_of_new hW.2.1 g3 (fun k hk => by omega), hW.2.2.1.fx g3 (by omega), g2⟩) ?_
  rintro w5 ⟨o5, e5, c2, c3⟩
  refine EW.on ?_
  refine EW.ret ?_
  refine EW.leaves enter64 (read1_none _ _ _ _) ?_
  rintro u w' ⟨hu, hw⟩
  subst hu
  rw [hw]
  exact ⟨rfl, fun a ha => ⟨_, results_c2 Try.results38 a.tmps w5 (ha.kn 4 _ rfl) (ha.kn 5 _ rfl) (ld37c c2) (ld24c c3), _, rfl, o5.mono e03.size, e5⟩⟩
end Go.Proofs.Ythlpfpggjkocmaa
