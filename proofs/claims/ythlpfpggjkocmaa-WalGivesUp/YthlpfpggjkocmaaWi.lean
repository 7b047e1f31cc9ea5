import Derived.Test.YthlpfpggjkocmaaWh
set_option linter.unusedVariables false
set_option linter.unusedSimpArgs false
namespace Go.Proofs.Ythlpfpggjkocmaa
open Go.RowKit

theorem st22c {w : World} {q : Nat} {v0 : Value} (o : Option Addr) (hb : Blk w q [v0] 22) : ∃ w', (Instr.storeAt 22 (.pointer (some ⟨q, 0, none⟩)) (.pointer o)).run Try.prog w = .ok () w' ∧ Blk w' q [.pointer o] 22 ∧ Fx (fun k => k = q) w w' := by
  have hc : w.cell? ⟨q, 0, none⟩ = some v0 := hb.cell 0
  have hf := hb.frozen 0
  refine ⟨w.setCell ⟨q, 0, none⟩ (.pointer o), by go_simp, hb.set 0 _, Fx.setCell _ _ _ _ rfl⟩
theorem ld22c {w : World} {q : Nat} {v : Value} (hb : Blk w q [v] 22) : (Instr.loadAt 22 (.pointer (some ⟨q, 0, none⟩))).run Try.prog w = .ok v w := by
  have hc : w.cell? ⟨q, 0, none⟩ = some v := hb.cell 0
  have hf := hb.frozen 0
  go_simp
theorem st4c {w : World} {q : Nat} {v0 : Value} (o : Bool) (hb : Blk w q [v0] 4) : ∃ w', (Instr.storeAt 4 (.pointer (some ⟨q, 0, none⟩)) (.bool o)).run Try.prog w = .ok () w' ∧ Blk w' q [.bool o] 4 ∧ Fx (fun k => k = q) w w' := by
  have hc : w.cell? ⟨q, 0, none⟩ = some v0 := hb.cell 0
  have hf := hb.frozen 0
  refine ⟨w.setCell ⟨q, 0, none⟩ (.bool o), by go_simp, hb.set 0 _, Fx.setCell _ _ _ _ rfl⟩
theorem ld4c {w : World} {q : Nat} {v : Value} (hb : Blk w q [v] 4) : (Instr.loadAt 4 (.pointer (some ⟨q, 0, none⟩))).run Try.prog w = .ok v w := by
  have hc : w.cell? ⟨q, 0, none⟩ = some v := hb.cell 0
  have hf := hb.frozen 0
  go_simp
theorem st24n {w : World} {q : Nat} {v0 : Value}  (hb : Blk w q [v0] 24) : ∃ w', (Instr.storeAt 24 (.pointer (some ⟨q, 0, none⟩)) (.nilIface)).run Try.prog w = .ok () w' ∧ Blk w' q [.nilIface] 24 ∧ Fx (fun k => k = q) w w' := by
  have hc : w.cell? ⟨q, 0, none⟩ = some v0 := hb.cell 0
  have hf := hb.frozen 0
  refine ⟨w.setCell ⟨q, 0, none⟩ (.nilIface), by go_simp, hb.set 0 _, Fx.setCell _ _ _ _ rfl⟩
theorem st24f {w : World} {q : Nat} {v0 : Value} (t : TypeId) (u : Value) (hb : Blk w q [v0] 24) : ∃ w', (Instr.storeAt 24 (.pointer (some ⟨q, 0, none⟩)) (.iface t u)).run Try.prog w = .ok () w' ∧ Blk w' q [.iface t u] 24 ∧ Fx (fun k => k = q) w w' := by
  have hc : w.cell? ⟨q, 0, none⟩ = some v0 := hb.cell 0
  have hf := hb.frozen 0
  refine ⟨w.setCell ⟨q, 0, none⟩ (.iface t u), by go_simp, hb.set 0 _, Fx.setCell _ _ _ _ rfl⟩
theorem ld24c {w : World} {q : Nat} {v : Value} (hb : Blk w q [v] 24) : (Instr.loadAt 24 (.pointer (some ⟨q, 0, none⟩))).run Try.prog w = .ok v w := by
  have hc : w.cell? ⟨q, 0, none⟩ = some v := hb.cell 0
  have hf := hb.frozen 0
  go_simp
theorem Flt.fx {S : Nat → Prop} {w w' : World} {v : Value} {s : ByteArray} {a c : Int} {q : Nat} (h : Blk w q (fltC s a c) 81) (hf : Fx S w w') (hv : v = .iface 79 (.pointer (some ⟨q, 0, none⟩))) (hS : ¬ S q) : Flt w' v s a c := ⟨q, hv, h.fx hf hS⟩
def sOpen : ByteArray := { data := #[79, 112, 101, 110] }
def sClear : ByteArray := { data := #[67, 108, 101, 97, 114] }
set_option maxRecDepth 100000 in
set_option maxHeartbeats 1000000 in
theorem open1_some {w : World} {ql qa qe : Nat} {vl va ve : Value} (c : Int) (hc0 : ¬ c = 0) (b0 : Blk w ql [vl] 22) (b1 : Blk w qa [va] 4) (b2 : Blk w qe [ve] 24) (n01 : ql ≠ qa) (n02 : ql ≠ qe) (n12 : qa ≠ qe) : CallsD Try.prog 17 #[.pointer (some ⟨ql, 0, none⟩), .pointer (some ⟨qa, 0, none⟩), .pointer (some ⟨qe, 0, none⟩)] (.panicking [{ v := surV c, recovered := false }]) w fun x u w' => (∃ v, x = .returned v) ∧ u = .panicking [{ v := surV c, recovered := true }] ∧ (Fx (fun k => k = ql ∨ k = qa ∨ k = qe) w w' ∧ Blk w' ql [.pointer none] 22 ∧ Blk w' qa [.bool false] 4 ∧ ∃ u q, u = .iface 79 (.pointer (some ⟨q, 0, none⟩)) ∧ w.heap.size ≤ q ∧ Blk w' qe [u] 24 ∧ Blk w' q (fltC sOpen 0 c) 81) := by
  refine callsD_of_args [.pointer (some ⟨ql, 0, none⟩), .pointer (some ⟨qa, 0, none⟩), .pointer (some ⟨qe, 0, none⟩)] Try.func17 rfl 10 Try.ntmps17 (by show 3 ≤ 10; decide) (fun c₀ cs hc => ?_)
  refine ES.seq ?_
  refine ES.region ?_
  refine WS.recover rfl rfl rfl (recover_yes hc) ?_
  refine WS.call [surV c] enter18 rfl rfl rfl rfl (caught_some c _) ?_
  rintro _ w1 ⟨rfl, e1⟩
  refine ⟨_, rfl, ?_⟩
  refine WS.assign rfl rfl rfl rfl ?_
  refine WS.on ?_
  refine ES.of ?_
  refine EW.seq ?_
  refine EW.region ?_
  refine WL.move rfl rfl rfl ?_
  refine WL.bin rfl rfl rfl rfl (int_ne_t hc0 _ _ _) ?_
  refine WL.done ?_
  refine EW.on ?_
  refine EW.cond_t rfl ?_
  refine EW.region ?_
  refine WL.move rfl rfl rfl ?_
  refine WL.call [.string sOpen, .int .i64 0, .int .i64 c] enter19 rfl rfl rfl (wfault_any sOpen 0 c _) ?_
  rintro _ w2 ⟨_, rfl, ⟨q2, hv2, f2⟩, e2, hu2⟩
  subst hv2
  injection hu2 with _ hu3
  injection hu3 with hu4
  injection hu4 with hu5
  injection hu5 with hu6
  refine ⟨_, rfl, ?_⟩
  obtain ⟨v0w, s0, d0, x0⟩ := st22c none ((b0.on e1).on e2)
  refine WL.store rfl rfl rfl s0 ?_
  have g10 := (((b1.on e1).on e2)).fx x0 n01.symm
  have g20 := (((b2.on e1).on e2)).fx x0 n02.symm
  have k0 := (f2).fx x0 (show ¬ q2 = ql by have := b0.lt; have := e1.size; omega)
  obtain ⟨v1w, s1, d1, x1⟩ := st4c false g10
  refine WL.store rfl rfl rfl s1 ?_
  have d0 := (d0).fx x1 n01
  have g21 := (g20).fx x1 n12.symm
  have k1 := (k0).fx x1 (show ¬ q2 = qa by have := b1.lt; have := e1.size; omega)
  obtain ⟨v2w, s2, d2, x2⟩ := st24f _ _ g21
  refine WL.store rfl rfl rfl s2 ?_
  have d0 := (d0).fx x2 n02
  have d1 := (d1).fx x2 n12
  have k2 := (k1).fx x2 (show ¬ q2 = qe by have := b2.lt; have := e1.size; omega)
  refine WL.done ?_
  intro a ha
  exact ⟨ha.df, .panicking [{ v := surV c, recovered := true }], rfl, _, by rw [results_none Try.results17], ⟨_, rfl⟩, rfl, (((((Fx.of_below e1).then_below e2).trans x0 (fun k _ h => .inl h)).trans x1 (fun k _ h => .inr (.inl h))).trans x2 (fun k _ h => .inr (.inr h))), d0, d1, _, _, rfl, by have := e1.size; omega, d2, k2⟩
set_option maxRecDepth 100000 in
set_option maxHeartbeats 1000000 in
theorem clear1_some {w : World} {qe : Nat} {ve : Value} (c : Int) (hc0 : ¬ c = 0) (b0 : Blk w qe [ve] 24)  : CallsD Try.prog 29 #[.pointer (some ⟨qe, 0, none⟩)] (.panicking [{ v := surV c, recovered := false }]) w fun x u w' => (∃ v, x = .returned v) ∧ u = .panicking [{ v := surV c, recovered := true }] ∧ (Fx (fun k => k = qe) w w' ∧ ∃ u q, u = .iface 79 (.pointer (some ⟨q, 0, none⟩)) ∧ w.heap.size ≤ q ∧ Blk w' qe [u] 24 ∧ Blk w' q (fltC sClear 0 c) 81) := by
  refine callsD_of_args [.pointer (some ⟨qe, 0, none⟩)] Try.func29 rfl 8 Try.ntmps29 (by show 1 ≤ 8; decide) (fun c₀ cs hc => ?_)
  refine ES.seq ?_
  refine ES.region ?_
  refine WS.recover rfl rfl rfl (recover_yes hc) ?_
  refine WS.call [surV c] enter18 rfl rfl rfl rfl (caught_some c _) ?_
  rintro _ w1 ⟨rfl, e1⟩
  refine ⟨_, rfl, ?_⟩
  refine WS.assign rfl rfl rfl rfl ?_
  refine WS.on ?_
  refine ES.of ?_
  refine EW.seq ?_
  refine EW.region ?_
  refine WL.move rfl rfl rfl ?_
  refine WL.bin rfl rfl rfl rfl (int_ne_t hc0 _ _ _) ?_
  refine WL.done ?_
  refine EW.on ?_
  refine EW.cond_t rfl ?_
  refine EW.region ?_
  refine WL.move rfl rfl rfl ?_
  refine WL.call [.string sClear, .int .i64 0, .int .i64 c] enter19 rfl rfl rfl (wfault_any sClear 0 c _) ?_
  rintro _ w2 ⟨_, rfl, ⟨q2, hv2, f2⟩, e2, hu2⟩
  subst hv2
  injection hu2 with _ hu3
  injection hu3 with hu4
  injection hu4 with hu5
  injection hu5 with hu6
  refine ⟨_, rfl, ?_⟩
  obtain ⟨v0w, s0, d0, x0⟩ := st24f _ _ ((b0.on e1).on e2)
  refine WL.store rfl rfl rfl s0 ?_
  have k0 := (f2).fx x0 (show ¬ q2 = qe by have := b0.lt; have := e1.size; omega)
  refine WL.done ?_
  intro a ha
  exact ⟨ha.df, .panicking [{ v := surV c, recovered := true }], rfl, _, by rw [results_none Try.results29], ⟨_, rfl⟩, rfl, (((Fx.of_below e1).then_below e2).trans x0 (fun k _ h => h)), _, _, rfl, by have := e1.size; omega, d0, k0⟩
theorem eq41n (W : World) (x y : Operand) : (do eqGuard .eql 41 x y (.pointer none) (.pointer none); binOp .eql 41 (.pointer none) (.pointer none) : Sem Value).run Try.prog W = .ok (.bool true) W := by go_simp
theorem eq41s (q : Nat) (W : World) (x y : Operand) : (do eqGuard .eql 41 x y (.pointer (some ⟨q, 0, none⟩)) (.pointer none); binOp .eql 41 (.pointer (some ⟨q, 0, none⟩)) (.pointer none) : Sem Value).run Try.prog W = .ok (.bool false) W := by go_simp
theorem new55 (w : World) : (Instr.alloc 55 true (.tuple #[])).run Try.prog w = .ok (.pointer (some ⟨w.heap.size, 0, none⟩)) (w.alloc (.cells [Value.pointer none, .int .i64 0].toArray 55)) := run_newR 55 [.pointer none, .int .i64 0] (fun w => by rw [Try.zeroValue55]) w _ rfl
theorem st55 {w : World} {q p n : Nat} {cs : List Value} (hb : Blk w q cs 55) (hl : cs.length = 2) : ∃ w', (Instr.storeAt 55 (.pointer (some ⟨q, 0, none⟩)) (dkV p n)).run Try.prog w = .ok () w' ∧ Blk w' q (dkC p n) 55 ∧ Fx (fun k => k = q) w w' :=
  ⟨_, run_storeR hb (info55 p n) hl (all_oneCell_toArray fun v hv => by simp only [dkC, List.mem_cons, List.not_mem_nil, or_false] at hv; rcases hv with rfl | rfl <;> rfl), hb.setRow _, by
    refine ⟨rfl, rfl, rfl, by simp [World.setRow], fun k hk hn => ?_⟩
    simp only [World.setRow]
    rw [Array.getElem?_modify]
    rw [if_neg (fun e => hn e.symm)]⟩
theorem bld55 (p n : Nat) (W : World) : (Instr.build 55 [(0, .pointer (some ⟨p, 0, none⟩)), (1, .int .i64 (n : Int))].toArray).run Try.prog W = .ok (dkV p n) W := by kernel_rfl
set_option maxRecDepth 100000 in
set_option maxHeartbeats 1000000 in
theorem over_ok {w : World} {L : Lay} {N : Nat} {s : Nat → List UInt8} {m c : Nat} (h : Dk w L N s m c) (hN : N ≤ 1000000) (p : Nat) (hr : roomD (N : Int) = (p : Int)) (hp : ¬ (p : Int) = 0) : Calls Try.prog 20 #[.pointer (some ⟨L.p, 0, none⟩)] w fun e w' => e = .returned (dkV L.p p) ∧ Below w.heap.size w w' := by
  obtain ⟨D, h0, hdn, _, hDn, _⟩ := h.ex
  have h1 := h0.below (below_new w (.cells [Value.pointer none, .int .i64 0].toArray 55))
  refine calls_of_args [.pointer (some ⟨L.p, 0, none⟩)] Try.func20 rfl 19 Try.ntmps20 (by show 1 ≤ 19; decide) ?_
  refine EW.seq ?_
  refine EW.region ?_
  refine WL.new rfl rfl (new55 w) ?_
  refine WL.done ?_
  refine EW.on ?_
  refine EW.seq ?_
  refine EW.seq ?_
  refine EW.region ?_
  first | refine WL.move rfl rfl rfl ?_
  refine WL.bin rfl rfl rfl rfl (eq41s L.p _ _ _) ?_
  refine WL.done ?_
  refine EW.on ?_
  refine EW.cond_f rfl ?_
  refine EW.skip ?_
  refine EW.on ?_
  refine EW.seq ?_
  refine EW.seq ?_
  refine EW.region ?_
  first | refine WL.move rfl rfl rfl ?_
  refine WL.call [.pointer (some ⟨L.p, 0, none⟩)] enter44 rfl rfl rfl (down_any h1) ?_
  rintro _ w3 ⟨rfl, hz3⟩
  rw [hz3, hdn]
  refine ⟨_, rfl, ?_⟩
  refine WL.done ?_
  refine EW.on ?_
  refine EW.cond_f rfl ?_
  refine EW.skip ?_
  refine EW.on ?_
  refine EW.seq ?_
  refine EW.region ?_
  first | refine WL.move rfl rfl rfl ?_
  refine WL.call [.pointer (some ⟨L.p, 0, none⟩)] enter45 rfl rfl rfl (sectors_any h1) ?_
  rintro _ w4 ⟨rfl, hz4⟩
  rw [hz4]
  refine ⟨_, rfl, ?_⟩
  refine WL.call [.int .i64 (D.n : Int)] enter9 rfl rfl rfl (room_any (D.n : Int) (by omega) _) ?_
  rintro _ w5 ⟨rfl, hz5⟩
  rw [hz5, hDn, hr]
  refine ⟨_, rfl, ?_⟩
  first | refine WL.assign rfl rfl rfl ?_
  refine WL.done ?_
  refine EW.on ?_
  refine EW.seq ?_
  refine EW.seq ?_
  refine EW.region ?_
  first | refine WL.move rfl rfl rfl ?_
  first | refine WL.bin rfl rfl rfl rfl (int_eq_t rfl _ _ _) ?_ | refine WL.bin rfl rfl rfl rfl (int_eq_t ‹_› _ _ _) ?_ | refine WL.bin rfl rfl rfl rfl (int_eq_f ‹_› _ _ _) ?_ | refine WL.bin rfl rfl rfl rfl (int_eq_d _ _ _ _ _) ?_
  refine WL.done ?_
  refine EW.on ?_
  refine EW.cond_f rfl ?_
  refine EW.skip ?_
  refine EW.on ?_
  refine EW.seq ?_
  refine EW.region ?_
  first | refine WL.move rfl rfl rfl ?_
  first | refine WL.move rfl rfl rfl ?_
  refine WL.buildN [(0, .pointer (some ⟨L.p, 0, none⟩)), (1, .int .i64 (p : Int))] rfl rfl rfl (bld55 _ _ _) ?_
  obtain ⟨w2, s2, b2, x2⟩ := st55 (p := L.p) (n := p) (Blk.new w [Value.pointer none, .int .i64 0] 55) rfl
  refine WL.store rfl rfl rfl s2 ?_
  refine WL.done ?_
  refine EW.on ?_
  refine EW.ret ?_
  exact EW.returnsC Try.results20 rfl b2 Try.underlying55 rfl (info55 _ _) ⟨rfl, (below_new w _).trans (x2.below (fun k hk e => by omega) (below_new w _).size)⟩
set_option maxRecDepth 100000 in
set_option maxHeartbeats 1000000 in
theorem over_nil (w : World) : Calls Try.prog 20 #[.pointer none] w fun e w' => e = .panicked [{ v := surV 3, recovered := false }] ∧ Below w.heap.size w w' := by
  refine calls_of_args [.pointer none] Try.func20 rfl 19 Try.ntmps20 (by show 1 ≤ 19; decide) ?_
  refine EW.seq ?_
  refine EW.region ?_
  refine WL.new rfl rfl (new55 w) ?_
  refine WL.done ?_
  refine EW.on ?_
  refine EW.seq ?_
  refine EW.seq ?_
  refine EW.region ?_
  refine WL.move rfl rfl rfl ?_
  refine WL.bin rfl rfl rfl rfl (eq41n _ _ _) ?_
  refine WL.done ?_
  refine EW.on ?_
  refine EW.cond_t rfl ?_
  refine EW.region ?_
  refine WL.callP [.int .i64 3] enter24 rfl rfl rfl (wgiveUp_any 3 _) ?_
  rintro _ w2 ⟨rfl, hz⟩
  refine .inr ⟨_, rfl, ?_⟩
  rw [hz]
  exact pp_then (pp_post ⟨rfl, below_new _ _⟩)
end Go.Proofs.Ythlpfpggjkocmaa
