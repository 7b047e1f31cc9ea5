import Derived.Test.YtmbgeojjklboeaaGreatDoorWhG
import Derived.Laws.AppendOwnNone
set_option linter.unusedVariables false
set_option linter.unusedSimpArgs false
namespace Go.Proofs.YtmbgeojjklboeaaGreatDoor
open Go.RowKit

theorem st22c {w : World} {q : Nat} {v0 : Value} (o : Option Addr) (hb : Blk w q [v0] 37) : ∃ w', (Instr.storeAt 37 (.pointer (some ⟨q, 0, none⟩)) (.pointer o)).run Tryz.prog w = .ok () w' ∧ Blk w' q [.pointer o] 37 ∧ Fx (fun k => k = q) w w' := by
  have hc : w.cell? ⟨q, 0, none⟩ = some v0 := hb.cell 0
  have hf := hb.frozen 0
  refine ⟨w.setCell ⟨q, 0, none⟩ (.pointer o), by go_simp, hb.set 0 _, Fx.setCell _ _ _ _ rfl⟩
theorem ld22c {w : World} {q : Nat} {v : Value} (hb : Blk w q [v] 37) : (Instr.loadAt 37 (.pointer (some ⟨q, 0, none⟩))).run Tryz.prog w = .ok v w := by
  have hc : w.cell? ⟨q, 0, none⟩ = some v := hb.cell 0
  have hf := hb.frozen 0
  go_simp
theorem st4c {w : World} {q : Nat} {v0 : Value} (o : Bool) (hb : Blk w q [v0] 4) : ∃ w', (Instr.storeAt 4 (.pointer (some ⟨q, 0, none⟩)) (.bool o)).run Tryz.prog w = .ok () w' ∧ Blk w' q [.bool o] 4 ∧ Fx (fun k => k = q) w w' := by
  have hc : w.cell? ⟨q, 0, none⟩ = some v0 := hb.cell 0
  have hf := hb.frozen 0
  refine ⟨w.setCell ⟨q, 0, none⟩ (.bool o), by go_simp, hb.set 0 _, Fx.setCell _ _ _ _ rfl⟩
theorem ld4c {w : World} {q : Nat} {v : Value} (hb : Blk w q [v] 4) : (Instr.loadAt 4 (.pointer (some ⟨q, 0, none⟩))).run Tryz.prog w = .ok v w := by
  have hc : w.cell? ⟨q, 0, none⟩ = some v := hb.cell 0
  have hf := hb.frozen 0
  go_simp
theorem st24n {w : World} {q : Nat} {v0 : Value}  (hb : Blk w q [v0] 46) : ∃ w', (Instr.storeAt 46 (.pointer (some ⟨q, 0, none⟩)) (.nilIface)).run Tryz.prog w = .ok () w' ∧ Blk w' q [.nilIface] 46 ∧ Fx (fun k => k = q) w w' := by
  have hc : w.cell? ⟨q, 0, none⟩ = some v0 := hb.cell 0
  have hf := hb.frozen 0
  refine ⟨w.setCell ⟨q, 0, none⟩ (.nilIface), by go_simp, hb.set 0 _, Fx.setCell _ _ _ _ rfl⟩
theorem st24f {w : World} {q : Nat} {v0 : Value} (t : TypeId) (u : Value) (hb : Blk w q [v0] 46) : ∃ w', (Instr.storeAt 46 (.pointer (some ⟨q, 0, none⟩)) (.iface t u)).run Tryz.prog w = .ok () w' ∧ Blk w' q [.iface t u] 46 ∧ Fx (fun k => k = q) w w' := by
  have hc : w.cell? ⟨q, 0, none⟩ = some v0 := hb.cell 0
  have hf := hb.frozen 0
  refine ⟨w.setCell ⟨q, 0, none⟩ (.iface t u), by go_simp, hb.set 0 _, Fx.setCell _ _ _ _ rfl⟩
theorem ld24c {w : World} {q : Nat} {v : Value} (hb : Blk w q [v] 46) : (Instr.loadAt 46 (.pointer (some ⟨q, 0, none⟩))).run Tryz.prog w = .ok v w := by
  have hc : w.cell? ⟨q, 0, none⟩ = some v := hb.cell 0
  have hf := hb.frozen 0
  go_simp
def sOpen : ByteArray := { data := #[79, 112, 101, 110] }
set_option maxRecDepth 100000 in
set_option maxHeartbeats 1000000 in
theorem open1_some {w : World} {ql qa qe : Nat} {vl va ve : Value} (c : Int) (hc0 : ¬ c = 0) (b0 : Blk w ql [vl] 37) (b1 : Blk w qa [va] 4) (b2 : Blk w qe [ve] 46) (n01 : ql ≠ qa) (n02 : ql ≠ qe) (n12 : qa ≠ qe) : CallsD Tryz.prog 28 #[.pointer (some ⟨ql, 0, none⟩), .pointer (some ⟨qa, 0, none⟩), .pointer (some ⟨qe, 0, none⟩)] (.panicking [{ v := surV c, recovered := false }]) w fun x u w' => (∃ v, x = .returned v) ∧ u = .panicking [{ v := surV c, recovered := true }] ∧ (Fx (fun k => k = ql ∨ k = qa ∨ k = qe) w w' ∧ Blk w' ql [.pointer none] 37 ∧ Blk w' qa [.bool false] 4 ∧ ∃ u q, u = .iface 109 (.pointer (some ⟨q, 0, none⟩)) ∧ w.heap.size ≤ q ∧ Blk w' qe [u] 46 ∧ Blk w' q (fltC sOpen 0 c) 111) := by
  refine callsD_of_args [.pointer (some ⟨ql, 0, none⟩), .pointer (some ⟨qa, 0, none⟩), .pointer (some ⟨qe, 0, none⟩)] Tryz.func28 rfl 10 Tryz.ntmps28 (by show 3 ≤ 10; decide) (fun c₀ cs hc => ?_); refine ES.seq ?_; refine ES.region ?_; refine WS.recover rfl rfl rfl (recover_yes hc) ?_; refine WS.call [surV c] enter29 rfl rfl rfl rfl (caught_some c _) ?_
  rintro _ w1 ⟨rfl, e1⟩
  refine ⟨_, rfl, ?_⟩; refine WS.assign rfl rfl rfl rfl ?_; refine WS.on ?_; refine ES.of ?_; refine EW.seq ?_; refine EW.region ?_; refine WL.move rfl rfl rfl ?_; refine WL.bin rfl rfl rfl rfl (int_ne_t hc0 _ _ _) ?_; refine WL.done ?_; refine EW.on ?_; refine EW.cond_t rfl ?_; refine EW.region ?_; refine WL.move rfl rfl rfl ?_; refine WL.call [.string sOpen, .int .i64 0, .int .i64 c] enter30 rfl rfl rfl (wfault_any sOpen 0 c _) ?_
  rintro _ w2 ⟨_, rfl, ⟨q2, hv2, f2⟩, e2, hu2⟩
  subst hv2
  injection hu2 with _ hu3
  injection hu3 with hu4
  injection hu4 with hu5
  injection hu5 with hu6
  refine ⟨_, rfl, ?_⟩
  obtain ⟨v0w, s0, d0, x0⟩ := st22c none ((b0.on e1).on e2)
  refine WL.store rfl rfl rfl s0 ?_
  have g10 := (((b1.on e1).on e2)).fx x0 n01.symm
  have g20 := (((b2.on e1).on e2)).fx x0 n02.symm
  have k0 := (f2).fx x0 (show ¬ q2 = ql by have := b0.lt; have := e1.size; omega)
  obtain ⟨v1w, s1, d1, x1⟩ := st4c false g10
  refine WL.store rfl rfl rfl s1 ?_
  have d0 := (d0).fx x1 n01
  have g21 := (g20).fx x1 n12.symm
  have k1 := (k0).fx x1 (show ¬ q2 = qa by have := b1.lt; have := e1.size; omega)
  obtain ⟨v2w, s2, d2, x2⟩ := st24f _ _ g21
  refine WL.store rfl rfl rfl s2 ?_
  have d0 := (d0).fx x2 n02
  have d1 := (d1).fx x2 n12
  have k2 := (k1).fx x2 (show ¬ q2 = qe by have := b2.lt; have := e1.size; omega)
  refine WL.done ?_
  intro a ha
  exact ⟨ha.df, .panicking [{ v := surV c, recovered := true }], rfl, _, by rw [results_none Tryz.results28], ⟨_, rfl⟩, rfl, (((((Fx.of_below e1).then_below e2).trans x0 (fun k _ h => .inl h)).trans x1 (fun k _ h => .inr (.inl h))).trans x2 (fun k _ h => .inr (.inr h))), d0, d1, _, _, rfl, by have := e1.size; omega, d2, k2⟩
theorem eq41s (q : Nat) (W : World) (x y : Operand) : (do eqGuard .eql 36 x y (.pointer (some ⟨q, 0, none⟩)) (.pointer none); binOp .eql 36 (.pointer (some ⟨q, 0, none⟩)) (.pointer none) : Sem Value).run Tryz.prog W = .ok (.bool false) W := by go_simp
theorem new55 (w : World) : (Instr.alloc 76 true (.tuple #[])).run Tryz.prog w = .ok (.pointer (some ⟨w.heap.size, 0, none⟩)) (w.alloc (.cells [Value.pointer none, .int .i64 0].toArray 76)) := run_newR 76 [.pointer none, .int .i64 0] (fun w => by rw [Tryz.zeroValue76]) w _ rfl
theorem st55 {w : World} {q p n : Nat} {cs : List Value} (hb : Blk w q cs 76) (hl : cs.length = 2) : ∃ w', (Instr.storeAt 76 (.pointer (some ⟨q, 0, none⟩)) (dkV p n)).run Tryz.prog w = .ok () w' ∧ Blk w' q (dkC p n) 76 ∧ Fx (fun k => k = q) w w' :=
  ⟨_, run_storeR hb (info55 p n) hl (all_oneCell_toArray fun v hv => by simp only [dkC, List.mem_cons, List.not_mem_nil, or_false] at hv; rcases hv with rfl | rfl <;> rfl), hb.setRow _, by
    refine ⟨rfl, rfl, rfl, by simp [World.setRow], fun k hk hn => ?_⟩
    simp only [World.setRow]
    rw [Array.getElem?_modify]
    rw [if_neg (fun e => hn e.symm)]⟩
theorem bld55 (p n : Nat) (W : World) : (Instr.build 76 [(0, .pointer (some ⟨p, 0, none⟩)), (1, .int .i64 (n : Int))].toArray).run Tryz.prog W = .ok (dkV p n) W := by kernel_rfl
set_option maxRecDepth 100000 in
set_option maxHeartbeats 1000000 in
theorem over_ok {w : World} {L : Lay} {N : Nat} {s : Nat → List UInt8} {m c : Nat} (h : Dk w L N s m c) (hN : N ≤ 1000000) (p : Nat) (hr : roomD (N : Int) = (p : Int)) (hp : ¬ (p : Int) = 0) : Calls Tryz.prog 31 #[.pointer (some ⟨L.p, 0, none⟩)] w fun e w' => e = .returned (dkV L.p p) ∧ Below w.heap.size w w' := by
  obtain ⟨D, h0, hdn, _, hDn, _⟩ := h.ex
  have h1 := h0.below (below_new w (.cells [Value.pointer none, .int .i64 0].toArray 76))
  refine calls_of_args [.pointer (some ⟨L.p, 0, none⟩)] Tryz.func31 rfl 19 Tryz.ntmps31 (by show 1 ≤ 19; decide) ?_; refine EW.seq ?_; refine EW.region ?_; refine WL.new rfl rfl (new55 w) ?_; refine WL.done ?_; refine EW.on ?_; refine EW.seq ?_; refine EW.seq ?_; refine EW.region ?_; refine WL.move rfl rfl rfl ?_; refine WL.bin rfl rfl rfl rfl (eq41s L.p _ _ _) ?_; refine WL.done ?_; refine EW.on ?_; refine EW.cond_f rfl ?_; refine EW.skip ?_; refine EW.on ?_; refine EW.seq ?_; refine EW.seq ?_; refine EW.region ?_; refine WL.move rfl rfl rfl ?_; refine WL.call [.pointer (some ⟨L.p, 0, none⟩)] enter23 rfl rfl rfl (down_any h1) ?_
  rintro _ w3 ⟨rfl, hz3⟩
  rw [hz3, hdn]
  refine ⟨_, rfl, ?_⟩; refine WL.done ?_; refine EW.on ?_; refine EW.cond_f rfl ?_; refine EW.skip ?_; refine EW.on ?_; refine EW.seq ?_; refine EW.region ?_; refine WL.move rfl rfl rfl ?_; refine WL.call [.pointer (some ⟨L.p, 0, none⟩)] enter56 rfl rfl rfl (sectors_any h1) ?_
  rintro _ w4 ⟨rfl, hz4⟩
  rw [hz4]
  refine ⟨_, rfl, ?_⟩; refine WL.call [.int .i64 (D.n : Int)] enter55 rfl rfl rfl (room_any (D.n : Int) (by omega) _) ?_
  rintro _ w5 ⟨rfl, hz5⟩
  rw [hz5, hDn, hr]
  refine ⟨_, rfl, ?_⟩; refine WL.assign rfl rfl rfl ?_; refine WL.done ?_; refine EW.on ?_; refine EW.seq ?_; refine EW.seq ?_; refine EW.region ?_; refine WL.move rfl rfl rfl ?_
  first | refine WL.bin rfl rfl rfl rfl (int_eq_t rfl _ _ _) ?_ | refine WL.bin rfl rfl rfl rfl (int_eq_t ‹_› _ _ _) ?_ | refine WL.bin rfl rfl rfl rfl (int_eq_f ‹_› _ _ _) ?_ | refine WL.bin rfl rfl rfl rfl (int_eq_d _ _ _ _ _) ?_
  refine WL.done ?_; refine EW.on ?_; refine EW.cond_f rfl ?_; refine EW.skip ?_; refine EW.on ?_; refine EW.seq ?_; refine EW.region ?_; refine WL.move rfl rfl rfl ?_; refine WL.move rfl rfl rfl ?_; refine WL.buildN [(0, .pointer (some ⟨L.p, 0, none⟩)), (1, .int .i64 (p : Int))] rfl rfl rfl (bld55 _ _ _) ?_
  obtain ⟨w2, s2, b2, x2⟩ := st55 (p := L.p) (n := p) (Blk.new w [Value.pointer none, .int .i64 0] 76) rfl
  refine WL.store rfl rfl rfl s2 ?_; refine WL.done ?_; refine EW.on ?_; refine EW.ret ?_
  exact EW.returnsC Tryz.results31 rfl b2 Tryz.underlying76 rfl (info55 _ _) ⟨rfl, (below_new w _).trans (x2.below (fun k hk e => by omega) (below_new w _).size)⟩
end Go.Proofs.YtmbgeojjklboeaaGreatDoor

set_option linter.unusedVariables false
set_option linter.unusedSimpArgs false
namespace Go.Proofs.YtmbgeojjklboeaaGreatDoor
open Go.RowKit

theorem info5f : (Tryz.prog.info? 5).map (fun i => (i.zero, i.size, i.bytes)) = some (some (.int .u8 0), 1, 1) := by kernel_rfl
/-- Bytes of their own, that may grow. -/
structure Ob (w : World) (b : Nat) (v : Value) (bs : List UInt8) : Prop where
  row : w.ownsRow 0 5 1 v bs.length (bs.map byt)
  base : ∀ k, v.ownBlock = some k → b ≤ k
theorem Ob.own {w : World} {b : Nat} {v : Value} {bs : List UInt8} (h : Ob w b v bs) : Own w 0 v bs := h.row
theorem Ob.below {w w' : World} {b : Nat} {v : Value} {bs : List UInt8} (h : Ob w b v bs) (hb : Below w.heap.size w w') : Ob w' b v bs := ⟨h.own.below hb, h.base⟩
theorem Ob.lt {w : World} {b : Nat} {v : Value} {bs : List UInt8} (h : Ob w b v bs) {k : Nat} (hk : v.ownBlock = some k) : k < w.heap.size ∧ ∃ cur, w.heap[k]? = some (.cells cur 5 (0, 0)) := by
  obtain ⟨_, ⟨rfl, _⟩ | ⟨g, cp, cur, rfl, hg, hh2, _⟩⟩ := h.row
  · cases hk
  · simp only [Value.ownBlock, Option.some.injEq] at hk
    subst hk
    refine ⟨?_, cur, hh2⟩
    rcases Nat.lt_or_ge g w.heap.size with hl | hl
    · exact hl
    · rw [Array.getElem?_eq_none hl] at hh2; cases hh2
theorem Ob.fx {S : Nat → Prop} {w w' : World} {b : Nat} {v : Value} {bs : List UInt8} (h : Ob w b v bs) (hf : Fx S w w') (ho : ∀ k, S k → v.ownBlock ≠ some k) : Ob w' b v bs := by
  refine ⟨?_, h.base⟩
  obtain ⟨hx, h1 | ⟨g, cp, cur, rfl, hg, hh2, hr⟩⟩ := h.row
  · exact ⟨hx, .inl h1⟩
  · refine ⟨hx, .inr ⟨g, cp, cur, rfl, hg, ?_, hr⟩⟩
    rw [hf.block g (by
      rcases Nat.lt_or_ge g w.heap.size with hl | hl
      · exact hl
      · rw [Array.getElem?_eq_none hl] at hh2; cases hh2) (fun hS => ho g hS rfl)]
    exact hh2
theorem Ob.push37 {w : World} {b : Nat} {v : Value} {bs : List UInt8} (h : Ob w b v bs) (hbw : b ≤ w.heap.size) (pv : Value) (ys : List UInt8) (hp : Has w pv ys) (hl : bs.length + ys.length ≤ 1000000000) (ty : TypeId) : ∃ v' w', (Builtin.append_ #[49, 49] ty #[v, pv]).run Tryz.prog w = .ok v' w' ∧ Ob w' b v' (bs ++ ys) ∧ Fx (fun k => v.ownBlock = some k) w w' ∧ Nw w v v' := by
  rcases hp with ⟨rfl, rfl⟩ | ⟨ad, cap, rfl, h2, h3⟩
  · obtain ⟨i, hi, hz⟩ := Option.map_eq_some_iff.1 info5f
    simp only [Prod.mk.injEq] at hz
    obtain ⟨hz0, hz1, hz2⟩ := hz
    exact ⟨_, w, run_append_owned_none (P := Tryz.prog) w 0 49 ty 5 i 1 Tryz.underlying49 hi v _ _ h.row, by simpa using h, Fx.refl _ _, fun k hk => .inl hk⟩
  · obtain ⟨i, hi, hz⟩ := Option.map_eq_some_iff.1 info5f
    simp only [Prod.mk.injEq] at hz
    obtain ⟨hz0, hz1, hz2⟩ := hz
    obtain ⟨v', w', r1, r2, r3, r4⟩ := run_appx w 49 ty 5 i (.int .u8 0) 1 1 Tryz.underlying49 hi hz0 hz1 hz2 rfl (by decide) v bs.length (bs.map byt) h.row ad ys.length cap (ys.map byt) (by simp) (fun j u hj => by
      rw [List.getElem?_map, Option.map_eq_some_iff] at hj
      obtain ⟨b', hb, rfl⟩ := hj
      exact h3 j b' hb) (byt_one ys) hl (by decide)
    refine ⟨v', w', r1, ⟨by simpa using r2, fun k hk => ?_⟩, grown_fx r3, r4⟩
    rcases r4 k hk with e | e
    · exact h.base k e
    · omega
theorem Ob.push57 {w : World} {b : Nat} {v : Value} {bs : List UInt8} (h : Ob w b v bs) (hbw : b ≤ w.heap.size) (pv : Value) (ys : List UInt8) (hp : Has w pv ys) (hl : bs.length + ys.length ≤ 1000000000) (ty : TypeId) : ∃ v' w', (Builtin.append_ #[78, 78] ty #[v, pv]).run Tryz.prog w = .ok v' w' ∧ Ob w' b v' (bs ++ ys) ∧ Fx (fun k => v.ownBlock = some k) w w' ∧ Nw w v v' := by
  rcases hp with ⟨rfl, rfl⟩ | ⟨ad, cap, rfl, h2, h3⟩
  · obtain ⟨i, hi, hz⟩ := Option.map_eq_some_iff.1 info5f
    simp only [Prod.mk.injEq] at hz
    obtain ⟨hz0, hz1, hz2⟩ := hz
    exact ⟨_, w, run_append_owned_none (P := Tryz.prog) w 0 78 ty 5 i 1 Tryz.underlying78 hi v _ _ h.row, by simpa using h, Fx.refl _ _, fun k hk => .inl hk⟩
  · obtain ⟨i, hi, hz⟩ := Option.map_eq_some_iff.1 info5f
    simp only [Prod.mk.injEq] at hz
    obtain ⟨hz0, hz1, hz2⟩ := hz
    obtain ⟨v', w', r1, r2, r3, r4⟩ := run_appx w 78 ty 5 i (.int .u8 0) 1 1 Tryz.underlying78 hi hz0 hz1 hz2 rfl (by decide) v bs.length (bs.map byt) h.row ad ys.length cap (ys.map byt) (by simp) (fun j u hj => by
      rw [List.getElem?_map, Option.map_eq_some_iff] at hj
      obtain ⟨b', hb, rfl⟩ := hj
      exact h3 j b' hb) (byt_one ys) hl (by decide)
    refine ⟨v', w', r1, ⟨by simpa using r2, fun k hk => ?_⟩, grown_fx r3, r4⟩
    rcases r4 k hk with e | e
    · exact h.base k e
    · omega
theorem Ob.has {w : World} {b : Nat} {v : Value} {bs : List UInt8} (h : Ob w b v bs) : Has w v bs := h.own.has
theorem Ob.mono {w : World} {b b' : Nat} {v : Value} {bs : List UInt8} (h : Ob w b v bs) (hb : b' ≤ b) : Ob w b' v bs := ⟨h.row, fun k hk => Nat.le_trans hb (h.base k hk)⟩
theorem Ob.blk {w : World} {g : Nat} {bs : List UInt8} (hb : Blk w g (bs.map byt) 5) (hl : bs.length ≤ 1000000000) : Ob w g (.slice (some ⟨g, 0, none⟩) bs.length bs.length) bs :=
  ⟨⟨by simp, .inr ⟨g, bs.length, (bs.map byt).toArray, rfl, Nat.zero_le _, hb, Nat.le_refl _, by unfold maxLen; omega, by simp, by rw [List.take_of_length_le (by simp)]⟩⟩, fun k hk => by simp [Value.ownBlock] at hk; omega⟩
theorem shr5 (u k : Nat) (hk : k < 8) (W : World) (x y : Operand) : (do eqGuard .shr 5 x y (.int .u8 (u : Int)) (.int .i64 (k : Int)); binOp .shr 5 (.int .u8 (u : Int)) (.int .i64 (k : Int)) : Sem Value).run Tryz.prog W = .ok (.int .u8 ((u / 2 ^ k : Nat) : Int)) W := by
  have h0 : ¬ (k : Int) < 0 := by omega
  go_simp
set_option maxRecDepth 100000 in
theorem bits1 : ∀ u : Fin 256, Go.bits BinOp.and IntKind.u8 (u.val : Int) 1 = ((u.val % 2 : Nat) : Int) := by decide
theorem and1 (u : Nat) (hu : u < 256) (W : World) (x y : Operand) : (do eqGuard .and 5 x y (.int .u8 (u : Int)) (.int .u8 1); binOp .and 5 (.int .u8 (u : Int)) (.int .u8 1) : Sem Value).run Tryz.prog W = .ok (.int .u8 ((u % 2 : Nat) : Int)) W := by
  have h := bits1 ⟨u, hu⟩
  simp only at h
  go_simp
theorem quo8 (n : Nat) (hn : n < 100000) (W : World) (x y : Operand) : (do eqGuard .quo 3 x y (.int .i64 (n : Int)) (.int .i64 8); binOp .quo 3 (.int .i64 (n : Int)) (.int .i64 8) : Sem Value).run Tryz.prog W = .ok (.int .i64 ((n / 8 : Nat) : Int)) W := by
  go_simp
  rw [IntKind.wrap_i64]
  omega
theorem rem8 (n : Nat) (hn : n < 100000) (W : World) (x y : Operand) : (do eqGuard .rem 3 x y (.int .i64 (n : Int)) (.int .i64 8); binOp .rem 3 (.int .i64 (n : Int)) (.int .i64 8) : Sem Value).run Tryz.prog W = .ok (.int .i64 ((n % 8 : Nat) : Int)) W := by
  go_simp
  rw [Int.tmod_eq_emod_of_nonneg (by omega)]
theorem eq5 (u : Nat) (v : Nat) (W : World) (x y : Operand) : (do eqGuard .eql 5 x y (.int .u8 (u : Int)) (.int .u8 (v : Int)); binOp .eql 5 (.int .u8 (u : Int)) (.int .u8 (v : Int)) : Sem Value).run Tryz.prog W = .ok (.bool (decide (u = v))) W := by
  have e : decide ((u : Int) = (v : Int)) = decide (u = v) := decide_eq_decide.2 (by omega)
  rw [← e]
  go_simp
  by_cases h : u = v
  · simp [h]
  · simp [h]; omega
theorem idx57 (ad : Addr) (n cap m : Nat) (h : m < n) (W : World) : (Instr.indexAt 78 (.slice (some ad) n cap) (.int .i64 (m : Int))).run Tryz.prog W = .ok (.pointer (some (ad.add m))) W := by
  have hm : (m : Int) < (n : Int) := by omega
  go_simp
theorem Has.item57 {w : World} {v : Value} {bs : List UInt8} (h : Has w v bs) {i : Nat} {u : UInt8} (hi : bs[i]? = some u) : ∃ ad, (∀ W, (Instr.indexAt 78 v (.int .i64 (i : Int))).run Tryz.prog W = .ok (.pointer (some ad)) W) ∧ (Instr.loadAt 5 (.pointer (some ad))).run Tryz.prog w = .ok (.int .u8 (u.toNat : Int)) w := by
  rcases h with ⟨rfl, rfl⟩ | ⟨ad, cap, rfl, h2, h3⟩
  · simp at hi
  · refine ⟨_, fun W => idx57 ad _ cap i (List.getElem?_eq_some_iff.1 hi).1 W, ?_⟩
    have hc := h3 i u hi
    obtain ⟨a2, ha2⟩ : ∃ a2, ad.add i = a2 := ⟨_, rfl⟩
    rw [ha2] at hc ⊢
    unfold byt at *
    go_simp
/-- A byte of a list, by its number. -/
def bAt (bs : List UInt8) (i : Nat) : Nat := (bs.getD i 0).toNat
theorem bAt_lt (bs : List UInt8) (i : Nat) : bAt bs i < 256 := UInt8.toNat_lt _
theorem Has.at57 {w : World} {v : Value} {bs : List UInt8} (h : Has w v bs) {i : Nat} (hi : i < bs.length) : ∃ ad, (∀ W, (Instr.indexAt 78 v (.int .i64 (i : Int))).run Tryz.prog W = .ok (.pointer (some ad)) W) ∧ (Instr.loadAt 5 (.pointer (some ad))).run Tryz.prog w = .ok (.int .u8 (bAt bs i : Int)) w := by
  have := h.item57 (List.getElem?_eq_getElem hi)
  unfold bAt
  rw [List.getD_eq_getElem?_getD, List.getElem?_eq_getElem hi]
  exact this
set_option maxRecDepth 100000 in
set_option maxHeartbeats 1000000 in
theorem stands_any (v : Value) (bs : List UInt8) (w : World) (hb : Has w v bs) (hl : bs.length = 512) : Calls Tryz.prog 36 #[v] w fun e w' => e = .returned (.bool (decide (bAt bs 511 = 1))) ∧ w' = w := by
  obtain ⟨ad, ix, lx⟩ := hb.at57 (i := 511) (by omega)
  refine calls_of_args [v] Tryz.func36 rfl 7 Tryz.ntmps36 (by show 1 ≤ 7; decide) ?_; refine EW.seq ?_; refine EW.region ?_; refine WL.assign rfl rfl rfl ?_; refine WL.done ?_; refine EW.on ?_; refine EW.seq ?_; refine EW.region ?_; refine WL.move rfl rfl rfl ?_; refine WL.index rfl rfl rfl rfl (ix _) ?_; refine WL.load rfl rfl rfl lx ?_; refine WL.bin rfl rfl rfl rfl (eq5 (bAt bs 511) 1 _ _ _) ?_; refine WL.assign rfl rfl rfl ?_; refine WL.done ?_; refine EW.on ?_; refine EW.ret ?_
  exact EW.returns Tryz.results36 rfl ⟨rfl, rfl⟩
theorem bsl57n (w : World) : (Instr.buildSlice 78 0 ([] : List (Nat × Value)).toArray).run Tryz.prog w = .ok (.slice (some ⟨w.heap.size, 0, none⟩) 0 0) (w.alloc (.cells #[] 5)) := by
  go_simp
  try rfl
theorem eq57f (ad : Addr) (n c : Nat) (W : World) (x y : Operand) : (do eqGuard .eql 78 x y (.slice (some ad) n c) (.slice none 0 0); binOp .eql 78 (.slice (some ad) n c) (.slice none 0 0) : Sem Value).run Tryz.prog W = .ok (.bool false) W := by kernel_rfl
theorem WL.appR {P : Program} {n : Fm} {ops : Array Oper} {Q : Exit → Act → World → Prop} {i : Nat} {ty : TypeId} {ps : String} {af : Array Edge} {gd : Option (Nat × Bool)} {r : List Oper} {e : List (Nat × Value)} {w w' : World} {x y : Operand} {t : TypeId} {u u' v : Value} (hw : wantE ops e ⟨some i, .call { callee := .builtin .append, args := #[x, y], argTypes := #[t, t] }, ty, ps, af, gd⟩ = some true) (hi : decide (i < n.k) = true) (hx : evE e x = some u) (hy : evE e y = some u') (hr : (Builtin.append_ #[t, t] ty #[u, u']).run P w = .ok v w') (k : WL P n ops Q r ((i, v) :: e) w') : WL P n ops Q (⟨some i, .call { callee := .builtin .append, args := #[x, y], argTypes := #[t, t] }, ty, ps, af, gd⟩ :: r) e w :=
  WL.op i v hw rfl hi (fun a ha => by simp [execOp, resolve, invoke, builtin, ha.ev hx, ha.ev hy, hr, Result.andThen]) k
theorem st5 {w : World} {ad : Addr} {v0 : Value} (u : UInt8) (hc : w.cell? ad = some v0) (hf : w.frozen? ad = false) : (Instr.storeAt 5 (.pointer (some ad)) (byt u)).run Tryz.prog w = .ok () (w.setCell ad (byt u)) := by
  unfold byt
  go_simp
set_option maxRecDepth 100000 in
set_option maxHeartbeats 1000000 in
theorem clone_any (v : Value) (bs : List UInt8) (w : World) (hb : Has w v bs) (hl : bs.length = 512) : Calls Tryz.prog 80 #[v] w fun e w' => ∃ u, e = .returned u ∧ Ob w' w.heap.size u bs ∧ Below w.heap.size w w' := by
  rcases hb with ⟨rfl, rfl⟩ | ⟨ad, cap, rfl, h2, h3⟩
  · simp at hl
  refine calls_of_args [.slice (some ad) bs.length cap] Tryz.func80 rfl 8 Tryz.ntmps80 (by show 1 ≤ 8; decide) ?_; refine EW.seq ?_; refine EW.region ?_; refine WL.assign rfl rfl rfl ?_; refine WL.done ?_; refine EW.on ?_; refine EW.seq ?_; refine EW.seq ?_; refine EW.region ?_; refine WL.move rfl rfl rfl ?_; refine WL.bin rfl rfl rfl rfl (eq57f _ _ _ _ _ _) ?_; refine WL.done ?_; refine EW.on ?_; refine EW.cond_f rfl ?_; refine EW.skip ?_; refine EW.on ?_; refine EW.seq ?_; refine EW.region ?_; refine WL.bslN [] rfl rfl rfl (bsl57n w) ?_; refine WL.move rfl rfl rfl ?_
  obtain ⟨v', w', r1, r2, r3, r4⟩ := (Ob.blk (bs := []) (Blk.new w [] 5) (by decide)).push57 (below_new w _).size (.slice (some ad) bs.length cap) bs (Has.below (.inr ⟨ad, cap, rfl, h2, h3⟩) (below_new w _)) (by simp; omega) 78
  refine WL.appR rfl rfl rfl rfl r1 ?_; refine WL.assign rfl rfl rfl ?_; refine WL.done ?_; refine EW.on ?_; refine EW.ret ?_
  exact EW.returns Tryz.results80 rfl ⟨_, rfl, by simpa using r2, (below_new w _).trans (r3.below (fun k hk e => by simp [Value.ownBlock] at e; omega) (below_new w _).size)⟩
/-- A byte of a row of one's own is set. -/
theorem Ob.setAt {w : World} {b : Nat} {v : Value} {bs : List UInt8} (h : Ob w b v bs) (i : Nat) (hi : i < bs.length) (u : UInt8) (t : TypeId) (ht : t = 49 ∨ t = 78) : ∃ ad w', (∀ W, (Instr.indexAt t v (.int .i64 (i : Int))).run Tryz.prog W = .ok (.pointer (some ad)) W) ∧ (Instr.storeAt 5 (.pointer (some ad)) (byt u)).run Tryz.prog w = .ok () w' ∧ Ob w' b v (bs.set i u) ∧ Fx (fun k => v.ownBlock = some k) w w' := by
  obtain ⟨hx, ⟨rfl, h0⟩ | ⟨g, cp, cur, rfl, hg, hh2, hnc, hc, hs, htk⟩⟩ := h.row
  · simp only [h0] at hi; omega
  · have hcur : i < cur.size := by simp at hs; omega
    have hcell : w.cell? ⟨g, i, none⟩ = some cur[i] := by
      have := (show Blk w g cur.toList 5 from by unfold Blk; simpa using hh2).cell i
      rw [this, Array.getElem?_toList, Array.getElem?_eq_getElem hcur]
    have hbl : Blk w g cur.toList 5 := by unfold Blk; simpa using hh2
    refine ⟨⟨g, i, none⟩, w.setCell ⟨g, i, none⟩ (byt u), fun W => ?_, st5 u hcell (hbl.frozen i), ?_, Fx.setCell _ _ _ _ (by simp [Value.ownBlock])⟩
    · rcases ht with rfl | rfl
      · have := idx37 ⟨g, 0, none⟩ bs.length cp i hi W; rwa [add_plain0] at this
      · have := idx57 ⟨g, 0, none⟩ bs.length cp i hi W; rwa [add_plain0] at this
    · refine ⟨⟨by simp, .inr ⟨g, cp, (cur.toList.set i (byt u)).toArray, by simp, hg, ?_, by simpa using hnc, hc, by simpa using hs, ?_⟩⟩, fun k hk => h.base k (by simpa [Value.ownBlock] using hk)⟩
      · have := hbl.set i (byt u)
        exact this
      · have e1 : (bs.set i u).map byt = (bs.map byt).set i (byt u) := by rw [List.map_set]
        rw [e1, List.length_set, ← htk]
        simp [List.take_set]
set_option maxRecDepth 100000 in
set_option maxHeartbeats 1000000 in
theorem off_any (v : Value) (bs : List UInt8) (w : World) (hb : Has w v bs) (hl : bs.length = 512) : Calls Tryz.prog 65 #[v] w fun e w' => ∃ u, e = .returned u ∧ Ob w' w.heap.size u (bs.set 511 0) ∧ Below w.heap.size w w' := by
  refine calls_of_args [v] Tryz.func65 rfl 9 Tryz.ntmps65 (by show 1 ≤ 9; decide) ?_; refine EW.seq ?_; refine EW.region ?_; refine WL.assign rfl rfl rfl ?_; refine WL.done ?_; refine EW.on ?_; refine EW.seq ?_; refine EW.region ?_; refine WL.move rfl rfl rfl ?_; refine WL.call [v] enter80 rfl rfl rfl (clone_any v bs w hb hl) ?_
  rintro _ w1 ⟨u, rfl, o1, e1⟩
  refine ⟨_, rfl, ?_⟩; refine WL.assign rfl rfl rfl ?_; refine WL.done ?_; refine EW.on ?_; refine EW.seq ?_; refine EW.region ?_; refine WL.move rfl rfl rfl ?_
  obtain ⟨ad, w2, ix, s2, o2, x2⟩ := o1.setAt 511 (by omega) 0 78 (.inr rfl)
  refine WL.index rfl rfl rfl rfl (ix _) ?_; refine WL.store rfl rfl rfl s2 ?_; refine WL.done ?_; refine EW.on ?_; refine EW.seq ?_; refine EW.region ?_; refine WL.move rfl rfl rfl ?_; refine WL.assign rfl rfl rfl ?_; refine WL.done ?_; refine EW.on ?_; refine EW.ret ?_
  exact EW.returns Tryz.results65 rfl ⟨_, rfl, o2, e1.trans (x2.below (fun k hk e => by have := o1.base k e; omega) e1.size)⟩
end Go.Proofs.YtmbgeojjklboeaaGreatDoor
