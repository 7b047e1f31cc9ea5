import Derived.Test.YthlpfpggjkocmaaWm
set_option linter.unusedVariables false
set_option linter.unusedSimpArgs false
namespace Go.Proofs.Ythlpfpggjkocmaa
open Go.RowKit

theorem loadVar_of {P : Program} {w : World} {t : TypeId} {ad : Addr} {v : Value} (h : (Instr.loadAt t (.pointer (some ad))).run P w = .ok v w) : (loadVar t ad).run P w = .ok v w := by
  simpa [Instr.loadAt, Instr.sureAddr] using h
theorem results_c1 {P : Program} {fn : Func} {a : Tmp} {ta : TypeId} (h : fn.results = #[.cell a ta]) (tmps : Array Value) (w : World) {A : Addr} {va : Value} (h1 : tmps.getD a undef = .pointer (some A)) (l1 : (Instr.loadAt ta (.pointer (some A))).run P w = .ok va w) : (results fn tmps).run P w = .ok va w := by
  have k1 := loadVar_of l1
  have h1' : tmps[a]?.getD undef = .pointer (some A) := by simpa using h1
  simp [results, h, h1', asAddr, k1]
theorem results_c2 {P : Program} {fn : Func} {a b : Tmp} {ta tb : TypeId} (h : fn.results = #[.cell a ta, .cell b tb]) (tmps : Array Value) (w : World) {A B : Addr} {va vb : Value} (h1 : tmps.getD a undef = .pointer (some A)) (h2 : tmps.getD b undef = .pointer (some B)) (l1 : (Instr.loadAt ta (.pointer (some A))).run P w = .ok va w) (l2 : (Instr.loadAt tb (.pointer (some B))).run P w = .ok vb w) : (results fn tmps).run P w = .ok (.tuple #[va, vb]) w := by
  have k1 := loadVar_of l1
  have k2 := loadVar_of l2
  have h1' : tmps[a]?.getD undef = .pointer (some A) := by simpa using h1
  have h2' : tmps[b]?.getD undef = .pointer (some B) := by simpa using h2
  simp [results, h, h1', h2', asAddr, k1, k2]
theorem results_c3 {P : Program} {fn : Func} {a b c : Tmp} {ta tb tc : TypeId} (h : fn.results = #[.cell a ta, .cell b tb, .cell c tc]) (tmps : Array Value) (w : World) {A B C : Addr} {va vb vc : Value} (h1 : tmps.getD a undef = .pointer (some A)) (h2 : tmps.getD b undef = .pointer (some B)) (h3 : tmps.getD c undef = .pointer (some C)) (l1 : (Instr.loadAt ta (.pointer (some A))).run P w = .ok va w) (l2 : (Instr.loadAt tb (.pointer (some B))).run P w = .ok vb w) (l3 : (Instr.loadAt tc (.pointer (some C))).run P w = .ok vc w) : (results fn tmps).run P w = .ok (.tuple #[va, vb, vc]) w := by
  have k1 := loadVar_of l1
  have k2 := loadVar_of l2
  have k3 := loadVar_of l3
  have h1' : tmps[a]?.getD undef = .pointer (some A) := by simpa using h1
  have h2' : tmps[b]?.getD undef = .pointer (some B) := by simpa using h2
  have h3' : tmps[c]?.getD undef = .pointer (some C) := by simpa using h3
  simp [results, h, h1', h2', h3', asAddr, k1, k2, k3]
/-- The worlds of a level: all, or those of which q holds. -/
def SQ (q : World → Prop) (l : Nat) (W : World) : Prop := l = 0 ∨ q W
theorem sq_anti (q : World → Prop) (m n : Nat) (W : World) (h : m ≤ n) (k : SQ q n W) : SQ q m W := by
  rcases k with k | k
  · exact .inl (by omega)
  · exact .inr k
theorem sq_of {q : World → Prop} {W : World} {l : Nat} {C : World → Prop} (h : SZ (SQ q) 0 (l + 1) C W) : q W := by
  rcases h with h | h
  · cases h
  · exact h
theorem new22 (w : World) : ∃ w1 q, (Instr.alloc 22 true (.tuple #[])).run Try.prog w = .ok (.pointer (some ⟨q, 0, none⟩)) w1 ∧ Blk w1 q [.pointer none] 22 ∧ Below w.heap.size w w1 ∧ q = w.heap.size ∧ w1.heap.size = w.heap.size + 1 :=
  ⟨w.alloc (.cells [.pointer none].toArray 22), w.heap.size, by go_simp, Blk.new _ _ _, below_new _ _, rfl, by show (w.heap.push _).size = _; rw [Array.size_push]⟩
theorem new4 (w : World) : ∃ w1 q, (Instr.alloc 4 true (.tuple #[])).run Try.prog w = .ok (.pointer (some ⟨q, 0, none⟩)) w1 ∧ Blk w1 q [.bool false] 4 ∧ Below w.heap.size w w1 ∧ q = w.heap.size ∧ w1.heap.size = w.heap.size + 1 :=
  ⟨w.alloc (.cells [.bool false].toArray 4), w.heap.size, by go_simp, Blk.new _ _ _, below_new _ _, rfl, by show (w.heap.push _).size = _; rw [Array.size_push]⟩
theorem new24 (w : World) : ∃ w1 q, (Instr.alloc 24 true (.tuple #[])).run Try.prog w = .ok (.pointer (some ⟨q, 0, none⟩)) w1 ∧ Blk w1 q [.nilIface] 24 ∧ Below w.heap.size w w1 ∧ q = w.heap.size ∧ w1.heap.size = w.heap.size + 1 :=
  ⟨w.alloc (.cells [.nilIface].toArray 24), w.heap.size, by go_simp, Blk.new _ _ _, below_new _ _, rfl, by show (w.heap.push _).size = _; rw [Array.size_push]⟩
set_option maxRecDepth 100000 in
set_option maxHeartbeats 1000000 in
theorem beyond_any {w : World} {L : Lay} {N : Nat} {s : Nat → List UInt8} {m c : Nat} (n : Nat) (h : Dk w L N s m c) (hn : n ≤ 1000) : Calls Try.prog 33 #[dkV L.p n] w fun e w' => e = .returned (.agg (spC (1 + 2 * (n + n)) N).toArray) ∧ Below w.heap.size w w' := by
  refine calls_of_args [dkV L.p n] Try.func33 rfl 11 Try.ntmps33 (by show 1 ≤ 11; decide) ?_
  refine EW.seq ?_
  refine EW.region ?_
  obtain ⟨w1, q, r1, b1, e1, hq⟩ := box55 L.p n w
  refine WL.box rfl rfl rfl r1 ?_
  obtain ⟨w2, q2, r2, b2, e2, hq2⟩ := new63 w1
  have b12 := b1.on e2
  have h2 := (h.below e1).below e2
  refine WL.new rfl rfl r2 ?_
  refine WL.done ?_
  refine EW.on ?_
  refine EW.seq ?_
  refine EW.ordB [(0, 0, 1), (1, 0, 0), (2, 0, 1), (4, 0, 0), (5, 0, 1), (3, 1, 1), (6, 1, 1), (7, 0, 0), (8, 1, 0)] (by kernel_rfl) rfl (by kernel_rfl) ?_
  simp only [opsZ, List.getD_cons_zero, List.getD_cons_succ]
  refine ZE.load rfl rfl rfl rfl sz1 (fun W hW => ld55 (b12.on (sb_of hW))) ?_
  refine ZE.field rfl rfl rfl rfl sz0 (fun W => fld55_1 q W) ?_
  refine ZE.load rfl rfl rfl rfl sz1 (fun W hW => ldI3 (b12.on (sb_of hW))) ?_
  refine ZE.field rfl rfl rfl rfl sz0 (fun W => fld55_0 q W) ?_
  refine ZE.load rfl rfl rfl rfl sz1 (fun W hW => ldP41 (b12.on (sb_of hW))) ?_
  refine ZE.callR [dkV L.p n, .int .i64 (n : Int)] (fun v W => v = .int .i64 ((1 + 2 * (n + n) : Nat) : Int) ∧ Below w2.heap.size w2 W) enter51 rfl rfl rfl (fun _ _ h => .inr h.2) (fun W hW => (home_any L.p n n W (by omega)).mono fun e w' ⟨g1, g2⟩ => ⟨_, g1, rfl, hW.trans (g2.mono hW.size)⟩) ?_
  rintro _ ⟨_, rfl, _⟩
  refine ZE.callR [.pointer (some ⟨L.p, 0, none⟩)] (fun v W => v = .int .i64 (N : Int) ∧ Below w2.heap.size w2 W) enter45 rfl rfl rfl (fun _ _ h => .inr h.2) (fun W hW => by
      obtain ⟨D, h0, _, _, hDn, _⟩ := (h2.below hW.2).ex
      exact (sectors_any h0).mono fun e w' ⟨g1, g2⟩ => ⟨_, g1, by rw [hDn], by rw [g2]; exact hW.2⟩) ?_
  rintro _ ⟨_, rfl, _⟩
  refine ZE.buildN [(0, .int .i64 ((1 + 2 * (n + n) : Nat) : Int)), (1, .int .i64 (N : Int))] rfl rfl rfl rfl sz0 (fun W => bld63 _ _ W) ?_
  refine ZE.store (fun W => Blk W q2 (spC (1 + 2 * (n + n)) N) 63 ∧ Below w.heap.size w W) rfl rfl rfl (fun _ _ => .inl rfl) (fun W hW => by
      obtain ⟨w4, s4, b4, x4⟩ := st63 (a := 1 + 2 * (n + n)) (b := N) (b2.on hW.2)
      exact ⟨w4, s4, b4, ((e1.trans (e2.mono e1.size)).trans (hW.2.mono (Nat.le_trans e1.size e2.size))).trans (x4.below (fun k hk e => by have := e1.size; omega) (by have := e1.size; have := e2.size; have := hW.2.size; omega))⟩) ?_
  rintro w3 ⟨b4, e4⟩
  refine EW.on ?_
  refine EW.ret ?_
  exact EW.returnsC Try.results33 rfl b4 Try.underlying63 rfl (info63 _ _) ⟨rfl, e4⟩
theorem bsl99_1 (a b : Nat) (w : World) : (Instr.buildSlice 99 1 [(0, .agg (spC a b).toArray)].toArray).run Try.prog w = .ok (.slice (some ⟨w.heap.size, 0, none⟩) 1 1) (w.alloc (.cells ([(a, b)].flatMap fun x => spC x.1 x.2).toArray 63)) := by
  unfold spC
  go_simp
  try rfl
theorem bsl99_2 (a b c d : Nat) (w : World) : (Instr.buildSlice 99 2 [(0, .agg (spC a b).toArray), (1, .agg (spC c d).toArray)].toArray).run Try.prog w = .ok (.slice (some ⟨w.heap.size, 0, none⟩) 2 2) (w.alloc (.cells ([(a, b), (c, d)].flatMap fun x => spC x.1 x.2).toArray 63)) := by
  unfold spC
  go_simp
  try rfl
set_option maxRecDepth 100000 in
set_option maxHeartbeats 1000000 in
theorem open_nil (w : World) : Calls Try.prog 5 #[.pointer none] w fun e w' => ∃ u q, e = .returned (.tuple #[.pointer none, .bool false, u]) ∧ u = .iface 79 (.pointer (some ⟨q, 0, none⟩)) ∧ Blk w' q (fltC sOpen 0 3) 81 ∧ Below w.heap.size w w' := by
  refine calls_of_argsD [.pointer none] Try.func5 rfl 35 Try.ntmps5 (by show 1 ≤ 35; decide) ?_
  obtain ⟨w1, ql, r1, b1, e1, hq1, z1⟩ := new22 w
  obtain ⟨w2, qa, r2, b2, e2, hq2, z2⟩ := new4 w1
  obtain ⟨w3, qe, r3, b3, e3, hq3, z3⟩ := new24 w2
  refine EW.seq ?_
  refine EW.region ?_
  refine WL.new rfl rfl r1 ?_
  refine WL.new rfl rfl r2 ?_
  refine WL.new rfl rfl r3 ?_
  refine WL.done ?_
  refine EW.on ?_
  refine EW.seq ?_
  refine EW.region ?_
  refine WL.mkf [.pointer (some ⟨ql, 0, none⟩), .pointer (some ⟨qa, 0, none⟩), .pointer (some ⟨qe, 0, none⟩)] rfl rfl rfl ?_
  refine WL.defer rfl rfl ?_
  refine WL.done ?_
  refine EW.on ?_
  refine EW.seq ?_
  refine EW.region ?_
  refine WL.move rfl rfl rfl ?_
  refine WL.callP [.pointer none] enter20 rfl rfl rfl (over_nil w3) ?_
  rintro _ w4 ⟨rfl, e4⟩
  refine .inr ⟨_, rfl, ?_⟩
  refine pp_then ?_
  refine EW.caught enter17 (open1_some 3 (by decide) (((b1.on e2).on e3).on e4) ((b2.on e3).on e4) (b3.on e4) (by omega) (by omega) (by omega)) ?_
  rintro w5 ⟨x5, d1, d2, u, q, hu, hq, d3, f5⟩ a ha
  refine ⟨_, results_c3 Try.results5 a.tmps w5 (ha.kn 2 _ rfl) (ha.kn 3 _ rfl) (ha.kn 4 _ rfl) (ld22c d1) (ld4c d2) (ld24c d3), u, q, rfl, hu, f5, ?_⟩
  have e13 := (e1.trans (e2.mono e1.size)).trans (e3.mono (Nat.le_trans e1.size e2.size))
  have e14 := e13.trans (e4.mono e13.size)
  exact e14.trans (x5.below (fun k hk h => by omega) e14.size)
set_option maxRecDepth 100000 in
set_option maxHeartbeats 1000000 in
theorem clear_nil (w : World) : Calls Try.prog 6 #[.pointer none] w fun e w' => ∃ u q, e = .returned u ∧ u = .iface 79 (.pointer (some ⟨q, 0, none⟩)) ∧ Blk w' q (fltC sClear 0 3) 81 ∧ Below w.heap.size w w' := by
  refine calls_of_argsD [.pointer none] Try.func6 rfl 29 Try.ntmps6 (by show 1 ≤ 29; decide) ?_
  obtain ⟨w3, qe, r3, b3, e3, hq3, z3⟩ := new24 w
  refine EW.seq ?_
  refine EW.region ?_
  refine WL.new rfl rfl r3 ?_
  refine WL.done ?_
  refine EW.on ?_
  refine EW.seq ?_
  refine EW.region ?_
  refine WL.mkf [.pointer (some ⟨qe, 0, none⟩)] rfl rfl rfl ?_
  refine WL.defer rfl rfl ?_
  refine WL.done ?_
  refine EW.on ?_
  refine EW.seq ?_
  refine EW.region ?_
  refine WL.move rfl rfl rfl ?_
  refine WL.callP [.pointer none] enter20 rfl rfl rfl (over_nil w3) ?_
  rintro _ w4 ⟨rfl, e4⟩
  refine .inr ⟨_, rfl, ?_⟩
  refine pp_then ?_
  refine EW.caught enter29 (clear1_some 3 (by decide) (b3.on e4)) ?_
  rintro w5 ⟨x5, u, q, hu, hq, d3, f5⟩ a ha
  refine ⟨_, results_c1 Try.results6 a.tmps w5 (ha.kn 2 _ rfl) (ld24c d3), u, q, rfl, hu, f5, ?_⟩
  have e14 := e3.trans (e4.mono e3.size)
  exact e14.trans (x5.below (fun k hk h => by omega) e14.size)
end Go.Proofs.Ythlpfpggjkocmaa
