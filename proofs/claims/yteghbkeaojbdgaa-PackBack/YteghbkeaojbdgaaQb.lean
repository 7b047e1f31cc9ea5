import Derived.Test.YteghbkeaojbdgaaQa
set_option linter.unusedVariables false
set_option linter.unusedSimpArgs false
namespace Go.Proofs.Yteghbkeaojbdgaa
open Go.RowKit

theorem conv_b {x : Nat} (h : x < 256) (W : World) : (Go.convert 3 5 (.int .i64 (x : Int))).run Try.prog W = .ok (byt (UInt8.ofNat x)) W := by
  have e : IntKind.u8.wrap (x : Int) = (x : Int) := by rw [IntKind.wrap_u8]; omega
  have e2 : ((UInt8.ofNat x).toNat : Int) = (x : Int) := by rw [UInt8.toNat_ofNat', Nat.mod_eq_of_lt (by omega)]
  unfold byt
  rw [e2]
  go_simp
theorem conv_lo (x : Nat) (h : x < 65536) (W : World) : (Go.convert 3 5 (.int .i64 (x : Int))).run Try.prog W = .ok (byt (UInt8.ofNat (x % 256))) W := by
  have e : IntKind.u8.wrap (x : Int) = ((x % 256 : Nat) : Int) := by rw [IntKind.wrap_u8]; omega
  have e2 : ((UInt8.ofNat (x % 256)).toNat : Int) = ((x % 256 : Nat) : Int) := by rw [UInt8.toNat_ofNat', Nat.mod_eq_of_lt (by omega)]
  unfold byt
  rw [e2]
  go_simp
theorem bsl22_2 (a b : UInt8) (w : World) : (Instr.buildSlice 22 2 [(0, byt a), (1, byt b)].toArray).run Try.prog w = .ok (.slice (some ⟨w.heap.size, 0, none⟩) 2 2) (w.alloc (.cells ([a, b].map byt).toArray 5)) := by
  unfold byt
  go_simp
  try rfl
theorem bsl74_1 (a : Value) (ha : ∃ ao n c, a = .slice ao n c) (w : World) : (Instr.buildSlice 74 1 [(0, a)].toArray).run Try.prog w = .ok (.slice (some ⟨w.heap.size, 0, none⟩) 1 1) (w.alloc (.cells [a].toArray 22)) := by
  obtain ⟨_, _, _, rfl⟩ := ha
  go_simp
  try rfl
theorem bsl74_2 (a b : Value) (ha : ∃ ao n c, a = .slice ao n c) (hb : ∃ ao n c, b = .slice ao n c) (w : World) : (Instr.buildSlice 74 2 [(0, a), (1, b)].toArray).run Try.prog w = .ok (.slice (some ⟨w.heap.size, 0, none⟩) 2 2) (w.alloc (.cells [a, b].toArray 22)) := by
  obtain ⟨_, _, _, rfl⟩ := ha
  obtain ⟨_, _, _, rfl⟩ := hb
  go_simp
  try rfl
theorem fresh_off {w : World} {b q : Nat} {v : Value} {bs : List UInt8} (hw : Wr w b q v bs) (g n c : Nat) (ys : List UInt8) (hg : w.heap.size ≤ g) : ∀ k, v.ownBlock = some k → Off (.slice (some ⟨g, 0, none⟩) n c) ys k := fun k hk => .inr fun e => by
  have := (hw.ob.lt hk).1
  simp only [Value.ownBlock, Option.some.injEq] at e
  omega
/-- How a writer's step ends. -/
def WrS (w : World) (b q : Nat) (v : Value) (bs' : List UInt8) (e : Ending) (w' : World) : Prop := e = .returned (.tuple #[]) ∧ ∃ v', Wr w' b q v' bs' ∧ Fx (fun k => k = q ∨ v.ownBlock = some k) w w' ∧ Nw w v v'
theorem wr_after {w w2 w3 : World} {b q : Nat} {v v' : Value} (hb : Below w.heap.size w w2) (hf : Fx (fun k => k = q ∨ v.ownBlock = some k) w2 w3) (hn : Nw w2 v v') : Fx (fun k => k = q ∨ v.ownBlock = some k) w w3 ∧ Nw w v v' :=
  ⟨(Fx.of_below hb).and hf, fun k hk => by
    rcases hn k hk with e | e
    · exact .inl e
    · exact .inr (by have := hb.size; omega)⟩
set_option maxRecDepth 100000 in
set_option maxHeartbeats 1000000 in
theorem u8_any (b q : Nat) (v : Value) (bs : List UInt8) (x : Nat) (hx : x < 256) (w : World) (hw : Wr w b q v bs) (hbw : b ≤ w.heap.size) (hl : bs.length + 1 ≤ 1008) : Calls Try.prog 40 #[.pointer (some ⟨q, 0, none⟩), .int .i64 (x : Int)] w (WrS w b q v (bs ++ [UInt8.ofNat x])) := by
  have z1 : ¬ (x : Int) < 0 := by omega
  have z2 : ¬ (255 : Int) < (x : Int) := by omega
  refine calls_of_args [.pointer (some ⟨q, 0, none⟩), .int .i64 (x : Int)] Try.func40 rfl 18 Try.ntmps40 (by show 2 ≤ 18; decide) ?_
  refine EW.seq ?_
  refine EW.seq ?_
  refine EW.region ?_
  first | refine WL.move rfl rfl rfl ?_
  first | refine WL.bin rfl rfl rfl rfl (int_lt_t ‹_› _ _ _) ?_ | refine WL.bin rfl rfl rfl rfl (int_lt_f ‹_› _ _ _) ?_ | refine WL.bin rfl rfl rfl rfl (int_lt_d _ _ _ _ _) ?_
  first | refine WL.move rfl rfl rfl ?_
  first | refine WL.move rfl rfl rfl ?_ | refine WL.skip _ rfl rfl rfl ?_
  first | refine WL.bin rfl rfl rfl rfl (int_gt_t ‹_› _ _ _) ?_ | refine WL.bin rfl rfl rfl rfl (int_gt_f ‹_› _ _ _) ?_ | refine WL.bin rfl rfl rfl rfl (int_gt_d _ _ _ _ _) ?_ | refine WL.skip _ rfl rfl rfl ?_
  first | refine WL.pick rfl rfl rfl rfl ?_
  refine WL.done ?_
  refine EW.on ?_
  refine EW.cond_f rfl ?_
  refine EW.skip ?_
  refine EW.on ?_
  refine EW.region ?_
  first | refine WL.move rfl rfl rfl ?_
  first | refine WL.move rfl rfl rfl ?_
  refine WL.conv rfl rfl rfl (conv_b hx _) ?_
  refine WL.bslN [(0, byt (UInt8.ofNat x))] rfl rfl rfl (bsl22_1 _ _) ?_
  have b1 := below_new w (.cells ([UInt8.ofNat x].map byt).toArray 5)
  have hh1 : Has (w.alloc (.cells ([UInt8.ofNat x].map byt).toArray 5)) (.slice (some ⟨w.heap.size, 0, none⟩) 1 1) [UInt8.ofNat x] := Has.new (Blk.new _ _ _) 1 (Nat.le_refl _)
  obtain ⟨w1, hw1⟩ : ∃ w1, w.alloc (.cells ([UInt8.ofNat x].map byt).toArray 5) = w1 := ⟨_, rfl⟩
  rw [hw1] at b1 hh1 ⊢
  refine WL.bslN [(0, .slice (some ⟨w.heap.size, 0, none⟩) 1 1)] rfl rfl rfl (bsl74_1 _ ⟨_, _, _, rfl⟩ _) ?_
  have b2 := below_new w1 (.cells [.slice (some ⟨w.heap.size, 0, none⟩) 1 1].toArray 22)
  have hwr := (hw.below b1).below b2
  have hBp : Bp (w1.alloc (.cells [.slice (some ⟨w.heap.size, 0, none⟩) 1 1].toArray 22)) w1.heap.size [(.slice (some ⟨w.heap.size, 0, none⟩) 1 1, [UInt8.ofNat x])] := ⟨Blk.new _ _ _, fun p hp => by rw [List.mem_singleton.1 hp]; exact hh1.below b2⟩
  have b12 := b1.trans (b2.mono b1.size)
  refine WL.call [.pointer (some ⟨q, 0, none⟩), .slice (some ⟨w1.heap.size, 0, none⟩) 1 1] enter26 rfl rfl rfl (fixed_any b q w1.heap.size 1 v bs [(.slice (some ⟨w.heap.size, 0, none⟩) 1 1, [UInt8.ofNat x])] _ hwr hBp (by have := b12.size; omega) (by have := (hw.below b1).bl.lt; omega) (fun p hp => by rw [List.mem_singleton.1 hp]; exact fresh_off hw w.heap.size _ _ _ (Nat.le_refl _)) (by show 1 ≤ 1000; decide) (by show bs.length + 1 ≤ 1008; omega)) ?_
  rintro _ w3 ⟨rfl, v', g1, g2, g3⟩
  refine ⟨_, rfl, ?_⟩
  refine WL.done ?_
  exact EW.falls Try.results40 ⟨rfl, v', by simpa [flatB] using g1, wr_after (b := b) b12 g2 g3⟩
theorem shr8 {x : Nat} (W : World) (a b : Operand) : (do eqGuard .shr 3 a b (.int .i64 (x : Int)) (.int .u64 8); binOp .shr 3 (.int .i64 (x : Int)) (.int .u64 8) : Sem Value).run Try.prog W = .ok (.int .i64 ((x / 256 : Nat) : Int)) W := by
  go_simp
set_option maxRecDepth 100000 in
set_option maxHeartbeats 1000000 in
theorem run_any (b q : Nat) (v : Value) (bs : List UInt8) (pv : Value) (ys : List UInt8) (w : World) (hw : Wr w b q v bs) (hbw : b ≤ w.heap.size) (hy : Has w pv ys) (hyo : ∀ k, v.ownBlock = some k → Off pv ys k) (hl : bs.length + 2 + ys.length ≤ 1008) : Calls Try.prog 41 #[.pointer (some ⟨q, 0, none⟩), pv] w (WrS w b q v (bs ++ [UInt8.ofNat (ys.length / 256), UInt8.ofNat (ys.length % 256)] ++ ys)) := by
  have z1 : ¬ (65535 : Int) < (ys.length : Int) := by omega
  refine calls_of_args [.pointer (some ⟨q, 0, none⟩), pv] Try.func41 rfl 21 Try.ntmps41 (by show 2 ≤ 21; decide) ?_
  refine EW.seq ?_
  refine EW.region ?_
  first | refine WL.move rfl rfl rfl ?_
  refine WL.len rfl rfl rfl (hy.len _ _) ?_
  first | refine WL.assign rfl rfl rfl ?_
  refine WL.done ?_
  refine EW.on ?_
  refine EW.seq ?_
  refine EW.seq ?_
  refine EW.region ?_
  first | refine WL.move rfl rfl rfl ?_
  first | refine WL.bin rfl rfl rfl rfl (int_gt_t ‹_› _ _ _) ?_ | refine WL.bin rfl rfl rfl rfl (int_gt_f ‹_› _ _ _) ?_ | refine WL.bin rfl rfl rfl rfl (int_gt_d _ _ _ _ _) ?_
  refine WL.done ?_
  refine EW.on ?_
  refine EW.cond_f rfl ?_
  refine EW.skip ?_
  refine EW.on ?_
  refine EW.region ?_
  first | refine WL.move rfl rfl rfl ?_
  first | refine WL.move rfl rfl rfl ?_
  refine WL.bin rfl rfl rfl rfl (shr8 (x := ys.length) _ _ _) ?_
  refine WL.conv rfl rfl rfl (conv_b (x := ys.length / 256) (by omega) _) ?_
  first | refine WL.move rfl rfl rfl ?_
  refine WL.conv rfl rfl rfl (conv_lo ys.length (by omega) _) ?_
  obtain ⟨c1, hc1⟩ : ∃ c1, UInt8.ofNat (ys.length / 256) = c1 := ⟨_, rfl⟩
  obtain ⟨c2, hc2⟩ : ∃ c2, UInt8.ofNat (ys.length % 256) = c2 := ⟨_, rfl⟩
  rw [hc1, hc2]
  refine WL.bslN [(0, byt c1), (1, byt c2)] rfl rfl rfl (bsl22_2 _ _ _) ?_
  first | refine WL.move rfl rfl rfl ?_
  have b1 := below_new w (.cells ([c1, c2].map byt).toArray 5)
  have hh1 : Has (w.alloc (.cells ([c1, c2].map byt).toArray 5)) (.slice (some ⟨w.heap.size, 0, none⟩) 2 2) [c1, c2] := Has.new (Blk.new _ _ _) 2 (Nat.le_refl _)
  obtain ⟨w1, hw1⟩ : ∃ w1, w.alloc (.cells ([c1, c2].map byt).toArray 5) = w1 := ⟨_, rfl⟩
  rw [hw1] at b1 hh1 ⊢
  refine WL.bslN [(0, .slice (some ⟨w.heap.size, 0, none⟩) 2 2), (1, pv)] rfl rfl rfl (bsl74_2 _ _ ⟨_, _, _, rfl⟩ hy.sl _) ?_
  have b2 := below_new w1 (.cells [.slice (some ⟨w.heap.size, 0, none⟩) 2 2, pv].toArray 22)
  have hwr := (hw.below b1).below b2
  have hBp : Bp (w1.alloc (.cells [.slice (some ⟨w.heap.size, 0, none⟩) 2 2, pv].toArray 22)) w1.heap.size [(.slice (some ⟨w.heap.size, 0, none⟩) 2 2, [c1, c2]), (pv, ys)] := ⟨Blk.new _ _ _, fun p hp => by
  simp only [List.mem_cons, List.not_mem_nil, or_false] at hp
  rcases hp with rfl | rfl
  · exact hh1.below b2
  · exact (hy.below b1).below b2⟩
  have b12 := b1.trans (b2.mono b1.size)
  refine WL.call [.pointer (some ⟨q, 0, none⟩), .slice (some ⟨w1.heap.size, 0, none⟩) 2 2] enter26 rfl rfl rfl (fixed_any b q w1.heap.size 2 v bs [(.slice (some ⟨w.heap.size, 0, none⟩) 2 2, [c1, c2]), (pv, ys)] _ hwr hBp (by have := b12.size; omega) (by have := (hw.below b1).bl.lt; omega) (fun p hp => by
  simp only [List.mem_cons, List.not_mem_nil, or_false] at hp
  rcases hp with rfl | rfl
  · exact fresh_off hw w.heap.size _ _ _ (Nat.le_refl _)
  · exact hyo) (by show 2 ≤ 1000; decide) (by simp [flatB]; omega)) ?_
  rintro _ w3 ⟨rfl, v', g1, g2, g3⟩
  refine ⟨_, rfl, ?_⟩
  refine WL.done ?_
  exact EW.falls Try.results41 ⟨rfl, v', by simpa [flatB] using g1, wr_after (b := b) b12 g2 g3⟩
end Go.Proofs.Yteghbkeaojbdgaa
