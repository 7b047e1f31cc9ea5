import Derived.Test.YtiefgmgjlhjjhaaDoorHc
set_option linter.unusedVariables false
set_option linter.unusedSimpArgs false
namespace Go.Proofs.YtiefgmgjlhjjhaaDoor
open Go.RowKit

theorem conv_b {x : Nat} (h : x < 256) (W : World) : (Go.convert 3 5 (.int .i64 (x : Int))).run Tryd.prog W = .ok (byt (UInt8.ofNat x)) W := by
  have e : IntKind.u8.wrap (x : Int) = (x : Int) := by rw [IntKind.wrap_u8]; omega
  have e2 : ((UInt8.ofNat x).toNat : Int) = (x : Int) := by rw [UInt8.toNat_ofNat', Nat.mod_eq_of_lt (by omega)]
  unfold byt
  rw [e2]
  go_simp
theorem conv_lo (x : Nat) (h : x < 65536) (W : World) : (Go.convert 3 5 (.int .i64 (x : Int))).run Tryd.prog W = .ok (byt (UInt8.ofNat (x % 256))) W := by
  have e : IntKind.u8.wrap (x : Int) = ((x % 256 : Nat) : Int) := by rw [IntKind.wrap_u8]; omega
  have e2 : ((UInt8.ofNat (x % 256)).toNat : Int) = ((x % 256 : Nat) : Int) := by rw [UInt8.toNat_ofNat', Nat.mod_eq_of_lt (by omega)]
  unfold byt
  rw [e2]
  go_simp
theorem bsl74_1 (a : Value) (ha : ∃ ao n c, a = .slice ao n c) (w : World) : (Instr.buildSlice 26 1 [(0, a)].toArray).run Tryd.prog w = .ok (.slice (some ⟨w.heap.size, 0, none⟩) 1 1) (w.alloc (.cells [a].toArray 24)) := by
  obtain ⟨_, _, _, rfl⟩ := ha
  go_simp
  try rfl
theorem bsl74_2 (a b : Value) (ha : ∃ ao n c, a = .slice ao n c) (hb : ∃ ao n c, b = .slice ao n c) (w : World) : (Instr.buildSlice 26 2 [(0, a), (1, b)].toArray).run Tryd.prog w = .ok (.slice (some ⟨w.heap.size, 0, none⟩) 2 2) (w.alloc (.cells [a, b].toArray 24)) := by
  obtain ⟨_, _, _, rfl⟩ := ha
  obtain ⟨_, _, _, rfl⟩ := hb
  go_simp
  try rfl
theorem fresh_off {M : Nat} {w : World} {b q : Nat} {v : Value} {bs : List UInt8} (hw : Wr M w b q v bs) (g n c : Nat) (ys : List UInt8) (hg : w.heap.size ≤ g) : ∀ k, v.ownBlock = some k → Off (.slice (some ⟨g, 0, none⟩) n c) ys k := fun k hk => .inr fun e => by
  have := (hw.ob.lt hk).1
  simp only [Value.ownBlock, Option.some.injEq] at e
  omega
/-- How a writer's step ends. -/
def WrS (M : Nat) (w : World) (b q : Nat) (v : Value) (bs' : List UInt8) (e : Ending) (w' : World) : Prop := e = .returned (.tuple #[]) ∧ ∃ v', Wr M w' b q v' bs' ∧ Fx (fun k => k = q ∨ v.ownBlock = some k) w w' ∧ Nw w v v'
theorem wr_after {w w2 w3 : World} {b q : Nat} {v v' : Value} (hb : Below w.heap.size w w2) (hf : Fx (fun k => k = q ∨ v.ownBlock = some k) w2 w3) (hn : Nw w2 v v') : Fx (fun k => k = q ∨ v.ownBlock = some k) w w3 ∧ Nw w v v' :=
  ⟨(Fx.of_below hb).and hf, fun k hk => by
    rcases hn k hk with e | e
    · exact .inl e
    · exact .inr (by have := hb.size; omega)⟩
def shB (n s : Nat) : UInt8 := UInt8.ofNat (n / s % 256)
def be32 (n : Nat) : List UInt8 := [shB n 16777216, shB n 65536, shB n 256, shB n 1]
theorem be32_len (n : Nat) : (be32 n).length = 4 := rfl
theorem shr24 (n : Nat) (W : World) (a b : Operand) : (do eqGuard .shr 22 a b (u32v n) (.int .u64 24); binOp .shr 22 (u32v n) (.int .u64 24) : Sem Value).run Tryd.prog W = .ok (u32v (n / 16777216)) W := by
  unfold u32v
  go_simp
theorem shr16 (n : Nat) (W : World) (a b : Operand) : (do eqGuard .shr 22 a b (u32v n) (.int .u64 16); binOp .shr 22 (u32v n) (.int .u64 16) : Sem Value).run Tryd.prog W = .ok (u32v (n / 65536)) W := by
  unfold u32v
  go_simp
theorem shr8u (n : Nat) (W : World) (a b : Operand) : (do eqGuard .shr 22 a b (u32v n) (.int .u64 8); binOp .shr 22 (u32v n) (.int .u64 8) : Sem Value).run Tryd.prog W = .ok (u32v (n / 256)) W := by
  unfold u32v
  go_simp
theorem conv_u (n : Nat) (W : World) : (Go.convert 22 5 (u32v n)).run Tryd.prog W = .ok (byt (UInt8.ofNat (n % 256))) W := by
  have e : IntKind.u8.wrap (n : Int) = ((n % 256 : Nat) : Int) := by rw [IntKind.wrap_u8]; omega
  have e2 : ((UInt8.ofNat (n % 256)).toNat : Int) = ((n % 256 : Nat) : Int) := by rw [UInt8.toNat_ofNat', Nat.mod_eq_of_lt (by omega)]
  unfold byt u32v
  rw [e2]
  go_simp
theorem bsl22_4 (a b c d : UInt8) (w : World) : (Instr.buildSlice 24 4 [(0, byt a), (1, byt b), (2, byt c), (3, byt d)].toArray).run Tryd.prog w = .ok (.slice (some ⟨w.heap.size, 0, none⟩) 4 4) (w.alloc (.cells ([a, b, c, d].map byt).toArray 5)) := by
  unfold byt
  go_simp
  try rfl
theorem Wr.apart {M : Nat} {w : World} {b q : Nat} {v : Value} {bs : List UInt8} (h : Wr M w b q v bs) {q3 : Nat} {cs : List Value} {t : TypeId} (hb : Blk w q3 cs t) (h5 : t ≠ 5) (h71 : t ≠ 124) : ¬ (q3 = q ∨ v.ownBlock = some q3) := by
  unfold Blk at hb
  rintro (e | e)
  · have := h.bl
    unfold Blk at this
    rw [← e, hb] at this
    simp at this
    exact h71 this.2
  · obtain ⟨_, cur, hc⟩ := h.ob.lt e
    rw [hb] at hc
    simp at hc
    exact h5 hc.2
theorem Own.ob {w : World} {base : Nat} {v : Value} {bs : List UInt8} (h : Own w base v bs) : Ob w base v bs := by
  refine ⟨?_, fun k hk => h.ownBlock k hk⟩
  obtain ⟨hx, h1 | ⟨g, cp, cur, rfl, hg, hr⟩⟩ := h
  · exact ⟨hx, .inl h1⟩
  · exact ⟨hx, .inr ⟨g, cp, cur, rfl, Nat.zero_le _, hr⟩⟩
theorem Ob.has {w : World} {b : Nat} {v : Value} {bs : List UInt8} (h : Ob w b v bs) : Has w v bs := h.own.has
theorem Ob.lower {w : World} {b b' : Nat} {v : Value} {bs : List UInt8} (h : Ob w b v bs) (hb : b' ≤ b) : Ob w b' v bs := ⟨h.row, fun k hk => Nat.le_trans hb (h.base k hk)⟩
set_option maxRecDepth 100000 in
set_option maxHeartbeats 1000000 in
theorem clone_ob (v : Value) (bs : List UInt8) (w : World) (h : Has w v bs) (hl : bs.length ≤ 140737488355328) : Calls Tryd.prog 61 #[v] w fun e w' => ∃ v', e = .returned v' ∧ Ob w' w.heap.size v' bs ∧ Below w.heap.size w w' := by
  rcases h with ⟨rfl, rfl⟩ | ⟨ad, cap, rfl, h2, h3⟩
  · refine calls_of_args [.slice none 0 0] Tryd.func61 rfl 8 Tryd.ntmps61 (by show 1 ≤ 8; decide) ?_
    refine EW.seq ?_
    refine EW.region ?_
    first | refine WL.assign rfl rfl rfl ?_
    refine WL.done ?_
    refine EW.on ?_
    refine EW.seq ?_
    refine EW.seq ?_
    refine EW.region ?_
    first | refine WL.move rfl rfl rfl ?_
    first | refine WL.bin rfl rfl rfl rfl (eqnil_t _ _ _) ?_ | refine WL.bin rfl rfl rfl rfl (eqnil_f _ _ _ _ _ _) ?_
    refine WL.done ?_
    refine EW.on ?_
    refine EW.cond_t rfl ?_
    refine EW.seq ?_
    refine EW.region ?_
    first | refine WL.assign rfl rfl rfl ?_
    refine WL.done ?_
    refine EW.on ?_
    refine EW.ret ?_
    refine pr_then ?_
    exact EW.returns Tryd.results61 rfl ⟨_, rfl, Ob.nil _ _, Below.refl _ _⟩
  · have hb0 : Own (w.alloc (.cells #[] 5)) w.heap.size (.slice (some ⟨w.heap.size, 0, none⟩) 0 0) [] := ⟨rfl, .inr ⟨w.heap.size, 0, #[], rfl, Nat.le_refl _, heap_alloc_new w _, Nat.le_refl _, Nat.zero_le _, rfl, rfl⟩⟩
    have eb := below_new w (.cells #[] 5)
    obtain ⟨v', w', r1, r2, r3⟩ := run_app _ w.heap.size _ [] hb0 ad cap bs (fun i u hu => (eb.cell (cell_lt (h3 i u hu))).trans (h3 i u hu)) (by simp; omega) eb.size 24
    refine calls_of_args [.slice (some ad) bs.length cap] Tryd.func61 rfl 8 Tryd.ntmps61 (by show 1 ≤ 8; decide) ?_
    refine EW.seq ?_
    refine EW.region ?_
    first | refine WL.assign rfl rfl rfl ?_
    refine WL.done ?_
    refine EW.on ?_
    refine EW.seq ?_
    refine EW.seq ?_
    refine EW.region ?_
    first | refine WL.move rfl rfl rfl ?_
    first | refine WL.bin rfl rfl rfl rfl (eqnil_t _ _ _) ?_ | refine WL.bin rfl rfl rfl rfl (eqnil_f _ _ _ _ _ _) ?_
    refine WL.done ?_
    refine EW.on ?_
    refine EW.cond_f rfl ?_
    refine EW.skip ?_
    refine EW.on ?_
    refine EW.seq ?_
    refine EW.region ?_
    refine WL.bslN [] rfl rfl rfl (bsl22n _) ?_
    first | refine WL.move rfl rfl rfl ?_
    refine WL.app rfl rfl rfl rfl r1 ?_
    first | refine WL.assign rfl rfl rfl ?_
    refine WL.done ?_
    refine EW.on ?_
    refine EW.ret ?_
    exact EW.returns Tryd.results61 rfl ⟨_, rfl, by simpa using r2.ob, eb.trans ((grown_fx r3).below (fun k hk e => by simp [Value.ownBlock] at e; omega) eb.size)⟩
set_option maxRecDepth 100000 in
set_option maxHeartbeats 1000000 in
theorem u8_any (M : Nat) (hM : M ≤ 1048576) (b q : Nat) (v : Value) (bs : List UInt8) (x : Nat) (hx : x < 256) (w : World) (hw : Wr M w b q v bs) (hbw : b ≤ w.heap.size) (hl : bs.length + 1 ≤ M) : Calls Tryd.prog 38 #[.pointer (some ⟨q, 0, none⟩), .int .i64 (x : Int)] w (WrS M w b q v (bs ++ [UInt8.ofNat x])) := by
  have z1 : ¬ (x : Int) < 0 := by omega
  have z2 : ¬ (255 : Int) < (x : Int) := by omega
  refine calls_of_args [.pointer (some ⟨q, 0, none⟩), .int .i64 (x : Int)] Tryd.func38 rfl 18 Tryd.ntmps38 (by show 2 ≤ 18; decide) ?_
  refine EW.seq ?_
  refine EW.seq ?_
  refine EW.region ?_
  first | refine WL.move rfl rfl rfl ?_
  first | refine WL.bin rfl rfl rfl rfl (int_lt_t ‹_› _ _ _) ?_ | refine WL.bin rfl rfl rfl rfl (int_lt_f ‹_› _ _ _) ?_ | refine WL.bin rfl rfl rfl rfl (int_lt_d _ _ _ _ _) ?_
  first | refine WL.move rfl rfl rfl ?_
  first | refine WL.move rfl rfl rfl ?_ | refine WL.skip _ rfl rfl rfl ?_
  first | refine WL.bin rfl rfl rfl rfl (int_gt_t ‹_› _ _ _) ?_ | refine WL.bin rfl rfl rfl rfl (int_gt_f ‹_› _ _ _) ?_ | refine WL.bin rfl rfl rfl rfl (int_gt_d _ _ _ _ _) ?_ | refine WL.skip _ rfl rfl rfl ?_
  first | refine WL.pick rfl rfl rfl rfl ?_
  refine WL.done ?_
  refine EW.on ?_
  refine EW.cond_f rfl ?_
  refine EW.skip ?_
  refine EW.on ?_
  refine EW.region ?_
  first | refine WL.move rfl rfl rfl ?_
  first | refine WL.move rfl rfl rfl ?_
  refine WL.conv rfl rfl rfl (conv_b hx _) ?_
  refine WL.bslN [(0, byt (UInt8.ofNat x))] rfl rfl rfl (bsl22_1 _ _) ?_
  have b1 := below_new w (.cells ([UInt8.ofNat x].map byt).toArray 5)
  have hh1 : Has (w.alloc (.cells ([UInt8.ofNat x].map byt).toArray 5)) (.slice (some ⟨w.heap.size, 0, none⟩) 1 1) [UInt8.ofNat x] := Has.new (Blk.new _ _ _) 1 (Nat.le_refl _)
  obtain ⟨w1, hw1⟩ : ∃ w1, w.alloc (.cells ([UInt8.ofNat x].map byt).toArray 5) = w1 := ⟨_, rfl⟩
  rw [hw1] at b1 hh1 ⊢
  refine WL.bslN [(0, .slice (some ⟨w.heap.size, 0, none⟩) 1 1)] rfl rfl rfl (bsl74_1 _ ⟨_, _, _, rfl⟩ _) ?_
  have b2 := below_new w1 (.cells [.slice (some ⟨w.heap.size, 0, none⟩) 1 1].toArray 24)
  have hwr := (hw.below b1).below b2
  have hBp : Bp (w1.alloc (.cells [.slice (some ⟨w.heap.size, 0, none⟩) 1 1].toArray 24)) w1.heap.size [(.slice (some ⟨w.heap.size, 0, none⟩) 1 1, [UInt8.ofNat x])] := ⟨Blk.new _ _ _, fun p hp => by rw [List.mem_singleton.1 hp]; exact hh1.below b2⟩
  have b12 := b1.trans (b2.mono b1.size)
  refine WL.call [.pointer (some ⟨q, 0, none⟩), .slice (some ⟨w1.heap.size, 0, none⟩) 1 1] enter40 rfl rfl rfl (fixed_any M hM b q w1.heap.size 1 v bs [(.slice (some ⟨w.heap.size, 0, none⟩) 1 1, [UInt8.ofNat x])] _ hwr hBp (by have := b12.size; omega) (by have := (hw.below b1).bl.lt; omega) (fun p hp => by rw [List.mem_singleton.1 hp]; exact fresh_off hw w.heap.size _ _ _ (Nat.le_refl _)) (by show 1 ≤ 1000; decide) (by show bs.length + 1 ≤ M; omega)) ?_
  rintro _ w3 ⟨rfl, v', g1, g2, g3⟩
  refine ⟨_, rfl, ?_⟩
  refine WL.done ?_
  exact EW.falls Tryd.results38 ⟨rfl, v', by simpa [flatB] using g1, wr_after (b := b) b12 g2 g3⟩
set_option maxRecDepth 100000 in
set_option maxHeartbeats 1000000 in
theorem u32_any (M : Nat) (hM : M ≤ 1048576) (b q : Nat) (v : Value) (bs : List UInt8) (x : Nat) (w : World) (hw : Wr M w b q v bs) (hbw : b ≤ w.heap.size) (hl : bs.length + 4 ≤ M) : Calls Tryd.prog 39 #[.pointer (some ⟨q, 0, none⟩), u32v x] w (WrS M w b q v (bs ++ be32 x)) := by
  refine calls_of_args [.pointer (some ⟨q, 0, none⟩), u32v x] Tryd.func39 rfl 19 Tryd.ntmps39 (by show 2 ≤ 19; decide) ?_
  refine EW.region ?_
  first | refine WL.move rfl rfl rfl ?_
  first | refine WL.move rfl rfl rfl ?_
  refine WL.bin rfl rfl rfl rfl (shr24 _ _ _ _) ?_
  refine WL.conv rfl rfl rfl (conv_u _ _) ?_
  first | refine WL.move rfl rfl rfl ?_
  refine WL.bin rfl rfl rfl rfl (shr16 _ _ _ _) ?_
  refine WL.conv rfl rfl rfl (conv_u _ _) ?_
  first | refine WL.move rfl rfl rfl ?_
  refine WL.bin rfl rfl rfl rfl (shr8u _ _ _ _) ?_
  refine WL.conv rfl rfl rfl (conv_u _ _) ?_
  first | refine WL.move rfl rfl rfl ?_
  refine WL.conv rfl rfl rfl (conv_u _ _) ?_
  obtain ⟨c1, hc1⟩ : ∃ c1, UInt8.ofNat (x / 16777216 % 256) = c1 := ⟨_, rfl⟩
  obtain ⟨c2, hc2⟩ : ∃ c2, UInt8.ofNat (x / 65536 % 256) = c2 := ⟨_, rfl⟩
  obtain ⟨c3, hc3⟩ : ∃ c3, UInt8.ofNat (x / 256 % 256) = c3 := ⟨_, rfl⟩
  obtain ⟨c4, hc4⟩ : ∃ c4, UInt8.ofNat (x % 256) = c4 := ⟨_, rfl⟩
  rw [hc1, hc2, hc3, hc4]
  have hbe : be32 x = [c1, c2, c3, c4] := by unfold be32 shB; rw [Nat.div_one, hc1, hc2, hc3, hc4]
  refine WL.bslN [(0, byt c1), (1, byt c2), (2, byt c3), (3, byt c4)] rfl rfl rfl (bsl22_4 _ _ _ _ _) ?_
  have b1 := below_new w (.cells ([c1, c2, c3, c4].map byt).toArray 5)
  have hh1 : Has (w.alloc (.cells ([c1, c2, c3, c4].map byt).toArray 5)) (.slice (some ⟨w.heap.size, 0, none⟩) 4 4) [c1, c2, c3, c4] := Has.new (Blk.new _ _ _) 4 (Nat.le_refl _)
  obtain ⟨w1, hw1⟩ : ∃ w1, w.alloc (.cells ([c1, c2, c3, c4].map byt).toArray 5) = w1 := ⟨_, rfl⟩
  rw [hw1] at b1 hh1 ⊢
  refine WL.bslN [(0, .slice (some ⟨w.heap.size, 0, none⟩) 4 4)] rfl rfl rfl (bsl74_1 _ ⟨_, _, _, rfl⟩ _) ?_
  have b2 := below_new w1 (.cells [.slice (some ⟨w.heap.size, 0, none⟩) 4 4].toArray 24)
  have hwr := (hw.below b1).below b2
  have hBp : Bp (w1.alloc (.cells [.slice (some ⟨w.heap.size, 0, none⟩) 4 4].toArray 24)) w1.heap.size [(.slice (some ⟨w.heap.size, 0, none⟩) 4 4, [c1, c2, c3, c4])] := ⟨Blk.new _ _ _, fun p hp => by rw [List.mem_singleton.1 hp]; exact hh1.below b2⟩
  have b12 := b1.trans (b2.mono b1.size)
  refine WL.call [.pointer (some ⟨q, 0, none⟩), .slice (some ⟨w1.heap.size, 0, none⟩) 1 1] enter40 rfl rfl rfl (fixed_any M hM b q w1.heap.size 1 v bs [(.slice (some ⟨w.heap.size, 0, none⟩) 4 4, [c1, c2, c3, c4])] _ hwr hBp (by have := b12.size; omega) (by have := (hw.below b1).bl.lt; omega) (fun p hp => by rw [List.mem_singleton.1 hp]; exact fresh_off hw w.heap.size _ _ _ (Nat.le_refl _)) (by show 1 ≤ 1000; decide) (by show bs.length + 4 ≤ M; omega)) ?_
  rintro _ w3 ⟨rfl, v', g1, g2, g3⟩
  refine ⟨_, rfl, ?_⟩
  refine WL.done ?_
  exact EW.falls Tryd.results39 ⟨rfl, v', by rw [hbe]; simpa [flatB] using g1, wr_after (b := b) b12 g2 g3⟩
set_option maxRecDepth 100000 in
set_option maxHeartbeats 1000000 in
theorem out_any (M : Nat) (b q : Nat) (v : Value) (bs : List UInt8) (w : World) (hw : Wr M w b q v bs) (hl : bs.length ≤ 1048576) : Calls Tryd.prog 41 #[.pointer (some ⟨q, 0, none⟩)] w fun e w' => ∃ v', e = .returned (.tuple #[v', .int .i64 0]) ∧ Ob w' w.heap.size v' bs ∧ Below w.heap.size w w' := by
  refine calls_of_args [.pointer (some ⟨q, 0, none⟩)] Tryd.func41 rfl 18 Tryd.ntmps41 (by show 1 ≤ 18; decide) ?_
  refine EW.seq ?_
  refine EW.region ?_
  first | refine WL.assign rfl rfl rfl ?_
  first | refine WL.assign rfl rfl rfl ?_
  refine WL.done ?_
  refine EW.on ?_
  refine EW.seq ?_
  refine EW.seq ?_
  refine EW.region ?_
  first | refine WL.move rfl rfl rfl ?_
  first | refine WL.nilc rfl rfl rfl ?_
  refine WL.field rfl rfl rfl (f124_2 q _) ?_
  refine WL.load rfl rfl rfl (ldE hw.bl rfl) ?_
  first | refine WL.bin rfl rfl rfl rfl (int_ne_f rfl _ _ _) ?_ | refine WL.bin rfl rfl rfl rfl (int_ne_t ‹_› _ _ _) ?_ | refine WL.bin rfl rfl rfl rfl (int_ne_f ‹_› _ _ _) ?_ | refine WL.bin rfl rfl rfl rfl (int_ne_t (by decide) _ _ _) ?_ | refine WL.bin rfl rfl rfl rfl (int_ne_d _ _ _ _ _) ?_
  refine WL.done ?_
  refine EW.on ?_
  refine EW.cond_f rfl ?_
  refine EW.skip ?_
  refine EW.on ?_
  refine EW.seq ?_
  refine EW.region ?_
  first | refine WL.move rfl rfl rfl ?_
  first | refine WL.nilc rfl rfl rfl ?_
  refine WL.field rfl rfl rfl (f124_1 q _) ?_
  refine WL.load rfl rfl rfl (ldS hw.bl rfl) ?_
  refine WL.call [v] enter61 rfl rfl rfl (clone_ob v bs _ hw.ob.own.has (by omega)) ?_
  rintro _ w3 ⟨v', rfl, g1, g3⟩
  refine ⟨_, rfl, ?_⟩
  first | refine WL.assign rfl rfl rfl ?_
  first | refine WL.assign rfl rfl rfl ?_
  refine WL.done ?_
  refine EW.on ?_
  refine EW.ret ?_
  exact EW.returns2 Tryd.results41 rfl rfl ⟨v', rfl, g1, g3⟩
end Go.Proofs.YtiefgmgjlhjjhaaDoor
