import Derived.Test.YtbghjabojgedaaaDoorCb
import Derived.Test.YtbghjabojgedaaaDoorExp3
set_option linter.unusedVariables false
set_option linter.unusedSimpArgs false
namespace Go.Proofs.YtbghjabojgedaaaDoor
open Go.RowKit

theorem bt {a b c : World} (h : Below a.heap.size a b) (k : Below b.heap.size b c) : Below a.heap.size a c := h.trans (k.mono h.size)
theorem bf {a b c : World} {q : Nat} (h : Below a.heap.size a b) (f : Fx (fun k => k = q) b c) (hq : a.heap.size ≤ q) : Below a.heap.size a c :=
  h.trans (f.below (fun k hk e => by have e : k = q := e; omega) h.size)
/-- The next key of a chain, and a message's key. -/
def nxK (K : List UInt8) : List UInt8 := macOf K [2]
def msK (K : List UInt8) : List UInt8 := macOf K [1]
theorem nxK_len (K : List UInt8) : (nxK K).length = 32 := macOf_length _ _
theorem msK_len (K : List UInt8) : (msK K).length = 32 := macOf_length _ _
set_option maxRecDepth 100000 in
set_option maxHeartbeats 1000000 in
theorem step_any (K A B : List UInt8) (hK : K.length = 32) (hA : macOf K [2] = A) (hB : macOf K [1] = B) (w : World) (hS : Kst w) : Calls Tryd.prog 8 #[kv K] w fun e w' => e = .returned (.tuple #[kv A, kv B]) ∧ Below w.heap.size w w' := by
  have hAl : A.length = 32 := by rw [← hA]; exact macOf_length _ _
  have hBl : B.length = 32 := by rw [← hB]; exact macOf_length _ _
  obtain ⟨w1, q, r1, b1, l1, hq⟩ := box23 K w
  obtain ⟨w2, p2, r2, b2, l2, hp2⟩ := new23 w1
  obtain ⟨w3, p3, r3, b3, l3, hp3⟩ := new23 w2
  have hS3 := ((hS.on l1).on l2).on l3
  have hne : p2 ≠ p3 := by have := b2.lt; omega
  refine calls_of_args [kv K] Tryd.func8 rfl 8 Tryd.ntmps8 (by show 1 ≤ 8; decide) ?_
  refine EW.seq ?_
  refine EW.region ?_
  refine WL.box rfl rfl rfl r1 ?_
  refine WL.new rfl rfl r2 ?_
  refine WL.new rfl rfl r3 ?_
  refine WL.done ?_
  refine EW.on ?_
  refine EW.seq ?_
  refine EW.ordB [(0, 0, 1), (2, 0, 1), (1, 1, 1), (3, 1, 1), (4, 1, 0), (5, 1, 0)] (by kernel_rfl) rfl (by kernel_rfl) ?_
  simp only [opsZ, List.getD_cons_zero, List.getD_cons_succ]
  refine ZE.load rfl rfl rfl rfl sz1 (fun W hW => ld23 (((b1.on l2).on l3).on (sb_of hW)) hK) ?_
  refine ZE.load rfl rfl rfl rfl sz1 (fun W hW => ld23 (((b1.on l2).on l3).on (sb_of hW)) hK) ?_
  refine ZE.callB (v := kv A) [kv K, .int .u8 2] enter15 rfl rfl rfl (fun W h => .inr h) (fun W hW => under_any K A hK 2 hA W (hS3.on hW)) ?_
  refine ZE.callB (v := kv B) [kv K, .int .u8 1] enter15 rfl rfl rfl (fun W h => .inr h) (fun W hW => under_any K B hK 1 hB W (hS3.on hW)) ?_
  refine ZE.store (fun W => Blk W p2 (A.map byt) 23 ∧ Blk W p3 (z32.map byt) 23 ∧ Below w.heap.size w W) rfl rfl rfl (fun _ _ => .inl rfl) (fun W hW => ?_) ?_
  · obtain ⟨w', r, b, f⟩ := st23 ((b2.on l3).on hW) z32l hAl
    exact ⟨w', r, b, (b3.on hW).fx f (fun e => hne e.symm), bf (bt (bt (bt l1 l2) l3) hW) f (by have := l1.size; omega)⟩
  refine ZE.store (fun W => Blk W p2 (A.map byt) 23 ∧ Blk W p3 (B.map byt) 23 ∧ Below w.heap.size w W) rfl rfl rfl (fun _ _ => .inl rfl) (fun W hW => ?_) ?_
  · obtain ⟨c2, c3, c4⟩ := hW
    obtain ⟨w', r, b, f⟩ := st23 c3 z32l hBl
    exact ⟨w', r, c2.fx f hne, b, bf c4 f (by have := l1.size; have := l2.size; omega)⟩
  rintro W4 ⟨c2, c3, c4⟩
  refine EW.on ?_
  refine EW.ret ?_
  exact EW.retKK Tryd.results8 rfl rfl c2 c3 hAl hBl ⟨rfl, c4⟩
/-- Levels by a property. -/
def SR (R : World → Prop) (l : Nat) (W : World) : Prop := l = 0 ∨ R W
theorem sr_anti (R : World → Prop) (m n : Nat) (W : World) (h : m ≤ n) (k : SR R n W) : SR R m W := by
  rcases k with k | k
  · exact .inl (by omega)
  · exact .inr k
theorem sr_of {R : World → Prop} {W : World} {l : Nat} {C : World → Prop} (h : SZ (SR R) 0 (l + 1) C W) : R W := by
  rcases h with h | h
  · cases h
  · exact h
theorem sr0 {R C : World → Prop} : ∀ W, C W → SZ (SR R) 0 0 C W := fun _ _ => .inl rfl
theorem halfA {W : World} {g : Nat} {X : List UInt8} {t : TypeId} (h : Blk W g (X.map byt) t) (hX : X.length = 64) : (Instr.loadAt 23 (.pointer (some ⟨g, 0, none⟩))).run Tryd.prog W = .ok (kv (X.take 32)) W :=
  run_loadAt_mid W g 0 23 _ _ (fun j v hj => by
    rw [Nat.zero_add, h.cell]
    rw [List.map_take, List.getElem?_take] at hj
    split at hj
    · exact hj
    · cases hj) u23 rfl (i23 (by rw [List.length_take, hX]; decide))
theorem halfB {W : World} {g : Nat} {X : List UInt8} {t : TypeId} (h : Blk W g (X.map byt) t) (hX : X.length = 64) : (Instr.loadAt 23 (.pointer (some ⟨g, 32, none⟩))).run Tryd.prog W = .ok (kv (X.drop 32)) W :=
  run_loadAt_mid W g 32 23 _ _ (fun j v hj => by
    rw [h.cell]
    rw [List.map_drop, List.getElem?_drop] at hj
    exact hj) u23 rfl (i23 (by rw [List.length_drop, hX]))
set_option maxRecDepth 100000 in
set_option maxHeartbeats 1000000 in
theorem root_any (K S X : List UInt8) (hK : K.length = 32) (hL : S.length = 32) (hX : exOut (macOf K S) rootB 64 = X) (hXl : X.length = 64) (w : World) (hS : Kst w) : Calls Tryd.prog 10 #[kv K, kv S] w fun e w' => e = .returned (.tuple #[kv (X.take 32), kv (X.drop 32)]) ∧ Below w.heap.size w w' := by
  obtain ⟨w1, q1, r1, b1, l1, hq1⟩ := box23 K w
  obtain ⟨w2, q2, r2, b2, l2, hq2⟩ := box23 S w1
  obtain ⟨w3, p3, r3, b3, l3, hp3⟩ := new23 w2
  obtain ⟨w4, p4, r4, b4, l4, hp4⟩ := new23 w3
  have hS4 := (((hS.on l1).on l2).on l3).on l4
  have c1 := ((b1.on l2).on l3).on l4
  have c2 := (b2.on l3).on l4
  have L4 := bt (bt (bt l1 l2) l3) l4
  have hne : p3 ≠ p4 := by have := b3.lt; omega
  have hXa : (X.take 32).length = 32 := by rw [List.length_take, hXl]; decide
  have hXb : (X.drop 32).length = 32 := by rw [List.length_drop, hXl]
  refine calls_of_args [kv K, kv S] Tryd.func10 rfl 24 Tryd.ntmps10 (by show 2 ≤ 24; decide) ?_
  refine EW.seq ?_
  refine EW.region ?_
  refine WL.box rfl rfl rfl r1 ?_
  refine WL.box rfl rfl rfl r2 ?_
  refine WL.new rfl rfl r3 ?_
  refine WL.new rfl rfl r4 ?_
  refine WL.done ?_
  refine EW.on ?_
  refine EW.seq ?_
  refine EW.ordB [(0, 0, 0), (1, 0, 0), (2, 1, 1), (3, 1, 1), (4, 1, 1), (5, 0, 0), (6, 0, 0), (7, 0, 0), (8, 0, 0), (9, 0, 0)] (by kernel_rfl) rfl (by kernel_rfl) ?_
  simp only [opsZ, List.getD_cons_zero, List.getD_cons_succ]
  refine ZE.slice0 rfl rfl rfl rfl sz0 (fun W => sl23 _ W) ?_
  refine ZE.slice0 rfl rfl rfl rfl sz0 (fun W => sl23 _ W) ?_
  refine ZE.bsl rootV (fun v W' => ∃ W, Below w4.heap.size w4 W ∧ v = .slice (some ⟨W.heap.size, 0, none⟩) 10 10 ∧ W' = W.alloc (.cells (rootB.map byt).toArray 5)) rfl rfl rfl (fun v W' ⟨W, h, _, e⟩ => .inr (by rw [e]; exact bt h (below_new _ _))) (fun W hW => ⟨_, _, bsl10 W, W, hW, rfl, rfl⟩) ?_
  rintro vi ⟨_, Wi, _, rfl, _⟩
  refine ZE.turn (fun v W' => v = .slice (some ⟨Wi.heap.size, 0, none⟩) 10 10 ∧ Has W' (.slice (some ⟨Wi.heap.size, 0, none⟩) 10 10) rootB ∧ Below w4.heap.size w4 W') rfl (fun i hi => by cases hi; decide) (fun _ W h => .inr h.2.2) (fun W hW a ha => ?_) ?_
  · obtain ⟨W0, h0, e0, rfl⟩ := hW
    simp only [Value.slice.injEq, Option.some.injEq, Addr.mk.injEq, and_true] at e0
    rw [e0]
    refine .inl ⟨_, _, by
      have := conv34 W0
      simp only [execOp, ha.ev (show evE _ (.tmp 11) = _ from rfl), e0]
      rw [Sem.run_bind, this]
      rfl, rfl, has_newsM W0 rootB (10, 11) _ rfl, bt h0 (below_new _ _)⟩
  rintro vj ⟨_, rfl, _, _⟩
  refine ZE.sub (fun W' => Has W' (.slice (some ⟨Wi.heap.size, 0, none⟩) 10 10) rootB ∧ Below w4.heap.size w4 W') (fun W h => h.2) ?_
  refine ZE.callR [.slice (some ⟨q1, 0, none⟩) 32 32, .slice (some ⟨q2, 0, none⟩) 32 32, .slice (some ⟨Wi.heap.size, 0, none⟩) 10 10, .int .i64 64] (fun v W' => ∃ g, v = .tuple #[.slice (some ⟨g, 0, none⟩) 64 64, .int .i64 0] ∧ Blk W' g (X.map byt) 5 ∧ Below w4.heap.size w4 W' ∧ w4.heap.size ≤ g) enter11 rfl rfl rfl (fun v W' ⟨g, _, _, h, _⟩ => .inr h) (fun W hW => ?_) ?_
  · have := derive_ok (.slice (some ⟨q1, 0, none⟩) 32 32) (.slice (some ⟨q2, 0, none⟩) 32 32) (.slice (some ⟨Wi.heap.size, 0, none⟩) 10 10) K S rootB 64 W ((c1.on hW.2).has 32 hK) ((c2.on hW.2).has 32 hL) hW.1 (hS4.on hW.2) (by rw [hK]; decide) (by rw [hL]; decide) (by decide) (by decide)
    rw [hX] at this
    refine this.mono fun e w' h => ?_
    obtain ⟨g, rfl, tu⟩ := h
    exact ⟨_, rfl, g, rfl, tu.bl, bt hW.2 tu.be, by have := hW.2.size; have := tu.lp; omega⟩
  rintro vd ⟨_, g, rfl, _, _, hg4⟩
  refine ZE.sub (fun W' => Blk W' g (X.map byt) 5 ∧ Below w4.heap.size w4 W') (fun W h => ?_) ?_
  · obtain ⟨g', e, h1, h2, _⟩ := h
    simp at e
    subst e
    exact ⟨h1, h2⟩
  refine ZE.move rfl rfl rfl rfl (fun W h => .inl rfl) ?_
  refine ZE.extract rfl rfl rfl rfl (fun W h => .inl rfl) (fun W => (ext_2 _ _ W).1) ?_
  refine ZE.extract rfl rfl rfl rfl (fun W h => .inl rfl) (fun W => (ext_2 _ _ W).2) ?_
  refine ZE.assign rfl rfl rfl rfl (fun W h => .inl rfl) ?_
  refine ZE.assign rfl rfl rfl rfl (fun W h => .inl rfl) ?_
  rintro W5 ⟨d5, d6⟩
  refine EW.on ?_
  refine EW.seq ?_
  refine EW.ordZ [(0, 0, 0), (1, 0, 0), (2, 0, 0), (3, 0, 1), (4, 0, 0), (5, 0, 0), (6, 0, 0), (7, 0, 1), (8, 1, 1), (9, 1, 0)] (SR fun W => Blk W g (X.map byt) 5) (fun W => Below W5.heap.size W5 W) (by kernel_rfl) rfl (by kernel_rfl) (sr_anti _) (below_drawn W5) ?_
  simp only [opsZ, List.getD_cons_zero, List.getD_cons_succ]
  refine ZE.move rfl rfl rfl rfl sr0 ?_
  refine ZE.sliceH rfl rfl rfl rfl rfl sr0 (fun W => cutH g W) ?_
  refine ZE.s2a rfl rfl rfl rfl sr0 (fun W => s2a g 0 _ _ (by decide) W) ?_
  refine ZE.load rfl rfl rfl rfl (fun W h => .inr (d5.on h)) (fun W hW => halfA (sr_of hW) hXl) ?_
  refine ZE.move rfl rfl rfl rfl sr0 ?_
  refine ZE.sliceL rfl rfl rfl rfl rfl sr0 (fun W => cutL g W) ?_
  refine ZE.s2a rfl rfl rfl rfl sr0 (fun W => s2a g 32 _ _ (by decide) W) ?_
  refine ZE.load rfl rfl rfl rfl (fun W h => .inr (d5.on h)) (fun W hW => halfB (sr_of hW) hXl) ?_
  refine ZE.store (fun W => Blk W g (X.map byt) 5 ∧ Blk W p3 ((X.take 32).map byt) 23 ∧ Blk W p4 (z32.map byt) 23 ∧ Below w.heap.size w W) rfl rfl rfl (fun _ h => .inr h.1) (fun W hW => ?_) ?_
  · obtain ⟨w', r, b, f⟩ := st23 (((b3.on l4).on d6).on hW) z32l hXa
    exact ⟨w', r, (d5.on hW).fx f (fun e => by have := (b3.on l4).lt; omega), b, ((b4.on d6).on hW).fx f (fun e => hne e.symm), bf (bt (bt L4 d6) hW) f (by have := l1.size; have := l2.size; omega)⟩
  refine ZE.store (fun W => Blk W p3 ((X.take 32).map byt) 23 ∧ Blk W p4 ((X.drop 32).map byt) 23 ∧ Below w.heap.size w W) rfl rfl rfl (fun _ _ => .inl rfl) (fun W hW => ?_) ?_
  · obtain ⟨_, e2, e3, e4⟩ := hW
    obtain ⟨w', r, b, f⟩ := st23 e3 z32l hXb
    exact ⟨w', r, e2.fx f hne, b, bf e4 f (by have := l1.size; have := l2.size; have := l3.size; omega)⟩
  rintro W6 ⟨e2, e3, e4⟩
  refine EW.on ?_
  refine EW.ret ?_
  exact EW.retKK Tryd.results10 rfl rfl e2 e3 hXa hXb ⟨rfl, e4⟩
end Go.Proofs.YtbghjabojgedaaaDoor
