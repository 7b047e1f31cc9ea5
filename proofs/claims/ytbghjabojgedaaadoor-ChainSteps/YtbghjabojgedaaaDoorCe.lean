import Derived.Test.YtbghjabojgedaaaDoorCd
set_option linter.unusedVariables false
set_option linter.unusedSimpArgs false
namespace Go.Proofs.YtbghjabojgedaaaDoor
open Go.RowKit

theorem bslc (b : UInt8) (w : World) : ∃ w1 g, (Instr.buildSlice 34 1 [(0, .int .u8 (b.toNat : Int))].toArray).run Tryd.prog w = .ok (.slice (some ⟨g, 0, none⟩) 1 1) w1 ∧ Has w1 (.slice (some ⟨g, 0, none⟩) 1 1) [b] ∧ Below w.heap.size w w1 :=
  ⟨_, _, bsl1 b w, has_new1 w b, below_new _ _⟩
theorem newS (w : World) (K : List UInt8) (hK : K.length = 32) : ∃ q w1 w2, (Instr.alloc 22 true (.tuple #[])).run Tryd.prog w = .ok (.pointer (some ⟨q, 0, none⟩)) w1 ∧ (Instr.storeAt 22 (.pointer (some ⟨q, 0, none⟩)) (kv K)).run Tryd.prog w1 = .ok () w2 ∧ Blk w2 q (K.map byt) 22 ∧ Below w.heap.size w w2 ∧ w.heap.size ≤ q := by
  obtain ⟨w1, q, r1, b1, l1, rfl⟩ := new22 w
  obtain ⟨w2, r2, b2, f2⟩ := st22 b1 z32l hK
  exact ⟨_, w1, w2, r1, r2, b2, l1.trans (f2.below (fun k hk e => by omega) l1.size), Nat.le_refl _⟩
theorem key0 (X : List UInt8) (h : X.length = 32) : (X.drop 0).take 32 = X := by rw [List.drop_zero, List.take_of_length_le (by omega)]
set_option maxRecDepth 100000 in
set_option maxHeartbeats 1000000 in
theorem rstep_any (K A B : List UInt8) (hK : K.length = 32) (hA : macOf K [2] = A) (hB : macOf K [1] = B) (w : World) (hS : St3 w) : Calls Tryd.prog 13 #[kv K] w fun e w' => e = .returned (.tuple #[kv A, kv B]) ∧ Below w.heap.size w w' := by
  have hAl : A.length = 32 := by rw [← hA]; exact macOf_length _ _
  have hBl : B.length = 32 := by rw [← hB]; exact macOf_length _ _
  obtain ⟨w1, q, r1, b1, l1, hq⟩ := box23 K w
  obtain ⟨w2, p2, r2, b2, l2, hp2⟩ := new23 w1
  obtain ⟨w3, p3, r3, b3, l3, hp3⟩ := new23 w2
  have hS3 := ((hS.on l1).on l2).on l3
  have c1 := (b1.on l2).on l3
  have L3 := bt (bt l1 l2) l3
  have hne : p2 ≠ p3 := by have := b2.lt; omega
  refine calls_of_args [kv K] Tryd.func13 rfl 16 Tryd.ntmps13 (by show 1 ≤ 16; decide) ?_
  refine EW.seq ?_
  refine EW.region ?_
  refine WL.box rfl rfl rfl r1 ?_
  refine WL.new rfl rfl r2 ?_
  refine WL.new rfl rfl r3 ?_
  refine WL.done ?_
  refine EW.on ?_
  refine EW.seq ?_
  refine EW.region ?_
  refine WL.slice0 rfl rfl rfl (sl23 _ _) ?_
  obtain ⟨u1, x1, s1, h1, m1⟩ := bslc 1 w3
  refine WL.bslN [(0, .int .u8 1)] rfl rfl rfl s1 ?_
  refine WL.call [.slice (some ⟨q, 0, none⟩) 32 32, .slice (some ⟨x1, 0, none⟩) 1 1] enter24 rfl rfl rfl (rmac_any _ _ K [1] B hB u1 ((c1.on m1).has 32 hK) h1 (by rw [hK]; decide) (by decide) (hS3.on m1).r (hS3.on m1).b) ?_
  rintro e u2 ⟨rfl, m2⟩
  refine ⟨_, rfl, ?_⟩
  obtain ⟨g1, v2, u3, s2, s3, d1, m3, hg1⟩ := newS u2 B hBl
  have M3 := bt (bt m1 m2) m3
  refine WL.new rfl rfl s2 ?_
  refine WL.store rfl rfl rfl s3 ?_
  refine WL.done ?_
  refine EW.on ?_
  refine EW.seq ?_
  refine EW.region ?_
  refine WL.slice0 rfl rfl rfl (sl23 _ _) ?_
  obtain ⟨u4, x4, s4, h4, m4⟩ := bslc 2 u3
  refine WL.bslN [(0, .int .u8 2)] rfl rfl rfl s4 ?_
  refine WL.call [.slice (some ⟨q, 0, none⟩) 32 32, .slice (some ⟨x4, 0, none⟩) 1 1] enter24 rfl rfl rfl (rmac_any _ _ K [2] A hA u4 (((c1.on M3).on m4).has 32 hK) h4 (by rw [hK]; decide) (by decide) ((hS3.on M3).on m4).r ((hS3.on M3).on m4).b) ?_
  rintro e u5 ⟨rfl, m5⟩
  refine ⟨_, rfl, ?_⟩
  obtain ⟨g2, v5, u6, s5, s6, d2, m6, hg2⟩ := newS u5 A hAl
  have M6 := bt (bt m4 m5) m6
  have d1' := d1.on M6
  refine WL.new rfl rfl s5 ?_
  refine WL.store rfl rfl rfl s6 ?_
  refine WL.done ?_
  refine EW.on ?_
  refine EW.seq ?_
  refine EW.ordB [(0, 0, 0), (2, 0, 0), (1, 1, 1), (3, 1, 1), (4, 1, 0), (5, 1, 0)] (by kernel_rfl) rfl (by kernel_rfl) ?_
  simp only [opsZ, List.getD_cons_zero, List.getD_cons_succ]
  refine ZE.slice0 rfl rfl rfl rfl sz0 (fun W => sl22 _ W) ?_
  refine ZE.slice0 rfl rfl rfl rfl sz0 (fun W => sl22 _ W) ?_
  refine ZE.callB (v := kv A) [.slice (some ⟨g2, 0, none⟩) 32 32, .int .i64 0] enter23 rfl rfl rfl (fun W h => .inr h) (fun W hW => (rkey_any _ A 0 W ((d2.on hW).has 32 hAl) (by omega) (by omega)).mono fun e w' h => ⟨by rw [h.1, key0 _ hAl], h.2⟩) ?_
  refine ZE.callB (v := kv B) [.slice (some ⟨g1, 0, none⟩) 32 32, .int .i64 0] enter23 rfl rfl rfl (fun W h => .inr h) (fun W hW => (rkey_any _ B 0 W ((d1'.on hW).has 32 hBl) (by omega) (by omega)).mono fun e w' h => ⟨by rw [h.1, key0 _ hBl], h.2⟩) ?_
  refine ZE.store (fun W => Blk W p2 (A.map byt) 23 ∧ Blk W p3 (z32.map byt) 23 ∧ Below w.heap.size w W) rfl rfl rfl (fun _ _ => .inl rfl) (fun W hW => ?_) ?_
  · obtain ⟨w', r, b, f⟩ := st23 ((((b2.on l3).on M3).on M6).on hW) z32l hAl
    exact ⟨w', r, b, (((b3.on M3).on M6).on hW).fx f (fun e => hne e.symm), bf (bt (bt (bt L3 M3) M6) hW) f (by have := l1.size; omega)⟩
  refine ZE.store (fun W => Blk W p2 (A.map byt) 23 ∧ Blk W p3 (B.map byt) 23 ∧ Below w.heap.size w W) rfl rfl rfl (fun _ _ => .inl rfl) (fun W hW => ?_) ?_
  · obtain ⟨c2, c3, c4⟩ := hW
    obtain ⟨w', r, b, f⟩ := st23 c3 z32l hBl
    exact ⟨w', r, c2.fx f hne, b, bf c4 f (by have := l1.size; have := l2.size; omega)⟩
  rintro W4 ⟨c2, c3, c4⟩
  refine EW.on ?_
  refine EW.ret ?_
  exact EW.retKK Tryd.results13 rfl rfl c2 c3 hAl hBl ⟨rfl, c4⟩
set_option maxRecDepth 100000 in
set_option maxHeartbeats 1000000 in
theorem rroot_any (K S X : List UInt8) (hK : K.length = 32) (hL : S.length = 32) (hX : exOut (macOf K S) rootB 64 = X) (hXl : X.length = 64) (w : World) (hS : St3 w) : Calls Tryd.prog 12 #[kv K, kv S] w fun e w' => e = .returned (.tuple #[kv (X.take 32), kv (X.drop 32)]) ∧ Below w.heap.size w w' := by
  obtain ⟨w1, q1, r1, b1, l1, hq1⟩ := box23 K w
  obtain ⟨w2, q2, r2, b2, l2, hq2⟩ := box23 S w1
  obtain ⟨w3, p3, r3, b3, l3, hp3⟩ := new23 w2
  obtain ⟨w4, p4, r4, b4, l4, hp4⟩ := new23 w3
  have hS4 := (((hS.on l1).on l2).on l3).on l4
  have c1 := ((b1.on l2).on l3).on l4
  have c2 := (b2.on l3).on l4
  have L4 := bt (bt (bt l1 l2) l3) l4
  have hne : p3 ≠ p4 := by have := b3.lt; omega
  have hXa : (X.take 32).length = 32 := by rw [List.length_take, hXl]; decide
  have hXb : (X.drop 32).length = 32 := by rw [List.length_drop, hXl]
  have eXa : (X.drop 0).take 32 = X.take 32 := by rw [List.drop_zero]
  have eXb : (X.drop 32).take 32 = X.drop 32 := List.take_of_length_le (by omega)
  refine calls_of_args [kv K, kv S] Tryd.func12 rfl 20 Tryd.ntmps12 (by show 2 ≤ 20; decide) ?_
  refine EW.seq ?_
  refine EW.region ?_
  refine WL.box rfl rfl rfl r1 ?_
  refine WL.box rfl rfl rfl r2 ?_
  refine WL.new rfl rfl r3 ?_
  refine WL.new rfl rfl r4 ?_
  refine WL.done ?_
  refine EW.on ?_
  refine EW.seq ?_
  refine EW.ordB [(0, 0, 0), (1, 0, 0), (2, 1, 1), (3, 1, 1), (4, 1, 1), (5, 0, 0), (6, 0, 0), (7, 0, 0), (8, 0, 0), (9, 0, 0)] (by kernel_rfl) rfl (by kernel_rfl) ?_
  simp only [opsZ, List.getD_cons_zero, List.getD_cons_succ]
  refine ZE.slice0 rfl rfl rfl rfl sz0 (fun W => sl23 _ W) ?_
  refine ZE.slice0 rfl rfl rfl rfl sz0 (fun W => sl23 _ W) ?_
  refine ZE.bsl rootV (fun v W' => ∃ W, Below w4.heap.size w4 W ∧ v = .slice (some ⟨W.heap.size, 0, none⟩) 10 10 ∧ W' = W.alloc (.cells (rootB.map byt).toArray 5)) rfl rfl rfl (fun v W' ⟨W, h, _, e⟩ => .inr (by rw [e]; exact bt h (below_new _ _))) (fun W hW => ⟨_, _, bsl10 W, W, hW, rfl, rfl⟩) ?_
  rintro vi ⟨_, Wi, _, rfl, _⟩
  refine ZE.turn (fun v W' => v = .slice (some ⟨Wi.heap.size, 0, none⟩) 10 10 ∧ Has W' (.slice (some ⟨Wi.heap.size, 0, none⟩) 10 10) rootB ∧ Below w4.heap.size w4 W') rfl (fun i hi => by cases hi; decide) (fun _ W h => .inr h.2.2) (fun W hW a ha => ?_) ?_
  · obtain ⟨W0, h0, e0, rfl⟩ := hW
    simp only [Value.slice.injEq, Option.some.injEq, Addr.mk.injEq, and_true] at e0
    rw [e0]
    refine .inl ⟨_, _, by
      have := conv34 W0
      simp only [execOp, ha.ev (show evE _ (.tmp 11) = _ from rfl), e0]
      rw [Sem.run_bind, this]
      rfl, rfl, has_newsM W0 rootB (10, 11) _ rfl, bt h0 (below_new _ _)⟩
  rintro vj ⟨_, rfl, _, _⟩
  refine ZE.sub (fun W' => Has W' (.slice (some ⟨Wi.heap.size, 0, none⟩) 10 10) rootB ∧ Below w4.heap.size w4 W') (fun W h => h.2) ?_
  refine ZE.callR [.slice (some ⟨q1, 0, none⟩) 32 32, .slice (some ⟨q2, 0, none⟩) 32 32, .slice (some ⟨Wi.heap.size, 0, none⟩) 10 10, .int .i64 64] (fun v W' => ∃ ao c, v = .tuple #[.slice ao 64 c, .int .i64 0] ∧ Has W' (.slice ao 64 c) X ∧ Below w4.heap.size w4 W') enter22 rfl rfl rfl (fun v W' ⟨g, _, _, _, h⟩ => .inr h) (fun W hW => ?_) ?_
  · refine (rderive_gen (.slice (some ⟨q1, 0, none⟩) 32 32) (.slice (some ⟨q2, 0, none⟩) 32 32) (.slice (some ⟨Wi.heap.size, 0, none⟩) 10 10) K S _ 64 rfl W ((c1.on hW.2).has 32 hK) ((c2.on hW.2).has 32 hL) (by rw [hK]; decide) (by rw [hL]; decide) (hS4.on hW.2).r (hS4.on hW.2).b (fun u v W' => ∃ ao c, u = .slice ao 64 c ∧ v = .int .i64 0 ∧ Has W' (.slice ao 64 c) X ∧ Below W.heap.size W W') (fun d x hd hx => ?_)).mono fun e w' h => ?_
    · refine (rexpand_ok (.slice (some ⟨d, 0, none⟩) 32 32) (.slice (some ⟨Wi.heap.size, 0, none⟩) 10 10) (macOf K S) rootB 64 x hd (hW.1.below hx) (by rw [macOf_length]; decide) (by decide) (by decide) ((hS4.on hW.2).on hx).r ((hS4.on hW.2).on hx).b).mono fun e w' h => ?_
      obtain ⟨ao, c, rfl, h1, h2⟩ := h
      rw [hX] at h1
      exact ⟨_, _, rfl, ao, c, rfl, rfl, h1, bt hx h2⟩
    · obtain ⟨u, v, rfl, ao, c, rfl, rfl, h1, h2⟩ := h
      exact ⟨_, rfl, ao, c, rfl, h1, bt hW.2 h2⟩
  rintro vd ⟨_, ao, cX, rfl, _, _⟩
  refine ZE.sub (fun W' => Has W' (.slice ao 64 cX) X ∧ Below w4.heap.size w4 W') (fun W h => ?_) ?_
  · obtain ⟨a', c', e, h1, h2⟩ := h
    simp at e
    obtain ⟨rfl, rfl⟩ := e
    exact ⟨h1, h2⟩
  refine ZE.move rfl rfl rfl rfl (fun W h => .inl rfl) ?_
  refine ZE.extract rfl rfl rfl rfl (fun W h => .inl rfl) (fun W => (ext_2 _ _ W).1) ?_
  refine ZE.extract rfl rfl rfl rfl (fun W h => .inl rfl) (fun W => (ext_2 _ _ W).2) ?_
  refine ZE.assign rfl rfl rfl rfl (fun W h => .inl rfl) ?_
  refine ZE.assign rfl rfl rfl rfl (fun W h => .inl rfl) ?_
  rintro W5 ⟨d5, d6⟩
  refine EW.on ?_
  refine EW.seq ?_
  refine EW.region ?_
  first | refine WL.move rfl rfl rfl ?_
  refine WL.call [.slice ao 64 cX, .int .i64 0] enter23 rfl rfl rfl (rkey_any _ X 0 W5 d5 (by omega) (by omega)) ?_
  rintro e w6 ⟨rfl, l6⟩
  refine ⟨_, rfl, ?_⟩
  first | refine WL.move rfl rfl rfl ?_
  refine WL.call [.slice ao 64 cX, .int .i64 32] enter23 rfl rfl rfl (rkey_any _ X 32 w6 (d5.below l6) (by omega) (by omega)) ?_
  rintro e w7 ⟨rfl, l7⟩
  refine ⟨_, rfl, ?_⟩
  have l67 := bt l6 l7
  obtain ⟨w8, s8, b8, f8⟩ := st23 (((b3.on l4).on d6).on l67) z32l hXa
  obtain ⟨w9, s9, b9, f9⟩ := st23 ((((b4.on d6).on l67)).fx f8 (fun e => hne e.symm)) z32l hXb
  rw [eXa, eXb]
  refine WL.store rfl rfl rfl s8 ?_
  refine WL.store rfl rfl rfl s9 ?_
  refine WL.done ?_
  refine EW.on ?_
  refine EW.ret ?_
  exact EW.retKK Tryd.results12 rfl rfl (b8.fx f9 hne) b9 hXa hXb ⟨rfl, bf (bf (bt (bt L4 d6) l67) f8 (by have := l1.size; have := l2.size; omega)) f9 (by have := l1.size; have := l2.size; have := l3.size; omega)⟩
end Go.Proofs.YtbghjabojgedaaaDoor
