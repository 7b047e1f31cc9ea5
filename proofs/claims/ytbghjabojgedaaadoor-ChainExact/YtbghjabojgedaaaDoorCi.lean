import Derived.Test.YtbghjabojgedaaaDoorCh
set_option linter.unusedVariables false
set_option linter.unusedSimpArgs false
namespace Go.Proofs.YtbghjabojgedaaaDoor
open Go.RowKit

set_option maxRecDepth 100000 in
set_option maxHeartbeats 1000000 in
theorem exact_ok (A B : List UInt8) (hA : A.length = 32) (hB : B.length = 32) (n : Nat) (hn : n ≤ 256) (w : World) (hS : St3 w) : Calls Tryd.prog 5 #[kv A, kv B, .int .i64 (n : Int)] w fun e w' => e = .returned (.bool true) ∧ Below w.heap.size w w' := by
  obtain ⟨X, hX⟩ : ∃ X, exOut (macOf A B) rootB 64 = X := ⟨_, rfl⟩
  have hXl : X.length = 64 := by rw [← hX]; exact exOut_length _ _ 64
  have hXa : (X.take 32).length = 32 := by rw [List.length_take, hXl]; decide
  have hXb : (X.drop 32).length = 32 := by rw [List.length_drop, hXl]
  have hk := ahK_len B hB n
  obtain ⟨w1, q1, r1, b1, l1, hq1⟩ := box23 A w
  obtain ⟨w2, q2, r2, b2, l2, hq2⟩ := box23 B w1
  have L2 := bt l1 l2
  refine calls_of_args [kv A, kv B, .int .i64 (n : Int)] Tryd.func5 rfl 90 Tryd.ntmps5 (by show 3 ≤ 90; decide) ?_
  refine EW.seq ?_
  refine EW.region ?_
  refine WL.box rfl rfl rfl r1 ?_
  refine WL.box rfl rfl rfl r2 ?_
  first | refine WL.assign rfl rfl rfl ?_
  refine WL.done ?_
  have c3 := b1.on l2
  have c4 := b2
  have hs := (hS.on l1).on l2
  refine EW.on ?_
  refine EW.seq ?_
  refine EW.region ?_
  refine WL.load rfl rfl rfl (ld23 c3 hA) ?_
  refine WL.load rfl rfl rfl (ld23 c4 hB) ?_
  refine WL.call [kv A, kv B] enter10 rfl rfl rfl (root_any A B X hA hB hX hXl _ hs.k) ?_
  rintro e u1 ⟨rfl, k1⟩
  refine ⟨_, rfl, ?_⟩
  obtain ⟨g1, h1, x1, x2, x3, y1, s1, s2, s3, s4, d1, f1, l1, _, _⟩ := new2 u1 _ _ hXa hXb
  have m1 := bt k1 l1
  first | refine WL.move rfl rfl rfl ?_
  first | refine WL.extract rfl rfl rfl (ext_2 _ _ _).1 ?_
  first | refine WL.extract rfl rfl rfl (ext_2 _ _ _).2 ?_
  refine WL.new rfl rfl s1 ?_
  refine WL.new rfl rfl s2 ?_
  refine WL.store rfl rfl rfl s3 ?_
  refine WL.store rfl rfl rfl s4 ?_
  refine WL.done ?_
  replace c3 := c3.on m1
  replace c4 := c4.on m1
  replace hs := hs.on m1
  refine EW.on ?_
  refine EW.seq ?_
  refine EW.region ?_
  refine WL.load rfl rfl rfl (ld23 c3 hA) ?_
  refine WL.load rfl rfl rfl (ld23 c4 hB) ?_
  refine WL.call [kv A, kv B] enter12 rfl rfl rfl (rroot_any A B X hA hB hX hXl _ hs) ?_
  rintro e u2 ⟨rfl, k2⟩
  refine ⟨_, rfl, ?_⟩
  obtain ⟨g2, h2, x1, x2, x3, y2, s1, s2, s3, s4, d2, f2, l2, _, _⟩ := new2 u2 _ _ hXa hXb
  have m2 := bt k2 l2
  first | refine WL.move rfl rfl rfl ?_
  first | refine WL.extract rfl rfl rfl (ext_2 _ _ _).1 ?_
  first | refine WL.extract rfl rfl rfl (ext_2 _ _ _).2 ?_
  refine WL.new rfl rfl s1 ?_
  refine WL.new rfl rfl s2 ?_
  refine WL.store rfl rfl rfl s3 ?_
  refine WL.store rfl rfl rfl s4 ?_
  refine WL.done ?_
  replace c3 := c3.on m2
  replace c4 := c4.on m2
  replace hs := hs.on m2
  refine EW.on ?_
  refine EW.seq ?_
  refine EW.region ?_
  refine WL.load rfl rfl rfl (ld23 c3 hA) ?_
  refine WL.call [kv A] enter8 rfl rfl rfl (step_any A _ _ hA rfl rfl _ hs.k) ?_
  rintro e u3 ⟨rfl, k3⟩
  refine ⟨_, rfl, ?_⟩
  obtain ⟨g3, h3, x1, x2, x3, y3, s1, s2, s3, s4, d3, f3, l3, _, _⟩ := new2 u3 _ _ (macOf_length A [2]) (macOf_length A [1])
  have m3 := bt k3 l3
  first | refine WL.move rfl rfl rfl ?_
  first | refine WL.extract rfl rfl rfl (ext_2 _ _ _).1 ?_
  first | refine WL.extract rfl rfl rfl (ext_2 _ _ _).2 ?_
  refine WL.new rfl rfl s1 ?_
  refine WL.new rfl rfl s2 ?_
  refine WL.store rfl rfl rfl s3 ?_
  refine WL.store rfl rfl rfl s4 ?_
  refine WL.done ?_
  replace c3 := c3.on m3
  replace c4 := c4.on m3
  replace hs := hs.on m3
  refine EW.on ?_
  refine EW.seq ?_
  refine EW.region ?_
  refine WL.load rfl rfl rfl (ld23 c3 hA) ?_
  refine WL.call [kv A] enter13 rfl rfl rfl (rstep_any A _ _ hA rfl rfl _ hs) ?_
  rintro e u4 ⟨rfl, k4⟩
  refine ⟨_, rfl, ?_⟩
  obtain ⟨g4, h4, x1, x2, x3, y4, s1, s2, s3, s4, d4, f4, l4, _, _⟩ := new2 u4 _ _ (macOf_length A [2]) (macOf_length A [1])
  have m4 := bt k4 l4
  first | refine WL.move rfl rfl rfl ?_
  first | refine WL.extract rfl rfl rfl (ext_2 _ _ _).1 ?_
  first | refine WL.extract rfl rfl rfl (ext_2 _ _ _).2 ?_
  refine WL.new rfl rfl s1 ?_
  refine WL.new rfl rfl s2 ?_
  refine WL.store rfl rfl rfl s3 ?_
  refine WL.store rfl rfl rfl s4 ?_
  refine WL.done ?_
  replace c3 := c3.on m4
  replace c4 := c4.on m4
  replace hs := hs.on m4
  refine EW.on ?_
  refine EW.seq ?_
  refine EW.region ?_
  refine WL.load rfl rfl rfl (ld23 c4 hB) ?_
  first | refine WL.move rfl rfl rfl ?_
  refine WL.call [kv B, .int .i64 (n : Int)] enter6 rfl rfl rfl (ahead_ok B hB n hn _ hs.k) ?_
  rintro e u5 ⟨g, rfl, kb, k5, _⟩
  refine ⟨_, rfl, ?_⟩
  obtain ⟨g5, x1, y5, s1, s2, d5, l5, _⟩ := new1 u5 _ (ahK_len B hB n)
  have m5 := bt k5 l5
  first | refine WL.move rfl rfl rfl ?_
  refine WL.extract rfl rfl rfl (ext_3 _ _ _ _).1 ?_
  refine WL.extract rfl rfl rfl (ext_3 _ _ _ _).2.1 ?_
  refine WL.extract rfl rfl rfl (ext_3 _ _ _ _).2.2 ?_
  refine WL.new rfl rfl s1 ?_
  refine WL.store rfl rfl rfl s2 ?_
  first | refine WL.assign rfl rfl rfl ?_
  first | refine WL.assign rfl rfl rfl ?_
  refine WL.done ?_
  replace c3 := c3.on m5
  replace c4 := c4.on m5
  replace hs := hs.on m5
  refine EW.on ?_
  refine EW.seq ?_
  refine EW.region ?_
  refine WL.load rfl rfl rfl (ld23 c4 hB) ?_
  first | refine WL.move rfl rfl rfl ?_
  refine WL.call [kv B, .int .i64 (n : Int)] enter14 rfl rfl rfl (rahead_ok B hB n hn _ hs) ?_
  rintro e u6 ⟨vr, rfl, kr, k6⟩
  refine ⟨_, rfl, ?_⟩
  obtain ⟨g6, x1, y6, s1, s2, d6, l6, _⟩ := new1 u6 _ (ahK_len B hB n)
  have m6 := bt k6 l6
  first | refine WL.move rfl rfl rfl ?_
  refine WL.extract rfl rfl rfl (ext_3 _ _ _ _).1 ?_
  refine WL.extract rfl rfl rfl (ext_3 _ _ _ _).2.1 ?_
  refine WL.extract rfl rfl rfl (ext_3 _ _ _ _).2.2 ?_
  refine WL.new rfl rfl s1 ?_
  refine WL.store rfl rfl rfl s2 ?_
  first | refine WL.assign rfl rfl rfl ?_
  first | refine WL.assign rfl rfl rfl ?_
  refine WL.done ?_
  replace c3 := c3.on m6
  replace c4 := c4.on m6
  replace hs := hs.on m6
  refine EW.on ?_
  refine EW.seq ?_
  have d1' := (((((d1.on m2).on m3).on m4).on m5).on m6)
  have f1' := (((((f1.on m2).on m3).on m4).on m5).on m6)
  have d2' := ((((d2.on m3).on m4).on m5).on m6)
  have f2' := ((((f2.on m3).on m4).on m5).on m6)
  have d3' := (((d3.on m4).on m5).on m6)
  have f3' := (((f3.on m4).on m5).on m6)
  have d4' := ((d4.on m5).on m6)
  have f4' := ((f4.on m5).on m6)
  have d5' := d5.on m6
  have d6' := d6
  refine EW.region ?_
  refine WL.load rfl rfl rfl (ld23 d1' hXa) ?_
  refine WL.load rfl rfl rfl (ld23 d2' hXa) ?_
  refine WL.bin rfl rfl rfl rfl (keq _ hXa _ _ _) ?_
  first | refine WL.move rfl rfl rfl ?_
  refine WL.load rfl rfl rfl (ld23 f1' hXb) ?_
  refine WL.load rfl rfl rfl (ld23 f2' hXb) ?_
  refine WL.bin rfl rfl rfl rfl (keq _ hXb _ _ _) ?_
  first | refine WL.pick rfl rfl rfl rfl ?_
  first | refine WL.move rfl rfl rfl ?_
  refine WL.load rfl rfl rfl (ld23 d3' (macOf_length A [2])) ?_
  refine WL.load rfl rfl rfl (ld23 d4' (macOf_length A [2])) ?_
  refine WL.bin rfl rfl rfl rfl (keq _ (macOf_length A [2]) _ _ _) ?_
  first | refine WL.pick rfl rfl rfl rfl ?_
  first | refine WL.move rfl rfl rfl ?_
  refine WL.load rfl rfl rfl (ld23 f3' (macOf_length A [1])) ?_
  refine WL.load rfl rfl rfl (ld23 f4' (macOf_length A [1])) ?_
  refine WL.bin rfl rfl rfl rfl (keq _ (macOf_length A [1]) _ _ _) ?_
  first | refine WL.pick rfl rfl rfl rfl ?_
  first | refine WL.move rfl rfl rfl ?_
  refine WL.load rfl rfl rfl (ld23 d5' hk) ?_
  refine WL.load rfl rfl rfl (ld23 d6' hk) ?_
  refine WL.bin rfl rfl rfl rfl (keq _ hk _ _ _) ?_
  first | refine WL.pick rfl rfl rfl rfl ?_
  first | refine WL.move rfl rfl rfl ?_
  first | refine WL.move rfl rfl rfl ?_ | refine WL.skip _ rfl rfl rfl ?_
  first | refine WL.move rfl rfl rfl ?_ | refine WL.skip _ rfl rfl rfl ?_
  refine WL.bin rfl rfl rfl rfl (int_eq_t rfl _ _ _) ?_
  first | refine WL.pick rfl rfl rfl rfl ?_
  first | refine WL.move rfl rfl rfl ?_
  first | refine WL.move rfl rfl rfl ?_ | refine WL.skip _ rfl rfl rfl ?_
  first | refine WL.move rfl rfl rfl ?_ | refine WL.skip _ rfl rfl rfl ?_
  refine WL.call [.slice (some ⟨g, 0, none⟩) n n, vr] enter7 rfl rfl rfl (same_any _ _ (ahL B n) n (by omega) _ (Kr.of ((kb.on l5).on m6) (ahL_len B n) (by omega)) (kr.on l6)) ?_
  rintro e y7 ⟨rfl, m7⟩
  refine ⟨_, rfl, ?_⟩
  first | refine WL.pick rfl rfl rfl rfl ?_
  first | refine WL.assign rfl rfl rfl ?_
  refine WL.done ?_
  refine EW.on ?_
  refine EW.ret ?_
  exact EW.returns Tryd.results5 rfl ⟨rfl, bt (bt (bt (bt (bt (bt (bt L2 m1) m2) m3) m4) m5) m6) m7⟩
set_option maxRecDepth 100000 in
set_option maxHeartbeats 1000000 in
theorem exact_no (A B : List UInt8) (hA : A.length = 32) (hB : B.length = 32) (n : Int) (hn : n < 0 ∨ 256 < n) (w : World) (hS : St3 w) : Calls Tryd.prog 5 #[kv A, kv B, .int .i64 n] w fun e w' => e = .returned (.bool true) ∧ Below w.heap.size w w' := by
  obtain ⟨X, hX⟩ : ∃ X, exOut (macOf A B) rootB 64 = X := ⟨_, rfl⟩
  have hXl : X.length = 64 := by rw [← hX]; exact exOut_length _ _ 64
  have hXa : (X.take 32).length = 32 := by rw [List.length_take, hXl]; decide
  have hXb : (X.drop 32).length = 32 := by rw [List.length_drop, hXl]
  have hk := z32l
  obtain ⟨w1, q1, r1, b1, l1, hq1⟩ := box23 A w
  obtain ⟨w2, q2, r2, b2, l2, hq2⟩ := box23 B w1
  have L2 := bt l1 l2
  refine calls_of_args [kv A, kv B, .int .i64 n] Tryd.func5 rfl 90 Tryd.ntmps5 (by show 3 ≤ 90; decide) ?_
  refine EW.seq ?_
  refine EW.region ?_
  refine WL.box rfl rfl rfl r1 ?_
  refine WL.box rfl rfl rfl r2 ?_
  first | refine WL.assign rfl rfl rfl ?_
  refine WL.done ?_
  have c3 := b1.on l2
  have c4 := b2
  have hs := (hS.on l1).on l2
  refine EW.on ?_
  refine EW.seq ?_
  refine EW.region ?_
  refine WL.load rfl rfl rfl (ld23 c3 hA) ?_
  refine WL.load rfl rfl rfl (ld23 c4 hB) ?_
  refine WL.call [kv A, kv B] enter10 rfl rfl rfl (root_any A B X hA hB hX hXl _ hs.k) ?_
  rintro e u1 ⟨rfl, k1⟩
  refine ⟨_, rfl, ?_⟩
  obtain ⟨g1, h1, x1, x2, x3, y1, s1, s2, s3, s4, d1, f1, l1, _, _⟩ := new2 u1 _ _ hXa hXb
  have m1 := bt k1 l1
  first | refine WL.move rfl rfl rfl ?_
  first | refine WL.extract rfl rfl rfl (ext_2 _ _ _).1 ?_
  first | refine WL.extract rfl rfl rfl (ext_2 _ _ _).2 ?_
  refine WL.new rfl rfl s1 ?_
  refine WL.new rfl rfl s2 ?_
  refine WL.store rfl rfl rfl s3 ?_
  refine WL.store rfl rfl rfl s4 ?_
  refine WL.done ?_
  replace c3 := c3.on m1
  replace c4 := c4.on m1
  replace hs := hs.on m1
  refine EW.on ?_
  refine EW.seq ?_
  refine EW.region ?_
  refine WL.load rfl rfl rfl (ld23 c3 hA) ?_
  refine WL.load rfl rfl rfl (ld23 c4 hB) ?_
  refine WL.call [kv A, kv B] enter12 rfl rfl rfl (rroot_any A B X hA hB hX hXl _ hs) ?_
  rintro e u2 ⟨rfl, k2⟩
  refine ⟨_, rfl, ?_⟩
  obtain ⟨g2, h2, x1, x2, x3, y2, s1, s2, s3, s4, d2, f2, l2, _, _⟩ := new2 u2 _ _ hXa hXb
  have m2 := bt k2 l2
  first | refine WL.move rfl rfl rfl ?_
  first | refine WL.extract rfl rfl rfl (ext_2 _ _ _).1 ?_
  first | refine WL.extract rfl rfl rfl (ext_2 _ _ _).2 ?_
  refine WL.new rfl rfl s1 ?_
  refine WL.new rfl rfl s2 ?_
  refine WL.store rfl rfl rfl s3 ?_
  refine WL.store rfl rfl rfl s4 ?_
  refine WL.done ?_
  replace c3 := c3.on m2
  replace c4 := c4.on m2
  replace hs := hs.on m2
  refine EW.on ?_
  refine EW.seq ?_
  refine EW.region ?_
  refine WL.load rfl rfl rfl (ld23 c3 hA) ?_
  refine WL.call [kv A] enter8 rfl rfl rfl (step_any A _ _ hA rfl rfl _ hs.k) ?_
  rintro e u3 ⟨rfl, k3⟩
  refine ⟨_, rfl, ?_⟩
  obtain ⟨g3, h3, x1, x2, x3, y3, s1, s2, s3, s4, d3, f3, l3, _, _⟩ := new2 u3 _ _ (macOf_length A [2]) (macOf_length A [1])
  have m3 := bt k3 l3
  first | refine WL.move rfl rfl rfl ?_
  first | refine WL.extract rfl rfl rfl (ext_2 _ _ _).1 ?_
  first | refine WL.extract rfl rfl rfl (ext_2 _ _ _).2 ?_
  refine WL.new rfl rfl s1 ?_
  refine WL.new rfl rfl s2 ?_
  refine WL.store rfl rfl rfl s3 ?_
  refine WL.store rfl rfl rfl s4 ?_
  refine WL.done ?_
  replace c3 := c3.on m3
  replace c4 := c4.on m3
  replace hs := hs.on m3
  refine EW.on ?_
  refine EW.seq ?_
  refine EW.region ?_
  refine WL.load rfl rfl rfl (ld23 c3 hA) ?_
  refine WL.call [kv A] enter13 rfl rfl rfl (rstep_any A _ _ hA rfl rfl _ hs) ?_
  rintro e u4 ⟨rfl, k4⟩
  refine ⟨_, rfl, ?_⟩
  obtain ⟨g4, h4, x1, x2, x3, y4, s1, s2, s3, s4, d4, f4, l4, _, _⟩ := new2 u4 _ _ (macOf_length A [2]) (macOf_length A [1])
  have m4 := bt k4 l4
  first | refine WL.move rfl rfl rfl ?_
  first | refine WL.extract rfl rfl rfl (ext_2 _ _ _).1 ?_
  first | refine WL.extract rfl rfl rfl (ext_2 _ _ _).2 ?_
  refine WL.new rfl rfl s1 ?_
  refine WL.new rfl rfl s2 ?_
  refine WL.store rfl rfl rfl s3 ?_
  refine WL.store rfl rfl rfl s4 ?_
  refine WL.done ?_
  replace c3 := c3.on m4
  replace c4 := c4.on m4
  replace hs := hs.on m4
  refine EW.on ?_
  refine EW.seq ?_
  refine EW.region ?_
  refine WL.load rfl rfl rfl (ld23 c4 hB) ?_
  first | refine WL.move rfl rfl rfl ?_
  refine WL.call [kv B, .int .i64 n] enter6 rfl rfl rfl (ahead_no B n hn _) ?_
  rintro e u5 ⟨rfl, k5⟩
  refine ⟨_, rfl, ?_⟩
  obtain ⟨g5, x1, y5, s1, s2, d5, l5, _⟩ := new1 u5 _ z32l
  have m5 := bt k5 l5
  first | refine WL.move rfl rfl rfl ?_
  refine WL.extract rfl rfl rfl (ext_3 _ _ _ _).1 ?_
  refine WL.extract rfl rfl rfl (ext_3 _ _ _ _).2.1 ?_
  refine WL.extract rfl rfl rfl (ext_3 _ _ _ _).2.2 ?_
  refine WL.new rfl rfl s1 ?_
  refine WL.store rfl rfl rfl s2 ?_
  first | refine WL.assign rfl rfl rfl ?_
  first | refine WL.assign rfl rfl rfl ?_
  refine WL.done ?_
  replace c3 := c3.on m5
  replace c4 := c4.on m5
  replace hs := hs.on m5
  refine EW.on ?_
  refine EW.seq ?_
  refine EW.region ?_
  refine WL.load rfl rfl rfl (ld23 c4 hB) ?_
  first | refine WL.move rfl rfl rfl ?_
  refine WL.call [kv B, .int .i64 n] enter14 rfl rfl rfl (rahead_no B n hn _) ?_
  rintro e u6 ⟨rfl, k6⟩
  refine ⟨_, rfl, ?_⟩
  obtain ⟨g6, x1, y6, s1, s2, d6, l6, _⟩ := new1 u6 _ z32l
  have m6 := bt k6 l6
  first | refine WL.move rfl rfl rfl ?_
  refine WL.extract rfl rfl rfl (ext_3 _ _ _ _).1 ?_
  refine WL.extract rfl rfl rfl (ext_3 _ _ _ _).2.1 ?_
  refine WL.extract rfl rfl rfl (ext_3 _ _ _ _).2.2 ?_
  refine WL.new rfl rfl s1 ?_
  refine WL.store rfl rfl rfl s2 ?_
  first | refine WL.assign rfl rfl rfl ?_
  first | refine WL.assign rfl rfl rfl ?_
  refine WL.done ?_
  replace c3 := c3.on m6
  replace c4 := c4.on m6
  replace hs := hs.on m6
  refine EW.on ?_
  refine EW.seq ?_
  have d1' := (((((d1.on m2).on m3).on m4).on m5).on m6)
  have f1' := (((((f1.on m2).on m3).on m4).on m5).on m6)
  have d2' := ((((d2.on m3).on m4).on m5).on m6)
  have f2' := ((((f2.on m3).on m4).on m5).on m6)
  have d3' := (((d3.on m4).on m5).on m6)
  have f3' := (((f3.on m4).on m5).on m6)
  have d4' := ((d4.on m5).on m6)
  have f4' := ((f4.on m5).on m6)
  have d5' := d5.on m6
  have d6' := d6
  refine EW.region ?_
  refine WL.load rfl rfl rfl (ld23 d1' hXa) ?_
  refine WL.load rfl rfl rfl (ld23 d2' hXa) ?_
  refine WL.bin rfl rfl rfl rfl (keq _ hXa _ _ _) ?_
  first | refine WL.move rfl rfl rfl ?_
  refine WL.load rfl rfl rfl (ld23 f1' hXb) ?_
  refine WL.load rfl rfl rfl (ld23 f2' hXb) ?_
  refine WL.bin rfl rfl rfl rfl (keq _ hXb _ _ _) ?_
  first | refine WL.pick rfl rfl rfl rfl ?_
  first | refine WL.move rfl rfl rfl ?_
  refine WL.load rfl rfl rfl (ld23 d3' (macOf_length A [2])) ?_
  refine WL.load rfl rfl rfl (ld23 d4' (macOf_length A [2])) ?_
  refine WL.bin rfl rfl rfl rfl (keq _ (macOf_length A [2]) _ _ _) ?_
  first | refine WL.pick rfl rfl rfl rfl ?_
  first | refine WL.move rfl rfl rfl ?_
  refine WL.load rfl rfl rfl (ld23 f3' (macOf_length A [1])) ?_
  refine WL.load rfl rfl rfl (ld23 f4' (macOf_length A [1])) ?_
  refine WL.bin rfl rfl rfl rfl (keq _ (macOf_length A [1]) _ _ _) ?_
  first | refine WL.pick rfl rfl rfl rfl ?_
  first | refine WL.move rfl rfl rfl ?_
  refine WL.load rfl rfl rfl (ld23 d5' hk) ?_
  refine WL.load rfl rfl rfl (ld23 d6' hk) ?_
  refine WL.bin rfl rfl rfl rfl (keq _ hk _ _ _) ?_
  first | refine WL.pick rfl rfl rfl rfl ?_
  first | refine WL.move rfl rfl rfl ?_
  first | refine WL.move rfl rfl rfl ?_ | refine WL.skip _ rfl rfl rfl ?_
  first | refine WL.move rfl rfl rfl ?_ | refine WL.skip _ rfl rfl rfl ?_
  refine WL.bin rfl rfl rfl rfl (int_eq_t rfl _ _ _) ?_
  first | refine WL.pick rfl rfl rfl rfl ?_
  first | refine WL.move rfl rfl rfl ?_
  first | refine WL.move rfl rfl rfl ?_ | refine WL.skip _ rfl rfl rfl ?_
  first | refine WL.move rfl rfl rfl ?_ | refine WL.skip _ rfl rfl rfl ?_
  refine WL.call [.slice none 0 0, .slice none 0 0] enter7 rfl rfl rfl (same_any _ _ [] 0 (by omega) _ (Kr.nil _) (Kr.nil _)) ?_
  rintro e y7 ⟨rfl, m7⟩
  refine ⟨_, rfl, ?_⟩
  first | refine WL.pick rfl rfl rfl rfl ?_
  first | refine WL.assign rfl rfl rfl ?_
  refine WL.done ?_
  refine EW.on ?_
  refine EW.ret ?_
  exact EW.returns Tryd.results5 rfl ⟨rfl, bt (bt (bt (bt (bt (bt (bt L2 m1) m2) m3) m4) m5) m6) m7⟩
theorem exact_any (A B : List UInt8) (hA : A.length = 32) (hB : B.length = 32) (n : Int) (w : World) (hS : St3 w) : Calls Tryd.prog 5 #[kv A, kv B, .int .i64 n] w fun e w' => e = .returned (.bool true) ∧ Below w.heap.size w w' := by
  rcases Classical.em (n < 0 ∨ 256 < n) with h | h
  · exact exact_no A B hA hB n h w hS
  · obtain ⟨m, rfl⟩ : ∃ m : Nat, n = (m : Int) := ⟨n.toNat, by omega⟩
    exact exact_ok A B hA hB m (by omega) w hS
end Go.Proofs.YtbghjabojgedaaaDoor
