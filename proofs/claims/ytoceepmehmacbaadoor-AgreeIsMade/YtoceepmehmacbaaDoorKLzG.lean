import Derived.Test.YtoceepmehmacbaaDoorGk
import Derived.Test.YtoceepmehmacbaaDoorGjG
set_option linter.unusedVariables false
set_option linter.unusedSimpArgs false
namespace Go.Proofs.YtoceepmehmacbaaDoor
open Go.RowKit

theorem agr_e {n : Nat} {x y z X : List UInt8} (h0 : n ≠ 0) : (agr n x y z X).e = 0 ∨ (agr n x y z X).e = 70 := by
  unfold agr
  rw [if_neg h0]
  split
  · exact .inr rfl
  · exact .inl rfl
theorem agOf_e {n : Nat} {a b c : Pr} (h0 : n ≠ 0) : (agOf n a b c).e = 0 ∨ (agOf n a b c).e = 70 := agr_e h0
/-- The two sides' shared secrets are the same. -/
theorem meet_one (a p : List UInt8) (ha : a.length = 32) (hp : p.length = 32) : Cv.timesL (Cv.clampL a) (Cv.publicL p) = Cv.timesL (Cv.clampL p) (Cv.publicL a) := by
  rw [Cv.times_clamp a _ ha, Cv.times_clamp p _ hp]
  unfold Cv.publicL
  exact Cv.times_meets a p _ ha hp
theorem prOf (x y : List UInt8) : ∃ X : Pr, x = X.a ∧ y = X.b := ⟨⟨x, y⟩, rfl, rfl⟩
theorem agOf_eq (n : Nat) {a b c a' b' c' : Pr} (h1 : Cv.timesL a.a a.b = Cv.timesL a'.a a'.b) (h2 : Cv.timesL b.a b.b = Cv.timesL b'.a b'.b) (h3 : Cv.timesL c.a c.b = Cv.timesL c'.a c'.b) : agOf n a b c = agOf n a' b' c' := by
  unfold agOf
  rw [h1, h2, h3]
set_option maxRecDepth 100000 in
set_option maxHeartbeats 4000000 in
theorem meets_any (a e b p : List UInt8) (la : a.length = 32) (le : e.length = 32) (lb : b.length = 32) (lp : p.length = 32) (n : Nat) (hn : n < 4294967296) (w : World) (hS : Kst w) :
    Calls Tryd.prog 5 #[kv a, kv e, kv b, kv p, u32v n] w fun x w' => x = .returned (.bool true) ∧ Below w.heap.size w w' := by
  obtain ⟨X, hXa, hXb⟩ := prOf (Cv.clampL a) (Cv.publicL a)
  obtain ⟨Y, hYa, hYb⟩ := prOf (Cv.clampL e) (Cv.publicL e)
  obtain ⟨Z, hZa, hZb⟩ := prOf (Cv.clampL b) (Cv.publicL b)
  obtain ⟨V, hVa, hVb⟩ := prOf (Cv.clampL p) (Cv.publicL p)
  have kX : X.ok := ⟨by rw [← hXa, Cv.clamp_length, la], by rw [← hXb]; exact Cv.public_length a⟩
  have kY : Y.ok := ⟨by rw [← hYa, Cv.clamp_length, le], by rw [← hYb]; exact Cv.public_length e⟩
  have kZ : Z.ok := ⟨by rw [← hZa, Cv.clamp_length, lb], by rw [← hZb]; exact Cv.public_length b⟩
  have kV : V.ok := ⟨by rw [← hVa, Cv.clamp_length, lp], by rw [← hVb]; exact Cv.public_length p⟩
  have hge : n ≠ 0 → (agOf n ⟨X.a, V.b⟩ ⟨Y.a, Z.b⟩ ⟨Y.a, V.b⟩).e = 0 ∨ (agOf n ⟨X.a, V.b⟩ ⟨Y.a, Z.b⟩ ⟨Y.a, V.b⟩).e = 70 := fun h => agOf_e h
  have hg0 : n = 0 → agOf n ⟨X.a, V.b⟩ ⟨Y.a, Z.b⟩ ⟨Y.a, V.b⟩ = ⟨z32, z16, 170⟩ := fun h => by rw [h]; rfl
  have hgl := agOf_len n ⟨X.a, V.b⟩ ⟨Y.a, Z.b⟩ ⟨Y.a, V.b⟩
  have hg2 : agOf n ⟨X.a, V.b⟩ ⟨Y.a, Z.b⟩ ⟨Y.a, V.b⟩ = agOf n ⟨V.a, X.b⟩ ⟨Z.a, Y.b⟩ ⟨V.a, Y.b⟩ := agOf_eq n (by
      show Cv.timesL X.a V.b = Cv.timesL V.a X.b
      rw [← hXa, ← hVb, ← hVa, ← hXb]; exact meet_one a p la lp) (by
      show Cv.timesL Y.a Z.b = Cv.timesL Z.a Y.b
      rw [← hYa, ← hZb, ← hZa, ← hYb]; exact meet_one e b le lb) (by
      show Cv.timesL Y.a V.b = Cv.timesL V.a Y.b
      rw [← hYa, ← hVb, ← hVa, ← hYb]; exact meet_one e p le lp)
  obtain ⟨g, hg1⟩ : ∃ g, agOf n ⟨X.a, V.b⟩ ⟨Y.a, Z.b⟩ ⟨Y.a, V.b⟩ = g := ⟨_, rfl⟩
  rw [hg1] at hge hg0 hgl hg2
  replace hg2 := hg2.symm
  have kO : (⟨Z.b, n, V.b⟩ : Of).ok := ⟨kZ.b, hn, kV.b⟩
  have kH : (⟨X.b, Y.b, n⟩ : Hl).ok := ⟨kX.b, kY.b, hn⟩
  obtain ⟨A, hA⟩ : ∃ A, stA g X Y ⟨Z.b, n, V.b⟩ = A := ⟨_, rfl⟩
  obtain ⟨B, hB⟩ : ∃ B, meA g Z ⟨X.b, Y.b, n⟩ = B := ⟨_, rfl⟩
  have kA : A.ok := by rw [← hA]; exact stA_ok hgl.1 hgl.2 kX kY kO
  have kB : B.ok := by rw [← hB]; exact meA_ok hgl.1 hgl.2 kZ kH
  have hA0 : n = 0 → A = An.no 170 := fun h => by rw [← hA]; unfold stA; rw [hg0 h]; rfl
  have hB0' : n = 0 → B = An.no 170 := fun h => by rw [← hB]; unfold meA; rw [hg0 h]; rfl
  have hAok : g.e = 0 → A = ⟨g.s, g.i, X.b ++ Z.b, ⟨X.b, Y.b, n⟩, 0⟩ := fun h => by rw [← hA]; unfold stA; rw [if_pos h]
  have hBok : g.e = 0 → B = ⟨g.s, g.i, X.b ++ Z.b, Hl.z, 0⟩ := fun h => by rw [← hB]; unfold meA; rw [if_pos h]
  have hAno : g.e = 70 → A = An.no 70 := fun h => by rw [← hA]; unfold stA; rw [h]; rfl
  have hBno : g.e = 70 → B = An.no 70 := fun h => by rw [← hB]; unfold meA; rw [h]; rfl
  obtain ⟨w1, q1, r1, b1, l1, hq1⟩ := box23 a w
  obtain ⟨w2, q2, r2, b2, l2, hq2⟩ := box23 e w1
  obtain ⟨w3, q3, r3, b3, l3, hq3⟩ := box23 b w2
  obtain ⟨w4, q4, r4, b4, l4, hq4⟩ := box23 p w3
  have c1 := ((b1.on l2).on l3).on l4
  have c2 := (b2.on l3).on l4
  have c3 := b3.on l4
  have c4 := b4
  have L4 := bt (bt (bt l1 l2) l3) l4
  refine calls_of_args [kv a, kv e, kv b, kv p, u32v n] Tryd.func5 rfl 115 Tryd.ntmps5 (by show 5 ≤ 115; decide) ?_
  refine EW.seq ?_
  refine EW.region ?_
  refine WL.box rfl rfl rfl r1 ?_
  refine WL.box rfl rfl rfl r2 ?_
  refine WL.box rfl rfl rfl r3 ?_
  refine WL.box rfl rfl rfl r4 ?_
  first | refine WL.assign rfl rfl rfl ?_
  refine WL.done ?_
  refine EW.on ?_
  refine EW.seq ?_
  refine EW.news (by kernel_rfl) 8 4 rfl (fun i => i + 3) (fun i => .tmp (2 * i + 3)) (by kernel_rfl) (by kernel_rfl) #[true, true, true, true, true, true, true, true, true, true, true, true, false, false, false, false] (by kernel_rfl) (by kernel_rfl) 25 Pr.z.cs zv25 (i25 Pr.z_ok) (fun i h1 h2 => ?_) (fun i h1 h2 => ?_) (fun i j hij => by omega) (fun i j h1 h2 h3 h4 e => by have e' : 2 * i + 3 = j + 3 := (by injection e); omega) (fun i h1 h2 => by omega) ?_
  · have hi : i = 8 ∨ i = 9 ∨ i = 10 ∨ i = 11 := by omega
    rcases hi with rfl | rfl | rfl | rfl <;> exact ⟨_, rfl, rfl, rfl, rfl⟩
  · have hi : i = 8 ∨ i = 9 ∨ i = 10 ∨ i = 11 := by omega
    rcases hi with rfl | rfl | rfl | rfl <;> exact ⟨_, rfl, rfl, rfl, rfl⟩
  simp only [List.take_succ_cons, List.take_zero]
  refine LE.load rfl rfl rfl (fun W hW => ld23 (c1.on hW) la) ?_
  refine LE.call [kv a] enter10 rfl rfl rfl (fun W hW => pair_any a la X hXa hXb W) ?_
  refine LE.load rfl rfl rfl (fun W hW => ld23 (c2.on hW) le) ?_
  refine LE.call [kv e] enter10 rfl rfl rfl (fun W hW => pair_any e le Y hYa hYb W) ?_
  refine LE.load rfl rfl rfl (fun W hW => ld23 (c3.on hW) lb) ?_
  refine LE.call [kv b] enter10 rfl rfl rfl (fun W hW => pair_any b lb Z hZa hZb W) ?_
  refine LE.load rfl rfl rfl (fun W hW => ld23 (c4.on hW) lp) ?_
  refine LE.call [kv p] enter10 rfl rfl rfl (fun W hW => pair_any p lp V hVa hVb W) ?_
  refine ⟨fun i => if i = 8 then X.cs else if i = 9 then Y.cs else if i = 10 then Z.cs else V.cs, fun i h1 h2 => ?_, fun G W1 lo ne hb4 blk => ?_⟩
  · have hi : i = 8 ∨ i = 9 ∨ i = 10 ∨ i = 11 := by omega
    rcases hi with rfl | rfl | rfl | rfl
    · exact ⟨rfl, by rw [Pr.len Pr.z_ok]; exact (Pr.len kX).symm, X.one⟩
    · exact ⟨rfl, by rw [Pr.len Pr.z_ok]; exact (Pr.len kY).symm, Y.one⟩
    · exact ⟨rfl, by rw [Pr.len Pr.z_ok]; exact (Pr.len kZ).symm, Z.one⟩
    · exact ⟨rfl, by rw [Pr.len Pr.z_ok]; exact (Pr.len kV).symm, V.one⟩
  have bX : Blk W1 (G 8) X.cs 25 := blk 8 (by decide) (by decide)
  have bY : Blk W1 (G 9) Y.cs 25 := blk 9 (by decide) (by decide)
  have bZ : Blk W1 (G 10) Z.cs 25 := blk 10 (by decide) (by decide)
  have bV : Blk W1 (G 11) V.cs 25 := blk 11 (by decide) (by decide)
  rw [show List.range' 8 4 = [8, 9, 10, 11] from rfl]
  simp only [putE, Nat.reduceAdd]
  clear blk lo ne
  generalize G 8 = pX at *
  generalize G 9 = pY at *
  generalize G 10 = pZ at *
  generalize G 11 = pV at *
  have LW := bt L4 hb4
  refine EW.on ?_
  refine EW.seq ?_
  refine EW.region ?_
  refine WL.load rfl rfl rfl (ldPr bX kX) ?_
  refine WL.load rfl rfl rfl (ldPr bY kY) ?_
  refine WL.field rfl rfl rfl (f25_1 pZ 0 _) ?_
  refine WL.load rfl rfl rfl ((ld66 bZ kZ).2) ?_
  first | refine WL.move rfl rfl rfl ?_
  refine WL.field rfl rfl rfl (f25_1 pV 0 _) ?_
  refine WL.load rfl rfl rfl ((ld66 bV kV).2) ?_
  refine WL.buildN [(0, kv Z.b), (1, u32v n), (2, kv V.b)] rfl rfl rfl (bdOf kZ.b kV.b _) ?_
  refine WL.call [X.v, Y.v, Of.v ⟨Z.b, n, V.b⟩] enter7 rfl rfl rfl (start_any X Y ⟨Z.b, n, V.b⟩ kX kY kO g hg1 A hA W1 (hS.on LW)) ?_
  rintro _ W2 ⟨rfl, m2⟩
  refine ⟨_, rfl, ?_⟩
  obtain ⟨pA, W3, W4, s3, s4, bA1, m4, hpA⟩ := put35 kA W2
  have m24 := bt m2 m4
  have bX1 := bX.on m24
  have bY1 := bY.on m24
  have bZ1 := bZ.on m24
  have bV1 := bV.on m24
  have LA := bt LW m24
  refine WL.new rfl rfl s3 ?_
  refine WL.store rfl rfl rfl s4 ?_
  refine WL.done ?_
  refine EW.on ?_
  refine EW.seq ?_
  refine EW.seq ?_
  refine EW.region ?_
  first | refine WL.move rfl rfl rfl ?_
  refine WL.bin rfl rfl rfl rfl (eqlU0 _ _ _ _) ?_
  refine WL.done ?_
  refine EW.on ?_
  refine EW.cond_d rfl (fun h36 => ?_) (fun h36 => ?_)
  · refine EW.seq ?_
    have hA170 := hA0 h36
    have hB0 := hB0' h36
    refine EW.region ?_
    refine WL.load rfl rfl rfl (ld35 bA1 kA) ?_
    refine WL.buildN [(4, .int .i64 170)] rfl rfl rfl (bdAn0 170 _) ?_
    refine WL.bin rfl rfl rfl rfl (eql35_t kA hA170 _ _ _) ?_
    first | refine WL.move rfl rfl rfl ?_
    refine WL.load rfl rfl rfl (ldPr bZ1 kZ) ?_
    refine WL.load rfl rfl rfl (ldPr bV1 kV) ?_
    refine WL.field rfl rfl rfl (f25_1 pX 0 _) ?_
    refine WL.load rfl rfl rfl ((ld66 bX1 kX).2) ?_
    refine WL.field rfl rfl rfl (f25_1 pY 0 _) ?_
    refine WL.load rfl rfl rfl ((ld66 bY1 kY).2) ?_
    refine WL.buildN [(0, kv X.b), (1, kv Y.b)] rfl rfl rfl (bdHl2 kX.b kY.b _) ?_
    refine WL.call [Z.v, V.v, Hl.v ⟨X.b, Y.b, 0⟩] enter11 rfl rfl rfl (meet_any Z V ⟨X.b, Y.b, 0⟩ kZ kV ⟨kX.b, kY.b, by show (0 : Nat) < 4294967296; decide⟩ g (by rw [← h36]; exact hg2) (An.no 170) (by rw [← h36]; rw [hB]; exact hB0) W4 (hS.on LA)) ?_
    rintro _ W5 ⟨rfl, m5⟩
    refine ⟨_, rfl, ?_⟩
    have LD := bt LA m5
    refine WL.buildN [(4, .int .i64 170)] rfl rfl rfl (bdAn0 170 _) ?_
    refine WL.bin rfl rfl rfl rfl (eql35_t (An.no_ok 170) rfl _ _ _) ?_
    first | refine WL.pick rfl rfl rfl rfl ?_
    first | refine WL.assign rfl rfl rfl ?_
    refine WL.done ?_
    refine EW.on ?_
    refine EW.ret ?_
    refine pr_then ?_
    exact EW.returns Tryd.results5 rfl ⟨rfl, LD⟩
  · refine EW.skip ?_
    refine EW.on ?_
    refine EW.seq ?_
    refine EW.region ?_
    refine WL.field rfl rfl rfl (f25_1 pX 0 _) ?_
    refine WL.load rfl rfl rfl ((ld66 bX1 kX).2) ?_
    refine WL.field rfl rfl rfl (f25_1 pY 0 _) ?_
    refine WL.load rfl rfl rfl ((ld66 bY1 kY).2) ?_
    first | refine WL.move rfl rfl rfl ?_
    refine WL.buildN [(0, kv X.b), (1, kv Y.b), (2, u32v n)] rfl rfl rfl (bdHl kX.b kY.b _) ?_
    obtain ⟨pH, W5, W6, s5, s6, bH2, m6, hpH⟩ := put33 kH W4
    have bX2 := bX1.on m6
    have bY2 := bY1.on m6
    have bZ2 := bZ1.on m6
    have bV2 := bV1.on m6
    have bA2 := bA1.on m6
    have LB := bt LA m6
    refine WL.new rfl rfl s5 ?_
    refine WL.store rfl rfl rfl s6 ?_
    refine WL.done ?_
    refine EW.on ?_
    refine EW.seq ?_
    refine EW.region ?_
    refine WL.load rfl rfl rfl (ldPr bZ2 kZ) ?_
    refine WL.load rfl rfl rfl (ldPr bV2 kV) ?_
    refine WL.load rfl rfl rfl (ld33 bH2 kH) ?_
    refine WL.call [Z.v, V.v, Hl.v ⟨X.b, Y.b, n⟩] enter11 rfl rfl rfl (meet_any Z V ⟨X.b, Y.b, n⟩ kZ kV kH g hg2 B hB W6 (hS.on LB)) ?_
    rintro _ W7 ⟨rfl, m7⟩
    refine ⟨_, rfl, ?_⟩
    obtain ⟨pB, W8, W9, s8, s9, bB3, m9, hpB⟩ := put35 kB W7
    have m79 := bt m7 m9
    have bX3 := bX2.on m79
    have bY3 := bY2.on m79
    have bZ3 := bZ2.on m79
    have bV3 := bV2.on m79
    have bA3 := bA2.on m79
    have bH3 := bH2.on m79
    have LC := bt LB m79
    refine WL.new rfl rfl s8 ?_
    refine WL.store rfl rfl rfl s9 ?_
    refine WL.done ?_
    refine EW.on ?_
    refine EW.seq ?_
    refine EW.seq ?_
    rcases hge h36 with hg70 | hg70
    · have eA := hAok hg70
      have eB := hBok hg70
      have hAe : A.e = 0 := by rw [eA]
      have hBe : B.e = 0 := by rw [eB]
      have hh1 : A.h = ⟨X.b, Y.b, n⟩ := by rw [eA]
      have hh2 : A.s = B.s := by rw [eA, eB]
      have hh3 : A.i = B.i := by rw [eA, eB]
      have hh4 : A.b = B.b := by rw [eA, eB]
      have hh5 : A.b = X.b ++ Z.b := by rw [eA]
      refine EW.region ?_
      refine WL.field rfl rfl rfl (f35_4 pA 0 _) ?_
      refine WL.load rfl rfl rfl ((anF bA3 kA).2.2.2.2) ?_
      refine WL.bin rfl rfl rfl rfl (int_ne_f hAe _ _ _) ?_
      first | refine WL.move rfl rfl rfl ?_
      refine WL.field rfl rfl rfl (f35_4 pB 0 _) ?_
      refine WL.load rfl rfl rfl ((anF bB3 kB).2.2.2.2) ?_
      refine WL.bin rfl rfl rfl rfl (int_ne_f hBe _ _ _) ?_
      first | refine WL.pick rfl rfl rfl rfl ?_
      refine WL.done ?_
      refine EW.on ?_
      refine EW.cond_f rfl ?_
      refine EW.skip ?_
      refine EW.on ?_
      refine EW.seq ?_
      refine EW.ordB [(0, 0, 0), (1, 0, 1), (2, 0, 1), (3, 0, 0), (4, 0, 0), (5, 0, 0), (6, 0, 1), (7, 0, 0), (8, 0, 1), (9, 0, 0), (10, 0, 0), (11, 0, 0), (12, 0, 0), (13, 0, 1), (14, 0, 0), (15, 0, 1), (16, 0, 0), (17, 0, 0), (18, 0, 0), (19, 0, 0), (20, 0, 1), (21, 0, 0), (22, 0, 1), (23, 0, 0), (24, 0, 0), (25, 0, 0), (26, 0, 0), (27, 0, 1), (28, 0, 0), (29, 0, 1), (30, 0, 0), (31, 0, 1), (32, 1, 1), (33, 0, 0), (34, 0, 0), (35, 0, 0)] (by kernel_rfl) rfl (by kernel_rfl) ?_
      simp only [opsZ, List.getD_cons_zero, List.getD_cons_succ]
      refine ZE.field rfl rfl rfl rfl sz0 (fun W => f35_3 pA 0 W) ?_
      refine ZE.load rfl rfl rfl rfl sz1 (fun W hW => (anF (bA3.on (sb_of hW)) kA).2.2.2.1) ?_
      refine ZE.load rfl rfl rfl rfl sz1 (fun W hW => ld33 (bH3.on (sb_of hW)) kH) ?_
      refine ZE.bin rfl rfl rfl rfl rfl sz0 (fun W => eql33_t kA.h hh1 W _ _) ?_
      first | refine ZE.move rfl rfl rfl rfl sz0 ?_
      refine ZE.field rfl rfl rfl rfl sz0 (fun W => f35_0 pA 0 W) ?_
      refine ZE.load rfl rfl rfl rfl sz1 (fun W hW => (anF (bA3.on (sb_of hW)) kA).1) ?_
      refine ZE.field rfl rfl rfl rfl sz0 (fun W => f35_0 pB 0 W) ?_
      refine ZE.load rfl rfl rfl rfl sz1 (fun W hW => (anF (bB3.on (sb_of hW)) kB).1) ?_
      refine ZE.bin rfl rfl rfl rfl rfl sz0 (fun W => eql23_t kA.s hh2 W _ _) ?_
      first | refine ZE.pick rfl rfl rfl rfl rfl sz0 ?_
      first | refine ZE.move rfl rfl rfl rfl sz0 ?_
      refine ZE.field rfl rfl rfl rfl sz0 (fun W => f35_1 pA 0 W) ?_
      refine ZE.load rfl rfl rfl rfl sz1 (fun W hW => (anF (bA3.on (sb_of hW)) kA).2.1) ?_
      refine ZE.field rfl rfl rfl rfl sz0 (fun W => f35_1 pB 0 W) ?_
      refine ZE.load rfl rfl rfl rfl sz1 (fun W hW => (anF (bB3.on (sb_of hW)) kB).2.1) ?_
      refine ZE.bin rfl rfl rfl rfl rfl sz0 (fun W => eql30_t kA.i hh3 W _ _) ?_
      first | refine ZE.pick rfl rfl rfl rfl rfl sz0 ?_
      first | refine ZE.move rfl rfl rfl rfl sz0 ?_
      refine ZE.field rfl rfl rfl rfl sz0 (fun W => f35_2 pA 0 W) ?_
      refine ZE.load rfl rfl rfl rfl sz1 (fun W hW => (anF (bA3.on (sb_of hW)) kA).2.2.1) ?_
      refine ZE.field rfl rfl rfl rfl sz0 (fun W => f35_2 pB 0 W) ?_
      refine ZE.load rfl rfl rfl rfl sz1 (fun W hW => (anF (bB3.on (sb_of hW)) kB).2.2.1) ?_
      refine ZE.bin rfl rfl rfl rfl rfl sz0 (fun W => eql31_t kA.b hh4 W _ _) ?_
      first | refine ZE.pick rfl rfl rfl rfl rfl sz0 ?_
      first | refine ZE.move rfl rfl rfl rfl sz0 ?_
      refine ZE.field rfl rfl rfl rfl sz0 (fun W => f35_2 pA 0 W) ?_
      refine ZE.load rfl rfl rfl rfl sz1 (fun W hW => (anF (bA3.on (sb_of hW)) kA).2.2.1) ?_
      refine ZE.field rfl rfl rfl rfl sz0 (fun W => f25_1 pX 0 W) ?_
      refine ZE.load rfl rfl rfl rfl sz1 (fun W hW => (ld66 (bX3.on (sb_of hW)) kX).2) ?_
      refine ZE.field rfl rfl rfl rfl sz0 (fun W => f25_1 pZ 0 W) ?_
      refine ZE.load rfl rfl rfl rfl sz1 (fun W hW => (ld66 (bZ3.on (sb_of hW)) kZ).2) ?_
      refine ZE.callB (v := kv (X.b ++ Z.b)) [kv X.b, kv Z.b] enter12 rfl rfl rfl (fun W h => .inr h) (fun W hW => bind_any X.b Z.b kX.b kZ.b W) ?_
      refine ZE.bin rfl rfl rfl rfl rfl sz0 (fun W => eql31_t kA.b hh5 W _ _) ?_
      first | refine ZE.pick rfl rfl rfl rfl rfl sz0 ?_
      first | refine ZE.assign rfl rfl rfl rfl sz0 ?_
      intro W10 e9
      refine EW.on ?_
      refine EW.ret ?_
      exact EW.returns Tryd.results5 rfl ⟨rfl, bt LC e9⟩
    · have eA := hAno hg70
      have eB := hBno hg70
      have hAe : A.e = 70 := by rw [eA]; rfl
      have hBe : B.e = 70 := by rw [eB]; rfl
      refine EW.region ?_
      refine WL.field rfl rfl rfl (f35_4 pA 0 _) ?_
      refine WL.load rfl rfl rfl ((anF bA3 kA).2.2.2.2) ?_
      refine WL.bin rfl rfl rfl rfl (int_ne_t (by rw [hAe]; decide) _ _ _) ?_
      first | refine WL.move rfl rfl rfl ?_
      refine WL.skip _ rfl rfl rfl ?_
      refine WL.skip _ rfl rfl rfl ?_
      refine WL.skip _ rfl rfl rfl ?_
      first | refine WL.pick rfl rfl rfl rfl ?_
      refine WL.done ?_
      refine EW.on ?_
      refine EW.cond_t rfl ?_
      refine EW.seq ?_
      refine EW.region ?_
      refine WL.field rfl rfl rfl (f35_4 pA 0 _) ?_
      refine WL.load rfl rfl rfl ((anF bA3 kA).2.2.2.2) ?_
      refine WL.field rfl rfl rfl (f35_4 pB 0 _) ?_
      refine WL.load rfl rfl rfl ((anF bB3 kB).2.2.2.2) ?_
      refine WL.bin rfl rfl rfl rfl (int_eq_t (by rw [hAe, hBe]) _ _ _) ?_
      first | refine WL.move rfl rfl rfl ?_
      refine WL.field rfl rfl rfl (f35_4 pA 0 _) ?_
      refine WL.load rfl rfl rfl ((anF bA3 kA).2.2.2.2) ?_
      refine WL.bin rfl rfl rfl rfl (int_eq_t hAe _ _ _) ?_
      first | refine WL.pick rfl rfl rfl rfl ?_
      first | refine WL.assign rfl rfl rfl ?_
      refine WL.done ?_
      refine EW.on ?_
      refine EW.ret ?_
      refine pr_then ?_
      exact EW.returns Tryd.results5 rfl ⟨rfl, LC⟩
end Go.Proofs.YtoceepmehmacbaaDoor

set_option linter.unusedVariables false
set_option linter.unusedSimpArgs false
namespace Go.Proofs.YtoceepmehmacbaaDoor.Cv
open Go.RowKit Prm Edw

theorem low_zero (k U : List UInt8) (h : un U = 0) : timesL k U = z32 := by
  rw [times_num, h, times_zero, fp_zero]
  decide +kernel
theorem low_one (k U : List UInt8) (lk : k.length = 32) (h : un U = re 1) : timesL k U = z32 := by
  obtain ⟨m, h1, h2, h3⟩ := clamp_num k lk
  have hk := clamp_lt k lk
  rw [h1] at hk
  have hz : tmK cP (8 * m) (re 1) = 0 := low_all m hk _ (by rw [re_1]; exact Fd.one_ne) (by rw [cal8_1, re_0])
  rw [times_num, h1, h, hz, fp_zero]
  decide +kernel
def edL : List UInt8 := 237 :: (List.replicate 30 255 ++ [127])
def eeL : List UInt8 := 238 :: (List.replicate 30 255 ++ [127])
def oneL : List UInt8 := 1 :: List.replicate 31 0
theorem un_of {U : List UInt8} {n m : Nat} (h : kn U = n) (hm : (n % 57896044618658097711785492504343953926634992332820282019728792003956564819968) % P = m % P) : un U = re m := by
  unfold un
  rw [h]
  exact re_eq.2 hm
theorem bad0 (k : List UInt8) : timesL k z32 = z32 := low_zero k _ (by rw [un_of (U := z32) (n := 0) (m := 0) (by decide +kernel) (by decide +kernel), re_0])
theorem bad1 (k : List UInt8) (lk : k.length = 32) : timesL k oneL = z32 := low_one k _ lk (un_of (n := 1) (by decide +kernel) (by decide +kernel))
theorem bad2 (k : List UInt8) : timesL k edL = z32 := low_zero k _ (by rw [un_of (U := edL) (n := P) (m := 0) (by decide +kernel) (by decide +kernel), re_0])
theorem bad3 (k : List UInt8) (lk : k.length = 32) : timesL k eeL = z32 := low_one k _ lk (un_of (n := P + 1) (by decide +kernel) (by decide +kernel))
end Go.Proofs.YtoceepmehmacbaaDoor.Cv
