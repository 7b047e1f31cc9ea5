import Derived.Test.YteghbkeaojbdgaaPo
set_option linter.unusedVariables false
set_option linter.unusedSimpArgs false
namespace Go.Proofs.Yteghbkeaojbdgaa
open Go.RowKit

def pfE (v9 : Value) (q4 p t : Nat) : List (Nat × Value) := [(4, .pointer (some ⟨q4, 0, none⟩)), (9, v9), (11, .int .i64 (p : Int)), (13, .int .i64 (t : Int))]
def PfR (w7 : World) (n t : Nat) (W : World) : Prop := Below w7.heap.size w7 W ∧ t ≤ n
set_option maxRecDepth 100000 in
set_option maxHeartbeats 8000000 in
theorem finds_any (v : Value) (ls : List RV) (r s : RV) (w : World) (hL : Ls w v ls) (hr : r.ok w) (hs : s.ok w) : Calls Try.prog 4 #[v, r.val, s.val] w fun e w' => e = .returned (.bool true) ∧ Below w.heap.size w w' := by
  obtain ⟨w1, q4, r4, b4, e1, hq4⟩ := box32 r w
  obtain ⟨w2, q5, r5, b5, f2, hq5⟩ := box32 s w1
  have lb4 := b4.lt
  have e2 := e1.trans (f2.mono e1.size)
  replace b4 := b4.on f2
  have lb5 := b5.lt
  refine calls_of_args [v, r.val, s.val] Try.func4 rfl 188 Try.ntmps4 (by show 3 ≤ 188; decide) ?_
  refine EW.seq ?_
  refine EW.region ?_
  refine WL.box rfl rfl rfl r4 ?_
  refine WL.box rfl rfl rfl r5 ?_
  first | refine WL.assign rfl rfl rfl ?_
  refine WL.done ?_
  refine EW.on ?_
  refine EW.seq ?_
  refine EW.region ?_
  first | refine WL.move rfl rfl rfl ?_
  refine WL.call [v] enter11 rfl rfl rfl (sorted_any v ls _ (hL.below e2)) ?_
  rintro _ w3 ⟨vw, rs, rfl, hw3, hrs, hfr, be3⟩
  refine ⟨_, rfl, ?_⟩
  first | refine WL.assign rfl rfl rfl ?_
  refine WL.done ?_
  replace b4 := b4.on be3
  replace b5 := b5.on be3
  have e3 := e2.trans (be3.mono e2.size)
  have hsr : Srt (rs.map RV.d) := by rw [hrs]; exact sortD_srt _
  have hrl : rs.length ≤ 60 := by
    have e1 := congrArg List.length hrs
    have e2 := sortD_len ((ls.map RV.d).take (min 60 ls.length))
    rw [List.length_map] at e1
    rw [List.length_take] at e2
    omega
  have lw3 := e3.size
  refine EW.on ?_
  refine EW.seq ?_
  refine EW.ordB [(0, 0, 1), (2, 0, 1), (1, 1, 1), (3, 1, 1), (4, 1, 0), (5, 1, 0)] (by kernel_rfl) rfl (by kernel_rfl) ?_
  simp only [opsZ, List.getD_cons_zero, List.getD_cons_succ]
  first | refine ZE.load rfl rfl rfl rfl sz1 (fun W hW => ld32 (b4.on (sb_of hW))) ?_ | refine ZE.load rfl rfl rfl rfl sz1 (fun W hW => ld32 (b5.on (sb_of hW))) ?_
  first | refine ZE.load rfl rfl rfl rfl sz1 (fun W hW => ld32 (b4.on (sb_of hW))) ?_ | refine ZE.load rfl rfl rfl rfl sz1 (fun W hW => ld32 (b5.on (sb_of hW))) ?_
  refine ZE.callR [r.val] (fun v W => ∃ vk vv, v = (mkR (rightD r.d) vk vv).val ∧ (mkR (rightD r.d) vk vv).ok W ∧ Below w3.heap.size w3 W) enter12 rfl rfl rfl (fun _ _ ⟨_, _, _, _, h⟩ => .inr h) (fun W hW => (right_mk r W ((hr.below e3).below hW)).mono fun e w' ⟨vk, vv, g1, g2, g3⟩ => ⟨_, g1, vk, vv, rfl, g2, hW.trans (g3.mono hW.size)⟩) ?_
  rintro _ ⟨_, a1, b1, rfl, _, _⟩
  refine ZE.sub (fun W => (mkR (rightD r.d) a1 b1).ok W ∧ Below w3.heap.size w3 W) (fun W ⟨vk, vv, g0, g1, g2⟩ => by obtain ⟨rfl, rfl⟩ := mkR_inj g0; exact ⟨g1, g2⟩) ?_
  refine ZE.callR [s.val] (fun v W => ∃ vk vv, v = (mkR (rightD s.d) vk vv).val ∧ (mkR (rightD s.d) vk vv).ok W ∧ (mkR (rightD r.d) a1 b1).ok W ∧ Below w3.heap.size w3 W) enter12 rfl rfl rfl (fun _ _ ⟨_, _, _, _, _, h⟩ => .inr h) (fun W hW => (right_mk s W ((hs.below e3).below hW.2)).mono fun e w' ⟨vk, vv, g1, g2, g3⟩ => ⟨_, g1, vk, vv, rfl, g2, hW.1.below g3, hW.2.trans (g3.mono hW.2.size)⟩) ?_
  rintro _ ⟨_, a2, b2, rfl, _, _, _⟩
  refine ZE.sub (fun W => (mkR (rightD s.d) a2 b2).ok W ∧ (mkR (rightD r.d) a1 b1).ok W ∧ Below w3.heap.size w3 W) (fun W ⟨vk, vv, g0, g1, g2⟩ => by obtain ⟨rfl, rfl⟩ := mkR_inj g0; exact ⟨g1, g2⟩) ?_
  refine ZE.store (fun W => Blk W q4 (mkR (rightD r.d) a1 b1).cs 32 ∧ Blk W q5 s.cs 32 ∧ (mkR (rightD s.d) a2 b2).ok W ∧ (mkR (rightD r.d) a1 b1).ok W ∧ Below w.heap.size w W ∧ Ls W vw rs ∧ s.ok W) rfl rfl rfl (fun _ _ => .inl rfl) (fun W hW => ?_) ?_
  · obtain ⟨g1, g2, g3⟩ := hW
    have bq := b4.on g3
    have nb := hr.noB
    obtain ⟨W', s1, s2, s3⟩ := st32 bq rfl g2.one
    have lw := g3.size
    exact ⟨W', s1, s2, (b5.on g3).fx s3 (by show q5 ≠ q4; omega), g1.fxB bq nb s3, g2.fxB bq nb s3, (e3.trans (g3.mono e3.size)).trans (s3.below (fun k hk e => by omega) (by omega)), (hw3.below g3).fxB bq nb s3 (fun k hk => by have := hfr k hk; omega), ((hs.below e3).below g3).fxB bq nb s3⟩
  refine ZE.store (fun W => Blk W q4 (mkR (rightD r.d) a1 b1).cs 32 ∧ Blk W q5 (mkR (rightD s.d) a2 b2).cs 32 ∧ (mkR (rightD s.d) a2 b2).ok W ∧ (mkR (rightD r.d) a1 b1).ok W ∧ Below w.heap.size w W ∧ Ls W vw rs) rfl rfl rfl (fun _ _ => .inl rfl) (fun W hW => ?_) ?_
  · obtain ⟨g1, g2, g3, g4, g5, g6, g7⟩ := hW
    have nb := hs.noB
    obtain ⟨W', s1, s2, s3⟩ := st32 g2 rfl g3.one
    exact ⟨W', s1, g1.fx s3 (by show q4 ≠ q5; omega), s2, g3.fxB g2 nb s3, g4.fxB g2 nb s3, g5.trans (s3.below (fun k hk e => by omega) g5.size), g6.fxB g2 nb s3 (fun k hk => by have := hfr k hk; omega)⟩
  rintro w4 ⟨bx4, by4, oky4, okx4, e4, hw4⟩
  obtain ⟨c, hc⟩ : ∃ c, cmpR (mkR (rightD r.d) a1 b1) (mkR (rightD s.d) a2 b2) = c := ⟨_, rfl⟩
  have hneg : IntKind.i64.wrap (-(cmpR (mkR (rightD s.d) a2 b2) (mkR (rightD r.d) a1 b1))) = c := by
    have h1 : cmpR (mkR (rightD r.d) a1 b1) (mkR (rightD s.d) a2 b2) = -cmpR (mkR (rightD s.d) a2 b2) (mkR (rightD r.d) a1 b1) := cd_anti _ _
    have h2 : cmpR (mkR (rightD r.d) a1 b1) (mkR (rightD s.d) a2 b2) = -1 ∨ cmpR (mkR (rightD r.d) a1 b1) (mkR (rightD s.d) a2 b2) = 0 ∨ cmpR (mkR (rightD r.d) a1 b1) (mkR (rightD s.d) a2 b2) = 1 := cd_vals _ _
    rw [← h1, hc] at *
    rw [IntKind.wrap_i64]; omega
  refine EW.on ?_
  refine EW.seq ?_
  refine EW.region ?_
  first | refine WL.load rfl rfl rfl (ld32 bx4) ?_ | refine WL.load rfl rfl rfl (ld32 by4) ?_
  first | refine WL.load rfl rfl rfl (ld32 bx4) ?_ | refine WL.load rfl rfl rfl (ld32 by4) ?_
  refine WL.call [(mkR (rightD r.d) a1 b1).val, (mkR (rightD s.d) a2 b2).val] enter13 rfl rfl rfl (cmpr_any (mkR (rightD r.d) a1 b1) (mkR (rightD s.d) a2 b2) _ okx4 oky4) ?_
  rintro _ w4a ⟨rfl, be4a⟩
  have bx4a := bx4.on be4a
  have by4a := by4.on be4a
  have okx4a := okx4.below be4a
  have oky4a := oky4.below be4a
  have hw4a := hw4.below be4a
  have e4a := e4.trans (be4a.mono e4.size)
  rw [hc]
  refine ⟨_, rfl, ?_⟩
  first | refine WL.assign rfl rfl rfl ?_
  refine WL.done ?_
  refine EW.on ?_
  refine EW.seq ?_
  refine EW.seq ?_
  rcases (show ¬ (mkR (rightD r.d) a1 b1).t = (mkR (rightD s.d) a2 b2).t ∨ ((mkR (rightD r.d) a1 b1).t = (mkR (rightD s.d) a2 b2).t ∧ (mkR (rightD r.d) a1 b1).k = (mkR (rightD s.d) a2 b2).k) ∨ ((mkR (rightD r.d) a1 b1).t = (mkR (rightD s.d) a2 b2).t ∧ ¬ (mkR (rightD r.d) a1 b1).k = (mkR (rightD s.d) a2 b2).k) by
      by_cases e1 : (mkR (rightD r.d) a1 b1).t = (mkR (rightD s.d) a2 b2).t
      · by_cases e2 : (mkR (rightD r.d) a1 b1).k = (mkR (rightD s.d) a2 b2).k
        · exact .inr (.inl ⟨e1, e2⟩)
        · exact .inr (.inr ⟨e1, e2⟩)
      · exact .inl e1) with hT | ⟨hT, hK⟩ | ⟨hT, hK⟩
  · have hcz : ¬ c = 0 := fun e => hT (cd_eq (show cmpD (mkR (rightD r.d) a1 b1).d (mkR (rightD s.d) a2 b2).d = 0 from hc.trans e)).1
    have hb21 : decide False = decide False := rfl
    clear hb21
    have hb21 : false = false := rfl
    have hb29 : decide (c < 0) = decide (cmpD (mkR (rightD r.d) a1 b1).d (mkR (rightD s.d) a2 b2).d < 0) := by rw [← hc]; rfl
    refine EW.region ?_
    first | refine WL.move rfl rfl rfl ?_
    first | refine WL.load rfl rfl rfl (ld32 bx4a) ?_ | refine WL.load rfl rfl rfl (ld32 by4a) ?_
    first | refine WL.load rfl rfl rfl (ld32 bx4a) ?_ | refine WL.load rfl rfl rfl (ld32 by4a) ?_
    refine WL.call [(mkR (rightD s.d) a2 b2).val, (mkR (rightD r.d) a1 b1).val] enter13 rfl rfl rfl (cmpr_any (mkR (rightD s.d) a2 b2) (mkR (rightD r.d) a1 b1) _ oky4a okx4a) ?_
    rintro _ w5 ⟨rfl, be5⟩
    have bx5 := bx4a.on be5
    have by5 := by4a.on be5
    have okx5 := okx4a.below be5
    have oky5 := oky4a.below be5
    have hw5 := hw4a.below be5
    have e5 := e4a.trans (be5.mono e4a.size)
    refine ⟨_, rfl, ?_⟩
    refine WL.un rfl rfl rfl (neg_i hneg _) ?_
    first | refine WL.bin rfl rfl rfl rfl (int_ne_f rfl _ _ _) ?_ | refine WL.bin rfl rfl rfl rfl (int_ne_t ‹_› _ _ _) ?_ | refine WL.bin rfl rfl rfl rfl (int_ne_f ‹_› _ _ _) ?_ | refine WL.bin rfl rfl rfl rfl (int_ne_t (by decide) _ _ _) ?_ | refine WL.bin rfl rfl rfl rfl (int_ne_d _ _ _ _ _) ?_
    first | refine WL.move rfl rfl rfl ?_
    first | refine WL.move rfl rfl rfl ?_ | refine WL.skip _ rfl rfl rfl ?_
    first | refine WL.bin rfl rfl rfl rfl (int_eq_t rfl _ _ _) ?_ | refine WL.bin rfl rfl rfl rfl (int_eq_t ‹_› _ _ _) ?_ | refine WL.bin rfl rfl rfl rfl (int_eq_f ‹_› _ _ _) ?_ | refine WL.bin rfl rfl rfl rfl (int_eq_d _ _ _ _ _) ?_ | refine WL.skip _ rfl rfl rfl ?_
    first | refine WL.field rfl rfl rfl (rfld0 q4 _) ?_ | refine WL.skip _ rfl rfl rfl ?_
    first | refine WL.load rfl rfl rfl (ldI bx5 rfl) ?_ | refine WL.load rfl rfl rfl (ldI by5 rfl) ?_ | refine WL.skip _ rfl rfl rfl ?_
    first | refine WL.field rfl rfl rfl (rfld0 q5 _) ?_ | refine WL.skip _ rfl rfl rfl ?_
    first | refine WL.load rfl rfl rfl (ldI bx5 rfl) ?_ | refine WL.load rfl rfl rfl (ldI by5 rfl) ?_ | refine WL.skip _ rfl rfl rfl ?_
    first | refine WL.bin rfl rfl rfl rfl (int_eq_t rfl _ _ _) ?_ | refine WL.bin rfl rfl rfl rfl (int_eq_t ‹_› _ _ _) ?_ | refine WL.bin rfl rfl rfl rfl (int_eq_f ‹_› _ _ _) ?_ | refine WL.bin rfl rfl rfl rfl (int_eq_d _ _ _ _ _) ?_ | refine WL.skip _ rfl rfl rfl ?_
    first | refine WL.move rfl rfl rfl ?_ | refine WL.skip _ rfl rfl rfl ?_
    first | refine WL.field rfl rfl rfl (rfld1 q4 _) ?_ | refine WL.skip _ rfl rfl rfl ?_
    first | refine WL.load rfl rfl rfl (ldS bx5 rfl) ?_ | refine WL.load rfl rfl rfl (ldS by5 rfl) ?_ | refine WL.skip _ rfl rfl rfl ?_
    first | refine WL.field rfl rfl rfl (rfld1 q5 _) ?_ | refine WL.skip _ rfl rfl rfl ?_
    first | refine WL.load rfl rfl rfl (ldS bx5 rfl) ?_ | refine WL.load rfl rfl rfl (ldS by5 rfl) ?_ | refine WL.skip _ rfl rfl rfl ?_
    first | refine WL.skip _ rfl rfl rfl ?_ | refine WL.call [a1, a2] enter9 rfl rfl rfl (eq_any a1 a2 _ _ _ okx5.hk oky5.hk) ?_
    first | refine WL.pick rfl rfl rfl rfl ?_ | refine WL.skip _ rfl rfl rfl ?_
    first | refine WL.bin rfl rfl rfl rfl (bool_ne_f hb21 _ _ _) ?_ | refine WL.skip _ rfl rfl rfl ?_
    first | refine WL.pick rfl rfl rfl rfl ?_
    first | refine WL.move rfl rfl rfl ?_
    first | refine WL.move rfl rfl rfl ?_ | refine WL.skip _ rfl rfl rfl ?_
    first | refine WL.bin rfl rfl rfl rfl (int_lt_t ‹_› _ _ _) ?_ | refine WL.bin rfl rfl rfl rfl (int_lt_f ‹_› _ _ _) ?_ | refine WL.bin rfl rfl rfl rfl (int_lt_d _ _ _ _ _) ?_ | refine WL.skip _ rfl rfl rfl ?_
    first | refine WL.load rfl rfl rfl (ld32 bx5) ?_ | refine WL.load rfl rfl rfl (ld32 by5) ?_ | refine WL.skip _ rfl rfl rfl ?_
    first | refine WL.load rfl rfl rfl (ld32 bx5) ?_ | refine WL.load rfl rfl rfl (ld32 by5) ?_ | refine WL.skip _ rfl rfl rfl ?_
    refine WL.call [(mkR (rightD r.d) a1 b1).val, (mkR (rightD s.d) a2 b2).val] enter14 rfl rfl rfl (ahead_any (mkR (rightD r.d) a1 b1) (mkR (rightD s.d) a2 b2) _ okx5 oky5) ?_
    rintro _ w5b ⟨rfl, be5b⟩
    have bx5b := bx5.on be5b
    have by5b := by5.on be5b
    have okx5b := okx5.below be5b
    have oky5b := oky5.below be5b
    have hw5b := hw5.below be5b
    have e5b := e5.trans (be5b.mono e5.size)
    refine ⟨_, rfl, ?_⟩
    first | refine WL.bin rfl rfl rfl rfl (bool_ne_f hb29 _ _ _) ?_ | refine WL.skip _ rfl rfl rfl ?_
    first | refine WL.pick rfl rfl rfl rfl ?_
    first | refine WL.move rfl rfl rfl ?_
    first | refine WL.load rfl rfl rfl (ld32 bx5b) ?_ | refine WL.load rfl rfl rfl (ld32 by5b) ?_ | refine WL.skip _ rfl rfl rfl ?_
    first | refine WL.load rfl rfl rfl (ld32 bx5b) ?_ | refine WL.load rfl rfl rfl (ld32 by5b) ?_ | refine WL.skip _ rfl rfl rfl ?_
    refine WL.call [(mkR (rightD r.d) a1 b1).val, (mkR (rightD r.d) a1 b1).val] enter13 rfl rfl rfl (cmpr_any (mkR (rightD r.d) a1 b1) (mkR (rightD r.d) a1 b1) _ okx5b okx5b) ?_
    rintro _ w5c ⟨rfl, be5c⟩
    have bx5c := bx5b.on be5c
    have by5c := by5b.on be5c
    have okx5c := okx5b.below be5c
    have oky5c := oky5b.below be5c
    have hw5c := hw5b.below be5c
    have e5c := e5b.trans (be5c.mono e5b.size)
    rw [show cmpR (mkR (rightD r.d) a1 b1) (mkR (rightD r.d) a1 b1) = 0 from cd_refl _]
    refine ⟨_, rfl, ?_⟩
    first | refine WL.bin rfl rfl rfl rfl (int_ne_f rfl _ _ _) ?_ | refine WL.bin rfl rfl rfl rfl (int_ne_t ‹_› _ _ _) ?_ | refine WL.bin rfl rfl rfl rfl (int_ne_f ‹_› _ _ _) ?_ | refine WL.bin rfl rfl rfl rfl (int_ne_t (by decide) _ _ _) ?_ | refine WL.bin rfl rfl rfl rfl (int_ne_d _ _ _ _ _) ?_ | refine WL.skip _ rfl rfl rfl ?_
    first | refine WL.pick rfl rfl rfl rfl ?_
    refine WL.done ?_
    refine EW.on ?_
    refine EW.cond_f rfl ?_
    refine EW.skip ?_
    refine EW.on ?_
    refine EW.seq ?_
    refine EW.region ?_
    first | refine WL.move rfl rfl rfl ?_
    first | refine WL.load rfl rfl rfl (ld32 bx5c) ?_ | refine WL.load rfl rfl rfl (ld32 by5c) ?_
    refine WL.call [vw, (mkR (rightD r.d) a1 b1).val] enter15 rfl rfl rfl (put_any vw rs (mkR (rightD r.d) a1 b1) _ hw5c okx5c (right_ok _) (by omega) hsr) ?_
    rintro _ w6 ⟨v6, rs6, rfl, hL6', hd6, be6⟩
    have bx6 := bx5c.on be6
    have by6 := by5c.on be6
    have okx6 := okx5c.below be6
    have oky6 := oky5c.below be6
    have hw6 := hw5c.below be6
    have e6 := e5c.trans (be6.mono e5c.size)
    refine ⟨_, rfl, ?_⟩
    first | refine WL.move rfl rfl rfl ?_
    first | refine WL.extract rfl rfl rfl (ext_2 _ _ _).1 ?_
    first | refine WL.extract rfl rfl rfl (ext_2 _ _ _).2 ?_
    first | refine WL.assign rfl rfl rfl ?_
    first | refine WL.assign rfl rfl rfl ?_
    refine WL.done ?_
    have hs6 : Srt (rs6.map RV.d) := by rw [hd6]; exact hsr.ins (right_ok _)
    have hl6 : rs6.length ≤ 61 := by
      have e1 := congrArg List.length hd6
      have e2 := ins_len (rs.map RV.d) (mkR (rightD r.d) a1 b1).d
      rw [List.length_map] at e1 e2
      omega
    have hat6 : isAt (rs6.map RV.d) (mkR (rightD r.d) a1 b1).d = true := by rw [hd6]; exact ins_at hsr (right_ok _)
    obtain ⟨p, hp6⟩ : ∃ p, placeN (rs6.map RV.d) (mkR (rightD r.d) a1 b1).d = p := ⟨_, rfl⟩
    have hplt := isAt_lt hat6
    rw [hp6, List.length_map] at hplt
    refine EW.on ?_
    refine EW.seq ?_
    refine EW.region ?_
    first | refine WL.move rfl rfl rfl ?_
    first | refine WL.field rfl rfl rfl (rfld0 q4 _) ?_
    first | refine WL.load rfl rfl rfl (ldI bx6 rfl) ?_ | refine WL.load rfl rfl rfl (ldI by6 rfl) ?_
    first | refine WL.field rfl rfl rfl (rfld1 q4 _) ?_
    first | refine WL.load rfl rfl rfl (ldS bx6 rfl) ?_ | refine WL.load rfl rfl rfl (ldS by6 rfl) ?_
    refine WL.call [v6, .int .i64 (mkR (rightD r.d) a1 b1).t, a1] enter16 rfl rfl rfl (find_any v6 rs6 (mkR (rightD r.d) a1 b1).t a1 (mkR (rightD r.d) a1 b1).k _ hL6' okx6.hk (by omega) hs6) ?_
    rintro _ w7 ⟨rfl, be7⟩
    have bx7 := bx6.on be7
    have by7 := by6.on be7
    have okx7 := okx6.below be7
    have oky7 := oky6.below be7
    have hw7 := hw6.below be7
    have e7 := e6.trans (be7.mono e6.size)
    rw [show placeN (rs6.map RV.d) ⟨(mkR (rightD r.d) a1 b1).t, (mkR (rightD r.d) a1 b1).k, []⟩ = p from hp6, show isAt (rs6.map RV.d) ⟨(mkR (rightD r.d) a1 b1).t, (mkR (rightD r.d) a1 b1).k, []⟩ = true from hat6]
    have hL6 := hL6'.below be7
    refine ⟨_, rfl, ?_⟩
    first | refine WL.move rfl rfl rfl ?_
    first | refine WL.extract rfl rfl rfl (ext_2 _ _ _).1 ?_
    first | refine WL.extract rfl rfl rfl (ext_2 _ _ _).2 ?_
    first | refine WL.assign rfl rfl rfl ?_
    first | refine WL.assign rfl rfl rfl ?_
    refine WL.done ?_
    obtain ⟨y, hy⟩ : ∃ y, rs6[p]? = some y := ⟨_, List.getElem?_eq_getElem hplt⟩
    obtain ⟨ad, iy, ay⟩ := hL6.item hy
    have oky := hL6.ok y (List.mem_of_getElem? hy)
    have hyd : y.d = (mkR (rightD r.d) a1 b1).d := by
      have e1 := d_at hy
      rw [← hp6, hd6, ins_place (x := (mkR (rightD r.d) a1 b1).d) hsr (right_ok r.d), ins_getP] at e1
      exact (Option.some.inj e1).symm
    have heq : decide (y.v = (mkR (rightD r.d) a1 b1).v) = true := decide_eq_true (congrArg Rc.v hyd)
    have zp0 : ¬ (p : Int) < 0 := by omega
    have zp1 : ¬ (rs6.length : Int) ≤ (p : Int) := by omega
    refine EW.on ?_
    refine EW.seq ?_
    refine EW.seq ?_
    refine EW.ordB [(0, 0, 0), (1, 0, 0), (2, 0, 0), (3, 0, 0), (4, 0, 0), (5, 0, 0), (6, 0, 0), (7, 0, 0), (8, 0, 0), (9, 0, 0), (10, 0, 0), (11, 0, 0), (12, 0, 0), (13, 0, 0), (14, 0, 0), (15, 0, 0), (16, 0, 0), (17, 0, 0), (18, 0, 0), (19, 0, 0), (20, 0, 0), (21, 0, 1), (22, 0, 0), (23, 0, 1), (24, 1, 1), (25, 0, 0), (26, 0, 0)] (by kernel_rfl) rfl (by kernel_rfl) ?_
    simp only [opsZ, List.getD_cons_zero, List.getD_cons_succ]
    first | refine ZE.move rfl rfl rfl rfl sz0 ?_
    first | refine ZE.bin rfl rfl rfl rfl rfl sz0 (fun W => int_ne_f rfl W _ _) ?_ | refine ZE.bin rfl rfl rfl rfl rfl sz0 (fun W => int_ne_t ‹_› W _ _) ?_ | refine ZE.bin rfl rfl rfl rfl rfl sz0 (fun W => int_ne_f ‹_› W _ _) ?_ | refine ZE.bin rfl rfl rfl rfl rfl sz0 (fun W => int_ne_t (by decide) W _ _) ?_ | refine ZE.bin rfl rfl rfl rfl rfl sz0 (fun W => int_ne_d _ _ W _ _) ?_
    first | refine ZE.move rfl rfl rfl rfl sz0 ?_
    first | refine ZE.move rfl rfl rfl rfl sz0 ?_ | refine ZE.skip rfl rfl rfl sz0 ?_
    first | refine ZE.un rfl rfl rfl rfl sz0 (fun W => not_t _ W) ?_ | refine ZE.skip rfl rfl rfl sz0 ?_
    first | refine ZE.pick rfl rfl rfl rfl rfl sz0 ?_
    first | refine ZE.move rfl rfl rfl rfl sz0 ?_
    first | refine ZE.move rfl rfl rfl rfl sz0 ?_ | refine ZE.skip rfl rfl rfl sz0 ?_
    first | refine ZE.bin rfl rfl rfl rfl rfl sz0 (fun W => int_lt_t ‹_› W _ _) ?_ | refine ZE.bin rfl rfl rfl rfl rfl sz0 (fun W => int_lt_f ‹_› W _ _) ?_ | refine ZE.bin rfl rfl rfl rfl rfl sz0 (fun W => int_lt_d _ _ W _ _) ?_ | refine ZE.skip rfl rfl rfl sz0 ?_
    first | refine ZE.pick rfl rfl rfl rfl rfl sz0 ?_
    first | refine ZE.move rfl rfl rfl rfl sz0 ?_
    first | refine ZE.move rfl rfl rfl rfl sz0 ?_ | refine ZE.skip rfl rfl rfl sz0 ?_
    first | refine ZE.move rfl rfl rfl rfl sz0 ?_ | refine ZE.skip rfl rfl rfl sz0 ?_
    refine ZE.len rfl rfl rfl rfl sz0 (fun W => hL6.len W _) ?_
    first | refine ZE.bin rfl rfl rfl rfl rfl sz0 (fun W => int_ge_t ‹_› W _ _) ?_ | refine ZE.bin rfl rfl rfl rfl rfl sz0 (fun W => int_ge_f ‹_› W _ _) ?_ | refine ZE.bin rfl rfl rfl rfl rfl sz0 (fun W => int_ge_d _ _ W _ _) ?_ | refine ZE.skip rfl rfl rfl sz0 ?_
    first | refine ZE.pick rfl rfl rfl rfl rfl sz0 ?_
    first | refine ZE.move rfl rfl rfl rfl sz0 ?_
    first | refine ZE.move rfl rfl rfl rfl sz0 ?_ | refine ZE.skip rfl rfl rfl sz0 ?_
    first | refine ZE.move rfl rfl rfl rfl sz0 ?_ | refine ZE.skip rfl rfl rfl sz0 ?_
    first | refine ZE.index rfl rfl rfl rfl rfl sz0 (fun W => iy W) ?_ | refine ZE.skip rfl rfl rfl sz0 ?_
    first | refine ZE.field rfl rfl rfl rfl sz0 (fun W => rfldA ad W) ?_ | refine ZE.field rfl rfl rfl rfl sz0 (fun W => rfld2 q4 W) ?_
    first | refine ZE.load rfl rfl rfl rfl sz1 (fun W hW => ldSA (ay.below (sb_of hW))) ?_ | refine ZE.load rfl rfl rfl rfl sz1 (fun W hW => ldS (bx7.on (sb_of hW)) rfl) ?_
    first | refine ZE.field rfl rfl rfl rfl sz0 (fun W => rfldA ad W) ?_ | refine ZE.field rfl rfl rfl rfl sz0 (fun W => rfld2 q4 W) ?_
    first | refine ZE.load rfl rfl rfl rfl sz1 (fun W hW => ldSA (ay.below (sb_of hW))) ?_ | refine ZE.load rfl rfl rfl rfl sz1 (fun W hW => ldS (bx7.on (sb_of hW)) rfl) ?_
    refine ZE.callB (v := .bool true) [y.vv, (mkR (rightD r.d) a1 b1).vv] enter9 rfl rfl rfl (fun W h => .inr h) (fun W hW => (eq_any _ _ _ _ W (oky.hv.below hW) (okx7.hv.below hW)).mono fun e w' h => ⟨by rw [h.1, heq], by rw [h.2]; exact Below.refl _ _⟩) ?_
    first | refine ZE.un rfl rfl rfl rfl sz0 (fun W => not_t _ W) ?_ | refine ZE.skip rfl rfl rfl sz0 ?_
    first | refine ZE.pick rfl rfl rfl rfl rfl sz0 ?_
    intro w8 h8
    refine EW.on ?_
    refine EW.cond_f rfl ?_
    refine EW.skip ?_
    refine EW.on ?_
    refine EW.seq ?_
    refine EW.seq ?_
    refine EW.region ?_
    first | refine WL.assign rfl rfl rfl ?_
    refine WL.done ?_
    refine EW.on ?_
    refine EW.block ?_
    refine EW.loop (pfE v6 q4 p) (PfR w8 rs6.length) (fun t => rs6.length - t) 0 [4, 9, 11, 13] rfl ⟨Below.refl _ _, Nat.zero_le _⟩ ?_
    rintro t wi ⟨bei8, htl⟩
    have bei := h8.trans (bei8.mono h8.size)
    have ei := e7.trans (bei.mono e7.size)
    show EW _ _ _ _ [(4, .pointer (some ⟨q4, 0, none⟩)), (9, v6), (11, .int .i64 (p : Int)), (13, .int .i64 (t : Int))] _
    refine EW.seq ?_
    refine EW.seq ?_
    refine EW.region ?_
    first | refine WL.move rfl rfl rfl ?_
    first | refine WL.move rfl rfl rfl ?_
    refine WL.len rfl rfl rfl (hL6.len _ _) ?_
    first | refine WL.bin rfl rfl rfl rfl (int_lt_t ‹_› _ _ _) ?_ | refine WL.bin rfl rfl rfl rfl (int_lt_f ‹_› _ _ _) ?_ | refine WL.bin rfl rfl rfl rfl (int_lt_d _ _ _ _ _) ?_
    refine WL.done ?_
    refine EW.on ?_
    refine EW.cond_d rfl (fun h112 => ?_) (fun h112 => ?_)
    · refine EW.skip ?_
      refine EW.on ?_
      refine EW.seq ?_
      refine EW.block ?_
      refine EW.seq ?_
      have ht : t < rs6.length := by omega
      have tn : IntKind.i64.wrap ((t : Int) + 1) = ((t + 1 : Nat) : Int) := by rw [IntKind.wrap_i64]; omega
      obtain ⟨y, hy⟩ : ∃ y, rs6[t]? = some y := ⟨_, List.getElem?_eq_getElem ht⟩
      have hLi := hL6.below bei
      have bxi := bx7.on bei
      have okxi := okx7.below bei
      obtain ⟨ad, iy, ay⟩ := hLi.item hy
      have oky := hLi.ok y (List.mem_of_getElem? hy)
      obtain ⟨cv, hcv⟩ : ∃ cv, cmpR y (mkR (rightD r.d) a1 b1) = cv := ⟨_, rfl⟩
      have hpl := place_lt (rs6.map RV.d) (mkR (rightD r.d) a1 b1).d t y.d
      have hpg := place_gt (k := t) hs6 (x := (mkR (rightD r.d) a1 b1).d) (y := y.d)
      have hvv : cv = -1 ∨ cv = 0 ∨ cv = 1 := by rw [← hcv]; exact cd_vals y.d (mkR (rightD r.d) a1 b1).d
      replace hcv : cmpR y (mkR (rightD r.d) a1 b1) = cv := hcv
      refine EW.ordB [(0, 0, 0), (1, 0, 0), (2, 0, 0), (3, 0, 1), (4, 0, 1), (5, 1, 1), (6, 0, 0)] (by kernel_rfl) rfl (by kernel_rfl) ?_
      simp only [opsZ, List.getD_cons_zero, List.getD_cons_succ]
      first | refine ZE.move rfl rfl rfl rfl sz0 ?_
      first | refine ZE.move rfl rfl rfl rfl sz0 ?_
      refine ZE.index rfl rfl rfl rfl rfl sz0 (fun W => iy W) ?_
      first | refine ZE.load rfl rfl rfl rfl sz1 (fun W hW => ldA (ay.below (sb_of hW))) ?_ | refine ZE.load rfl rfl rfl rfl sz1 (fun W hW => ld32 (bxi.on (sb_of hW))) ?_
      first | refine ZE.load rfl rfl rfl rfl sz1 (fun W hW => ldA (ay.below (sb_of hW))) ?_ | refine ZE.load rfl rfl rfl rfl sz1 (fun W hW => ld32 (bxi.on (sb_of hW))) ?_
      refine ZE.callB (v := .int .i64 cv) [y.val, (mkR (rightD r.d) a1 b1).val] enter13 rfl rfl rfl (fun W h => .inr h) (fun W hW => (cmpr_any y (mkR (rightD r.d) a1 b1) W (oky.below hW) (okxi.below hW)).mono fun e w' h => ⟨by rw [h.1, hcv], h.2⟩) ?_
      first | refine ZE.assign rfl rfl rfl rfl sz0 ?_
      intro w13 h13
      refine EW.on ?_
      refine EW.seq ?_
      rcases Nat.lt_trichotomy t p with htp | htp | htp
      · have z1 : (t : Int) < (p : Int) := by omega
        have z2 : ¬ (t : Int) = (p : Int) := by omega
        have z3 : ¬ (p : Int) < (t : Int) := by omega
        have z4 : cv = -1 := by
          have := hpl (by rw [hp6]; exact htp) (d_at hy)
          have : cv < 0 := by rw [← hcv]; exact this
          omega
        refine EW.region ?_
        first | refine WL.move rfl rfl rfl ?_
        first | refine WL.move rfl rfl rfl ?_
        first | refine WL.bin rfl rfl rfl rfl (int_lt_t ‹_› _ _ _) ?_ | refine WL.bin rfl rfl rfl rfl (int_lt_f ‹_› _ _ _) ?_ | refine WL.bin rfl rfl rfl rfl (int_lt_d _ _ _ _ _) ?_
        first | refine WL.move rfl rfl rfl ?_
        first | refine WL.move rfl rfl rfl ?_ | refine WL.skip _ rfl rfl rfl ?_
        first | refine WL.bin rfl rfl rfl rfl (int_ne_f rfl _ _ _) ?_ | refine WL.bin rfl rfl rfl rfl (int_ne_t ‹_› _ _ _) ?_ | refine WL.bin rfl rfl rfl rfl (int_ne_f ‹_› _ _ _) ?_ | refine WL.bin rfl rfl rfl rfl (int_ne_t (by decide) _ _ _) ?_ | refine WL.bin rfl rfl rfl rfl (int_ne_d _ _ _ _ _) ?_ | refine WL.skip _ rfl rfl rfl ?_
        first | refine WL.pick rfl rfl rfl rfl ?_
        first | refine WL.move rfl rfl rfl ?_
        first | refine WL.move rfl rfl rfl ?_ | refine WL.skip _ rfl rfl rfl ?_
        first | refine WL.move rfl rfl rfl ?_ | refine WL.skip _ rfl rfl rfl ?_
        first | refine WL.bin rfl rfl rfl rfl (int_eq_t rfl _ _ _) ?_ | refine WL.bin rfl rfl rfl rfl (int_eq_t ‹_› _ _ _) ?_ | refine WL.bin rfl rfl rfl rfl (int_eq_f ‹_› _ _ _) ?_ | refine WL.bin rfl rfl rfl rfl (int_eq_d _ _ _ _ _) ?_ | refine WL.skip _ rfl rfl rfl ?_
        first | refine WL.move rfl rfl rfl ?_ | refine WL.skip _ rfl rfl rfl ?_
        first | refine WL.move rfl rfl rfl ?_ | refine WL.skip _ rfl rfl rfl ?_
        first | refine WL.bin rfl rfl rfl rfl (int_ne_f rfl _ _ _) ?_ | refine WL.bin rfl rfl rfl rfl (int_ne_t ‹_› _ _ _) ?_ | refine WL.bin rfl rfl rfl rfl (int_ne_f ‹_› _ _ _) ?_ | refine WL.bin rfl rfl rfl rfl (int_ne_t (by decide) _ _ _) ?_ | refine WL.bin rfl rfl rfl rfl (int_ne_d _ _ _ _ _) ?_ | refine WL.skip _ rfl rfl rfl ?_
        first | refine WL.pick rfl rfl rfl rfl ?_ | refine WL.skip _ rfl rfl rfl ?_
        first | refine WL.pick rfl rfl rfl rfl ?_
        first | refine WL.move rfl rfl rfl ?_
        first | refine WL.move rfl rfl rfl ?_ | refine WL.skip _ rfl rfl rfl ?_
        first | refine WL.move rfl rfl rfl ?_ | refine WL.skip _ rfl rfl rfl ?_
        first | refine WL.bin rfl rfl rfl rfl (int_gt_t ‹_› _ _ _) ?_ | refine WL.bin rfl rfl rfl rfl (int_gt_f ‹_› _ _ _) ?_ | refine WL.bin rfl rfl rfl rfl (int_gt_d _ _ _ _ _) ?_ | refine WL.skip _ rfl rfl rfl ?_
        first | refine WL.move rfl rfl rfl ?_ | refine WL.skip _ rfl rfl rfl ?_
        first | refine WL.move rfl rfl rfl ?_ | refine WL.skip _ rfl rfl rfl ?_
        first | refine WL.bin rfl rfl rfl rfl (int_ne_f rfl _ _ _) ?_ | refine WL.bin rfl rfl rfl rfl (int_ne_t ‹_› _ _ _) ?_ | refine WL.bin rfl rfl rfl rfl (int_ne_f ‹_› _ _ _) ?_ | refine WL.bin rfl rfl rfl rfl (int_ne_t (by decide) _ _ _) ?_ | refine WL.bin rfl rfl rfl rfl (int_ne_d _ _ _ _ _) ?_ | refine WL.skip _ rfl rfl rfl ?_
        first | refine WL.pick rfl rfl rfl rfl ?_ | refine WL.skip _ rfl rfl rfl ?_
        first | refine WL.pick rfl rfl rfl rfl ?_
        refine WL.done ?_
        refine EW.on ?_
        refine EW.cond_f rfl ?_
        refine EW.skip ?_
        refine pn_block ?_
        refine EW.on ?_
        refine EW.region ?_
        first | refine WL.move rfl rfl rfl ?_
        first | refine WL.bin rfl rfl rfl rfl (int_add ‹_› _ _ _) ?_
        first | refine WL.assign rfl rfl rfl ?_
        refine WL.done ?_
        refine EW.again (E := pfE v6 q4 p) (R := PfR w8 rs6.length) (m := fun t => rs6.length - t) (x := t) (t + 1) [4, 9, 11, 13] rfl ⟨bei8.trans (h13.mono bei8.size), by omega⟩ (by show rs6.length - (t + 1) < rs6.length - t; omega)
      · have z1 : ¬ (t : Int) < (p : Int) := by omega
        have z2 : (t : Int) = (p : Int) := by omega
        have z3 : ¬ (p : Int) < (t : Int) := by omega
        have z4 : cv = 0 := by
          have e1 := isAt_some (ds := rs6.map RV.d) (x := (mkR (rightD r.d) a1 b1).d) (y := y.d) (by rw [hp6, ← htp]; exact d_at hy)
          rw [hat6] at e1
          rw [← hcv]; exact of_decide_eq_true e1.symm
        refine EW.region ?_
        first | refine WL.move rfl rfl rfl ?_
        first | refine WL.move rfl rfl rfl ?_
        first | refine WL.bin rfl rfl rfl rfl (int_lt_t ‹_› _ _ _) ?_ | refine WL.bin rfl rfl rfl rfl (int_lt_f ‹_› _ _ _) ?_ | refine WL.bin rfl rfl rfl rfl (int_lt_d _ _ _ _ _) ?_
        first | refine WL.move rfl rfl rfl ?_
        first | refine WL.move rfl rfl rfl ?_ | refine WL.skip _ rfl rfl rfl ?_
        first | refine WL.bin rfl rfl rfl rfl (int_ne_f rfl _ _ _) ?_ | refine WL.bin rfl rfl rfl rfl (int_ne_t ‹_› _ _ _) ?_ | refine WL.bin rfl rfl rfl rfl (int_ne_f ‹_› _ _ _) ?_ | refine WL.bin rfl rfl rfl rfl (int_ne_t (by decide) _ _ _) ?_ | refine WL.bin rfl rfl rfl rfl (int_ne_d _ _ _ _ _) ?_ | refine WL.skip _ rfl rfl rfl ?_
        first | refine WL.pick rfl rfl rfl rfl ?_
        first | refine WL.move rfl rfl rfl ?_
        first | refine WL.move rfl rfl rfl ?_ | refine WL.skip _ rfl rfl rfl ?_
        first | refine WL.move rfl rfl rfl ?_ | refine WL.skip _ rfl rfl rfl ?_
        first | refine WL.bin rfl rfl rfl rfl (int_eq_t rfl _ _ _) ?_ | refine WL.bin rfl rfl rfl rfl (int_eq_t ‹_› _ _ _) ?_ | refine WL.bin rfl rfl rfl rfl (int_eq_f ‹_› _ _ _) ?_ | refine WL.bin rfl rfl rfl rfl (int_eq_d _ _ _ _ _) ?_ | refine WL.skip _ rfl rfl rfl ?_
        first | refine WL.move rfl rfl rfl ?_ | refine WL.skip _ rfl rfl rfl ?_
        first | refine WL.move rfl rfl rfl ?_ | refine WL.skip _ rfl rfl rfl ?_
        first | refine WL.bin rfl rfl rfl rfl (int_ne_f rfl _ _ _) ?_ | refine WL.bin rfl rfl rfl rfl (int_ne_t ‹_› _ _ _) ?_ | refine WL.bin rfl rfl rfl rfl (int_ne_f ‹_› _ _ _) ?_ | refine WL.bin rfl rfl rfl rfl (int_ne_t (by decide) _ _ _) ?_ | refine WL.bin rfl rfl rfl rfl (int_ne_d _ _ _ _ _) ?_ | refine WL.skip _ rfl rfl rfl ?_
        first | refine WL.pick rfl rfl rfl rfl ?_ | refine WL.skip _ rfl rfl rfl ?_
        first | refine WL.pick rfl rfl rfl rfl ?_
        first | refine WL.move rfl rfl rfl ?_
        first | refine WL.move rfl rfl rfl ?_ | refine WL.skip _ rfl rfl rfl ?_
        first | refine WL.move rfl rfl rfl ?_ | refine WL.skip _ rfl rfl rfl ?_
        first | refine WL.bin rfl rfl rfl rfl (int_gt_t ‹_› _ _ _) ?_ | refine WL.bin rfl rfl rfl rfl (int_gt_f ‹_› _ _ _) ?_ | refine WL.bin rfl rfl rfl rfl (int_gt_d _ _ _ _ _) ?_ | refine WL.skip _ rfl rfl rfl ?_
        first | refine WL.move rfl rfl rfl ?_ | refine WL.skip _ rfl rfl rfl ?_
        first | refine WL.move rfl rfl rfl ?_ | refine WL.skip _ rfl rfl rfl ?_
        first | refine WL.bin rfl rfl rfl rfl (int_ne_f rfl _ _ _) ?_ | refine WL.bin rfl rfl rfl rfl (int_ne_t ‹_› _ _ _) ?_ | refine WL.bin rfl rfl rfl rfl (int_ne_f ‹_› _ _ _) ?_ | refine WL.bin rfl rfl rfl rfl (int_ne_t (by decide) _ _ _) ?_ | refine WL.bin rfl rfl rfl rfl (int_ne_d _ _ _ _ _) ?_ | refine WL.skip _ rfl rfl rfl ?_
        first | refine WL.pick rfl rfl rfl rfl ?_ | refine WL.skip _ rfl rfl rfl ?_
        first | refine WL.pick rfl rfl rfl rfl ?_
        refine WL.done ?_
        refine EW.on ?_
        refine EW.cond_f rfl ?_
        refine EW.skip ?_
        refine pn_block ?_
        refine EW.on ?_
        refine EW.region ?_
        first | refine WL.move rfl rfl rfl ?_
        first | refine WL.bin rfl rfl rfl rfl (int_add ‹_› _ _ _) ?_
        first | refine WL.assign rfl rfl rfl ?_
        refine WL.done ?_
        refine EW.again (E := pfE v6 q4 p) (R := PfR w8 rs6.length) (m := fun t => rs6.length - t) (x := t) (t + 1) [4, 9, 11, 13] rfl ⟨bei8.trans (h13.mono bei8.size), by omega⟩ (by show rs6.length - (t + 1) < rs6.length - t; omega)
      · have z1 : ¬ (t : Int) < (p : Int) := by omega
        have z2 : ¬ (t : Int) = (p : Int) := by omega
        have z3 : (p : Int) < (t : Int) := by omega
        have z4 : cv = 1 := by
          have := hpg (by rw [hp6]; exact htp) (d_at hy)
          have : 0 < cv := by rw [← hcv]; exact this
          omega
        refine EW.region ?_
        first | refine WL.move rfl rfl rfl ?_
        first | refine WL.move rfl rfl rfl ?_
        first | refine WL.bin rfl rfl rfl rfl (int_lt_t ‹_› _ _ _) ?_ | refine WL.bin rfl rfl rfl rfl (int_lt_f ‹_› _ _ _) ?_ | refine WL.bin rfl rfl rfl rfl (int_lt_d _ _ _ _ _) ?_
        first | refine WL.move rfl rfl rfl ?_
        first | refine WL.move rfl rfl rfl ?_ | refine WL.skip _ rfl rfl rfl ?_
        first | refine WL.bin rfl rfl rfl rfl (int_ne_f rfl _ _ _) ?_ | refine WL.bin rfl rfl rfl rfl (int_ne_t ‹_› _ _ _) ?_ | refine WL.bin rfl rfl rfl rfl (int_ne_f ‹_› _ _ _) ?_ | refine WL.bin rfl rfl rfl rfl (int_ne_t (by decide) _ _ _) ?_ | refine WL.bin rfl rfl rfl rfl (int_ne_d _ _ _ _ _) ?_ | refine WL.skip _ rfl rfl rfl ?_
        first | refine WL.pick rfl rfl rfl rfl ?_
        first | refine WL.move rfl rfl rfl ?_
        first | refine WL.move rfl rfl rfl ?_ | refine WL.skip _ rfl rfl rfl ?_
        first | refine WL.move rfl rfl rfl ?_ | refine WL.skip _ rfl rfl rfl ?_
        first | refine WL.bin rfl rfl rfl rfl (int_eq_t rfl _ _ _) ?_ | refine WL.bin rfl rfl rfl rfl (int_eq_t ‹_› _ _ _) ?_ | refine WL.bin rfl rfl rfl rfl (int_eq_f ‹_› _ _ _) ?_ | refine WL.bin rfl rfl rfl rfl (int_eq_d _ _ _ _ _) ?_ | refine WL.skip _ rfl rfl rfl ?_
        first | refine WL.move rfl rfl rfl ?_ | refine WL.skip _ rfl rfl rfl ?_
        first | refine WL.move rfl rfl rfl ?_ | refine WL.skip _ rfl rfl rfl ?_
        first | refine WL.bin rfl rfl rfl rfl (int_ne_f rfl _ _ _) ?_ | refine WL.bin rfl rfl rfl rfl (int_ne_t ‹_› _ _ _) ?_ | refine WL.bin rfl rfl rfl rfl (int_ne_f ‹_› _ _ _) ?_ | refine WL.bin rfl rfl rfl rfl (int_ne_t (by decide) _ _ _) ?_ | refine WL.bin rfl rfl rfl rfl (int_ne_d _ _ _ _ _) ?_ | refine WL.skip _ rfl rfl rfl ?_
        first | refine WL.pick rfl rfl rfl rfl ?_ | refine WL.skip _ rfl rfl rfl ?_
        first | refine WL.pick rfl rfl rfl rfl ?_
        first | refine WL.move rfl rfl rfl ?_
        first | refine WL.move rfl rfl rfl ?_ | refine WL.skip _ rfl rfl rfl ?_
        first | refine WL.move rfl rfl rfl ?_ | refine WL.skip _ rfl rfl rfl ?_
        first | refine WL.bin rfl rfl rfl rfl (int_gt_t ‹_› _ _ _) ?_ | refine WL.bin rfl rfl rfl rfl (int_gt_f ‹_› _ _ _) ?_ | refine WL.bin rfl rfl rfl rfl (int_gt_d _ _ _ _ _) ?_ | refine WL.skip _ rfl rfl rfl ?_
        first | refine WL.move rfl rfl rfl ?_ | refine WL.skip _ rfl rfl rfl ?_
        first | refine WL.move rfl rfl rfl ?_ | refine WL.skip _ rfl rfl rfl ?_
        first | refine WL.bin rfl rfl rfl rfl (int_ne_f rfl _ _ _) ?_ | refine WL.bin rfl rfl rfl rfl (int_ne_t ‹_› _ _ _) ?_ | refine WL.bin rfl rfl rfl rfl (int_ne_f ‹_› _ _ _) ?_ | refine WL.bin rfl rfl rfl rfl (int_ne_t (by decide) _ _ _) ?_ | refine WL.bin rfl rfl rfl rfl (int_ne_d _ _ _ _ _) ?_ | refine WL.skip _ rfl rfl rfl ?_
        first | refine WL.pick rfl rfl rfl rfl ?_ | refine WL.skip _ rfl rfl rfl ?_
        first | refine WL.pick rfl rfl rfl rfl ?_
        refine WL.done ?_
        refine EW.on ?_
        refine EW.cond_f rfl ?_
        refine EW.skip ?_
        refine pn_block ?_
        refine EW.on ?_
        refine EW.region ?_
        first | refine WL.move rfl rfl rfl ?_
        first | refine WL.bin rfl rfl rfl rfl (int_add ‹_› _ _ _) ?_
        first | refine WL.assign rfl rfl rfl ?_
        refine WL.done ?_
        refine EW.again (E := pfE v6 q4 p) (R := PfR w8 rs6.length) (m := fun t => rs6.length - t) (x := t) (t + 1) [4, 9, 11, 13] rfl ⟨bei8.trans (h13.mono bei8.size), by omega⟩ (by show rs6.length - (t + 1) < rs6.length - t; omega)
    · refine EW.exit ?_
      refine px_then ?_
      refine px_then ?_
      refine px_block ?_
      refine EW.on ?_
      refine EW.seq ?_
      have hLi := hL6.below bei
      have bxi := bx7.on bei
      have okxi := okx7.below bei
      refine EW.region ?_
      first | refine WL.move rfl rfl rfl ?_
      first | refine WL.field rfl rfl rfl (rfld0 q4 _) ?_
      first | refine WL.load rfl rfl rfl (ldI bxi rfl) ?_ | refine WL.load rfl rfl rfl (ldI by6 rfl) ?_
      first | refine WL.field rfl rfl rfl (rfld1 q4 _) ?_
      first | refine WL.load rfl rfl rfl (ldS bxi rfl) ?_ | refine WL.load rfl rfl rfl (ldS by6 rfl) ?_
      refine WL.call [v6, .int .i64 (mkR (rightD r.d) a1 b1).t, a1] enter17 rfl rfl rfl (delete_any v6 rs6 (mkR (rightD r.d) a1 b1).t a1 (mkR (rightD r.d) a1 b1).k _ hLi okxi.hk (by omega) hs6 hat6) ?_
      rintro _ w9 ⟨v9, rs9, rfl, hL9, hd9, be9⟩
      have okx9 := okxi.below be9
      have bx9 := bxi.on be9
      have e9 := ei.trans (be9.mono ei.size)
      replace hd9 : rs9.map RV.d = delD (rs6.map RV.d) (mkR (rightD r.d) a1 b1).d := hd9
      have hs9 : Srt (rs9.map RV.d) := by rw [hd9]; exact hs6.del _
      have hl9 : rs9.length ≤ 62 := by have e1 := congrArg List.length hd9; have e2 := del_len hat6; rw [List.length_map] at e1 e2; omega
      refine ⟨_, rfl, ?_⟩
      first | refine WL.move rfl rfl rfl ?_
      first | refine WL.extract rfl rfl rfl (ext_2 _ _ _).1 ?_
      first | refine WL.extract rfl rfl rfl (ext_2 _ _ _).2 ?_
      first | refine WL.assign rfl rfl rfl ?_
      first | refine WL.assign rfl rfl rfl ?_
      refine WL.done ?_
      refine EW.on ?_
      refine EW.seq ?_
      refine EW.region ?_
      first | refine WL.move rfl rfl rfl ?_
      first | refine WL.field rfl rfl rfl (rfld0 q4 _) ?_
      first | refine WL.load rfl rfl rfl (ldI bx9 rfl) ?_ | refine WL.load rfl rfl rfl (ldI by9 rfl) ?_
      first | refine WL.field rfl rfl rfl (rfld1 q4 _) ?_
      first | refine WL.load rfl rfl rfl (ldS bx9 rfl) ?_ | refine WL.load rfl rfl rfl (ldS by9 rfl) ?_
      refine WL.call [v9, .int .i64 (mkR (rightD r.d) a1 b1).t, a1] enter16 rfl rfl rfl (find_any v9 rs9 (mkR (rightD r.d) a1 b1).t a1 (mkR (rightD r.d) a1 b1).k _ hL9 okx9.hk (by omega) hs9) ?_
      rintro _ w10 ⟨rfl, be10⟩
      have okx10 := okx9.below be10
      have bx10 := bx9.on be10
      have e10 := e9.trans (be10.mono e9.size)
      rw [show placeN (rs9.map RV.d) ⟨(mkR (rightD r.d) a1 b1).t, (mkR (rightD r.d) a1 b1).k, []⟩ = p from by rw [hd9]; exact (del_place hs6 hat6).trans hp6, show isAt (rs9.map RV.d) ⟨(mkR (rightD r.d) a1 b1).t, (mkR (rightD r.d) a1 b1).k, []⟩ = false from by rw [hd9]; exact del_no hs6 hat6]
      refine ⟨_, rfl, ?_⟩
      first | refine WL.move rfl rfl rfl ?_
      first | refine WL.extract rfl rfl rfl (ext_2 _ _ _).1 ?_
      first | refine WL.extract rfl rfl rfl (ext_2 _ _ _).2 ?_
      first | refine WL.assign rfl rfl rfl ?_
      first | refine WL.assign rfl rfl rfl ?_
      refine WL.done ?_
      refine EW.on ?_
      refine EW.seq ?_
      refine EW.region ?_
      first | refine WL.move rfl rfl rfl ?_
      first | refine WL.field rfl rfl rfl (rfld0 q4 _) ?_
      first | refine WL.load rfl rfl rfl (ldI bx10 rfl) ?_ | refine WL.load rfl rfl rfl (ldI by10 rfl) ?_
      first | refine WL.field rfl rfl rfl (rfld1 q4 _) ?_
      first | refine WL.load rfl rfl rfl (ldS bx10 rfl) ?_ | refine WL.load rfl rfl rfl (ldS by10 rfl) ?_
      refine WL.call [v9, .int .i64 (mkR (rightD r.d) a1 b1).t, a1] enter17 rfl rfl rfl (delete_no v9 rs9 (mkR (rightD r.d) a1 b1).t a1 (mkR (rightD r.d) a1 b1).k _ (hL9.below be10) okx10.hk (by omega) hs9 (by rw [hd9]; exact del_no hs6 hat6)) ?_
      rintro _ w11 ⟨rfl, be11⟩
      have e11 := e10.trans (be11.mono e10.size)
      refine ⟨_, rfl, ?_⟩
      first | refine WL.move rfl rfl rfl ?_
      first | refine WL.extract rfl rfl rfl (ext_2 _ _ _).1 ?_
      first | refine WL.extract rfl rfl rfl (ext_2 _ _ _).2 ?_
      first | refine WL.assign rfl rfl rfl ?_
      first | refine WL.assign rfl rfl rfl ?_
      refine WL.done ?_
      refine EW.on ?_
      refine EW.seq ?_
      refine EW.region ?_
      first | refine WL.move rfl rfl rfl ?_
      first | refine WL.bin rfl rfl rfl rfl (int_eq_t rfl _ _ _) ?_ | refine WL.bin rfl rfl rfl rfl (int_eq_t ‹_› _ _ _) ?_ | refine WL.bin rfl rfl rfl rfl (int_eq_f ‹_› _ _ _) ?_ | refine WL.bin rfl rfl rfl rfl (int_eq_d _ _ _ _ _) ?_
      first | refine WL.move rfl rfl rfl ?_
      first | refine WL.move rfl rfl rfl ?_ | refine WL.skip _ rfl rfl rfl ?_
      first | refine WL.un rfl rfl rfl (not_t _ _) ?_ | refine WL.skip _ rfl rfl rfl ?_
      first | refine WL.pick rfl rfl rfl rfl ?_
      first | refine WL.move rfl rfl rfl ?_
      first | refine WL.move rfl rfl rfl ?_ | refine WL.skip _ rfl rfl rfl ?_
      first | refine WL.move rfl rfl rfl ?_ | refine WL.skip _ rfl rfl rfl ?_
      first | refine WL.bin rfl rfl rfl rfl (int_eq_t rfl _ _ _) ?_ | refine WL.bin rfl rfl rfl rfl (int_eq_t ‹_› _ _ _) ?_ | refine WL.bin rfl rfl rfl rfl (int_eq_f ‹_› _ _ _) ?_ | refine WL.bin rfl rfl rfl rfl (int_eq_d _ _ _ _ _) ?_ | refine WL.skip _ rfl rfl rfl ?_
      first | refine WL.pick rfl rfl rfl rfl ?_
      first | refine WL.move rfl rfl rfl ?_
      first | refine WL.move rfl rfl rfl ?_ | refine WL.skip _ rfl rfl rfl ?_
      first | refine WL.bin rfl rfl rfl rfl (int_eq_t rfl _ _ _) ?_ | refine WL.bin rfl rfl rfl rfl (int_eq_t ‹_› _ _ _) ?_ | refine WL.bin rfl rfl rfl rfl (int_eq_f ‹_› _ _ _) ?_ | refine WL.bin rfl rfl rfl rfl (int_eq_d _ _ _ _ _) ?_ | refine WL.skip _ rfl rfl rfl ?_
      first | refine WL.pick rfl rfl rfl rfl ?_
      first | refine WL.assign rfl rfl rfl ?_
      refine WL.done ?_
      refine EW.on ?_
      refine EW.ret ?_
      exact EW.returns Try.results4 rfl ⟨rfl, e11⟩
  · have hcz : c = 0 := hc.symm.trans (cd_of hT hK)
    obtain ⟨kb, hkb, hkt⟩ : ∃ kb, decide ((mkR (rightD r.d) a1 b1).k = (mkR (rightD s.d) a2 b2).k) = kb ∧ kb = true := ⟨_, rfl, decide_eq_true hK⟩
    subst hkt
    have hb21 : true = true := rfl
    have hb29 : decide (c < 0) = decide (cmpD (mkR (rightD r.d) a1 b1).d (mkR (rightD s.d) a2 b2).d < 0) := by rw [← hc]; rfl
    refine EW.region ?_
    first | refine WL.move rfl rfl rfl ?_
    first | refine WL.load rfl rfl rfl (ld32 bx4a) ?_ | refine WL.load rfl rfl rfl (ld32 by4a) ?_
    first | refine WL.load rfl rfl rfl (ld32 bx4a) ?_ | refine WL.load rfl rfl rfl (ld32 by4a) ?_
    refine WL.call [(mkR (rightD s.d) a2 b2).val, (mkR (rightD r.d) a1 b1).val] enter13 rfl rfl rfl (cmpr_any (mkR (rightD s.d) a2 b2) (mkR (rightD r.d) a1 b1) _ oky4a okx4a) ?_
    rintro _ w5 ⟨rfl, be5⟩
    have bx5 := bx4a.on be5
    have by5 := by4a.on be5
    have okx5 := okx4a.below be5
    have oky5 := oky4a.below be5
    have hw5 := hw4a.below be5
    have e5 := e4a.trans (be5.mono e4a.size)
    refine ⟨_, rfl, ?_⟩
    refine WL.un rfl rfl rfl (neg_i hneg _) ?_
    first | refine WL.bin rfl rfl rfl rfl (int_ne_f rfl _ _ _) ?_ | refine WL.bin rfl rfl rfl rfl (int_ne_t ‹_› _ _ _) ?_ | refine WL.bin rfl rfl rfl rfl (int_ne_f ‹_› _ _ _) ?_ | refine WL.bin rfl rfl rfl rfl (int_ne_t (by decide) _ _ _) ?_ | refine WL.bin rfl rfl rfl rfl (int_ne_d _ _ _ _ _) ?_
    first | refine WL.move rfl rfl rfl ?_
    first | refine WL.move rfl rfl rfl ?_ | refine WL.skip _ rfl rfl rfl ?_
    first | refine WL.bin rfl rfl rfl rfl (int_eq_t rfl _ _ _) ?_ | refine WL.bin rfl rfl rfl rfl (int_eq_t ‹_› _ _ _) ?_ | refine WL.bin rfl rfl rfl rfl (int_eq_f ‹_› _ _ _) ?_ | refine WL.bin rfl rfl rfl rfl (int_eq_d _ _ _ _ _) ?_ | refine WL.skip _ rfl rfl rfl ?_
    first | refine WL.field rfl rfl rfl (rfld0 q4 _) ?_ | refine WL.skip _ rfl rfl rfl ?_
    first | refine WL.load rfl rfl rfl (ldI bx5 rfl) ?_ | refine WL.load rfl rfl rfl (ldI by5 rfl) ?_ | refine WL.skip _ rfl rfl rfl ?_
    first | refine WL.field rfl rfl rfl (rfld0 q5 _) ?_ | refine WL.skip _ rfl rfl rfl ?_
    first | refine WL.load rfl rfl rfl (ldI bx5 rfl) ?_ | refine WL.load rfl rfl rfl (ldI by5 rfl) ?_ | refine WL.skip _ rfl rfl rfl ?_
    first | refine WL.bin rfl rfl rfl rfl (int_eq_t rfl _ _ _) ?_ | refine WL.bin rfl rfl rfl rfl (int_eq_t ‹_› _ _ _) ?_ | refine WL.bin rfl rfl rfl rfl (int_eq_f ‹_› _ _ _) ?_ | refine WL.bin rfl rfl rfl rfl (int_eq_d _ _ _ _ _) ?_ | refine WL.skip _ rfl rfl rfl ?_
    first | refine WL.move rfl rfl rfl ?_ | refine WL.skip _ rfl rfl rfl ?_
    first | refine WL.field rfl rfl rfl (rfld1 q4 _) ?_ | refine WL.skip _ rfl rfl rfl ?_
    first | refine WL.load rfl rfl rfl (ldS bx5 rfl) ?_ | refine WL.load rfl rfl rfl (ldS by5 rfl) ?_ | refine WL.skip _ rfl rfl rfl ?_
    first | refine WL.field rfl rfl rfl (rfld1 q5 _) ?_ | refine WL.skip _ rfl rfl rfl ?_
    first | refine WL.load rfl rfl rfl (ldS bx5 rfl) ?_ | refine WL.load rfl rfl rfl (ldS by5 rfl) ?_ | refine WL.skip _ rfl rfl rfl ?_
    first | refine WL.call [a1, a2] enter9 rfl rfl rfl (eq_any a1 a2 _ _ _ okx5.hk oky5.hk) ?_
    rintro _ wz ⟨rfl, hz⟩
    rw [hz]
    rw [hkb]
    refine ⟨_, rfl, ?_⟩
    first | refine WL.pick rfl rfl rfl rfl ?_ | refine WL.skip _ rfl rfl rfl ?_
    first | refine WL.bin rfl rfl rfl rfl (bool_ne_f hb21 _ _ _) ?_ | refine WL.skip _ rfl rfl rfl ?_
    first | refine WL.pick rfl rfl rfl rfl ?_
    first | refine WL.move rfl rfl rfl ?_
    first | refine WL.move rfl rfl rfl ?_ | refine WL.skip _ rfl rfl rfl ?_
    first | refine WL.bin rfl rfl rfl rfl (int_lt_t ‹_› _ _ _) ?_ | refine WL.bin rfl rfl rfl rfl (int_lt_f ‹_› _ _ _) ?_ | refine WL.bin rfl rfl rfl rfl (int_lt_d _ _ _ _ _) ?_ | refine WL.skip _ rfl rfl rfl ?_
    first | refine WL.load rfl rfl rfl (ld32 bx5) ?_ | refine WL.load rfl rfl rfl (ld32 by5) ?_ | refine WL.skip _ rfl rfl rfl ?_
    first | refine WL.load rfl rfl rfl (ld32 bx5) ?_ | refine WL.load rfl rfl rfl (ld32 by5) ?_ | refine WL.skip _ rfl rfl rfl ?_
    refine WL.call [(mkR (rightD r.d) a1 b1).val, (mkR (rightD s.d) a2 b2).val] enter14 rfl rfl rfl (ahead_any (mkR (rightD r.d) a1 b1) (mkR (rightD s.d) a2 b2) _ okx5 oky5) ?_
    rintro _ w5b ⟨rfl, be5b⟩
    have bx5b := bx5.on be5b
    have by5b := by5.on be5b
    have okx5b := okx5.below be5b
    have oky5b := oky5.below be5b
    have hw5b := hw5.below be5b
    have e5b := e5.trans (be5b.mono e5.size)
    refine ⟨_, rfl, ?_⟩
    first | refine WL.bin rfl rfl rfl rfl (bool_ne_f hb29 _ _ _) ?_ | refine WL.skip _ rfl rfl rfl ?_
    first | refine WL.pick rfl rfl rfl rfl ?_
    first | refine WL.move rfl rfl rfl ?_
    first | refine WL.load rfl rfl rfl (ld32 bx5b) ?_ | refine WL.load rfl rfl rfl (ld32 by5b) ?_ | refine WL.skip _ rfl rfl rfl ?_
    first | refine WL.load rfl rfl rfl (ld32 bx5b) ?_ | refine WL.load rfl rfl rfl (ld32 by5b) ?_ | refine WL.skip _ rfl rfl rfl ?_
    refine WL.call [(mkR (rightD r.d) a1 b1).val, (mkR (rightD r.d) a1 b1).val] enter13 rfl rfl rfl (cmpr_any (mkR (rightD r.d) a1 b1) (mkR (rightD r.d) a1 b1) _ okx5b okx5b) ?_
    rintro _ w5c ⟨rfl, be5c⟩
    have bx5c := bx5b.on be5c
    have by5c := by5b.on be5c
    have okx5c := okx5b.below be5c
    have oky5c := oky5b.below be5c
    have hw5c := hw5b.below be5c
    have e5c := e5b.trans (be5c.mono e5b.size)
    rw [show cmpR (mkR (rightD r.d) a1 b1) (mkR (rightD r.d) a1 b1) = 0 from cd_refl _]
    refine ⟨_, rfl, ?_⟩
    first | refine WL.bin rfl rfl rfl rfl (int_ne_f rfl _ _ _) ?_ | refine WL.bin rfl rfl rfl rfl (int_ne_t ‹_› _ _ _) ?_ | refine WL.bin rfl rfl rfl rfl (int_ne_f ‹_› _ _ _) ?_ | refine WL.bin rfl rfl rfl rfl (int_ne_t (by decide) _ _ _) ?_ | refine WL.bin rfl rfl rfl rfl (int_ne_d _ _ _ _ _) ?_ | refine WL.skip _ rfl rfl rfl ?_
    first | refine WL.pick rfl rfl rfl rfl ?_
    refine WL.done ?_
    refine EW.on ?_
    refine EW.cond_f rfl ?_
    refine EW.skip ?_
    refine EW.on ?_
    refine EW.seq ?_
    refine EW.region ?_
    first | refine WL.move rfl rfl rfl ?_
    first | refine WL.load rfl rfl rfl (ld32 bx5c) ?_ | refine WL.load rfl rfl rfl (ld32 by5c) ?_
    refine WL.call [vw, (mkR (rightD r.d) a1 b1).val] enter15 rfl rfl rfl (put_any vw rs (mkR (rightD r.d) a1 b1) _ hw5c okx5c (right_ok _) (by omega) hsr) ?_
    rintro _ w6 ⟨v6, rs6, rfl, hL6', hd6, be6⟩
    have bx6 := bx5c.on be6
    have by6 := by5c.on be6
    have okx6 := okx5c.below be6
    have oky6 := oky5c.below be6
    have hw6 := hw5c.below be6
    have e6 := e5c.trans (be6.mono e5c.size)
    refine ⟨_, rfl, ?_⟩
    first | refine WL.move rfl rfl rfl ?_
    first | refine WL.extract rfl rfl rfl (ext_2 _ _ _).1 ?_
    first | refine WL.extract rfl rfl rfl (ext_2 _ _ _).2 ?_
    first | refine WL.assign rfl rfl rfl ?_
    first | refine WL.assign rfl rfl rfl ?_
    refine WL.done ?_
    have hs6 : Srt (rs6.map RV.d) := by rw [hd6]; exact hsr.ins (right_ok _)
    have hl6 : rs6.length ≤ 61 := by
      have e1 := congrArg List.length hd6
      have e2 := ins_len (rs.map RV.d) (mkR (rightD r.d) a1 b1).d
      rw [List.length_map] at e1 e2
      omega
    have hat6 : isAt (rs6.map RV.d) (mkR (rightD r.d) a1 b1).d = true := by rw [hd6]; exact ins_at hsr (right_ok _)
    obtain ⟨p, hp6⟩ : ∃ p, placeN (rs6.map RV.d) (mkR (rightD r.d) a1 b1).d = p := ⟨_, rfl⟩
    have hplt := isAt_lt hat6
    rw [hp6, List.length_map] at hplt
    refine EW.on ?_
    refine EW.seq ?_
    refine EW.region ?_
    first | refine WL.move rfl rfl rfl ?_
    first | refine WL.field rfl rfl rfl (rfld0 q4 _) ?_
    first | refine WL.load rfl rfl rfl (ldI bx6 rfl) ?_ | refine WL.load rfl rfl rfl (ldI by6 rfl) ?_
    first | refine WL.field rfl rfl rfl (rfld1 q4 _) ?_
    first | refine WL.load rfl rfl rfl (ldS bx6 rfl) ?_ | refine WL.load rfl rfl rfl (ldS by6 rfl) ?_
    refine WL.call [v6, .int .i64 (mkR (rightD r.d) a1 b1).t, a1] enter16 rfl rfl rfl (find_any v6 rs6 (mkR (rightD r.d) a1 b1).t a1 (mkR (rightD r.d) a1 b1).k _ hL6' okx6.hk (by omega) hs6) ?_
    rintro _ w7 ⟨rfl, be7⟩
    have bx7 := bx6.on be7
    have by7 := by6.on be7
    have okx7 := okx6.below be7
    have oky7 := oky6.below be7
    have hw7 := hw6.below be7
    have e7 := e6.trans (be7.mono e6.size)
    rw [show placeN (rs6.map RV.d) ⟨(mkR (rightD r.d) a1 b1).t, (mkR (rightD r.d) a1 b1).k, []⟩ = p from hp6, show isAt (rs6.map RV.d) ⟨(mkR (rightD r.d) a1 b1).t, (mkR (rightD r.d) a1 b1).k, []⟩ = true from hat6]
    have hL6 := hL6'.below be7
    refine ⟨_, rfl, ?_⟩
    first | refine WL.move rfl rfl rfl ?_
    first | refine WL.extract rfl rfl rfl (ext_2 _ _ _).1 ?_
    first | refine WL.extract rfl rfl rfl (ext_2 _ _ _).2 ?_
    first | refine WL.assign rfl rfl rfl ?_
    first | refine WL.assign rfl rfl rfl ?_
    refine WL.done ?_
    obtain ⟨y, hy⟩ : ∃ y, rs6[p]? = some y := ⟨_, List.getElem?_eq_getElem hplt⟩
    obtain ⟨ad, iy, ay⟩ := hL6.item hy
    have oky := hL6.ok y (List.mem_of_getElem? hy)
    have hyd : y.d = (mkR (rightD r.d) a1 b1).d := by
      have e1 := d_at hy
      rw [← hp6, hd6, ins_place (x := (mkR (rightD r.d) a1 b1).d) hsr (right_ok r.d), ins_getP] at e1
      exact (Option.some.inj e1).symm
    have heq : decide (y.v = (mkR (rightD r.d) a1 b1).v) = true := decide_eq_true (congrArg Rc.v hyd)
    have zp0 : ¬ (p : Int) < 0 := by omega
    have zp1 : ¬ (rs6.length : Int) ≤ (p : Int) := by omega
    refine EW.on ?_
    refine EW.seq ?_
    refine EW.seq ?_
    refine EW.ordB [(0, 0, 0), (1, 0, 0), (2, 0, 0), (3, 0, 0), (4, 0, 0), (5, 0, 0), (6, 0, 0), (7, 0, 0), (8, 0, 0), (9, 0, 0), (10, 0, 0), (11, 0, 0), (12, 0, 0), (13, 0, 0), (14, 0, 0), (15, 0, 0), (16, 0, 0), (17, 0, 0), (18, 0, 0), (19, 0, 0), (20, 0, 0), (21, 0, 1), (22, 0, 0), (23, 0, 1), (24, 1, 1), (25, 0, 0), (26, 0, 0)] (by kernel_rfl) rfl (by kernel_rfl) ?_
    simp only [opsZ, List.getD_cons_zero, List.getD_cons_succ]
    first | refine ZE.move rfl rfl rfl rfl sz0 ?_
    first | refine ZE.bin rfl rfl rfl rfl rfl sz0 (fun W => int_ne_f rfl W _ _) ?_ | refine ZE.bin rfl rfl rfl rfl rfl sz0 (fun W => int_ne_t ‹_› W _ _) ?_ | refine ZE.bin rfl rfl rfl rfl rfl sz0 (fun W => int_ne_f ‹_› W _ _) ?_ | refine ZE.bin rfl rfl rfl rfl rfl sz0 (fun W => int_ne_t (by decide) W _ _) ?_ | refine ZE.bin rfl rfl rfl rfl rfl sz0 (fun W => int_ne_d _ _ W _ _) ?_
    first | refine ZE.move rfl rfl rfl rfl sz0 ?_
    first | refine ZE.move rfl rfl rfl rfl sz0 ?_ | refine ZE.skip rfl rfl rfl sz0 ?_
    first | refine ZE.un rfl rfl rfl rfl sz0 (fun W => not_t _ W) ?_ | refine ZE.skip rfl rfl rfl sz0 ?_
    first | refine ZE.pick rfl rfl rfl rfl rfl sz0 ?_
    first | refine ZE.move rfl rfl rfl rfl sz0 ?_
    first | refine ZE.move rfl rfl rfl rfl sz0 ?_ | refine ZE.skip rfl rfl rfl sz0 ?_
    first | refine ZE.bin rfl rfl rfl rfl rfl sz0 (fun W => int_lt_t ‹_› W _ _) ?_ | refine ZE.bin rfl rfl rfl rfl rfl sz0 (fun W => int_lt_f ‹_› W _ _) ?_ | refine ZE.bin rfl rfl rfl rfl rfl sz0 (fun W => int_lt_d _ _ W _ _) ?_ | refine ZE.skip rfl rfl rfl sz0 ?_
    first | refine ZE.pick rfl rfl rfl rfl rfl sz0 ?_
    first | refine ZE.move rfl rfl rfl rfl sz0 ?_
    first | refine ZE.move rfl rfl rfl rfl sz0 ?_ | refine ZE.skip rfl rfl rfl sz0 ?_
    first | refine ZE.move rfl rfl rfl rfl sz0 ?_ | refine ZE.skip rfl rfl rfl sz0 ?_
    refine ZE.len rfl rfl rfl rfl sz0 (fun W => hL6.len W _) ?_
    first | refine ZE.bin rfl rfl rfl rfl rfl sz0 (fun W => int_ge_t ‹_› W _ _) ?_ | refine ZE.bin rfl rfl rfl rfl rfl sz0 (fun W => int_ge_f ‹_› W _ _) ?_ | refine ZE.bin rfl rfl rfl rfl rfl sz0 (fun W => int_ge_d _ _ W _ _) ?_ | refine ZE.skip rfl rfl rfl sz0 ?_
    first | refine ZE.pick rfl rfl rfl rfl rfl sz0 ?_
    first | refine ZE.move rfl rfl rfl rfl sz0 ?_
    first | refine ZE.move rfl rfl rfl rfl sz0 ?_ | refine ZE.skip rfl rfl rfl sz0 ?_
    first | refine ZE.move rfl rfl rfl rfl sz0 ?_ | refine ZE.skip rfl rfl rfl sz0 ?_
    first | refine ZE.index rfl rfl rfl rfl rfl sz0 (fun W => iy W) ?_ | refine ZE.skip rfl rfl rfl sz0 ?_
    first | refine ZE.field rfl rfl rfl rfl sz0 (fun W => rfldA ad W) ?_ | refine ZE.field rfl rfl rfl rfl sz0 (fun W => rfld2 q4 W) ?_
    first | refine ZE.load rfl rfl rfl rfl sz1 (fun W hW => ldSA (ay.below (sb_of hW))) ?_ | refine ZE.load rfl rfl rfl rfl sz1 (fun W hW => ldS (bx7.on (sb_of hW)) rfl) ?_
    first | refine ZE.field rfl rfl rfl rfl sz0 (fun W => rfldA ad W) ?_ | refine ZE.field rfl rfl rfl rfl sz0 (fun W => rfld2 q4 W) ?_
    first | refine ZE.load rfl rfl rfl rfl sz1 (fun W hW => ldSA (ay.below (sb_of hW))) ?_ | refine ZE.load rfl rfl rfl rfl sz1 (fun W hW => ldS (bx7.on (sb_of hW)) rfl) ?_
    refine ZE.callB (v := .bool true) [y.vv, (mkR (rightD r.d) a1 b1).vv] enter9 rfl rfl rfl (fun W h => .inr h) (fun W hW => (eq_any _ _ _ _ W (oky.hv.below hW) (okx7.hv.below hW)).mono fun e w' h => ⟨by rw [h.1, heq], by rw [h.2]; exact Below.refl _ _⟩) ?_
    first | refine ZE.un rfl rfl rfl rfl sz0 (fun W => not_t _ W) ?_ | refine ZE.skip rfl rfl rfl sz0 ?_
    first | refine ZE.pick rfl rfl rfl rfl rfl sz0 ?_
    intro w8 h8
    refine EW.on ?_
    refine EW.cond_f rfl ?_
    refine EW.skip ?_
    refine EW.on ?_
    refine EW.seq ?_
    refine EW.seq ?_
    refine EW.region ?_
    first | refine WL.assign rfl rfl rfl ?_
    refine WL.done ?_
    refine EW.on ?_
    refine EW.block ?_
    refine EW.loop (pfE v6 q4 p) (PfR w8 rs6.length) (fun t => rs6.length - t) 0 [4, 9, 11, 13] rfl ⟨Below.refl _ _, Nat.zero_le _⟩ ?_
    rintro t wi ⟨bei8, htl⟩
    have bei := h8.trans (bei8.mono h8.size)
    have ei := e7.trans (bei.mono e7.size)
    show EW _ _ _ _ [(4, .pointer (some ⟨q4, 0, none⟩)), (9, v6), (11, .int .i64 (p : Int)), (13, .int .i64 (t : Int))] _
    refine EW.seq ?_
    refine EW.seq ?_
    refine EW.region ?_
    first | refine WL.move rfl rfl rfl ?_
    first | refine WL.move rfl rfl rfl ?_
    refine WL.len rfl rfl rfl (hL6.len _ _) ?_
    first | refine WL.bin rfl rfl rfl rfl (int_lt_t ‹_› _ _ _) ?_ | refine WL.bin rfl rfl rfl rfl (int_lt_f ‹_› _ _ _) ?_ | refine WL.bin rfl rfl rfl rfl (int_lt_d _ _ _ _ _) ?_
    refine WL.done ?_
    refine EW.on ?_
    refine EW.cond_d rfl (fun h112 => ?_) (fun h112 => ?_)
    · refine EW.skip ?_
      refine EW.on ?_
      refine EW.seq ?_
      refine EW.block ?_
      refine EW.seq ?_
      have ht : t < rs6.length := by omega
      have tn : IntKind.i64.wrap ((t : Int) + 1) = ((t + 1 : Nat) : Int) := by rw [IntKind.wrap_i64]; omega
      obtain ⟨y, hy⟩ : ∃ y, rs6[t]? = some y := ⟨_, List.getElem?_eq_getElem ht⟩
      have hLi := hL6.below bei
      have bxi := bx7.on bei
      have okxi := okx7.below bei
      obtain ⟨ad, iy, ay⟩ := hLi.item hy
      have oky := hLi.ok y (List.mem_of_getElem? hy)
      obtain ⟨cv, hcv⟩ : ∃ cv, cmpR y (mkR (rightD r.d) a1 b1) = cv := ⟨_, rfl⟩
      have hpl := place_lt (rs6.map RV.d) (mkR (rightD r.d) a1 b1).d t y.d
      have hpg := place_gt (k := t) hs6 (x := (mkR (rightD r.d) a1 b1).d) (y := y.d)
      have hvv : cv = -1 ∨ cv = 0 ∨ cv = 1 := by rw [← hcv]; exact cd_vals y.d (mkR (rightD r.d) a1 b1).d
      replace hcv : cmpR y (mkR (rightD r.d) a1 b1) = cv := hcv
      refine EW.ordB [(0, 0, 0), (1, 0, 0), (2, 0, 0), (3, 0, 1), (4, 0, 1), (5, 1, 1), (6, 0, 0)] (by kernel_rfl) rfl (by kernel_rfl) ?_
      simp only [opsZ, List.getD_cons_zero, List.getD_cons_succ]
      first | refine ZE.move rfl rfl rfl rfl sz0 ?_
      first | refine ZE.move rfl rfl rfl rfl sz0 ?_
      refine ZE.index rfl rfl rfl rfl rfl sz0 (fun W => iy W) ?_
      first | refine ZE.load rfl rfl rfl rfl sz1 (fun W hW => ldA (ay.below (sb_of hW))) ?_ | refine ZE.load rfl rfl rfl rfl sz1 (fun W hW => ld32 (bxi.on (sb_of hW))) ?_
      first | refine ZE.load rfl rfl rfl rfl sz1 (fun W hW => ldA (ay.below (sb_of hW))) ?_ | refine ZE.load rfl rfl rfl rfl sz1 (fun W hW => ld32 (bxi.on (sb_of hW))) ?_
      refine ZE.callB (v := .int .i64 cv) [y.val, (mkR (rightD r.d) a1 b1).val] enter13 rfl rfl rfl (fun W h => .inr h) (fun W hW => (cmpr_any y (mkR (rightD r.d) a1 b1) W (oky.below hW) (okxi.below hW)).mono fun e w' h => ⟨by rw [h.1, hcv], h.2⟩) ?_
      first | refine ZE.assign rfl rfl rfl rfl sz0 ?_
      intro w13 h13
      refine EW.on ?_
      refine EW.seq ?_
      rcases Nat.lt_trichotomy t p with htp | htp | htp
      · have z1 : (t : Int) < (p : Int) := by omega
        have z2 : ¬ (t : Int) = (p : Int) := by omega
        have z3 : ¬ (p : Int) < (t : Int) := by omega
        have z4 : cv = -1 := by
          have := hpl (by rw [hp6]; exact htp) (d_at hy)
          have : cv < 0 := by rw [← hcv]; exact this
          omega
        refine EW.region ?_
        first | refine WL.move rfl rfl rfl ?_
        first | refine WL.move rfl rfl rfl ?_
        first | refine WL.bin rfl rfl rfl rfl (int_lt_t ‹_› _ _ _) ?_ | refine WL.bin rfl rfl rfl rfl (int_lt_f ‹_› _ _ _) ?_ | refine WL.bin rfl rfl rfl rfl (int_lt_d _ _ _ _ _) ?_
        first | refine WL.move rfl rfl rfl ?_
        first | refine WL.move rfl rfl rfl ?_ | refine WL.skip _ rfl rfl rfl ?_
        first | refine WL.bin rfl rfl rfl rfl (int_ne_f rfl _ _ _) ?_ | refine WL.bin rfl rfl rfl rfl (int_ne_t ‹_› _ _ _) ?_ | refine WL.bin rfl rfl rfl rfl (int_ne_f ‹_› _ _ _) ?_ | refine WL.bin rfl rfl rfl rfl (int_ne_t (by decide) _ _ _) ?_ | refine WL.bin rfl rfl rfl rfl (int_ne_d _ _ _ _ _) ?_ | refine WL.skip _ rfl rfl rfl ?_
        first | refine WL.pick rfl rfl rfl rfl ?_
        first | refine WL.move rfl rfl rfl ?_
        first | refine WL.move rfl rfl rfl ?_ | refine WL.skip _ rfl rfl rfl ?_
        first | refine WL.move rfl rfl rfl ?_ | refine WL.skip _ rfl rfl rfl ?_
        first | refine WL.bin rfl rfl rfl rfl (int_eq_t rfl _ _ _) ?_ | refine WL.bin rfl rfl rfl rfl (int_eq_t ‹_› _ _ _) ?_ | refine WL.bin rfl rfl rfl rfl (int_eq_f ‹_› _ _ _) ?_ | refine WL.bin rfl rfl rfl rfl (int_eq_d _ _ _ _ _) ?_ | refine WL.skip _ rfl rfl rfl ?_
        first | refine WL.move rfl rfl rfl ?_ | refine WL.skip _ rfl rfl rfl ?_
        first | refine WL.move rfl rfl rfl ?_ | refine WL.skip _ rfl rfl rfl ?_
        first | refine WL.bin rfl rfl rfl rfl (int_ne_f rfl _ _ _) ?_ | refine WL.bin rfl rfl rfl rfl (int_ne_t ‹_› _ _ _) ?_ | refine WL.bin rfl rfl rfl rfl (int_ne_f ‹_› _ _ _) ?_ | refine WL.bin rfl rfl rfl rfl (int_ne_t (by decide) _ _ _) ?_ | refine WL.bin rfl rfl rfl rfl (int_ne_d _ _ _ _ _) ?_ | refine WL.skip _ rfl rfl rfl ?_
        first | refine WL.pick rfl rfl rfl rfl ?_ | refine WL.skip _ rfl rfl rfl ?_
        first | refine WL.pick rfl rfl rfl rfl ?_
        first | refine WL.move rfl rfl rfl ?_
        first | refine WL.move rfl rfl rfl ?_ | refine WL.skip _ rfl rfl rfl ?_
        first | refine WL.move rfl rfl rfl ?_ | refine WL.skip _ rfl rfl rfl ?_
        first | refine WL.bin rfl rfl rfl rfl (int_gt_t ‹_› _ _ _) ?_ | refine WL.bin rfl rfl rfl rfl (int_gt_f ‹_› _ _ _) ?_ | refine WL.bin rfl rfl rfl rfl (int_gt_d _ _ _ _ _) ?_ | refine WL.skip _ rfl rfl rfl ?_
        first | refine WL.move rfl rfl rfl ?_ | refine WL.skip _ rfl rfl rfl ?_
        first | refine WL.move rfl rfl rfl ?_ | refine WL.skip _ rfl rfl rfl ?_
        first | refine WL.bin rfl rfl rfl rfl (int_ne_f rfl _ _ _) ?_ | refine WL.bin rfl rfl rfl rfl (int_ne_t ‹_› _ _ _) ?_ | refine WL.bin rfl rfl rfl rfl (int_ne_f ‹_› _ _ _) ?_ | refine WL.bin rfl rfl rfl rfl (int_ne_t (by decide) _ _ _) ?_ | refine WL.bin rfl rfl rfl rfl (int_ne_d _ _ _ _ _) ?_ | refine WL.skip _ rfl rfl rfl ?_
        first | refine WL.pick rfl rfl rfl rfl ?_ | refine WL.skip _ rfl rfl rfl ?_
        first | refine WL.pick rfl rfl rfl rfl ?_
        refine WL.done ?_
        refine EW.on ?_
        refine EW.cond_f rfl ?_
        refine EW.skip ?_
        refine pn_block ?_
        refine EW.on ?_
        refine EW.region ?_
        first | refine WL.move rfl rfl rfl ?_
        first | refine WL.bin rfl rfl rfl rfl (int_add ‹_› _ _ _) ?_
        first | refine WL.assign rfl rfl rfl ?_
        refine WL.done ?_
        refine EW.again (E := pfE v6 q4 p) (R := PfR w8 rs6.length) (m := fun t => rs6.length - t) (x := t) (t + 1) [4, 9, 11, 13] rfl ⟨bei8.trans (h13.mono bei8.size), by omega⟩ (by show rs6.length - (t + 1) < rs6.length - t; omega)
      · have z1 : ¬ (t : Int) < (p : Int) := by omega
        have z2 : (t : Int) = (p : Int) := by omega
        have z3 : ¬ (p : Int) < (t : Int) := by omega
        have z4 : cv = 0 := by
          have e1 := isAt_some (ds := rs6.map RV.d) (x := (mkR (rightD r.d) a1 b1).d) (y := y.d) (by rw [hp6, ← htp]; exact d_at hy)
          rw [hat6] at e1
          rw [← hcv]; exact of_decide_eq_true e1.symm
        refine EW.region ?_
        first | refine WL.move rfl rfl rfl ?_
        first | refine WL.move rfl rfl rfl ?_
        first | refine WL.bin rfl rfl rfl rfl (int_lt_t ‹_› _ _ _) ?_ | refine WL.bin rfl rfl rfl rfl (int_lt_f ‹_› _ _ _) ?_ | refine WL.bin rfl rfl rfl rfl (int_lt_d _ _ _ _ _) ?_
        first | refine WL.move rfl rfl rfl ?_
        first | refine WL.move rfl rfl rfl ?_ | refine WL.skip _ rfl rfl rfl ?_
        first | refine WL.bin rfl rfl rfl rfl (int_ne_f rfl _ _ _) ?_ | refine WL.bin rfl rfl rfl rfl (int_ne_t ‹_› _ _ _) ?_ | refine WL.bin rfl rfl rfl rfl (int_ne_f ‹_› _ _ _) ?_ | refine WL.bin rfl rfl rfl rfl (int_ne_t (by decide) _ _ _) ?_ | refine WL.bin rfl rfl rfl rfl (int_ne_d _ _ _ _ _) ?_ | refine WL.skip _ rfl rfl rfl ?_
        first | refine WL.pick rfl rfl rfl rfl ?_
        first | refine WL.move rfl rfl rfl ?_
        first | refine WL.move rfl rfl rfl ?_ | refine WL.skip _ rfl rfl rfl ?_
        first | refine WL.move rfl rfl rfl ?_ | refine WL.skip _ rfl rfl rfl ?_
        first | refine WL.bin rfl rfl rfl rfl (int_eq_t rfl _ _ _) ?_ | refine WL.bin rfl rfl rfl rfl (int_eq_t ‹_› _ _ _) ?_ | refine WL.bin rfl rfl rfl rfl (int_eq_f ‹_› _ _ _) ?_ | refine WL.bin rfl rfl rfl rfl (int_eq_d _ _ _ _ _) ?_ | refine WL.skip _ rfl rfl rfl ?_
        first | refine WL.move rfl rfl rfl ?_ | refine WL.skip _ rfl rfl rfl ?_
        first | refine WL.move rfl rfl rfl ?_ | refine WL.skip _ rfl rfl rfl ?_
        first | refine WL.bin rfl rfl rfl rfl (int_ne_f rfl _ _ _) ?_ | refine WL.bin rfl rfl rfl rfl (int_ne_t ‹_› _ _ _) ?_ | refine WL.bin rfl rfl rfl rfl (int_ne_f ‹_› _ _ _) ?_ | refine WL.bin rfl rfl rfl rfl (int_ne_t (by decide) _ _ _) ?_ | refine WL.bin rfl rfl rfl rfl (int_ne_d _ _ _ _ _) ?_ | refine WL.skip _ rfl rfl rfl ?_
        first | refine WL.pick rfl rfl rfl rfl ?_ | refine WL.skip _ rfl rfl rfl ?_
        first | refine WL.pick rfl rfl rfl rfl ?_
        first | refine WL.move rfl rfl rfl ?_
        first | refine WL.move rfl rfl rfl ?_ | refine WL.skip _ rfl rfl rfl ?_
        first | refine WL.move rfl rfl rfl ?_ | refine WL.skip _ rfl rfl rfl ?_
        first | refine WL.bin rfl rfl rfl rfl (int_gt_t ‹_› _ _ _) ?_ | refine WL.bin rfl rfl rfl rfl (int_gt_f ‹_› _ _ _) ?_ | refine WL.bin rfl rfl rfl rfl (int_gt_d _ _ _ _ _) ?_ | refine WL.skip _ rfl rfl rfl ?_
        first | refine WL.move rfl rfl rfl ?_ | refine WL.skip _ rfl rfl rfl ?_
        first | refine WL.move rfl rfl rfl ?_ | refine WL.skip _ rfl rfl rfl ?_
        first | refine WL.bin rfl rfl rfl rfl (int_ne_f rfl _ _ _) ?_ | refine WL.bin rfl rfl rfl rfl (int_ne_t ‹_› _ _ _) ?_ | refine WL.bin rfl rfl rfl rfl (int_ne_f ‹_› _ _ _) ?_ | refine WL.bin rfl rfl rfl rfl (int_ne_t (by decide) _ _ _) ?_ | refine WL.bin rfl rfl rfl rfl (int_ne_d _ _ _ _ _) ?_ | refine WL.skip _ rfl rfl rfl ?_
        first | refine WL.pick rfl rfl rfl rfl ?_ | refine WL.skip _ rfl rfl rfl ?_
        first | refine WL.pick rfl rfl rfl rfl ?_
        refine WL.done ?_
        refine EW.on ?_
        refine EW.cond_f rfl ?_
        refine EW.skip ?_
        refine pn_block ?_
        refine EW.on ?_
        refine EW.region ?_
        first | refine WL.move rfl rfl rfl ?_
        first | refine WL.bin rfl rfl rfl rfl (int_add ‹_› _ _ _) ?_
        first | refine WL.assign rfl rfl rfl ?_
        refine WL.done ?_
        refine EW.again (E := pfE v6 q4 p) (R := PfR w8 rs6.length) (m := fun t => rs6.length - t) (x := t) (t + 1) [4, 9, 11, 13] rfl ⟨bei8.trans (h13.mono bei8.size), by omega⟩ (by show rs6.length - (t + 1) < rs6.length - t; omega)
      · have z1 : ¬ (t : Int) < (p : Int) := by omega
        have z2 : ¬ (t : Int) = (p : Int) := by omega
        have z3 : (p : Int) < (t : Int) := by omega
        have z4 : cv = 1 := by
          have := hpg (by rw [hp6]; exact htp) (d_at hy)
          have : 0 < cv := by rw [← hcv]; exact this
          omega
        refine EW.region ?_
        first | refine WL.move rfl rfl rfl ?_
        first | refine WL.move rfl rfl rfl ?_
        first | refine WL.bin rfl rfl rfl rfl (int_lt_t ‹_› _ _ _) ?_ | refine WL.bin rfl rfl rfl rfl (int_lt_f ‹_› _ _ _) ?_ | refine WL.bin rfl rfl rfl rfl (int_lt_d _ _ _ _ _) ?_
        first | refine WL.move rfl rfl rfl ?_
        first | refine WL.move rfl rfl rfl ?_ | refine WL.skip _ rfl rfl rfl ?_
        first | refine WL.bin rfl rfl rfl rfl (int_ne_f rfl _ _ _) ?_ | refine WL.bin rfl rfl rfl rfl (int_ne_t ‹_› _ _ _) ?_ | refine WL.bin rfl rfl rfl rfl (int_ne_f ‹_› _ _ _) ?_ | refine WL.bin rfl rfl rfl rfl (int_ne_t (by decide) _ _ _) ?_ | refine WL.bin rfl rfl rfl rfl (int_ne_d _ _ _ _ _) ?_ | refine WL.skip _ rfl rfl rfl ?_
        first | refine WL.pick rfl rfl rfl rfl ?_
        first | refine WL.move rfl rfl rfl ?_
        first | refine WL.move rfl rfl rfl ?_ | refine WL.skip _ rfl rfl rfl ?_
        first | refine WL.move rfl rfl rfl ?_ | refine WL.skip _ rfl rfl rfl ?_
        first | refine WL.bin rfl rfl rfl rfl (int_eq_t rfl _ _ _) ?_ | refine WL.bin rfl rfl rfl rfl (int_eq_t ‹_› _ _ _) ?_ | refine WL.bin rfl rfl rfl rfl (int_eq_f ‹_› _ _ _) ?_ | refine WL.bin rfl rfl rfl rfl (int_eq_d _ _ _ _ _) ?_ | refine WL.skip _ rfl rfl rfl ?_
        first | refine WL.move rfl rfl rfl ?_ | refine WL.skip _ rfl rfl rfl ?_
        first | refine WL.move rfl rfl rfl ?_ | refine WL.skip _ rfl rfl rfl ?_
        first | refine WL.bin rfl rfl rfl rfl (int_ne_f rfl _ _ _) ?_ | refine WL.bin rfl rfl rfl rfl (int_ne_t ‹_› _ _ _) ?_ | refine WL.bin rfl rfl rfl rfl (int_ne_f ‹_› _ _ _) ?_ | refine WL.bin rfl rfl rfl rfl (int_ne_t (by decide) _ _ _) ?_ | refine WL.bin rfl rfl rfl rfl (int_ne_d _ _ _ _ _) ?_ | refine WL.skip _ rfl rfl rfl ?_
        first | refine WL.pick rfl rfl rfl rfl ?_ | refine WL.skip _ rfl rfl rfl ?_
        first | refine WL.pick rfl rfl rfl rfl ?_
        first | refine WL.move rfl rfl rfl ?_
        first | refine WL.move rfl rfl rfl ?_ | refine WL.skip _ rfl rfl rfl ?_
        first | refine WL.move rfl rfl rfl ?_ | refine WL.skip _ rfl rfl rfl ?_
        first | refine WL.bin rfl rfl rfl rfl (int_gt_t ‹_› _ _ _) ?_ | refine WL.bin rfl rfl rfl rfl (int_gt_f ‹_› _ _ _) ?_ | refine WL.bin rfl rfl rfl rfl (int_gt_d _ _ _ _ _) ?_ | refine WL.skip _ rfl rfl rfl ?_
        first | refine WL.move rfl rfl rfl ?_ | refine WL.skip _ rfl rfl rfl ?_
        first | refine WL.move rfl rfl rfl ?_ | refine WL.skip _ rfl rfl rfl ?_
        first | refine WL.bin rfl rfl rfl rfl (int_ne_f rfl _ _ _) ?_ | refine WL.bin rfl rfl rfl rfl (int_ne_t ‹_› _ _ _) ?_ | refine WL.bin rfl rfl rfl rfl (int_ne_f ‹_› _ _ _) ?_ | refine WL.bin rfl rfl rfl rfl (int_ne_t (by decide) _ _ _) ?_ | refine WL.bin rfl rfl rfl rfl (int_ne_d _ _ _ _ _) ?_ | refine WL.skip _ rfl rfl rfl ?_
        first | refine WL.pick rfl rfl rfl rfl ?_ | refine WL.skip _ rfl rfl rfl ?_
        first | refine WL.pick rfl rfl rfl rfl ?_
        refine WL.done ?_
        refine EW.on ?_
        refine EW.cond_f rfl ?_
        refine EW.skip ?_
        refine pn_block ?_
        refine EW.on ?_
        refine EW.region ?_
        first | refine WL.move rfl rfl rfl ?_
        first | refine WL.bin rfl rfl rfl rfl (int_add ‹_› _ _ _) ?_
        first | refine WL.assign rfl rfl rfl ?_
        refine WL.done ?_
        refine EW.again (E := pfE v6 q4 p) (R := PfR w8 rs6.length) (m := fun t => rs6.length - t) (x := t) (t + 1) [4, 9, 11, 13] rfl ⟨bei8.trans (h13.mono bei8.size), by omega⟩ (by show rs6.length - (t + 1) < rs6.length - t; omega)
    · refine EW.exit ?_
      refine px_then ?_
      refine px_then ?_
      refine px_block ?_
      refine EW.on ?_
      refine EW.seq ?_
      have hLi := hL6.below bei
      have bxi := bx7.on bei
      have okxi := okx7.below bei
      refine EW.region ?_
      first | refine WL.move rfl rfl rfl ?_
      first | refine WL.field rfl rfl rfl (rfld0 q4 _) ?_
      first | refine WL.load rfl rfl rfl (ldI bxi rfl) ?_ | refine WL.load rfl rfl rfl (ldI by6 rfl) ?_
      first | refine WL.field rfl rfl rfl (rfld1 q4 _) ?_
      first | refine WL.load rfl rfl rfl (ldS bxi rfl) ?_ | refine WL.load rfl rfl rfl (ldS by6 rfl) ?_
      refine WL.call [v6, .int .i64 (mkR (rightD r.d) a1 b1).t, a1] enter17 rfl rfl rfl (delete_any v6 rs6 (mkR (rightD r.d) a1 b1).t a1 (mkR (rightD r.d) a1 b1).k _ hLi okxi.hk (by omega) hs6 hat6) ?_
      rintro _ w9 ⟨v9, rs9, rfl, hL9, hd9, be9⟩
      have okx9 := okxi.below be9
      have bx9 := bxi.on be9
      have e9 := ei.trans (be9.mono ei.size)
      replace hd9 : rs9.map RV.d = delD (rs6.map RV.d) (mkR (rightD r.d) a1 b1).d := hd9
      have hs9 : Srt (rs9.map RV.d) := by rw [hd9]; exact hs6.del _
      have hl9 : rs9.length ≤ 62 := by have e1 := congrArg List.length hd9; have e2 := del_len hat6; rw [List.length_map] at e1 e2; omega
      refine ⟨_, rfl, ?_⟩
      first | refine WL.move rfl rfl rfl ?_
      first | refine WL.extract rfl rfl rfl (ext_2 _ _ _).1 ?_
      first | refine WL.extract rfl rfl rfl (ext_2 _ _ _).2 ?_
      first | refine WL.assign rfl rfl rfl ?_
      first | refine WL.assign rfl rfl rfl ?_
      refine WL.done ?_
      refine EW.on ?_
      refine EW.seq ?_
      refine EW.region ?_
      first | refine WL.move rfl rfl rfl ?_
      first | refine WL.field rfl rfl rfl (rfld0 q4 _) ?_
      first | refine WL.load rfl rfl rfl (ldI bx9 rfl) ?_ | refine WL.load rfl rfl rfl (ldI by9 rfl) ?_
      first | refine WL.field rfl rfl rfl (rfld1 q4 _) ?_
      first | refine WL.load rfl rfl rfl (ldS bx9 rfl) ?_ | refine WL.load rfl rfl rfl (ldS by9 rfl) ?_
      refine WL.call [v9, .int .i64 (mkR (rightD r.d) a1 b1).t, a1] enter16 rfl rfl rfl (find_any v9 rs9 (mkR (rightD r.d) a1 b1).t a1 (mkR (rightD r.d) a1 b1).k _ hL9 okx9.hk (by omega) hs9) ?_
      rintro _ w10 ⟨rfl, be10⟩
      have okx10 := okx9.below be10
      have bx10 := bx9.on be10
      have e10 := e9.trans (be10.mono e9.size)
      rw [show placeN (rs9.map RV.d) ⟨(mkR (rightD r.d) a1 b1).t, (mkR (rightD r.d) a1 b1).k, []⟩ = p from by rw [hd9]; exact (del_place hs6 hat6).trans hp6, show isAt (rs9.map RV.d) ⟨(mkR (rightD r.d) a1 b1).t, (mkR (rightD r.d) a1 b1).k, []⟩ = false from by rw [hd9]; exact del_no hs6 hat6]
      refine ⟨_, rfl, ?_⟩
      first | refine WL.move rfl rfl rfl ?_
      first | refine WL.extract rfl rfl rfl (ext_2 _ _ _).1 ?_
      first | refine WL.extract rfl rfl rfl (ext_2 _ _ _).2 ?_
      first | refine WL.assign rfl rfl rfl ?_
      first | refine WL.assign rfl rfl rfl ?_
      refine WL.done ?_
      refine EW.on ?_
      refine EW.seq ?_
      refine EW.region ?_
      first | refine WL.move rfl rfl rfl ?_
      first | refine WL.field rfl rfl rfl (rfld0 q4 _) ?_
      first | refine WL.load rfl rfl rfl (ldI bx10 rfl) ?_ | refine WL.load rfl rfl rfl (ldI by10 rfl) ?_
      first | refine WL.field rfl rfl rfl (rfld1 q4 _) ?_
      first | refine WL.load rfl rfl rfl (ldS bx10 rfl) ?_ | refine WL.load rfl rfl rfl (ldS by10 rfl) ?_
      refine WL.call [v9, .int .i64 (mkR (rightD r.d) a1 b1).t, a1] enter17 rfl rfl rfl (delete_no v9 rs9 (mkR (rightD r.d) a1 b1).t a1 (mkR (rightD r.d) a1 b1).k _ (hL9.below be10) okx10.hk (by omega) hs9 (by rw [hd9]; exact del_no hs6 hat6)) ?_
      rintro _ w11 ⟨rfl, be11⟩
      have e11 := e10.trans (be11.mono e10.size)
      refine ⟨_, rfl, ?_⟩
      first | refine WL.move rfl rfl rfl ?_
      first | refine WL.extract rfl rfl rfl (ext_2 _ _ _).1 ?_
      first | refine WL.extract rfl rfl rfl (ext_2 _ _ _).2 ?_
      first | refine WL.assign rfl rfl rfl ?_
      first | refine WL.assign rfl rfl rfl ?_
      refine WL.done ?_
      refine EW.on ?_
      refine EW.seq ?_
      refine EW.region ?_
      first | refine WL.move rfl rfl rfl ?_
      first | refine WL.bin rfl rfl rfl rfl (int_eq_t rfl _ _ _) ?_ | refine WL.bin rfl rfl rfl rfl (int_eq_t ‹_› _ _ _) ?_ | refine WL.bin rfl rfl rfl rfl (int_eq_f ‹_› _ _ _) ?_ | refine WL.bin rfl rfl rfl rfl (int_eq_d _ _ _ _ _) ?_
      first | refine WL.move rfl rfl rfl ?_
      first | refine WL.move rfl rfl rfl ?_ | refine WL.skip _ rfl rfl rfl ?_
      first | refine WL.un rfl rfl rfl (not_t _ _) ?_ | refine WL.skip _ rfl rfl rfl ?_
      first | refine WL.pick rfl rfl rfl rfl ?_
      first | refine WL.move rfl rfl rfl ?_
      first | refine WL.move rfl rfl rfl ?_ | refine WL.skip _ rfl rfl rfl ?_
      first | refine WL.move rfl rfl rfl ?_ | refine WL.skip _ rfl rfl rfl ?_
      first | refine WL.bin rfl rfl rfl rfl (int_eq_t rfl _ _ _) ?_ | refine WL.bin rfl rfl rfl rfl (int_eq_t ‹_› _ _ _) ?_ | refine WL.bin rfl rfl rfl rfl (int_eq_f ‹_› _ _ _) ?_ | refine WL.bin rfl rfl rfl rfl (int_eq_d _ _ _ _ _) ?_ | refine WL.skip _ rfl rfl rfl ?_
      first | refine WL.pick rfl rfl rfl rfl ?_
      first | refine WL.move rfl rfl rfl ?_
      first | refine WL.move rfl rfl rfl ?_ | refine WL.skip _ rfl rfl rfl ?_
      first | refine WL.bin rfl rfl rfl rfl (int_eq_t rfl _ _ _) ?_ | refine WL.bin rfl rfl rfl rfl (int_eq_t ‹_› _ _ _) ?_ | refine WL.bin rfl rfl rfl rfl (int_eq_f ‹_› _ _ _) ?_ | refine WL.bin rfl rfl rfl rfl (int_eq_d _ _ _ _ _) ?_ | refine WL.skip _ rfl rfl rfl ?_
      first | refine WL.pick rfl rfl rfl rfl ?_
      first | refine WL.assign rfl rfl rfl ?_
      refine WL.done ?_
      refine EW.on ?_
      refine EW.ret ?_
      exact EW.returns Try.results4 rfl ⟨rfl, e11⟩
  · have hcz : ¬ c = 0 := fun e => hK (cd_eq (show cmpD (mkR (rightD r.d) a1 b1).d (mkR (rightD s.d) a2 b2).d = 0 from hc.trans e)).2
    obtain ⟨kb, hkb, hkt⟩ : ∃ kb, decide ((mkR (rightD r.d) a1 b1).k = (mkR (rightD s.d) a2 b2).k) = kb ∧ kb = false := ⟨_, rfl, decide_eq_false hK⟩
    subst hkt
    have hb21 : false = false := rfl
    have hb29 : decide (c < 0) = decide (cmpD (mkR (rightD r.d) a1 b1).d (mkR (rightD s.d) a2 b2).d < 0) := by rw [← hc]; rfl
    refine EW.region ?_
    first | refine WL.move rfl rfl rfl ?_
    first | refine WL.load rfl rfl rfl (ld32 bx4a) ?_ | refine WL.load rfl rfl rfl (ld32 by4a) ?_
    first | refine WL.load rfl rfl rfl (ld32 bx4a) ?_ | refine WL.load rfl rfl rfl (ld32 by4a) ?_
    refine WL.call [(mkR (rightD s.d) a2 b2).val, (mkR (rightD r.d) a1 b1).val] enter13 rfl rfl rfl (cmpr_any (mkR (rightD s.d) a2 b2) (mkR (rightD r.d) a1 b1) _ oky4a okx4a) ?_
    rintro _ w5 ⟨rfl, be5⟩
    have bx5 := bx4a.on be5
    have by5 := by4a.on be5
    have okx5 := okx4a.below be5
    have oky5 := oky4a.below be5
    have hw5 := hw4a.below be5
    have e5 := e4a.trans (be5.mono e4a.size)
    refine ⟨_, rfl, ?_⟩
    refine WL.un rfl rfl rfl (neg_i hneg _) ?_
    first | refine WL.bin rfl rfl rfl rfl (int_ne_f rfl _ _ _) ?_ | refine WL.bin rfl rfl rfl rfl (int_ne_t ‹_› _ _ _) ?_ | refine WL.bin rfl rfl rfl rfl (int_ne_f ‹_› _ _ _) ?_ | refine WL.bin rfl rfl rfl rfl (int_ne_t (by decide) _ _ _) ?_ | refine WL.bin rfl rfl rfl rfl (int_ne_d _ _ _ _ _) ?_
    first | refine WL.move rfl rfl rfl ?_
    first | refine WL.move rfl rfl rfl ?_ | refine WL.skip _ rfl rfl rfl ?_
    first | refine WL.bin rfl rfl rfl rfl (int_eq_t rfl _ _ _) ?_ | refine WL.bin rfl rfl rfl rfl (int_eq_t ‹_› _ _ _) ?_ | refine WL.bin rfl rfl rfl rfl (int_eq_f ‹_› _ _ _) ?_ | refine WL.bin rfl rfl rfl rfl (int_eq_d _ _ _ _ _) ?_ | refine WL.skip _ rfl rfl rfl ?_
    first | refine WL.field rfl rfl rfl (rfld0 q4 _) ?_ | refine WL.skip _ rfl rfl rfl ?_
    first | refine WL.load rfl rfl rfl (ldI bx5 rfl) ?_ | refine WL.load rfl rfl rfl (ldI by5 rfl) ?_ | refine WL.skip _ rfl rfl rfl ?_
    first | refine WL.field rfl rfl rfl (rfld0 q5 _) ?_ | refine WL.skip _ rfl rfl rfl ?_
    first | refine WL.load rfl rfl rfl (ldI bx5 rfl) ?_ | refine WL.load rfl rfl rfl (ldI by5 rfl) ?_ | refine WL.skip _ rfl rfl rfl ?_
    first | refine WL.bin rfl rfl rfl rfl (int_eq_t rfl _ _ _) ?_ | refine WL.bin rfl rfl rfl rfl (int_eq_t ‹_› _ _ _) ?_ | refine WL.bin rfl rfl rfl rfl (int_eq_f ‹_› _ _ _) ?_ | refine WL.bin rfl rfl rfl rfl (int_eq_d _ _ _ _ _) ?_ | refine WL.skip _ rfl rfl rfl ?_
    first | refine WL.move rfl rfl rfl ?_ | refine WL.skip _ rfl rfl rfl ?_
    first | refine WL.field rfl rfl rfl (rfld1 q4 _) ?_ | refine WL.skip _ rfl rfl rfl ?_
    first | refine WL.load rfl rfl rfl (ldS bx5 rfl) ?_ | refine WL.load rfl rfl rfl (ldS by5 rfl) ?_ | refine WL.skip _ rfl rfl rfl ?_
    first | refine WL.field rfl rfl rfl (rfld1 q5 _) ?_ | refine WL.skip _ rfl rfl rfl ?_
    first | refine WL.load rfl rfl rfl (ldS bx5 rfl) ?_ | refine WL.load rfl rfl rfl (ldS by5 rfl) ?_ | refine WL.skip _ rfl rfl rfl ?_
    first | refine WL.call [a1, a2] enter9 rfl rfl rfl (eq_any a1 a2 _ _ _ okx5.hk oky5.hk) ?_
    rintro _ wz ⟨rfl, hz⟩
    rw [hz]
    rw [hkb]
    refine ⟨_, rfl, ?_⟩
    first | refine WL.pick rfl rfl rfl rfl ?_ | refine WL.skip _ rfl rfl rfl ?_
    first | refine WL.bin rfl rfl rfl rfl (bool_ne_f hb21 _ _ _) ?_ | refine WL.skip _ rfl rfl rfl ?_
    first | refine WL.pick rfl rfl rfl rfl ?_
    first | refine WL.move rfl rfl rfl ?_
    first | refine WL.move rfl rfl rfl ?_ | refine WL.skip _ rfl rfl rfl ?_
    first | refine WL.bin rfl rfl rfl rfl (int_lt_t ‹_› _ _ _) ?_ | refine WL.bin rfl rfl rfl rfl (int_lt_f ‹_› _ _ _) ?_ | refine WL.bin rfl rfl rfl rfl (int_lt_d _ _ _ _ _) ?_ | refine WL.skip _ rfl rfl rfl ?_
    first | refine WL.load rfl rfl rfl (ld32 bx5) ?_ | refine WL.load rfl rfl rfl (ld32 by5) ?_ | refine WL.skip _ rfl rfl rfl ?_
    first | refine WL.load rfl rfl rfl (ld32 bx5) ?_ | refine WL.load rfl rfl rfl (ld32 by5) ?_ | refine WL.skip _ rfl rfl rfl ?_
    refine WL.call [(mkR (rightD r.d) a1 b1).val, (mkR (rightD s.d) a2 b2).val] enter14 rfl rfl rfl (ahead_any (mkR (rightD r.d) a1 b1) (mkR (rightD s.d) a2 b2) _ okx5 oky5) ?_
    rintro _ w5b ⟨rfl, be5b⟩
    have bx5b := bx5.on be5b
    have by5b := by5.on be5b
    have okx5b := okx5.below be5b
    have oky5b := oky5.below be5b
    have hw5b := hw5.below be5b
    have e5b := e5.trans (be5b.mono e5.size)
    refine ⟨_, rfl, ?_⟩
    first | refine WL.bin rfl rfl rfl rfl (bool_ne_f hb29 _ _ _) ?_ | refine WL.skip _ rfl rfl rfl ?_
    first | refine WL.pick rfl rfl rfl rfl ?_
    first | refine WL.move rfl rfl rfl ?_
    first | refine WL.load rfl rfl rfl (ld32 bx5b) ?_ | refine WL.load rfl rfl rfl (ld32 by5b) ?_ | refine WL.skip _ rfl rfl rfl ?_
    first | refine WL.load rfl rfl rfl (ld32 bx5b) ?_ | refine WL.load rfl rfl rfl (ld32 by5b) ?_ | refine WL.skip _ rfl rfl rfl ?_
    refine WL.call [(mkR (rightD r.d) a1 b1).val, (mkR (rightD r.d) a1 b1).val] enter13 rfl rfl rfl (cmpr_any (mkR (rightD r.d) a1 b1) (mkR (rightD r.d) a1 b1) _ okx5b okx5b) ?_
    rintro _ w5c ⟨rfl, be5c⟩
    have bx5c := bx5b.on be5c
    have by5c := by5b.on be5c
    have okx5c := okx5b.below be5c
    have oky5c := oky5b.below be5c
    have hw5c := hw5b.below be5c
    have e5c := e5b.trans (be5c.mono e5b.size)
    rw [show cmpR (mkR (rightD r.d) a1 b1) (mkR (rightD r.d) a1 b1) = 0 from cd_refl _]
    refine ⟨_, rfl, ?_⟩
    first | refine WL.bin rfl rfl rfl rfl (int_ne_f rfl _ _ _) ?_ | refine WL.bin rfl rfl rfl rfl (int_ne_t ‹_› _ _ _) ?_ | refine WL.bin rfl rfl rfl rfl (int_ne_f ‹_› _ _ _) ?_ | refine WL.bin rfl rfl rfl rfl (int_ne_t (by decide) _ _ _) ?_ | refine WL.bin rfl rfl rfl rfl (int_ne_d _ _ _ _ _) ?_ | refine WL.skip _ rfl rfl rfl ?_
    first | refine WL.pick rfl rfl rfl rfl ?_
    refine WL.done ?_
    refine EW.on ?_
    refine EW.cond_f rfl ?_
    refine EW.skip ?_
    refine EW.on ?_
    refine EW.seq ?_
    refine EW.region ?_
    first | refine WL.move rfl rfl rfl ?_
    first | refine WL.load rfl rfl rfl (ld32 bx5c) ?_ | refine WL.load rfl rfl rfl (ld32 by5c) ?_
    refine WL.call [vw, (mkR (rightD r.d) a1 b1).val] enter15 rfl rfl rfl (put_any vw rs (mkR (rightD r.d) a1 b1) _ hw5c okx5c (right_ok _) (by omega) hsr) ?_
    rintro _ w6 ⟨v6, rs6, rfl, hL6', hd6, be6⟩
    have bx6 := bx5c.on be6
    have by6 := by5c.on be6
    have okx6 := okx5c.below be6
    have oky6 := oky5c.below be6
    have hw6 := hw5c.below be6
    have e6 := e5c.trans (be6.mono e5c.size)
    refine ⟨_, rfl, ?_⟩
    first | refine WL.move rfl rfl rfl ?_
    first | refine WL.extract rfl rfl rfl (ext_2 _ _ _).1 ?_
    first | refine WL.extract rfl rfl rfl (ext_2 _ _ _).2 ?_
    first | refine WL.assign rfl rfl rfl ?_
    first | refine WL.assign rfl rfl rfl ?_
    refine WL.done ?_
    have hs6 : Srt (rs6.map RV.d) := by rw [hd6]; exact hsr.ins (right_ok _)
    have hl6 : rs6.length ≤ 61 := by
      have e1 := congrArg List.length hd6
      have e2 := ins_len (rs.map RV.d) (mkR (rightD r.d) a1 b1).d
      rw [List.length_map] at e1 e2
      omega
    have hat6 : isAt (rs6.map RV.d) (mkR (rightD r.d) a1 b1).d = true := by rw [hd6]; exact ins_at hsr (right_ok _)
    obtain ⟨p, hp6⟩ : ∃ p, placeN (rs6.map RV.d) (mkR (rightD r.d) a1 b1).d = p := ⟨_, rfl⟩
    have hplt := isAt_lt hat6
    rw [hp6, List.length_map] at hplt
    refine EW.on ?_
    refine EW.seq ?_
    refine EW.region ?_
    first | refine WL.move rfl rfl rfl ?_
    first | refine WL.field rfl rfl rfl (rfld0 q4 _) ?_
    first | refine WL.load rfl rfl rfl (ldI bx6 rfl) ?_ | refine WL.load rfl rfl rfl (ldI by6 rfl) ?_
    first | refine WL.field rfl rfl rfl (rfld1 q4 _) ?_
    first | refine WL.load rfl rfl rfl (ldS bx6 rfl) ?_ | refine WL.load rfl rfl rfl (ldS by6 rfl) ?_
    refine WL.call [v6, .int .i64 (mkR (rightD r.d) a1 b1).t, a1] enter16 rfl rfl rfl (find_any v6 rs6 (mkR (rightD r.d) a1 b1).t a1 (mkR (rightD r.d) a1 b1).k _ hL6' okx6.hk (by omega) hs6) ?_
    rintro _ w7 ⟨rfl, be7⟩
    have bx7 := bx6.on be7
    have by7 := by6.on be7
    have okx7 := okx6.below be7
    have oky7 := oky6.below be7
    have hw7 := hw6.below be7
    have e7 := e6.trans (be7.mono e6.size)
    rw [show placeN (rs6.map RV.d) ⟨(mkR (rightD r.d) a1 b1).t, (mkR (rightD r.d) a1 b1).k, []⟩ = p from hp6, show isAt (rs6.map RV.d) ⟨(mkR (rightD r.d) a1 b1).t, (mkR (rightD r.d) a1 b1).k, []⟩ = true from hat6]
    have hL6 := hL6'.below be7
    refine ⟨_, rfl, ?_⟩
    first | refine WL.move rfl rfl rfl ?_
    first | refine WL.extract rfl rfl rfl (ext_2 _ _ _).1 ?_
    first | refine WL.extract rfl rfl rfl (ext_2 _ _ _).2 ?_
    first | refine WL.assign rfl rfl rfl ?_
    first | refine WL.assign rfl rfl rfl ?_
    refine WL.done ?_
    obtain ⟨y, hy⟩ : ∃ y, rs6[p]? = some y := ⟨_, List.getElem?_eq_getElem hplt⟩
    obtain ⟨ad, iy, ay⟩ := hL6.item hy
    have oky := hL6.ok y (List.mem_of_getElem? hy)
    have hyd : y.d = (mkR (rightD r.d) a1 b1).d := by
      have e1 := d_at hy
      rw [← hp6, hd6, ins_place (x := (mkR (rightD r.d) a1 b1).d) hsr (right_ok r.d), ins_getP] at e1
      exact (Option.some.inj e1).symm
    have heq : decide (y.v = (mkR (rightD r.d) a1 b1).v) = true := decide_eq_true (congrArg Rc.v hyd)
    have zp0 : ¬ (p : Int) < 0 := by omega
    have zp1 : ¬ (rs6.length : Int) ≤ (p : Int) := by omega
    refine EW.on ?_
    refine EW.seq ?_
    refine EW.seq ?_
    refine EW.ordB [(0, 0, 0), (1, 0, 0), (2, 0, 0), (3, 0, 0), (4, 0, 0), (5, 0, 0), (6, 0, 0), (7, 0, 0), (8, 0, 0), (9, 0, 0), (10, 0, 0), (11, 0, 0), (12, 0, 0), (13, 0, 0), (14, 0, 0), (15, 0, 0), (16, 0, 0), (17, 0, 0), (18, 0, 0), (19, 0, 0), (20, 0, 0), (21, 0, 1), (22, 0, 0), (23, 0, 1), (24, 1, 1), (25, 0, 0), (26, 0, 0)] (by kernel_rfl) rfl (by kernel_rfl) ?_
    simp only [opsZ, List.getD_cons_zero, List.getD_cons_succ]
    first | refine ZE.move rfl rfl rfl rfl sz0 ?_
    first | refine ZE.bin rfl rfl rfl rfl rfl sz0 (fun W => int_ne_f rfl W _ _) ?_ | refine ZE.bin rfl rfl rfl rfl rfl sz0 (fun W => int_ne_t ‹_› W _ _) ?_ | refine ZE.bin rfl rfl rfl rfl rfl sz0 (fun W => int_ne_f ‹_› W _ _) ?_ | refine ZE.bin rfl rfl rfl rfl rfl sz0 (fun W => int_ne_t (by decide) W _ _) ?_ | refine ZE.bin rfl rfl rfl rfl rfl sz0 (fun W => int_ne_d _ _ W _ _) ?_
    first | refine ZE.move rfl rfl rfl rfl sz0 ?_
    first | refine ZE.move rfl rfl rfl rfl sz0 ?_ | refine ZE.skip rfl rfl rfl sz0 ?_
    first | refine ZE.un rfl rfl rfl rfl sz0 (fun W => not_t _ W) ?_ | refine ZE.skip rfl rfl rfl sz0 ?_
    first | refine ZE.pick rfl rfl rfl rfl rfl sz0 ?_
    first | refine ZE.move rfl rfl rfl rfl sz0 ?_
    first | refine ZE.move rfl rfl rfl rfl sz0 ?_ | refine ZE.skip rfl rfl rfl sz0 ?_
    first | refine ZE.bin rfl rfl rfl rfl rfl sz0 (fun W => int_lt_t ‹_› W _ _) ?_ | refine ZE.bin rfl rfl rfl rfl rfl sz0 (fun W => int_lt_f ‹_› W _ _) ?_ | refine ZE.bin rfl rfl rfl rfl rfl sz0 (fun W => int_lt_d _ _ W _ _) ?_ | refine ZE.skip rfl rfl rfl sz0 ?_
    first | refine ZE.pick rfl rfl rfl rfl rfl sz0 ?_
    first | refine ZE.move rfl rfl rfl rfl sz0 ?_
    first | refine ZE.move rfl rfl rfl rfl sz0 ?_ | refine ZE.skip rfl rfl rfl sz0 ?_
    first | refine ZE.move rfl rfl rfl rfl sz0 ?_ | refine ZE.skip rfl rfl rfl sz0 ?_
    refine ZE.len rfl rfl rfl rfl sz0 (fun W => hL6.len W _) ?_
    first | refine ZE.bin rfl rfl rfl rfl rfl sz0 (fun W => int_ge_t ‹_› W _ _) ?_ | refine ZE.bin rfl rfl rfl rfl rfl sz0 (fun W => int_ge_f ‹_› W _ _) ?_ | refine ZE.bin rfl rfl rfl rfl rfl sz0 (fun W => int_ge_d _ _ W _ _) ?_ | refine ZE.skip rfl rfl rfl sz0 ?_
    first | refine ZE.pick rfl rfl rfl rfl rfl sz0 ?_
    first | refine ZE.move rfl rfl rfl rfl sz0 ?_
    first | refine ZE.move rfl rfl rfl rfl sz0 ?_ | refine ZE.skip rfl rfl rfl sz0 ?_
    first | refine ZE.move rfl rfl rfl rfl sz0 ?_ | refine ZE.skip rfl rfl rfl sz0 ?_
    first | refine ZE.index rfl rfl rfl rfl rfl sz0 (fun W => iy W) ?_ | refine ZE.skip rfl rfl rfl sz0 ?_
    first | refine ZE.field rfl rfl rfl rfl sz0 (fun W => rfldA ad W) ?_ | refine ZE.field rfl rfl rfl rfl sz0 (fun W => rfld2 q4 W) ?_
    first | refine ZE.load rfl rfl rfl rfl sz1 (fun W hW => ldSA (ay.below (sb_of hW))) ?_ | refine ZE.load rfl rfl rfl rfl sz1 (fun W hW => ldS (bx7.on (sb_of hW)) rfl) ?_
    first | refine ZE.field rfl rfl rfl rfl sz0 (fun W => rfldA ad W) ?_ | refine ZE.field rfl rfl rfl rfl sz0 (fun W => rfld2 q4 W) ?_
    first | refine ZE.load rfl rfl rfl rfl sz1 (fun W hW => ldSA (ay.below (sb_of hW))) ?_ | refine ZE.load rfl rfl rfl rfl sz1 (fun W hW => ldS (bx7.on (sb_of hW)) rfl) ?_
    refine ZE.callB (v := .bool true) [y.vv, (mkR (rightD r.d) a1 b1).vv] enter9 rfl rfl rfl (fun W h => .inr h) (fun W hW => (eq_any _ _ _ _ W (oky.hv.below hW) (okx7.hv.below hW)).mono fun e w' h => ⟨by rw [h.1, heq], by rw [h.2]; exact Below.refl _ _⟩) ?_
    first | refine ZE.un rfl rfl rfl rfl sz0 (fun W => not_t _ W) ?_ | refine ZE.skip rfl rfl rfl sz0 ?_
    first | refine ZE.pick rfl rfl rfl rfl rfl sz0 ?_
    intro w8 h8
    refine EW.on ?_
    refine EW.cond_f rfl ?_
    refine EW.skip ?_
    refine EW.on ?_
    refine EW.seq ?_
    refine EW.seq ?_
    refine EW.region ?_
    first | refine WL.assign rfl rfl rfl ?_
    refine WL.done ?_
    refine EW.on ?_
    refine EW.block ?_
    refine EW.loop (pfE v6 q4 p) (PfR w8 rs6.length) (fun t => rs6.length - t) 0 [4, 9, 11, 13] rfl ⟨Below.refl _ _, Nat.zero_le _⟩ ?_
    rintro t wi ⟨bei8, htl⟩
    have bei := h8.trans (bei8.mono h8.size)
    have ei := e7.trans (bei.mono e7.size)
    show EW _ _ _ _ [(4, .pointer (some ⟨q4, 0, none⟩)), (9, v6), (11, .int .i64 (p : Int)), (13, .int .i64 (t : Int))] _
    refine EW.seq ?_
    refine EW.seq ?_
    refine EW.region ?_
    first | refine WL.move rfl rfl rfl ?_
    first | refine WL.move rfl rfl rfl ?_
    refine WL.len rfl rfl rfl (hL6.len _ _) ?_
    first | refine WL.bin rfl rfl rfl rfl (int_lt_t ‹_› _ _ _) ?_ | refine WL.bin rfl rfl rfl rfl (int_lt_f ‹_› _ _ _) ?_ | refine WL.bin rfl rfl rfl rfl (int_lt_d _ _ _ _ _) ?_
    refine WL.done ?_
    refine EW.on ?_
    refine EW.cond_d rfl (fun h112 => ?_) (fun h112 => ?_)
    · refine EW.skip ?_
      refine EW.on ?_
      refine EW.seq ?_
      refine EW.block ?_
      refine EW.seq ?_
      have ht : t < rs6.length := by omega
      have tn : IntKind.i64.wrap ((t : Int) + 1) = ((t + 1 : Nat) : Int) := by rw [IntKind.wrap_i64]; omega
      obtain ⟨y, hy⟩ : ∃ y, rs6[t]? = some y := ⟨_, List.getElem?_eq_getElem ht⟩
      have hLi := hL6.below bei
      have bxi := bx7.on bei
      have okxi := okx7.below bei
      obtain ⟨ad, iy, ay⟩ := hLi.item hy
      have oky := hLi.ok y (List.mem_of_getElem? hy)
      obtain ⟨cv, hcv⟩ : ∃ cv, cmpR y (mkR (rightD r.d) a1 b1) = cv := ⟨_, rfl⟩
      have hpl := place_lt (rs6.map RV.d) (mkR (rightD r.d) a1 b1).d t y.d
      have hpg := place_gt (k := t) hs6 (x := (mkR (rightD r.d) a1 b1).d) (y := y.d)
      have hvv : cv = -1 ∨ cv = 0 ∨ cv = 1 := by rw [← hcv]; exact cd_vals y.d (mkR (rightD r.d) a1 b1).d
      replace hcv : cmpR y (mkR (rightD r.d) a1 b1) = cv := hcv
      refine EW.ordB [(0, 0, 0), (1, 0, 0), (2, 0, 0), (3, 0, 1), (4, 0, 1), (5, 1, 1), (6, 0, 0)] (by kernel_rfl) rfl (by kernel_rfl) ?_
      simp only [opsZ, List.getD_cons_zero, List.getD_cons_succ]
      first | refine ZE.move rfl rfl rfl rfl sz0 ?_
      first | refine ZE.move rfl rfl rfl rfl sz0 ?_
      refine ZE.index rfl rfl rfl rfl rfl sz0 (fun W => iy W) ?_
      first | refine ZE.load rfl rfl rfl rfl sz1 (fun W hW => ldA (ay.below (sb_of hW))) ?_ | refine ZE.load rfl rfl rfl rfl sz1 (fun W hW => ld32 (bxi.on (sb_of hW))) ?_
      first | refine ZE.load rfl rfl rfl rfl sz1 (fun W hW => ldA (ay.below (sb_of hW))) ?_ | refine ZE.load rfl rfl rfl rfl sz1 (fun W hW => ld32 (bxi.on (sb_of hW))) ?_
      refine ZE.callB (v := .int .i64 cv) [y.val, (mkR (rightD r.d) a1 b1).val] enter13 rfl rfl rfl (fun W h => .inr h) (fun W hW => (cmpr_any y (mkR (rightD r.d) a1 b1) W (oky.below hW) (okxi.below hW)).mono fun e w' h => ⟨by rw [h.1, hcv], h.2⟩) ?_
      first | refine ZE.assign rfl rfl rfl rfl sz0 ?_
      intro w13 h13
      refine EW.on ?_
      refine EW.seq ?_
      rcases Nat.lt_trichotomy t p with htp | htp | htp
      · have z1 : (t : Int) < (p : Int) := by omega
        have z2 : ¬ (t : Int) = (p : Int) := by omega
        have z3 : ¬ (p : Int) < (t : Int) := by omega
        have z4 : cv = -1 := by
          have := hpl (by rw [hp6]; exact htp) (d_at hy)
          have : cv < 0 := by rw [← hcv]; exact this
          omega
        refine EW.region ?_
        first | refine WL.move rfl rfl rfl ?_
        first | refine WL.move rfl rfl rfl ?_
        first | refine WL.bin rfl rfl rfl rfl (int_lt_t ‹_› _ _ _) ?_ | refine WL.bin rfl rfl rfl rfl (int_lt_f ‹_› _ _ _) ?_ | refine WL.bin rfl rfl rfl rfl (int_lt_d _ _ _ _ _) ?_
        first | refine WL.move rfl rfl rfl ?_
        first | refine WL.move rfl rfl rfl ?_ | refine WL.skip _ rfl rfl rfl ?_
        first | refine WL.bin rfl rfl rfl rfl (int_ne_f rfl _ _ _) ?_ | refine WL.bin rfl rfl rfl rfl (int_ne_t ‹_› _ _ _) ?_ | refine WL.bin rfl rfl rfl rfl (int_ne_f ‹_› _ _ _) ?_ | refine WL.bin rfl rfl rfl rfl (int_ne_t (by decide) _ _ _) ?_ | refine WL.bin rfl rfl rfl rfl (int_ne_d _ _ _ _ _) ?_ | refine WL.skip _ rfl rfl rfl ?_
        first | refine WL.pick rfl rfl rfl rfl ?_
        first | refine WL.move rfl rfl rfl ?_
        first | refine WL.move rfl rfl rfl ?_ | refine WL.skip _ rfl rfl rfl ?_
        first | refine WL.move rfl rfl rfl ?_ | refine WL.skip _ rfl rfl rfl ?_
        first | refine WL.bin rfl rfl rfl rfl (int_eq_t rfl _ _ _) ?_ | refine WL.bin rfl rfl rfl rfl (int_eq_t ‹_› _ _ _) ?_ | refine WL.bin rfl rfl rfl rfl (int_eq_f ‹_› _ _ _) ?_ | refine WL.bin rfl rfl rfl rfl (int_eq_d _ _ _ _ _) ?_ | refine WL.skip _ rfl rfl rfl ?_
        first | refine WL.move rfl rfl rfl ?_ | refine WL.skip _ rfl rfl rfl ?_
        first | refine WL.move rfl rfl rfl ?_ | refine WL.skip _ rfl rfl rfl ?_
        first | refine WL.bin rfl rfl rfl rfl (int_ne_f rfl _ _ _) ?_ | refine WL.bin rfl rfl rfl rfl (int_ne_t ‹_› _ _ _) ?_ | refine WL.bin rfl rfl rfl rfl (int_ne_f ‹_› _ _ _) ?_ | refine WL.bin rfl rfl rfl rfl (int_ne_t (by decide) _ _ _) ?_ | refine WL.bin rfl rfl rfl rfl (int_ne_d _ _ _ _ _) ?_ | refine WL.skip _ rfl rfl rfl ?_
        first | refine WL.pick rfl rfl rfl rfl ?_ | refine WL.skip _ rfl rfl rfl ?_
        first | refine WL.pick rfl rfl rfl rfl ?_
        first | refine WL.move rfl rfl rfl ?_
        first | refine WL.move rfl rfl rfl ?_ | refine WL.skip _ rfl rfl rfl ?_
        first | refine WL.move rfl rfl rfl ?_ | refine WL.skip _ rfl rfl rfl ?_
        first | refine WL.bin rfl rfl rfl rfl (int_gt_t ‹_› _ _ _) ?_ | refine WL.bin rfl rfl rfl rfl (int_gt_f ‹_› _ _ _) ?_ | refine WL.bin rfl rfl rfl rfl (int_gt_d _ _ _ _ _) ?_ | refine WL.skip _ rfl rfl rfl ?_
        first | refine WL.move rfl rfl rfl ?_ | refine WL.skip _ rfl rfl rfl ?_
        first | refine WL.move rfl rfl rfl ?_ | refine WL.skip _ rfl rfl rfl ?_
        first | refine WL.bin rfl rfl rfl rfl (int_ne_f rfl _ _ _) ?_ | refine WL.bin rfl rfl rfl rfl (int_ne_t ‹_› _ _ _) ?_ | refine WL.bin rfl rfl rfl rfl (int_ne_f ‹_› _ _ _) ?_ | refine WL.bin rfl rfl rfl rfl (int_ne_t (by decide) _ _ _) ?_ | refine WL.bin rfl rfl rfl rfl (int_ne_d _ _ _ _ _) ?_ | refine WL.skip _ rfl rfl rfl ?_
        first | refine WL.pick rfl rfl rfl rfl ?_ | refine WL.skip _ rfl rfl rfl ?_
        first | refine WL.pick rfl rfl rfl rfl ?_
        refine WL.done ?_
        refine EW.on ?_
        refine EW.cond_f rfl ?_
        refine EW.skip ?_
        refine pn_block ?_
        refine EW.on ?_
        refine EW.region ?_
        first | refine WL.move rfl rfl rfl ?_
        first | refine WL.bin rfl rfl rfl rfl (int_add ‹_› _ _ _) ?_
        first | refine WL.assign rfl rfl rfl ?_
        refine WL.done ?_
        refine EW.again (E := pfE v6 q4 p) (R := PfR w8 rs6.length) (m := fun t => rs6.length - t) (x := t) (t + 1) [4, 9, 11, 13] rfl ⟨bei8.trans (h13.mono bei8.size), by omega⟩ (by show rs6.length - (t + 1) < rs6.length - t; omega)
      · have z1 : ¬ (t : Int) < (p : Int) := by omega
        have z2 : (t : Int) = (p : Int) := by omega
        have z3 : ¬ (p : Int) < (t : Int) := by omega
        have z4 : cv = 0 := by
          have e1 := isAt_some (ds := rs6.map RV.d) (x := (mkR (rightD r.d) a1 b1).d) (y := y.d) (by rw [hp6, ← htp]; exact d_at hy)
          rw [hat6] at e1
          rw [← hcv]; exact of_decide_eq_true e1.symm
        refine EW.region ?_
        first | refine WL.move rfl rfl rfl ?_
        first | refine WL.move rfl rfl rfl ?_
        first | refine WL.bin rfl rfl rfl rfl (int_lt_t ‹_› _ _ _) ?_ | refine WL.bin rfl rfl rfl rfl (int_lt_f ‹_› _ _ _) ?_ | refine WL.bin rfl rfl rfl rfl (int_lt_d _ _ _ _ _) ?_
        first | refine WL.move rfl rfl rfl ?_
        first | refine WL.move rfl rfl rfl ?_ | refine WL.skip _ rfl rfl rfl ?_
        first | refine WL.bin rfl rfl rfl rfl (int_ne_f rfl _ _ _) ?_ | refine WL.bin rfl rfl rfl rfl (int_ne_t ‹_› _ _ _) ?_ | refine WL.bin rfl rfl rfl rfl (int_ne_f ‹_› _ _ _) ?_ | refine WL.bin rfl rfl rfl rfl (int_ne_t (by decide) _ _ _) ?_ | refine WL.bin rfl rfl rfl rfl (int_ne_d _ _ _ _ _) ?_ | refine WL.skip _ rfl rfl rfl ?_
        first | refine WL.pick rfl rfl rfl rfl ?_
        first | refine WL.move rfl rfl rfl ?_
        first | refine WL.move rfl rfl rfl ?_ | refine WL.skip _ rfl rfl rfl ?_
        first | refine WL.move rfl rfl rfl ?_ | refine WL.skip _ rfl rfl rfl ?_
        first | refine WL.bin rfl rfl rfl rfl (int_eq_t rfl _ _ _) ?_ | refine WL.bin rfl rfl rfl rfl (int_eq_t ‹_› _ _ _) ?_ | refine WL.bin rfl rfl rfl rfl (int_eq_f ‹_› _ _ _) ?_ | refine WL.bin rfl rfl rfl rfl (int_eq_d _ _ _ _ _) ?_ | refine WL.skip _ rfl rfl rfl ?_
        first | refine WL.move rfl rfl rfl ?_ | refine WL.skip _ rfl rfl rfl ?_
        first | refine WL.move rfl rfl rfl ?_ | refine WL.skip _ rfl rfl rfl ?_
        first | refine WL.bin rfl rfl rfl rfl (int_ne_f rfl _ _ _) ?_ | refine WL.bin rfl rfl rfl rfl (int_ne_t ‹_› _ _ _) ?_ | refine WL.bin rfl rfl rfl rfl (int_ne_f ‹_› _ _ _) ?_ | refine WL.bin rfl rfl rfl rfl (int_ne_t (by decide) _ _ _) ?_ | refine WL.bin rfl rfl rfl rfl (int_ne_d _ _ _ _ _) ?_ | refine WL.skip _ rfl rfl rfl ?_
        first | refine WL.pick rfl rfl rfl rfl ?_ | refine WL.skip _ rfl rfl rfl ?_
        first | refine WL.pick rfl rfl rfl rfl ?_
        first | refine WL.move rfl rfl rfl ?_
        first | refine WL.move rfl rfl rfl ?_ | refine WL.skip _ rfl rfl rfl ?_
        first | refine WL.move rfl rfl rfl ?_ | refine WL.skip _ rfl rfl rfl ?_
        first | refine WL.bin rfl rfl rfl rfl (int_gt_t ‹_› _ _ _) ?_ | refine WL.bin rfl rfl rfl rfl (int_gt_f ‹_› _ _ _) ?_ | refine WL.bin rfl rfl rfl rfl (int_gt_d _ _ _ _ _) ?_ | refine WL.skip _ rfl rfl rfl ?_
        first | refine WL.move rfl rfl rfl ?_ | refine WL.skip _ rfl rfl rfl ?_
        first | refine WL.move rfl rfl rfl ?_ | refine WL.skip _ rfl rfl rfl ?_
        first | refine WL.bin rfl rfl rfl rfl (int_ne_f rfl _ _ _) ?_ | refine WL.bin rfl rfl rfl rfl (int_ne_t ‹_› _ _ _) ?_ | refine WL.bin rfl rfl rfl rfl (int_ne_f ‹_› _ _ _) ?_ | refine WL.bin rfl rfl rfl rfl (int_ne_t (by decide) _ _ _) ?_ | refine WL.bin rfl rfl rfl rfl (int_ne_d _ _ _ _ _) ?_ | refine WL.skip _ rfl rfl rfl ?_
        first | refine WL.pick rfl rfl rfl rfl ?_ | refine WL.skip _ rfl rfl rfl ?_
        first | refine WL.pick rfl rfl rfl rfl ?_
        refine WL.done ?_
        refine EW.on ?_
        refine EW.cond_f rfl ?_
        refine EW.skip ?_
        refine pn_block ?_
        refine EW.on ?_
        refine EW.region ?_
        first | refine WL.move rfl rfl rfl ?_
        first | refine WL.bin rfl rfl rfl rfl (int_add ‹_› _ _ _) ?_
        first | refine WL.assign rfl rfl rfl ?_
        refine WL.done ?_
        refine EW.again (E := pfE v6 q4 p) (R := PfR w8 rs6.length) (m := fun t => rs6.length - t) (x := t) (t + 1) [4, 9, 11, 13] rfl ⟨bei8.trans (h13.mono bei8.size), by omega⟩ (by show rs6.length - (t + 1) < rs6.length - t; omega)
      · have z1 : ¬ (t : Int) < (p : Int) := by omega
        have z2 : ¬ (t : Int) = (p : Int) := by omega
        have z3 : (p : Int) < (t : Int) := by omega
        have z4 : cv = 1 := by
          have := hpg (by rw [hp6]; exact htp) (d_at hy)
          have : 0 < cv := by rw [← hcv]; exact this
          omega
        refine EW.region ?_
        first | refine WL.move rfl rfl rfl ?_
        first | refine WL.move rfl rfl rfl ?_
        first | refine WL.bin rfl rfl rfl rfl (int_lt_t ‹_› _ _ _) ?_ | refine WL.bin rfl rfl rfl rfl (int_lt_f ‹_› _ _ _) ?_ | refine WL.bin rfl rfl rfl rfl (int_lt_d _ _ _ _ _) ?_
        first | refine WL.move rfl rfl rfl ?_
        first | refine WL.move rfl rfl rfl ?_ | refine WL.skip _ rfl rfl rfl ?_
        first | refine WL.bin rfl rfl rfl rfl (int_ne_f rfl _ _ _) ?_ | refine WL.bin rfl rfl rfl rfl (int_ne_t ‹_› _ _ _) ?_ | refine WL.bin rfl rfl rfl rfl (int_ne_f ‹_› _ _ _) ?_ | refine WL.bin rfl rfl rfl rfl (int_ne_t (by decide) _ _ _) ?_ | refine WL.bin rfl rfl rfl rfl (int_ne_d _ _ _ _ _) ?_ | refine WL.skip _ rfl rfl rfl ?_
        first | refine WL.pick rfl rfl rfl rfl ?_
        first | refine WL.move rfl rfl rfl ?_
        first | refine WL.move rfl rfl rfl ?_ | refine WL.skip _ rfl rfl rfl ?_
        first | refine WL.move rfl rfl rfl ?_ | refine WL.skip _ rfl rfl rfl ?_
        first | refine WL.bin rfl rfl rfl rfl (int_eq_t rfl _ _ _) ?_ | refine WL.bin rfl rfl rfl rfl (int_eq_t ‹_› _ _ _) ?_ | refine WL.bin rfl rfl rfl rfl (int_eq_f ‹_› _ _ _) ?_ | refine WL.bin rfl rfl rfl rfl (int_eq_d _ _ _ _ _) ?_ | refine WL.skip _ rfl rfl rfl ?_
        first | refine WL.move rfl rfl rfl ?_ | refine WL.skip _ rfl rfl rfl ?_
        first | refine WL.move rfl rfl rfl ?_ | refine WL.skip _ rfl rfl rfl ?_
        first | refine WL.bin rfl rfl rfl rfl (int_ne_f rfl _ _ _) ?_ | refine WL.bin rfl rfl rfl rfl (int_ne_t ‹_› _ _ _) ?_ | refine WL.bin rfl rfl rfl rfl (int_ne_f ‹_› _ _ _) ?_ | refine WL.bin rfl rfl rfl rfl (int_ne_t (by decide) _ _ _) ?_ | refine WL.bin rfl rfl rfl rfl (int_ne_d _ _ _ _ _) ?_ | refine WL.skip _ rfl rfl rfl ?_
        first | refine WL.pick rfl rfl rfl rfl ?_ | refine WL.skip _ rfl rfl rfl ?_
        first | refine WL.pick rfl rfl rfl rfl ?_
        first | refine WL.move rfl rfl rfl ?_
        first | refine WL.move rfl rfl rfl ?_ | refine WL.skip _ rfl rfl rfl ?_
        first | refine WL.move rfl rfl rfl ?_ | refine WL.skip _ rfl rfl rfl ?_
        first | refine WL.bin rfl rfl rfl rfl (int_gt_t ‹_› _ _ _) ?_ | refine WL.bin rfl rfl rfl rfl (int_gt_f ‹_› _ _ _) ?_ | refine WL.bin rfl rfl rfl rfl (int_gt_d _ _ _ _ _) ?_ | refine WL.skip _ rfl rfl rfl ?_
        first | refine WL.move rfl rfl rfl ?_ | refine WL.skip _ rfl rfl rfl ?_
        first | refine WL.move rfl rfl rfl ?_ | refine WL.skip _ rfl rfl rfl ?_
        first | refine WL.bin rfl rfl rfl rfl (int_ne_f rfl _ _ _) ?_ | refine WL.bin rfl rfl rfl rfl (int_ne_t ‹_› _ _ _) ?_ | refine WL.bin rfl rfl rfl rfl (int_ne_f ‹_› _ _ _) ?_ | refine WL.bin rfl rfl rfl rfl (int_ne_t (by decide) _ _ _) ?_ | refine WL.bin rfl rfl rfl rfl (int_ne_d _ _ _ _ _) ?_ | refine WL.skip _ rfl rfl rfl ?_
        first | refine WL.pick rfl rfl rfl rfl ?_ | refine WL.skip _ rfl rfl rfl ?_
        first | refine WL.pick rfl rfl rfl rfl ?_
        refine WL.done ?_
        refine EW.on ?_
        refine EW.cond_f rfl ?_
        refine EW.skip ?_
        refine pn_block ?_
        refine EW.on ?_
        refine EW.region ?_
        first | refine WL.move rfl rfl rfl ?_
        first | refine WL.bin rfl rfl rfl rfl (int_add ‹_› _ _ _) ?_
        first | refine WL.assign rfl rfl rfl ?_
        refine WL.done ?_
        refine EW.again (E := pfE v6 q4 p) (R := PfR w8 rs6.length) (m := fun t => rs6.length - t) (x := t) (t + 1) [4, 9, 11, 13] rfl ⟨bei8.trans (h13.mono bei8.size), by omega⟩ (by show rs6.length - (t + 1) < rs6.length - t; omega)
    · refine EW.exit ?_
      refine px_then ?_
      refine px_then ?_
      refine px_block ?_
      refine EW.on ?_
      refine EW.seq ?_
      have hLi := hL6.below bei
      have bxi := bx7.on bei
      have okxi := okx7.below bei
      refine EW.region ?_
      first | refine WL.move rfl rfl rfl ?_
      first | refine WL.field rfl rfl rfl (rfld0 q4 _) ?_
      first | refine WL.load rfl rfl rfl (ldI bxi rfl) ?_ | refine WL.load rfl rfl rfl (ldI by6 rfl) ?_
      first | refine WL.field rfl rfl rfl (rfld1 q4 _) ?_
      first | refine WL.load rfl rfl rfl (ldS bxi rfl) ?_ | refine WL.load rfl rfl rfl (ldS by6 rfl) ?_
      refine WL.call [v6, .int .i64 (mkR (rightD r.d) a1 b1).t, a1] enter17 rfl rfl rfl (delete_any v6 rs6 (mkR (rightD r.d) a1 b1).t a1 (mkR (rightD r.d) a1 b1).k _ hLi okxi.hk (by omega) hs6 hat6) ?_
      rintro _ w9 ⟨v9, rs9, rfl, hL9, hd9, be9⟩
      have okx9 := okxi.below be9
      have bx9 := bxi.on be9
      have e9 := ei.trans (be9.mono ei.size)
      replace hd9 : rs9.map RV.d = delD (rs6.map RV.d) (mkR (rightD r.d) a1 b1).d := hd9
      have hs9 : Srt (rs9.map RV.d) := by rw [hd9]; exact hs6.del _
      have hl9 : rs9.length ≤ 62 := by have e1 := congrArg List.length hd9; have e2 := del_len hat6; rw [List.length_map] at e1 e2; omega
      refine ⟨_, rfl, ?_⟩
      first | refine WL.move rfl rfl rfl ?_
      first | refine WL.extract rfl rfl rfl (ext_2 _ _ _).1 ?_
      first | refine WL.extract rfl rfl rfl (ext_2 _ _ _).2 ?_
      first | refine WL.assign rfl rfl rfl ?_
      first | refine WL.assign rfl rfl rfl ?_
      refine WL.done ?_
      refine EW.on ?_
      refine EW.seq ?_
      refine EW.region ?_
      first | refine WL.move rfl rfl rfl ?_
      first | refine WL.field rfl rfl rfl (rfld0 q4 _) ?_
      first | refine WL.load rfl rfl rfl (ldI bx9 rfl) ?_ | refine WL.load rfl rfl rfl (ldI by9 rfl) ?_
      first | refine WL.field rfl rfl rfl (rfld1 q4 _) ?_
      first | refine WL.load rfl rfl rfl (ldS bx9 rfl) ?_ | refine WL.load rfl rfl rfl (ldS by9 rfl) ?_
      refine WL.call [v9, .int .i64 (mkR (rightD r.d) a1 b1).t, a1] enter16 rfl rfl rfl (find_any v9 rs9 (mkR (rightD r.d) a1 b1).t a1 (mkR (rightD r.d) a1 b1).k _ hL9 okx9.hk (by omega) hs9) ?_
      rintro _ w10 ⟨rfl, be10⟩
      have okx10 := okx9.below be10
      have bx10 := bx9.on be10
      have e10 := e9.trans (be10.mono e9.size)
      rw [show placeN (rs9.map RV.d) ⟨(mkR (rightD r.d) a1 b1).t, (mkR (rightD r.d) a1 b1).k, []⟩ = p from by rw [hd9]; exact (del_place hs6 hat6).trans hp6, show isAt (rs9.map RV.d) ⟨(mkR (rightD r.d) a1 b1).t, (mkR (rightD r.d) a1 b1).k, []⟩ = false from by rw [hd9]; exact del_no hs6 hat6]
      refine ⟨_, rfl, ?_⟩
      first | refine WL.move rfl rfl rfl ?_
      first | refine WL.extract rfl rfl rfl (ext_2 _ _ _).1 ?_
      first | refine WL.extract rfl rfl rfl (ext_2 _ _ _).2 ?_
      first | refine WL.assign rfl rfl rfl ?_
      first | refine WL.assign rfl rfl rfl ?_
      refine WL.done ?_
      refine EW.on ?_
      refine EW.seq ?_
      refine EW.region ?_
      first | refine WL.move rfl rfl rfl ?_
      first | refine WL.field rfl rfl rfl (rfld0 q4 _) ?_
      first | refine WL.load rfl rfl rfl (ldI bx10 rfl) ?_ | refine WL.load rfl rfl rfl (ldI by10 rfl) ?_
      first | refine WL.field rfl rfl rfl (rfld1 q4 _) ?_
      first | refine WL.load rfl rfl rfl (ldS bx10 rfl) ?_ | refine WL.load rfl rfl rfl (ldS by10 rfl) ?_
      refine WL.call [v9, .int .i64 (mkR (rightD r.d) a1 b1).t, a1] enter17 rfl rfl rfl (delete_no v9 rs9 (mkR (rightD r.d) a1 b1).t a1 (mkR (rightD r.d) a1 b1).k _ (hL9.below be10) okx10.hk (by omega) hs9 (by rw [hd9]; exact del_no hs6 hat6)) ?_
      rintro _ w11 ⟨rfl, be11⟩
      have e11 := e10.trans (be11.mono e10.size)
      refine ⟨_, rfl, ?_⟩
      first | refine WL.move rfl rfl rfl ?_
      first | refine WL.extract rfl rfl rfl (ext_2 _ _ _).1 ?_
      first | refine WL.extract rfl rfl rfl (ext_2 _ _ _).2 ?_
      first | refine WL.assign rfl rfl rfl ?_
      first | refine WL.assign rfl rfl rfl ?_
      refine WL.done ?_
      refine EW.on ?_
      refine EW.seq ?_
      refine EW.region ?_
      first | refine WL.move rfl rfl rfl ?_
      first | refine WL.bin rfl rfl rfl rfl (int_eq_t rfl _ _ _) ?_ | refine WL.bin rfl rfl rfl rfl (int_eq_t ‹_› _ _ _) ?_ | refine WL.bin rfl rfl rfl rfl (int_eq_f ‹_› _ _ _) ?_ | refine WL.bin rfl rfl rfl rfl (int_eq_d _ _ _ _ _) ?_
      first | refine WL.move rfl rfl rfl ?_
      first | refine WL.move rfl rfl rfl ?_ | refine WL.skip _ rfl rfl rfl ?_
      first | refine WL.un rfl rfl rfl (not_t _ _) ?_ | refine WL.skip _ rfl rfl rfl ?_
      first | refine WL.pick rfl rfl rfl rfl ?_
      first | refine WL.move rfl rfl rfl ?_
      first | refine WL.move rfl rfl rfl ?_ | refine WL.skip _ rfl rfl rfl ?_
      first | refine WL.move rfl rfl rfl ?_ | refine WL.skip _ rfl rfl rfl ?_
      first | refine WL.bin rfl rfl rfl rfl (int_eq_t rfl _ _ _) ?_ | refine WL.bin rfl rfl rfl rfl (int_eq_t ‹_› _ _ _) ?_ | refine WL.bin rfl rfl rfl rfl (int_eq_f ‹_› _ _ _) ?_ | refine WL.bin rfl rfl rfl rfl (int_eq_d _ _ _ _ _) ?_ | refine WL.skip _ rfl rfl rfl ?_
      first | refine WL.pick rfl rfl rfl rfl ?_
      first | refine WL.move rfl rfl rfl ?_
      first | refine WL.move rfl rfl rfl ?_ | refine WL.skip _ rfl rfl rfl ?_
      first | refine WL.bin rfl rfl rfl rfl (int_eq_t rfl _ _ _) ?_ | refine WL.bin rfl rfl rfl rfl (int_eq_t ‹_› _ _ _) ?_ | refine WL.bin rfl rfl rfl rfl (int_eq_f ‹_› _ _ _) ?_ | refine WL.bin rfl rfl rfl rfl (int_eq_d _ _ _ _ _) ?_ | refine WL.skip _ rfl rfl rfl ?_
      first | refine WL.pick rfl rfl rfl rfl ?_
      first | refine WL.assign rfl rfl rfl ?_
      refine WL.done ?_
      refine EW.on ?_
      refine EW.ret ?_
      exact EW.returns Try.results4 rfl ⟨rfl, e11⟩
end Go.Proofs.Yteghbkeaojbdgaa
