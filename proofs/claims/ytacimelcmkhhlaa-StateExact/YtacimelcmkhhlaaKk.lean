import Derived.Test.YtacimelcmkhhlaaKj
set_option linter.unusedVariables false
set_option linter.unusedSimpArgs false
namespace Go.Proofs.Ytacimelcmkhhlaa
open Go.RowKit

set_option maxRecDepth 100000 in
set_option maxHeartbeats 4000000 in
theorem rcheckL_any (l : Lm) (k : l.ok) (w : World) : Calls Try.prog 51 #[l.v] w fun e w' => e = .returned (.int .i64 (chkL l)) ∧ Below w.heap.size w w' := by
  obtain ⟨w1, q1, r1, b1, e1, hq1⟩ := box_any 43 l.cs w
  refine calls_of_args [l.v] Try.func51 rfl 54 Try.ntmps51 (by show 1 ≤ 54; decide) ?_
  refine EW.seq ?_
  refine EW.region ?_
  refine WL.box rfl rfl rfl r1 ?_
  first | refine WL.assign rfl rfl rfl ?_
  refine WL.done ?_
  refine EW.on ?_
  refine EW.seq ?_
  refine EW.seq ?_
  have hc : (l.pe < 1) ∨ (¬ l.pe < 1 ∧ 16 < l.pe) ∨ (¬ l.pe < 1 ∧ ¬ 16 < l.pe ∧ l.pk < 1) ∨ (¬ l.pe < 1 ∧ ¬ 16 < l.pe ∧ ¬ l.pk < 1 ∧ 64 < l.pk) ∨ (¬ l.pe < 1 ∧ ¬ 16 < l.pe ∧ ¬ l.pk < 1 ∧ ¬ 64 < l.pk ∧ l.sk < 0) ∨ (¬ l.pe < 1 ∧ ¬ 16 < l.pe ∧ ¬ l.pk < 1 ∧ ¬ 64 < l.pk ∧ ¬ l.sk < 0 ∧ 64 < l.sk) ∨ (¬ l.pe < 1 ∧ ¬ 16 < l.pe ∧ ¬ l.pk < 1 ∧ ¬ 64 < l.pk ∧ ¬ l.sk < 0 ∧ ¬ 64 < l.sk ∧ l.ss < 0) ∨ (¬ l.pe < 1 ∧ ¬ 16 < l.pe ∧ ¬ l.pk < 1 ∧ ¬ 64 < l.pk ∧ ¬ l.sk < 0 ∧ ¬ 64 < l.sk ∧ ¬ l.ss < 0 ∧ 256 < l.ss) ∨ (¬ l.pe < 1 ∧ ¬ 16 < l.pe ∧ ¬ l.pk < 1 ∧ ¬ 64 < l.pk ∧ ¬ l.sk < 0 ∧ ¬ 64 < l.sk ∧ ¬ l.ss < 0 ∧ ¬ 256 < l.ss ∧ l.ob < 1) ∨ (¬ l.pe < 1 ∧ ¬ 16 < l.pe ∧ ¬ l.pk < 1 ∧ ¬ 64 < l.pk ∧ ¬ l.sk < 0 ∧ ¬ 64 < l.sk ∧ ¬ l.ss < 0 ∧ ¬ 256 < l.ss ∧ ¬ l.ob < 1 ∧ 64 < l.ob) ∨ (¬ l.pe < 1 ∧ ¬ 16 < l.pe ∧ ¬ l.pk < 1 ∧ ¬ 64 < l.pk ∧ ¬ l.sk < 0 ∧ ¬ 64 < l.sk ∧ ¬ l.ss < 0 ∧ ¬ 256 < l.ss ∧ ¬ l.ob < 1 ∧ ¬ 64 < l.ob ∧ l.ct < 1) ∨ (¬ l.pe < 1 ∧ ¬ 16 < l.pe ∧ ¬ l.pk < 1 ∧ ¬ 64 < l.pk ∧ ¬ l.sk < 0 ∧ ¬ 64 < l.sk ∧ ¬ l.ss < 0 ∧ ¬ 256 < l.ss ∧ ¬ l.ob < 1 ∧ ¬ 64 < l.ob ∧ ¬ l.ct < 1) := by
    by_cases h0 : l.pe < 1
    · exact .inl h0
    · by_cases h1 : 16 < l.pe
      · exact .inr (.inl ⟨h0, h1⟩)
      · by_cases h2 : l.pk < 1
        · exact .inr (.inr (.inl ⟨h0, h1, h2⟩))
        · by_cases h3 : 64 < l.pk
          · exact .inr (.inr (.inr (.inl ⟨h0, h1, h2, h3⟩)))
          · by_cases h4 : l.sk < 0
            · exact .inr (.inr (.inr (.inr (.inl ⟨h0, h1, h2, h3, h4⟩))))
            · by_cases h5 : 64 < l.sk
              · exact .inr (.inr (.inr (.inr (.inr (.inl ⟨h0, h1, h2, h3, h4, h5⟩)))))
              · by_cases h6 : l.ss < 0
                · exact .inr (.inr (.inr (.inr (.inr (.inr (.inl ⟨h0, h1, h2, h3, h4, h5, h6⟩))))))
                · by_cases h7 : 256 < l.ss
                  · exact .inr (.inr (.inr (.inr (.inr (.inr (.inr (.inl ⟨h0, h1, h2, h3, h4, h5, h6, h7⟩)))))))
                  · by_cases h8 : l.ob < 1
                    · exact .inr (.inr (.inr (.inr (.inr (.inr (.inr (.inr (.inl ⟨h0, h1, h2, h3, h4, h5, h6, h7, h8⟩))))))))
                    · by_cases h9 : 64 < l.ob
                      · exact .inr (.inr (.inr (.inr (.inr (.inr (.inr (.inr (.inr (.inl ⟨h0, h1, h2, h3, h4, h5, h6, h7, h8, h9⟩)))))))))
                      · by_cases h10 : l.ct < 1
                        · exact .inr (.inr (.inr (.inr (.inr (.inr (.inr (.inr (.inr (.inr (.inl ⟨h0, h1, h2, h3, h4, h5, h6, h7, h8, h9, h10⟩))))))))))
                        · exact .inr (.inr (.inr (.inr (.inr (.inr (.inr (.inr (.inr (.inr (.inr (⟨h0, h1, h2, h3, h4, h5, h6, h7, h8, h9, h10⟩)))))))))))
  rcases hc with a0 | ⟨a0, a1⟩ | ⟨a0, a1, a2⟩ | ⟨a0, a1, a2, a3⟩ | ⟨a0, a1, a2, a3, a4⟩ | ⟨a0, a1, a2, a3, a4, a5⟩ | ⟨a0, a1, a2, a3, a4, a5, a6⟩ | ⟨a0, a1, a2, a3, a4, a5, a6, a7⟩ | ⟨a0, a1, a2, a3, a4, a5, a6, a7, a8⟩ | ⟨a0, a1, a2, a3, a4, a5, a6, a7, a8, a9⟩ | ⟨a0, a1, a2, a3, a4, a5, a6, a7, a8, a9, a10⟩ | ⟨a0, a1, a2, a3, a4, a5, a6, a7, a8, a9, a10⟩
  · have hG : ¬ GoodL l := fun g => by have := g.1.1; omega
    refine EW.region ?_
    refine WL.field rfl rfl rfl (f43_0 q1 _) ?_
    refine WL.load rfl rfl rfl (Lm.ld_0 b1 k) ?_
    refine WL.bin rfl rfl rfl rfl (int_lt_t a0 _ _ _) ?_
    first | refine WL.move rfl rfl rfl ?_
    refine WL.skip _ rfl rfl rfl ?_
    refine WL.skip _ rfl rfl rfl ?_
    refine WL.skip _ rfl rfl rfl ?_
    refine WL.pick rfl rfl rfl rfl ?_
    first | refine WL.move rfl rfl rfl ?_
    refine WL.skip _ rfl rfl rfl ?_
    refine WL.skip _ rfl rfl rfl ?_
    refine WL.skip _ rfl rfl rfl ?_
    refine WL.pick rfl rfl rfl rfl ?_
    first | refine WL.move rfl rfl rfl ?_
    refine WL.skip _ rfl rfl rfl ?_
    refine WL.skip _ rfl rfl rfl ?_
    refine WL.skip _ rfl rfl rfl ?_
    refine WL.pick rfl rfl rfl rfl ?_
    first | refine WL.move rfl rfl rfl ?_
    refine WL.skip _ rfl rfl rfl ?_
    refine WL.skip _ rfl rfl rfl ?_
    refine WL.skip _ rfl rfl rfl ?_
    refine WL.pick rfl rfl rfl rfl ?_
    first | refine WL.move rfl rfl rfl ?_
    refine WL.skip _ rfl rfl rfl ?_
    refine WL.skip _ rfl rfl rfl ?_
    refine WL.skip _ rfl rfl rfl ?_
    refine WL.pick rfl rfl rfl rfl ?_
    refine WL.done ?_
    refine EW.on ?_
    refine EW.cond_t rfl ?_
    refine EW.seq ?_
    refine EW.region ?_
    first | refine WL.assign rfl rfl rfl ?_
    refine WL.done ?_
    refine EW.on ?_
    refine EW.ret ?_
    refine pr_then ?_
    exact EW.returns Try.results51 rfl ⟨by rw [chkL, if_neg hG], e1⟩
  · have hG : ¬ GoodL l := fun g => by have := g.1.2; omega
    refine EW.region ?_
    refine WL.field rfl rfl rfl (f43_0 q1 _) ?_
    refine WL.load rfl rfl rfl (Lm.ld_0 b1 k) ?_
    refine WL.bin rfl rfl rfl rfl (int_lt_f a0 _ _ _) ?_
    first | refine WL.move rfl rfl rfl ?_
    refine WL.field rfl rfl rfl (f43_0 q1 _) ?_
    refine WL.load rfl rfl rfl (Lm.ld_0 b1 k) ?_
    refine WL.bin rfl rfl rfl rfl (int_gt_t a1 _ _ _) ?_
    refine WL.pick rfl rfl rfl rfl ?_
    first | refine WL.move rfl rfl rfl ?_
    refine WL.skip _ rfl rfl rfl ?_
    refine WL.skip _ rfl rfl rfl ?_
    refine WL.skip _ rfl rfl rfl ?_
    refine WL.pick rfl rfl rfl rfl ?_
    first | refine WL.move rfl rfl rfl ?_
    refine WL.skip _ rfl rfl rfl ?_
    refine WL.skip _ rfl rfl rfl ?_
    refine WL.skip _ rfl rfl rfl ?_
    refine WL.pick rfl rfl rfl rfl ?_
    first | refine WL.move rfl rfl rfl ?_
    refine WL.skip _ rfl rfl rfl ?_
    refine WL.skip _ rfl rfl rfl ?_
    refine WL.skip _ rfl rfl rfl ?_
    refine WL.pick rfl rfl rfl rfl ?_
    first | refine WL.move rfl rfl rfl ?_
    refine WL.skip _ rfl rfl rfl ?_
    refine WL.skip _ rfl rfl rfl ?_
    refine WL.skip _ rfl rfl rfl ?_
    refine WL.pick rfl rfl rfl rfl ?_
    refine WL.done ?_
    refine EW.on ?_
    refine EW.cond_t rfl ?_
    refine EW.seq ?_
    refine EW.region ?_
    first | refine WL.assign rfl rfl rfl ?_
    refine WL.done ?_
    refine EW.on ?_
    refine EW.ret ?_
    refine pr_then ?_
    exact EW.returns Try.results51 rfl ⟨by rw [chkL, if_neg hG], e1⟩
  · have hG : ¬ GoodL l := fun g => by have := g.2.1.1; omega
    refine EW.region ?_
    refine WL.field rfl rfl rfl (f43_0 q1 _) ?_
    refine WL.load rfl rfl rfl (Lm.ld_0 b1 k) ?_
    refine WL.bin rfl rfl rfl rfl (int_lt_f a0 _ _ _) ?_
    first | refine WL.move rfl rfl rfl ?_
    refine WL.field rfl rfl rfl (f43_0 q1 _) ?_
    refine WL.load rfl rfl rfl (Lm.ld_0 b1 k) ?_
    refine WL.bin rfl rfl rfl rfl (int_gt_f a1 _ _ _) ?_
    refine WL.pick rfl rfl rfl rfl ?_
    first | refine WL.move rfl rfl rfl ?_
    refine WL.field rfl rfl rfl (f43_1 q1 _) ?_
    refine WL.load rfl rfl rfl (Lm.ld_1 b1 k) ?_
    refine WL.bin rfl rfl rfl rfl (int_lt_t a2 _ _ _) ?_
    refine WL.pick rfl rfl rfl rfl ?_
    first | refine WL.move rfl rfl rfl ?_
    refine WL.skip _ rfl rfl rfl ?_
    refine WL.skip _ rfl rfl rfl ?_
    refine WL.skip _ rfl rfl rfl ?_
    refine WL.pick rfl rfl rfl rfl ?_
    first | refine WL.move rfl rfl rfl ?_
    refine WL.skip _ rfl rfl rfl ?_
    refine WL.skip _ rfl rfl rfl ?_
    refine WL.skip _ rfl rfl rfl ?_
    refine WL.pick rfl rfl rfl rfl ?_
    first | refine WL.move rfl rfl rfl ?_
    refine WL.skip _ rfl rfl rfl ?_
    refine WL.skip _ rfl rfl rfl ?_
    refine WL.skip _ rfl rfl rfl ?_
    refine WL.pick rfl rfl rfl rfl ?_
    refine WL.done ?_
    refine EW.on ?_
    refine EW.cond_t rfl ?_
    refine EW.seq ?_
    refine EW.region ?_
    first | refine WL.assign rfl rfl rfl ?_
    refine WL.done ?_
    refine EW.on ?_
    refine EW.ret ?_
    refine pr_then ?_
    exact EW.returns Try.results51 rfl ⟨by rw [chkL, if_neg hG], e1⟩
  · have hG : ¬ GoodL l := fun g => by have := g.2.1.2; omega
    refine EW.region ?_
    refine WL.field rfl rfl rfl (f43_0 q1 _) ?_
    refine WL.load rfl rfl rfl (Lm.ld_0 b1 k) ?_
    refine WL.bin rfl rfl rfl rfl (int_lt_f a0 _ _ _) ?_
    first | refine WL.move rfl rfl rfl ?_
    refine WL.field rfl rfl rfl (f43_0 q1 _) ?_
    refine WL.load rfl rfl rfl (Lm.ld_0 b1 k) ?_
    refine WL.bin rfl rfl rfl rfl (int_gt_f a1 _ _ _) ?_
    refine WL.pick rfl rfl rfl rfl ?_
    first | refine WL.move rfl rfl rfl ?_
    refine WL.field rfl rfl rfl (f43_1 q1 _) ?_
    refine WL.load rfl rfl rfl (Lm.ld_1 b1 k) ?_
    refine WL.bin rfl rfl rfl rfl (int_lt_f a2 _ _ _) ?_
    refine WL.pick rfl rfl rfl rfl ?_
    first | refine WL.move rfl rfl rfl ?_
    refine WL.field rfl rfl rfl (f43_1 q1 _) ?_
    refine WL.load rfl rfl rfl (Lm.ld_1 b1 k) ?_
    refine WL.bin rfl rfl rfl rfl (int_gt_t a3 _ _ _) ?_
    refine WL.pick rfl rfl rfl rfl ?_
    first | refine WL.move rfl rfl rfl ?_
    refine WL.skip _ rfl rfl rfl ?_
    refine WL.skip _ rfl rfl rfl ?_
    refine WL.skip _ rfl rfl rfl ?_
    refine WL.pick rfl rfl rfl rfl ?_
    first | refine WL.move rfl rfl rfl ?_
    refine WL.skip _ rfl rfl rfl ?_
    refine WL.skip _ rfl rfl rfl ?_
    refine WL.skip _ rfl rfl rfl ?_
    refine WL.pick rfl rfl rfl rfl ?_
    refine WL.done ?_
    refine EW.on ?_
    refine EW.cond_t rfl ?_
    refine EW.seq ?_
    refine EW.region ?_
    first | refine WL.assign rfl rfl rfl ?_
    refine WL.done ?_
    refine EW.on ?_
    refine EW.ret ?_
    refine pr_then ?_
    exact EW.returns Try.results51 rfl ⟨by rw [chkL, if_neg hG], e1⟩
  · have hG : ¬ GoodL l := fun g => by have := g.2.2.1.1; omega
    refine EW.region ?_
    refine WL.field rfl rfl rfl (f43_0 q1 _) ?_
    refine WL.load rfl rfl rfl (Lm.ld_0 b1 k) ?_
    refine WL.bin rfl rfl rfl rfl (int_lt_f a0 _ _ _) ?_
    first | refine WL.move rfl rfl rfl ?_
    refine WL.field rfl rfl rfl (f43_0 q1 _) ?_
    refine WL.load rfl rfl rfl (Lm.ld_0 b1 k) ?_
    refine WL.bin rfl rfl rfl rfl (int_gt_f a1 _ _ _) ?_
    refine WL.pick rfl rfl rfl rfl ?_
    first | refine WL.move rfl rfl rfl ?_
    refine WL.field rfl rfl rfl (f43_1 q1 _) ?_
    refine WL.load rfl rfl rfl (Lm.ld_1 b1 k) ?_
    refine WL.bin rfl rfl rfl rfl (int_lt_f a2 _ _ _) ?_
    refine WL.pick rfl rfl rfl rfl ?_
    first | refine WL.move rfl rfl rfl ?_
    refine WL.field rfl rfl rfl (f43_1 q1 _) ?_
    refine WL.load rfl rfl rfl (Lm.ld_1 b1 k) ?_
    refine WL.bin rfl rfl rfl rfl (int_gt_f a3 _ _ _) ?_
    refine WL.pick rfl rfl rfl rfl ?_
    first | refine WL.move rfl rfl rfl ?_
    refine WL.field rfl rfl rfl (f43_2 q1 _) ?_
    refine WL.load rfl rfl rfl (Lm.ld_2 b1 k) ?_
    refine WL.bin rfl rfl rfl rfl (int_lt_t a4 _ _ _) ?_
    refine WL.pick rfl rfl rfl rfl ?_
    first | refine WL.move rfl rfl rfl ?_
    refine WL.skip _ rfl rfl rfl ?_
    refine WL.skip _ rfl rfl rfl ?_
    refine WL.skip _ rfl rfl rfl ?_
    refine WL.pick rfl rfl rfl rfl ?_
    refine WL.done ?_
    refine EW.on ?_
    refine EW.cond_t rfl ?_
    refine EW.seq ?_
    refine EW.region ?_
    first | refine WL.assign rfl rfl rfl ?_
    refine WL.done ?_
    refine EW.on ?_
    refine EW.ret ?_
    refine pr_then ?_
    exact EW.returns Try.results51 rfl ⟨by rw [chkL, if_neg hG], e1⟩
  · have hG : ¬ GoodL l := fun g => by have := g.2.2.1.2; omega
    refine EW.region ?_
    refine WL.field rfl rfl rfl (f43_0 q1 _) ?_
    refine WL.load rfl rfl rfl (Lm.ld_0 b1 k) ?_
    refine WL.bin rfl rfl rfl rfl (int_lt_f a0 _ _ _) ?_
    first | refine WL.move rfl rfl rfl ?_
    refine WL.field rfl rfl rfl (f43_0 q1 _) ?_
    refine WL.load rfl rfl rfl (Lm.ld_0 b1 k) ?_
    refine WL.bin rfl rfl rfl rfl (int_gt_f a1 _ _ _) ?_
    refine WL.pick rfl rfl rfl rfl ?_
    first | refine WL.move rfl rfl rfl ?_
    refine WL.field rfl rfl rfl (f43_1 q1 _) ?_
    refine WL.load rfl rfl rfl (Lm.ld_1 b1 k) ?_
    refine WL.bin rfl rfl rfl rfl (int_lt_f a2 _ _ _) ?_
    refine WL.pick rfl rfl rfl rfl ?_
    first | refine WL.move rfl rfl rfl ?_
    refine WL.field rfl rfl rfl (f43_1 q1 _) ?_
    refine WL.load rfl rfl rfl (Lm.ld_1 b1 k) ?_
    refine WL.bin rfl rfl rfl rfl (int_gt_f a3 _ _ _) ?_
    refine WL.pick rfl rfl rfl rfl ?_
    first | refine WL.move rfl rfl rfl ?_
    refine WL.field rfl rfl rfl (f43_2 q1 _) ?_
    refine WL.load rfl rfl rfl (Lm.ld_2 b1 k) ?_
    refine WL.bin rfl rfl rfl rfl (int_lt_f a4 _ _ _) ?_
    refine WL.pick rfl rfl rfl rfl ?_
    first | refine WL.move rfl rfl rfl ?_
    refine WL.field rfl rfl rfl (f43_2 q1 _) ?_
    refine WL.load rfl rfl rfl (Lm.ld_2 b1 k) ?_
    refine WL.bin rfl rfl rfl rfl (int_gt_t a5 _ _ _) ?_
    refine WL.pick rfl rfl rfl rfl ?_
    refine WL.done ?_
    refine EW.on ?_
    refine EW.cond_t rfl ?_
    refine EW.seq ?_
    refine EW.region ?_
    first | refine WL.assign rfl rfl rfl ?_
    refine WL.done ?_
    refine EW.on ?_
    refine EW.ret ?_
    refine pr_then ?_
    exact EW.returns Try.results51 rfl ⟨by rw [chkL, if_neg hG], e1⟩
  · have hG : ¬ GoodL l := fun g => by have := g.2.2.2.1.1; omega
    refine EW.region ?_
    refine WL.field rfl rfl rfl (f43_0 q1 _) ?_
    refine WL.load rfl rfl rfl (Lm.ld_0 b1 k) ?_
    refine WL.bin rfl rfl rfl rfl (int_lt_f a0 _ _ _) ?_
    first | refine WL.move rfl rfl rfl ?_
    refine WL.field rfl rfl rfl (f43_0 q1 _) ?_
    refine WL.load rfl rfl rfl (Lm.ld_0 b1 k) ?_
    refine WL.bin rfl rfl rfl rfl (int_gt_f a1 _ _ _) ?_
    refine WL.pick rfl rfl rfl rfl ?_
    first | refine WL.move rfl rfl rfl ?_
    refine WL.field rfl rfl rfl (f43_1 q1 _) ?_
    refine WL.load rfl rfl rfl (Lm.ld_1 b1 k) ?_
    refine WL.bin rfl rfl rfl rfl (int_lt_f a2 _ _ _) ?_
    refine WL.pick rfl rfl rfl rfl ?_
    first | refine WL.move rfl rfl rfl ?_
    refine WL.field rfl rfl rfl (f43_1 q1 _) ?_
    refine WL.load rfl rfl rfl (Lm.ld_1 b1 k) ?_
    refine WL.bin rfl rfl rfl rfl (int_gt_f a3 _ _ _) ?_
    refine WL.pick rfl rfl rfl rfl ?_
    first | refine WL.move rfl rfl rfl ?_
    refine WL.field rfl rfl rfl (f43_2 q1 _) ?_
    refine WL.load rfl rfl rfl (Lm.ld_2 b1 k) ?_
    refine WL.bin rfl rfl rfl rfl (int_lt_f a4 _ _ _) ?_
    refine WL.pick rfl rfl rfl rfl ?_
    first | refine WL.move rfl rfl rfl ?_
    refine WL.field rfl rfl rfl (f43_2 q1 _) ?_
    refine WL.load rfl rfl rfl (Lm.ld_2 b1 k) ?_
    refine WL.bin rfl rfl rfl rfl (int_gt_f a5 _ _ _) ?_
    refine WL.pick rfl rfl rfl rfl ?_
    refine WL.done ?_
    refine EW.on ?_
    refine EW.cond_f rfl ?_
    refine EW.skip ?_
    refine EW.on ?_
    refine EW.seq ?_
    refine EW.seq ?_
    refine EW.region ?_
    refine WL.field rfl rfl rfl (f43_3 q1 _) ?_
    refine WL.load rfl rfl rfl (Lm.ld_3 b1 k) ?_
    refine WL.bin rfl rfl rfl rfl (int_lt_t a6 _ _ _) ?_
    first | refine WL.move rfl rfl rfl ?_
    refine WL.skip _ rfl rfl rfl ?_
    refine WL.skip _ rfl rfl rfl ?_
    refine WL.skip _ rfl rfl rfl ?_
    refine WL.pick rfl rfl rfl rfl ?_
    first | refine WL.move rfl rfl rfl ?_
    refine WL.skip _ rfl rfl rfl ?_
    refine WL.skip _ rfl rfl rfl ?_
    refine WL.skip _ rfl rfl rfl ?_
    refine WL.pick rfl rfl rfl rfl ?_
    first | refine WL.move rfl rfl rfl ?_
    refine WL.skip _ rfl rfl rfl ?_
    refine WL.skip _ rfl rfl rfl ?_
    refine WL.skip _ rfl rfl rfl ?_
    refine WL.pick rfl rfl rfl rfl ?_
    first | refine WL.move rfl rfl rfl ?_
    refine WL.skip _ rfl rfl rfl ?_
    refine WL.skip _ rfl rfl rfl ?_
    refine WL.skip _ rfl rfl rfl ?_
    refine WL.pick rfl rfl rfl rfl ?_
    refine WL.done ?_
    refine EW.on ?_
    refine EW.cond_t rfl ?_
    refine EW.seq ?_
    refine EW.region ?_
    first | refine WL.assign rfl rfl rfl ?_
    refine WL.done ?_
    refine EW.on ?_
    refine EW.ret ?_
    refine pr_then ?_
    exact EW.returns Try.results51 rfl ⟨by rw [chkL, if_neg hG], e1⟩
  · have hG : ¬ GoodL l := fun g => by have := g.2.2.2.1.2; omega
    refine EW.region ?_
    refine WL.field rfl rfl rfl (f43_0 q1 _) ?_
    refine WL.load rfl rfl rfl (Lm.ld_0 b1 k) ?_
    refine WL.bin rfl rfl rfl rfl (int_lt_f a0 _ _ _) ?_
    first | refine WL.move rfl rfl rfl ?_
    refine WL.field rfl rfl rfl (f43_0 q1 _) ?_
    refine WL.load rfl rfl rfl (Lm.ld_0 b1 k) ?_
    refine WL.bin rfl rfl rfl rfl (int_gt_f a1 _ _ _) ?_
    refine WL.pick rfl rfl rfl rfl ?_
    first | refine WL.move rfl rfl rfl ?_
    refine WL.field rfl rfl rfl (f43_1 q1 _) ?_
    refine WL.load rfl rfl rfl (Lm.ld_1 b1 k) ?_
    refine WL.bin rfl rfl rfl rfl (int_lt_f a2 _ _ _) ?_
    refine WL.pick rfl rfl rfl rfl ?_
    first | refine WL.move rfl rfl rfl ?_
    refine WL.field rfl rfl rfl (f43_1 q1 _) ?_
    refine WL.load rfl rfl rfl (Lm.ld_1 b1 k) ?_
    refine WL.bin rfl rfl rfl rfl (int_gt_f a3 _ _ _) ?_
    refine WL.pick rfl rfl rfl rfl ?_
    first | refine WL.move rfl rfl rfl ?_
    refine WL.field rfl rfl rfl (f43_2 q1 _) ?_
    refine WL.load rfl rfl rfl (Lm.ld_2 b1 k) ?_
    refine WL.bin rfl rfl rfl rfl (int_lt_f a4 _ _ _) ?_
    refine WL.pick rfl rfl rfl rfl ?_
    first | refine WL.move rfl rfl rfl ?_
    refine WL.field rfl rfl rfl (f43_2 q1 _) ?_
    refine WL.load rfl rfl rfl (Lm.ld_2 b1 k) ?_
    refine WL.bin rfl rfl rfl rfl (int_gt_f a5 _ _ _) ?_
    refine WL.pick rfl rfl rfl rfl ?_
    refine WL.done ?_
    refine EW.on ?_
    refine EW.cond_f rfl ?_
    refine EW.skip ?_
    refine EW.on ?_
    refine EW.seq ?_
    refine EW.seq ?_
    refine EW.region ?_
    refine WL.field rfl rfl rfl (f43_3 q1 _) ?_
    refine WL.load rfl rfl rfl (Lm.ld_3 b1 k) ?_
    refine WL.bin rfl rfl rfl rfl (int_lt_f a6 _ _ _) ?_
    first | refine WL.move rfl rfl rfl ?_
    refine WL.field rfl rfl rfl (f43_3 q1 _) ?_
    refine WL.load rfl rfl rfl (Lm.ld_3 b1 k) ?_
    refine WL.bin rfl rfl rfl rfl (int_gt_t a7 _ _ _) ?_
    refine WL.pick rfl rfl rfl rfl ?_
    first | refine WL.move rfl rfl rfl ?_
    refine WL.skip _ rfl rfl rfl ?_
    refine WL.skip _ rfl rfl rfl ?_
    refine WL.skip _ rfl rfl rfl ?_
    refine WL.pick rfl rfl rfl rfl ?_
    first | refine WL.move rfl rfl rfl ?_
    refine WL.skip _ rfl rfl rfl ?_
    refine WL.skip _ rfl rfl rfl ?_
    refine WL.skip _ rfl rfl rfl ?_
    refine WL.pick rfl rfl rfl rfl ?_
    first | refine WL.move rfl rfl rfl ?_
    refine WL.skip _ rfl rfl rfl ?_
    refine WL.skip _ rfl rfl rfl ?_
    refine WL.skip _ rfl rfl rfl ?_
    refine WL.pick rfl rfl rfl rfl ?_
    refine WL.done ?_
    refine EW.on ?_
    refine EW.cond_t rfl ?_
    refine EW.seq ?_
    refine EW.region ?_
    first | refine WL.assign rfl rfl rfl ?_
    refine WL.done ?_
    refine EW.on ?_
    refine EW.ret ?_
    refine pr_then ?_
    exact EW.returns Try.results51 rfl ⟨by rw [chkL, if_neg hG], e1⟩
  · have hG : ¬ GoodL l := fun g => by have := g.2.2.2.2.1.1; omega
    refine EW.region ?_
    refine WL.field rfl rfl rfl (f43_0 q1 _) ?_
    refine WL.load rfl rfl rfl (Lm.ld_0 b1 k) ?_
    refine WL.bin rfl rfl rfl rfl (int_lt_f a0 _ _ _) ?_
    first | refine WL.move rfl rfl rfl ?_
    refine WL.field rfl rfl rfl (f43_0 q1 _) ?_
    refine WL.load rfl rfl rfl (Lm.ld_0 b1 k) ?_
    refine WL.bin rfl rfl rfl rfl (int_gt_f a1 _ _ _) ?_
    refine WL.pick rfl rfl rfl rfl ?_
    first | refine WL.move rfl rfl rfl ?_
    refine WL.field rfl rfl rfl (f43_1 q1 _) ?_
    refine WL.load rfl rfl rfl (Lm.ld_1 b1 k) ?_
    refine WL.bin rfl rfl rfl rfl (int_lt_f a2 _ _ _) ?_
    refine WL.pick rfl rfl rfl rfl ?_
    first | refine WL.move rfl rfl rfl ?_
    refine WL.field rfl rfl rfl (f43_1 q1 _) ?_
    refine WL.load rfl rfl rfl (Lm.ld_1 b1 k) ?_
    refine WL.bin rfl rfl rfl rfl (int_gt_f a3 _ _ _) ?_
    refine WL.pick rfl rfl rfl rfl ?_
    first | refine WL.move rfl rfl rfl ?_
    refine WL.field rfl rfl rfl (f43_2 q1 _) ?_
    refine WL.load rfl rfl rfl (Lm.ld_2 b1 k) ?_
    refine WL.bin rfl rfl rfl rfl (int_lt_f a4 _ _ _) ?_
    refine WL.pick rfl rfl rfl rfl ?_
    first | refine WL.move rfl rfl rfl ?_
    refine WL.field rfl rfl rfl (f43_2 q1 _) ?_
    refine WL.load rfl rfl rfl (Lm.ld_2 b1 k) ?_
    refine WL.bin rfl rfl rfl rfl (int_gt_f a5 _ _ _) ?_
    refine WL.pick rfl rfl rfl rfl ?_
    refine WL.done ?_
    refine EW.on ?_
    refine EW.cond_f rfl ?_
    refine EW.skip ?_
    refine EW.on ?_
    refine EW.seq ?_
    refine EW.seq ?_
    refine EW.region ?_
    refine WL.field rfl rfl rfl (f43_3 q1 _) ?_
    refine WL.load rfl rfl rfl (Lm.ld_3 b1 k) ?_
    refine WL.bin rfl rfl rfl rfl (int_lt_f a6 _ _ _) ?_
    first | refine WL.move rfl rfl rfl ?_
    refine WL.field rfl rfl rfl (f43_3 q1 _) ?_
    refine WL.load rfl rfl rfl (Lm.ld_3 b1 k) ?_
    refine WL.bin rfl rfl rfl rfl (int_gt_f a7 _ _ _) ?_
    refine WL.pick rfl rfl rfl rfl ?_
    first | refine WL.move rfl rfl rfl ?_
    refine WL.field rfl rfl rfl (f43_4 q1 _) ?_
    refine WL.load rfl rfl rfl (Lm.ld_4 b1 k) ?_
    refine WL.bin rfl rfl rfl rfl (int_lt_t a8 _ _ _) ?_
    refine WL.pick rfl rfl rfl rfl ?_
    first | refine WL.move rfl rfl rfl ?_
    refine WL.skip _ rfl rfl rfl ?_
    refine WL.skip _ rfl rfl rfl ?_
    refine WL.skip _ rfl rfl rfl ?_
    refine WL.pick rfl rfl rfl rfl ?_
    first | refine WL.move rfl rfl rfl ?_
    refine WL.skip _ rfl rfl rfl ?_
    refine WL.skip _ rfl rfl rfl ?_
    refine WL.skip _ rfl rfl rfl ?_
    refine WL.pick rfl rfl rfl rfl ?_
    refine WL.done ?_
    refine EW.on ?_
    refine EW.cond_t rfl ?_
    refine EW.seq ?_
    refine EW.region ?_
    first | refine WL.assign rfl rfl rfl ?_
    refine WL.done ?_
    refine EW.on ?_
    refine EW.ret ?_
    refine pr_then ?_
    exact EW.returns Try.results51 rfl ⟨by rw [chkL, if_neg hG], e1⟩
  · have hG : ¬ GoodL l := fun g => by have := g.2.2.2.2.1.2; omega
    refine EW.region ?_
    refine WL.field rfl rfl rfl (f43_0 q1 _) ?_
    refine WL.load rfl rfl rfl (Lm.ld_0 b1 k) ?_
    refine WL.bin rfl rfl rfl rfl (int_lt_f a0 _ _ _) ?_
    first | refine WL.move rfl rfl rfl ?_
    refine WL.field rfl rfl rfl (f43_0 q1 _) ?_
    refine WL.load rfl rfl rfl (Lm.ld_0 b1 k) ?_
    refine WL.bin rfl rfl rfl rfl (int_gt_f a1 _ _ _) ?_
    refine WL.pick rfl rfl rfl rfl ?_
    first | refine WL.move rfl rfl rfl ?_
    refine WL.field rfl rfl rfl (f43_1 q1 _) ?_
    refine WL.load rfl rfl rfl (Lm.ld_1 b1 k) ?_
    refine WL.bin rfl rfl rfl rfl (int_lt_f a2 _ _ _) ?_
    refine WL.pick rfl rfl rfl rfl ?_
    first | refine WL.move rfl rfl rfl ?_
    refine WL.field rfl rfl rfl (f43_1 q1 _) ?_
    refine WL.load rfl rfl rfl (Lm.ld_1 b1 k) ?_
    refine WL.bin rfl rfl rfl rfl (int_gt_f a3 _ _ _) ?_
    refine WL.pick rfl rfl rfl rfl ?_
    first | refine WL.move rfl rfl rfl ?_
    refine WL.field rfl rfl rfl (f43_2 q1 _) ?_
    refine WL.load rfl rfl rfl (Lm.ld_2 b1 k) ?_
    refine WL.bin rfl rfl rfl rfl (int_lt_f a4 _ _ _) ?_
    refine WL.pick rfl rfl rfl rfl ?_
    first | refine WL.move rfl rfl rfl ?_
    refine WL.field rfl rfl rfl (f43_2 q1 _) ?_
    refine WL.load rfl rfl rfl (Lm.ld_2 b1 k) ?_
    refine WL.bin rfl rfl rfl rfl (int_gt_f a5 _ _ _) ?_
    refine WL.pick rfl rfl rfl rfl ?_
    refine WL.done ?_
    refine EW.on ?_
    refine EW.cond_f rfl ?_
    refine EW.skip ?_
    refine EW.on ?_
    refine EW.seq ?_
    refine EW.seq ?_
    refine EW.region ?_
    refine WL.field rfl rfl rfl (f43_3 q1 _) ?_
    refine WL.load rfl rfl rfl (Lm.ld_3 b1 k) ?_
    refine WL.bin rfl rfl rfl rfl (int_lt_f a6 _ _ _) ?_
    first | refine WL.move rfl rfl rfl ?_
    refine WL.field rfl rfl rfl (f43_3 q1 _) ?_
    refine WL.load rfl rfl rfl (Lm.ld_3 b1 k) ?_
    refine WL.bin rfl rfl rfl rfl (int_gt_f a7 _ _ _) ?_
    refine WL.pick rfl rfl rfl rfl ?_
    first | refine WL.move rfl rfl rfl ?_
    refine WL.field rfl rfl rfl (f43_4 q1 _) ?_
    refine WL.load rfl rfl rfl (Lm.ld_4 b1 k) ?_
    refine WL.bin rfl rfl rfl rfl (int_lt_f a8 _ _ _) ?_
    refine WL.pick rfl rfl rfl rfl ?_
    first | refine WL.move rfl rfl rfl ?_
    refine WL.field rfl rfl rfl (f43_4 q1 _) ?_
    refine WL.load rfl rfl rfl (Lm.ld_4 b1 k) ?_
    refine WL.bin rfl rfl rfl rfl (int_gt_t a9 _ _ _) ?_
    refine WL.pick rfl rfl rfl rfl ?_
    first | refine WL.move rfl rfl rfl ?_
    refine WL.skip _ rfl rfl rfl ?_
    refine WL.skip _ rfl rfl rfl ?_
    refine WL.skip _ rfl rfl rfl ?_
    refine WL.pick rfl rfl rfl rfl ?_
    refine WL.done ?_
    refine EW.on ?_
    refine EW.cond_t rfl ?_
    refine EW.seq ?_
    refine EW.region ?_
    first | refine WL.assign rfl rfl rfl ?_
    refine WL.done ?_
    refine EW.on ?_
    refine EW.ret ?_
    refine pr_then ?_
    exact EW.returns Try.results51 rfl ⟨by rw [chkL, if_neg hG], e1⟩
  · have hG : ¬ GoodL l := fun g => by have := g.2.2.2.2.2; omega
    refine EW.region ?_
    refine WL.field rfl rfl rfl (f43_0 q1 _) ?_
    refine WL.load rfl rfl rfl (Lm.ld_0 b1 k) ?_
    refine WL.bin rfl rfl rfl rfl (int_lt_f a0 _ _ _) ?_
    first | refine WL.move rfl rfl rfl ?_
    refine WL.field rfl rfl rfl (f43_0 q1 _) ?_
    refine WL.load rfl rfl rfl (Lm.ld_0 b1 k) ?_
    refine WL.bin rfl rfl rfl rfl (int_gt_f a1 _ _ _) ?_
    refine WL.pick rfl rfl rfl rfl ?_
    first | refine WL.move rfl rfl rfl ?_
    refine WL.field rfl rfl rfl (f43_1 q1 _) ?_
    refine WL.load rfl rfl rfl (Lm.ld_1 b1 k) ?_
    refine WL.bin rfl rfl rfl rfl (int_lt_f a2 _ _ _) ?_
    refine WL.pick rfl rfl rfl rfl ?_
    first | refine WL.move rfl rfl rfl ?_
    refine WL.field rfl rfl rfl (f43_1 q1 _) ?_
    refine WL.load rfl rfl rfl (Lm.ld_1 b1 k) ?_
    refine WL.bin rfl rfl rfl rfl (int_gt_f a3 _ _ _) ?_
    refine WL.pick rfl rfl rfl rfl ?_
    first | refine WL.move rfl rfl rfl ?_
    refine WL.field rfl rfl rfl (f43_2 q1 _) ?_
    refine WL.load rfl rfl rfl (Lm.ld_2 b1 k) ?_
    refine WL.bin rfl rfl rfl rfl (int_lt_f a4 _ _ _) ?_
    refine WL.pick rfl rfl rfl rfl ?_
    first | refine WL.move rfl rfl rfl ?_
    refine WL.field rfl rfl rfl (f43_2 q1 _) ?_
    refine WL.load rfl rfl rfl (Lm.ld_2 b1 k) ?_
    refine WL.bin rfl rfl rfl rfl (int_gt_f a5 _ _ _) ?_
    refine WL.pick rfl rfl rfl rfl ?_
    refine WL.done ?_
    refine EW.on ?_
    refine EW.cond_f rfl ?_
    refine EW.skip ?_
    refine EW.on ?_
    refine EW.seq ?_
    refine EW.seq ?_
    refine EW.region ?_
    refine WL.field rfl rfl rfl (f43_3 q1 _) ?_
    refine WL.load rfl rfl rfl (Lm.ld_3 b1 k) ?_
    refine WL.bin rfl rfl rfl rfl (int_lt_f a6 _ _ _) ?_
    first | refine WL.move rfl rfl rfl ?_
    refine WL.field rfl rfl rfl (f43_3 q1 _) ?_
    refine WL.load rfl rfl rfl (Lm.ld_3 b1 k) ?_
    refine WL.bin rfl rfl rfl rfl (int_gt_f a7 _ _ _) ?_
    refine WL.pick rfl rfl rfl rfl ?_
    first | refine WL.move rfl rfl rfl ?_
    refine WL.field rfl rfl rfl (f43_4 q1 _) ?_
    refine WL.load rfl rfl rfl (Lm.ld_4 b1 k) ?_
    refine WL.bin rfl rfl rfl rfl (int_lt_f a8 _ _ _) ?_
    refine WL.pick rfl rfl rfl rfl ?_
    first | refine WL.move rfl rfl rfl ?_
    refine WL.field rfl rfl rfl (f43_4 q1 _) ?_
    refine WL.load rfl rfl rfl (Lm.ld_4 b1 k) ?_
    refine WL.bin rfl rfl rfl rfl (int_gt_f a9 _ _ _) ?_
    refine WL.pick rfl rfl rfl rfl ?_
    first | refine WL.move rfl rfl rfl ?_
    refine WL.field rfl rfl rfl (f43_5 q1 _) ?_
    refine WL.load rfl rfl rfl (Lm.ld_5 b1 k) ?_
    refine WL.bin rfl rfl rfl rfl (u_lt_t a10 _ _ _) ?_
    refine WL.pick rfl rfl rfl rfl ?_
    refine WL.done ?_
    refine EW.on ?_
    refine EW.cond_t rfl ?_
    refine EW.seq ?_
    refine EW.region ?_
    first | refine WL.assign rfl rfl rfl ?_
    refine WL.done ?_
    refine EW.on ?_
    refine EW.ret ?_
    refine pr_then ?_
    exact EW.returns Try.results51 rfl ⟨by rw [chkL, if_neg hG], e1⟩
  · have hG : GoodL l := ⟨⟨by omega, by omega⟩, ⟨by omega, by omega⟩, ⟨by omega, by omega⟩, ⟨by omega, by omega⟩, ⟨by omega, by omega⟩, by omega⟩
    refine EW.region ?_
    refine WL.field rfl rfl rfl (f43_0 q1 _) ?_
    refine WL.load rfl rfl rfl (Lm.ld_0 b1 k) ?_
    refine WL.bin rfl rfl rfl rfl (int_lt_f a0 _ _ _) ?_
    first | refine WL.move rfl rfl rfl ?_
    refine WL.field rfl rfl rfl (f43_0 q1 _) ?_
    refine WL.load rfl rfl rfl (Lm.ld_0 b1 k) ?_
    refine WL.bin rfl rfl rfl rfl (int_gt_f a1 _ _ _) ?_
    refine WL.pick rfl rfl rfl rfl ?_
    first | refine WL.move rfl rfl rfl ?_
    refine WL.field rfl rfl rfl (f43_1 q1 _) ?_
    refine WL.load rfl rfl rfl (Lm.ld_1 b1 k) ?_
    refine WL.bin rfl rfl rfl rfl (int_lt_f a2 _ _ _) ?_
    refine WL.pick rfl rfl rfl rfl ?_
    first | refine WL.move rfl rfl rfl ?_
    refine WL.field rfl rfl rfl (f43_1 q1 _) ?_
    refine WL.load rfl rfl rfl (Lm.ld_1 b1 k) ?_
    refine WL.bin rfl rfl rfl rfl (int_gt_f a3 _ _ _) ?_
    refine WL.pick rfl rfl rfl rfl ?_
    first | refine WL.move rfl rfl rfl ?_
    refine WL.field rfl rfl rfl (f43_2 q1 _) ?_
    refine WL.load rfl rfl rfl (Lm.ld_2 b1 k) ?_
    refine WL.bin rfl rfl rfl rfl (int_lt_f a4 _ _ _) ?_
    refine WL.pick rfl rfl rfl rfl ?_
    first | refine WL.move rfl rfl rfl ?_
    refine WL.field rfl rfl rfl (f43_2 q1 _) ?_
    refine WL.load rfl rfl rfl (Lm.ld_2 b1 k) ?_
    refine WL.bin rfl rfl rfl rfl (int_gt_f a5 _ _ _) ?_
    refine WL.pick rfl rfl rfl rfl ?_
    refine WL.done ?_
    refine EW.on ?_
    refine EW.cond_f rfl ?_
    refine EW.skip ?_
    refine EW.on ?_
    refine EW.seq ?_
    refine EW.seq ?_
    refine EW.region ?_
    refine WL.field rfl rfl rfl (f43_3 q1 _) ?_
    refine WL.load rfl rfl rfl (Lm.ld_3 b1 k) ?_
    refine WL.bin rfl rfl rfl rfl (int_lt_f a6 _ _ _) ?_
    first | refine WL.move rfl rfl rfl ?_
    refine WL.field rfl rfl rfl (f43_3 q1 _) ?_
    refine WL.load rfl rfl rfl (Lm.ld_3 b1 k) ?_
    refine WL.bin rfl rfl rfl rfl (int_gt_f a7 _ _ _) ?_
    refine WL.pick rfl rfl rfl rfl ?_
    first | refine WL.move rfl rfl rfl ?_
    refine WL.field rfl rfl rfl (f43_4 q1 _) ?_
    refine WL.load rfl rfl rfl (Lm.ld_4 b1 k) ?_
    refine WL.bin rfl rfl rfl rfl (int_lt_f a8 _ _ _) ?_
    refine WL.pick rfl rfl rfl rfl ?_
    first | refine WL.move rfl rfl rfl ?_
    refine WL.field rfl rfl rfl (f43_4 q1 _) ?_
    refine WL.load rfl rfl rfl (Lm.ld_4 b1 k) ?_
    refine WL.bin rfl rfl rfl rfl (int_gt_f a9 _ _ _) ?_
    refine WL.pick rfl rfl rfl rfl ?_
    first | refine WL.move rfl rfl rfl ?_
    refine WL.field rfl rfl rfl (f43_5 q1 _) ?_
    refine WL.load rfl rfl rfl (Lm.ld_5 b1 k) ?_
    refine WL.bin rfl rfl rfl rfl (u_lt_f a10 _ _ _) ?_
    refine WL.pick rfl rfl rfl rfl ?_
    refine WL.done ?_
    refine EW.on ?_
    refine EW.cond_f rfl ?_
    refine EW.skip ?_
    refine EW.on ?_
    refine EW.seq ?_
    refine EW.region ?_
    first | refine WL.assign rfl rfl rfl ?_
    refine WL.done ?_
    refine EW.on ?_
    refine EW.ret ?_
    exact EW.returns Try.results51 rfl ⟨by rw [chkL, if_pos hG], e1⟩
theorem sfx2 {n : Nat} (h : n < 65536) : sfxB n 2 = be16 n := by
  unfold be16
  show [UInt8.ofNat (n / 256 ^ 1 % 256), UInt8.ofNat (n / 256 ^ 0 % 256)] = _
  rw [Nat.pow_one, Nat.pow_zero, Nat.div_one, Nat.mod_eq_of_lt (a := n / 256) (by omega)]
def lmF (l : Lm) : List Nat := [l.pe.toNat, l.pk.toNat, l.sk.toNat, l.ss.toNat, l.ob.toNat]
def lmB (l : Lm) (t : Nat) : List UInt8 := ((lmF l).take t).flatMap be16
theorem lmB_step {l : Lm} {t n : Nat} (h : (lmF l)[t]? = some n) : lmB l (t + 1) = lmB l t ++ be16 n := by
  unfold lmB
  rw [List.take_add_one, h]
  simp
theorem lmB_len (l : Lm) {t : Nat} (h : t ≤ 5) : (lmB l t).length ≤ 10 := by
  have h5 : t = 0 ∨ t = 1 ∨ t = 2 ∨ t = 3 ∨ t = 4 ∨ t = 5 := by omega
  rcases h5 with rfl | rfl | rfl | rfl | rfl | rfl <;> simp [lmB, lmF, be16]
theorem lmF_at {l : Lm} (g : GoodL l) {t : Nat} (h : t < 5) : ∃ n, (lmF l)[t]? = some n ∧ n < 65536 := by
  obtain ⟨a1, a2, a3, a4, a5, a6⟩ := g
  have h5 : t = 0 ∨ t = 1 ∨ t = 2 ∨ t = 3 ∨ t = 4 := by omega
  rcases h5 with rfl | rfl | rfl | rfl | rfl
  · exact ⟨_, rfl, by omega⟩
  · exact ⟨_, rfl, by omega⟩
  · exact ⟨_, rfl, by omega⟩
  · exact ⟨_, rfl, by omega⟩
  · exact ⟨_, rfl, by omega⟩
theorem bsl117 (a b c d e : Int) (w : World) : (Instr.buildSlice 117 5 [(0, .int .i64 a), (1, .int .i64 b), (2, .int .i64 c), (3, .int .i64 d), (4, .int .i64 e)].toArray).run Try.prog w = .ok (.slice (some ⟨w.heap.size, 0, none⟩) 5 5) (w.alloc (.cells [.int .i64 a, .int .i64 b, .int .i64 c, .int .i64 d, .int .i64 e].toArray 3)) := by
  go_simp
  try rfl
theorem len117 (ao : Option Addr) (n c : Nat) (W : World) (ty : TypeId) : (Builtin.len_ #[117] ty #[.slice ao n c]).run Try.prog W = .ok (.int .i64 (n : Int)) W := by go_simp
theorem idx117 (q n c m : Nat) (h : m < n) (W : World) : (Instr.indexAt 117 (.slice (some ⟨q, 0, none⟩) n c) (.int .i64 (m : Int))).run Try.prog W = .ok (.pointer (some ⟨q, m, none⟩)) W := by
  have hm : (m : Int) < (n : Int) := by omega
  go_simp
  try simp
  try rw [add_plain]
def lmC (l : Lm) : List Value := (lmF l).map fun (n : Nat) => Value.int .i64 (n : Int)
def e5E (q1 g : Nat) (x : Nat × Value) : List (Nat × Value) := [(1, .pointer (some ⟨q1, 0, none⟩)), (5, x.2), (6, .slice (some ⟨g, 0, none⟩) 5 5), (7, .int .i64 (x.1 : Int))]
def E5I (w2 : World) (l : Lm) (g q1 : Nat) (x : Nat × Value) (W : World) : Prop := x.1 ≤ 5 ∧ Ob W w2.heap.size x.2 (lmB l x.1) ∧ Blk W g (lmC l) 3 ∧ Blk W q1 l.cs 43 ∧ Below w2.heap.size w2 W
set_option maxRecDepth 100000 in
set_option maxHeartbeats 4000000 in
theorem rencodeL_any (l : Lm) (k : l.ok) (w : World) : Calls Try.prog 52 #[l.v] w fun e w' => ∃ v, e = .returned (.tuple #[v, .int .i64 (chkL l)]) ∧ Ob w' w.heap.size v (if GoodL l then encL l else []) ∧ Below w.heap.size w w' := by
  obtain ⟨w1, q1, r1, b1, e1, hq1⟩ := box_any 43 l.cs w
  have l1 := e1.size
  refine calls_of_args [l.v] Try.func52 rfl 43 Try.ntmps52 (by show 1 ≤ 43; decide) ?_
  refine EW.seq ?_
  refine EW.region ?_
  refine WL.box rfl rfl rfl r1 ?_
  first | refine WL.assign rfl rfl rfl ?_
  first | refine WL.assign rfl rfl rfl ?_
  refine WL.done ?_
  refine EW.on ?_
  refine EW.seq ?_
  by_cases hG : GoodL l
  · obtain ⟨a1, a2, a3, a4, a5, a6⟩ := hG
    have hG : GoodL l := ⟨a1, a2, a3, a4, a5, a6⟩
    refine EW.region ?_
    refine WL.load rfl rfl rfl (Lm.ld b1 k) ?_
    refine WL.call [l.v] enter51 rfl rfl rfl (rcheckL_any l k _) ?_
    rintro _ w2 ⟨rfl, e2⟩
    rw [chkL, if_pos hG]
    have b2 := b1.on e2
    have l2 := bt e1 e2
    refine ⟨_, rfl, ?_⟩
    first | refine WL.assign rfl rfl rfl ?_
    refine WL.done ?_
    refine EW.on ?_
    refine EW.seq ?_
    refine EW.seq ?_
    refine EW.region ?_
    first | refine WL.move rfl rfl rfl ?_
    refine WL.bin rfl rfl rfl rfl (int_ne_f rfl _ _ _) ?_
    refine WL.done ?_
    refine EW.on ?_
    refine EW.cond_f rfl ?_
    refine EW.skip ?_
    refine EW.on ?_
    refine EW.seq ?_
    refine EW.region ?_
    first | refine WL.assign rfl rfl rfl ?_
    refine WL.done ?_
    refine EW.on ?_
    refine EW.seq ?_
    refine EW.region ?_
    refine WL.field rfl rfl rfl (f43_0 q1 _) ?_
    have ld14 := Lm.ld_0 b2 k
    rw [show l.pe = ((l.pe.toNat : Nat) : Int) by omega] at ld14
    refine WL.load rfl rfl rfl ld14 ?_
    refine WL.field rfl rfl rfl (f43_1 q1 _) ?_
    have ld16 := Lm.ld_1 b2 k
    rw [show l.pk = ((l.pk.toNat : Nat) : Int) by omega] at ld16
    refine WL.load rfl rfl rfl ld16 ?_
    refine WL.field rfl rfl rfl (f43_2 q1 _) ?_
    have ld18 := Lm.ld_2 b2 k
    rw [show l.sk = ((l.sk.toNat : Nat) : Int) by omega] at ld18
    refine WL.load rfl rfl rfl ld18 ?_
    refine WL.field rfl rfl rfl (f43_3 q1 _) ?_
    have ld20 := Lm.ld_3 b2 k
    rw [show l.ss = ((l.ss.toNat : Nat) : Int) by omega] at ld20
    refine WL.load rfl rfl rfl ld20 ?_
    refine WL.field rfl rfl rfl (f43_4 q1 _) ?_
    have ld22 := Lm.ld_4 b2 k
    rw [show l.ob = ((l.ob.toNat : Nat) : Int) by omega] at ld22
    refine WL.load rfl rfl rfl ld22 ?_
    refine WL.bslN [(0, .int .i64 ((l.pe.toNat : Nat) : Int)), (1, .int .i64 ((l.pk.toNat : Nat) : Int)), (2, .int .i64 ((l.sk.toNat : Nat) : Int)), (3, .int .i64 ((l.ss.toNat : Nat) : Int)), (4, .int .i64 ((l.ob.toNat : Nat) : Int))] rfl rfl rfl (bsl117 _ _ _ _ _ _) ?_
    have e3 := below_new w2 (.cells (lmC l).toArray 3)
    have bg3 := Blk.new w2 (lmC l) 3
    obtain ⟨w3, hw3⟩ : ∃ W, w2.alloc (.cells (lmC l).toArray 3) = W := ⟨_, rfl⟩
    have hw3' : w2.alloc (.cells [.int .i64 ((l.pe.toNat : Nat) : Int), .int .i64 ((l.pk.toNat : Nat) : Int), .int .i64 ((l.sk.toNat : Nat) : Int), .int .i64 ((l.ss.toNat : Nat) : Int), .int .i64 ((l.ob.toNat : Nat) : Int)].toArray 3) = w3 := hw3
    rw [hw3] at e3 bg3
    rw [hw3']
    obtain ⟨g3, hg3⟩ : ∃ g, w2.heap.size = g := ⟨_, rfl⟩
    rw [hg3] at bg3 ⊢
    have b3 := b2.on e3
    have l3 := bt l2 e3
    first | refine WL.assign rfl rfl rfl ?_
    refine WL.done ?_
    refine EW.on ?_
    refine EW.seq ?_
    refine EW.seq ?_
    refine EW.region ?_
    first | refine WL.assign rfl rfl rfl ?_
    refine WL.done ?_
    refine EW.on ?_
    refine EW.block ?_
    refine EW.loop (e5E q1 g3) (E5I w2 l g3 q1) (fun x => 5 - x.1) (0, .slice none 0 0) [1, 5, 6, 7] rfl ⟨Nat.zero_le _, Ob.nil _ _, bg3, b3, e3⟩ ?_
    rintro ⟨t, vi⟩ wi ⟨htl, obi, bgi, bqi, bei⟩
    have htl : t ≤ 5 := htl
    have obi : Ob wi w2.heap.size vi (lmB l t) := obi
    have hw2s := bei.size
    have hq2 := b2.lt
    show EW _ _ _ _ [(1, .pointer (some ⟨q1, 0, none⟩)), (5, vi), (6, .slice (some ⟨g3, 0, none⟩) 5 5), (7, .int .i64 (t : Int))] _
    refine EW.seq ?_
    refine EW.seq ?_
    refine EW.region ?_
    first | refine WL.move rfl rfl rfl ?_
    first | refine WL.move rfl rfl rfl ?_
    refine WL.len rfl rfl rfl (len117 _ _ _ _ _) ?_
    refine WL.bin rfl rfl rfl rfl (int_lt_d _ _ _ _ _) ?_
    refine WL.done ?_
    refine EW.on ?_
    refine EW.cond_d rfl (fun h27 => ?_) (fun h27 => ?_)
    · refine EW.skip ?_
      refine EW.on ?_
      refine EW.seq ?_
      refine EW.block ?_
      refine EW.region ?_
      first | refine WL.move rfl rfl rfl ?_
      first | refine WL.move rfl rfl rfl ?_
      first | refine WL.move rfl rfl rfl ?_
      have hlt : t < 5 := by omega
      obtain ⟨nn, hn1, hn2⟩ := lmF_at hG hlt
      refine WL.index rfl rfl rfl rfl (idx117 g3 5 5 t hlt _) ?_
      refine WL.load rfl rfl rfl (ldI bgi (v := (nn : Int)) (by unfold lmC; rw [List.getElem?_map, hn1]; rfl)) ?_
      refine WL.call [.int .i64 (nn : Int), .int .i64 2] enter69 rfl rfl rfl (numr_any nn 2 (by decide) (by omega) _) ?_
      rintro _ w9 ⟨vn, rfl, on, e9⟩
      rw [sfx2 hn2] at on
      have ob9 := obi.below e9
      have l9 := bt bei e9
      have bl9 := bgi.on e9
      have bq9 := bqi.on e9
      have ls9 := l9.size
      refine ⟨_, rfl, ?_⟩
      obtain ⟨v', w10, ap10, ob10, f10, n10⟩ := ob9.push (by omega) vn (be16 nn) on.has (by have := lmB_len l (t := t) (by omega); rw [be16_len]; omega) 38
      refine WL.app rfl rfl rfl rfl ap10 ?_
      rw [← lmB_step hn1] at ob10
      have bl10 := bl9.fx f10 (fun e => by have e : vi.ownBlock = some g3 := e; have h1 := obi.lt e; obtain ⟨_, cur, hc⟩ := h1; have hb := bgi; unfold Blk at hb; rw [hc] at hb; simp at hb)
      have bq10 := bq9.fx f10 (fun e => by have := ob9.base _ e; omega)
      have l10 := l9.trans (f10.below (fun k hk e => by have := ob9.base _ e; omega) (by omega))
      first | refine WL.assign rfl rfl rfl ?_
      refine WL.done ?_
      refine pn_block ?_
      refine EW.on ?_
      refine EW.region ?_
      first | refine WL.move rfl rfl rfl ?_
      refine WL.bin rfl rfl rfl rfl (int_add (c := ((t + 1 : Nat) : Int)) (by rw [IntKind.wrap_i64]; omega) _ _ _) ?_
      first | refine WL.assign rfl rfl rfl ?_
      refine WL.done ?_
      exact EW.again (E := e5E q1 g3) (R := E5I w2 l g3 q1) (m := fun x => 5 - x.1) (x := (t, vi)) (t + 1, v') [1, 5, 6, 7] rfl ⟨by show t + 1 ≤ 5; omega, ob10, bl10, bq10, l10⟩ (by show 5 - (t + 1) < 5 - t; omega)
    · refine EW.exit ?_
      refine px_then ?_
      refine px_then ?_
      refine px_block ?_
      refine EW.on ?_
      refine EW.seq ?_
      refine EW.region ?_
      first | refine WL.move rfl rfl rfl ?_
      refine WL.field rfl rfl rfl (f43_5 q1 _) ?_
      refine WL.load rfl rfl rfl (Lm.ld_5 bqi k) ?_
      refine WL.conv rfl rfl rfl (cvt k.ct _) ?_
      refine WL.call [.int .i64 (l.ct : Int), .int .i64 4] enter69 rfl rfl rfl (numr_any l.ct 4 (by decide) k.ct _) ?_
      rintro _ w9 ⟨vn, rfl, on, e9⟩
      rw [sfx4] at on
      have ob9 := obi.below e9
      have l9 := bt bei e9
      have ls9 := l9.size
      refine ⟨_, rfl, ?_⟩
      obtain ⟨v', w10, ap10, ob10, f10, n10⟩ := ob9.push (by omega) vn (be32 l.ct) on.has (by have := lmB_len l (t := t) (by omega); rw [be32_len]; omega) 38
      refine WL.app rfl rfl rfl rfl ap10 ?_
      have l10 := l9.trans (f10.below (fun k hk e => by have := ob9.base _ e; omega) (by omega))
      first | refine WL.assign rfl rfl rfl ?_
      first | refine WL.assign rfl rfl rfl ?_
      refine WL.done ?_
      refine EW.on ?_
      refine EW.ret ?_
      have hte : t = 5 := by omega
      refine EW.returns2 Try.results52 rfl rfl ⟨_, rfl, ?_, bt l2 l10⟩
      rw [if_pos hG]
      rw [hte] at ob10
      exact ob10.lower (by have := l2.size; omega)
  · refine EW.region ?_
    refine WL.load rfl rfl rfl (Lm.ld b1 k) ?_
    refine WL.call [l.v] enter51 rfl rfl rfl (rcheckL_any l k _) ?_
    rintro _ w2 ⟨rfl, e2⟩
    rw [chkL, if_neg hG]
    have b2 := b1.on e2
    have l2 := bt e1 e2
    refine ⟨_, rfl, ?_⟩
    first | refine WL.assign rfl rfl rfl ?_
    refine WL.done ?_
    refine EW.on ?_
    refine EW.seq ?_
    refine EW.seq ?_
    refine EW.region ?_
    first | refine WL.move rfl rfl rfl ?_
    refine WL.bin rfl rfl rfl rfl (int_ne_t (by decide) _ _ _) ?_
    refine WL.done ?_
    refine EW.on ?_
    refine EW.cond_t rfl ?_
    refine EW.seq ?_
    refine EW.region ?_
    first | refine WL.move rfl rfl rfl ?_
    first | refine WL.assign rfl rfl rfl ?_
    first | refine WL.assign rfl rfl rfl ?_
    refine WL.done ?_
    refine EW.on ?_
    refine EW.ret ?_
    refine pr_then ?_
    exact EW.returns2 Try.results52 rfl rfl ⟨.slice none 0 0, rfl, by rw [if_neg hG]; exact Ob.nil _ _, l2⟩
end Go.Proofs.Ytacimelcmkhhlaa
