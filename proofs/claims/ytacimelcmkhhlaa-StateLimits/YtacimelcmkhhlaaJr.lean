import Derived.Test.YtacimelcmkhhlaaJq
import Derived.Test.YtacimelcmkhhlaaJo
set_option linter.unusedVariables false
set_option linter.unusedSimpArgs false
namespace Go.Proofs.Ytacimelcmkhhlaa
open Go.RowKit

theorem putL {s : Lm} (k : s.ok) (w : World) : ∃ q w1 w2, (Instr.alloc 43 true (.tuple #[])).run Try.prog w = .ok (.pointer (some ⟨q, 0, none⟩)) w1 ∧ (Instr.storeAt 43 (.pointer (some ⟨q, 0, none⟩)) s.v).run Try.prog w1 = .ok () w2 ∧ Blk w2 q s.cs 43 ∧ Below w.heap.size w w2 ∧ q = w.heap.size := by
  obtain ⟨w1, q, r1, b1, e1, hq⟩ := new_any (t := 43) (cs := Lm.z.cs) zv43 w
  obtain ⟨w2, s2, b2, f2⟩ := Lm.st (s := s) b1 Lm.z_ok k
  exact ⟨q, w1, w2, r1, s2, b2, bfx e1 (by omega) f2, hq⟩
set_option maxRecDepth 100000 in
set_option maxHeartbeats 4000000 in
theorem limits_any (l : Lm) (k : l.ok) (w : World) : Calls Try.prog 4 #[l.v] w fun e w' => e = .returned (.bool true) ∧ Below w.heap.size w w' := by
  obtain ⟨w1, q1, r1, b1, e1, hq1⟩ := box_any 43 l.cs w
  refine calls_of_args [l.v] Try.func4 rfl 130 Try.ntmps4 (by show 1 ≤ 130; decide) ?_
  refine EW.seq ?_
  refine EW.region ?_
  refine WL.box rfl rfl rfl r1 ?_
  first | refine WL.assign rfl rfl rfl ?_
  refine WL.done ?_
  refine EW.on ?_
  refine EW.seq ?_
  have hc : (¬ 1 ≤ l.pe) ∨ (1 ≤ l.pe ∧ ¬ l.pe ≤ 16) ∨ (1 ≤ l.pe ∧ l.pe ≤ 16 ∧ ¬ 1 ≤ l.pk) ∨ (1 ≤ l.pe ∧ l.pe ≤ 16 ∧ 1 ≤ l.pk ∧ ¬ l.pk ≤ 64) ∨ (1 ≤ l.pe ∧ l.pe ≤ 16 ∧ 1 ≤ l.pk ∧ l.pk ≤ 64 ∧ ¬ 0 ≤ l.sk) ∨ (1 ≤ l.pe ∧ l.pe ≤ 16 ∧ 1 ≤ l.pk ∧ l.pk ≤ 64 ∧ 0 ≤ l.sk ∧ ¬ l.sk ≤ 64) ∨ (1 ≤ l.pe ∧ l.pe ≤ 16 ∧ 1 ≤ l.pk ∧ l.pk ≤ 64 ∧ 0 ≤ l.sk ∧ l.sk ≤ 64 ∧ ¬ 0 ≤ l.ss) ∨ (1 ≤ l.pe ∧ l.pe ≤ 16 ∧ 1 ≤ l.pk ∧ l.pk ≤ 64 ∧ 0 ≤ l.sk ∧ l.sk ≤ 64 ∧ 0 ≤ l.ss ∧ ¬ l.ss ≤ 256) ∨ (1 ≤ l.pe ∧ l.pe ≤ 16 ∧ 1 ≤ l.pk ∧ l.pk ≤ 64 ∧ 0 ≤ l.sk ∧ l.sk ≤ 64 ∧ 0 ≤ l.ss ∧ l.ss ≤ 256 ∧ ¬ 1 ≤ l.ob) ∨ (1 ≤ l.pe ∧ l.pe ≤ 16 ∧ 1 ≤ l.pk ∧ l.pk ≤ 64 ∧ 0 ≤ l.sk ∧ l.sk ≤ 64 ∧ 0 ≤ l.ss ∧ l.ss ≤ 256 ∧ 1 ≤ l.ob ∧ ¬ l.ob ≤ 64) ∨ (1 ≤ l.pe ∧ l.pe ≤ 16 ∧ 1 ≤ l.pk ∧ l.pk ≤ 64 ∧ 0 ≤ l.sk ∧ l.sk ≤ 64 ∧ 0 ≤ l.ss ∧ l.ss ≤ 256 ∧ 1 ≤ l.ob ∧ l.ob ≤ 64 ∧ ¬ 1 ≤ l.ct) ∨ (1 ≤ l.pe ∧ l.pe ≤ 16 ∧ 1 ≤ l.pk ∧ l.pk ≤ 64 ∧ 0 ≤ l.sk ∧ l.sk ≤ 64 ∧ 0 ≤ l.ss ∧ l.ss ≤ 256 ∧ 1 ≤ l.ob ∧ l.ob ≤ 64 ∧ 1 ≤ l.ct) := by
    by_cases h0 : 1 ≤ l.pe
    · by_cases h1 : l.pe ≤ 16
      · by_cases h2 : 1 ≤ l.pk
        · by_cases h3 : l.pk ≤ 64
          · by_cases h4 : 0 ≤ l.sk
            · by_cases h5 : l.sk ≤ 64
              · by_cases h6 : 0 ≤ l.ss
                · by_cases h7 : l.ss ≤ 256
                  · by_cases h8 : 1 ≤ l.ob
                    · by_cases h9 : l.ob ≤ 64
                      · by_cases h10 : 1 ≤ l.ct
                        · exact .inr (.inr (.inr (.inr (.inr (.inr (.inr (.inr (.inr (.inr (.inr (⟨h0, h1, h2, h3, h4, h5, h6, h7, h8, h9, h10⟩)))))))))))
                        · exact .inr (.inr (.inr (.inr (.inr (.inr (.inr (.inr (.inr (.inr (.inl ⟨h0, h1, h2, h3, h4, h5, h6, h7, h8, h9, h10⟩))))))))))
                      · exact .inr (.inr (.inr (.inr (.inr (.inr (.inr (.inr (.inr (.inl ⟨h0, h1, h2, h3, h4, h5, h6, h7, h8, h9⟩)))))))))
                    · exact .inr (.inr (.inr (.inr (.inr (.inr (.inr (.inr (.inl ⟨h0, h1, h2, h3, h4, h5, h6, h7, h8⟩))))))))
                  · exact .inr (.inr (.inr (.inr (.inr (.inr (.inr (.inl ⟨h0, h1, h2, h3, h4, h5, h6, h7⟩)))))))
                · exact .inr (.inr (.inr (.inr (.inr (.inr (.inl ⟨h0, h1, h2, h3, h4, h5, h6⟩))))))
              · exact .inr (.inr (.inr (.inr (.inr (.inl ⟨h0, h1, h2, h3, h4, h5⟩)))))
            · exact .inr (.inr (.inr (.inr (.inl ⟨h0, h1, h2, h3, h4⟩))))
          · exact .inr (.inr (.inr (.inl ⟨h0, h1, h2, h3⟩)))
        · exact .inr (.inr (.inl ⟨h0, h1, h2⟩))
      · exact .inr (.inl ⟨h0, h1⟩)
    · exact .inl h0
  rcases hc with a0 | ⟨a0, a1⟩ | ⟨a0, a1, a2⟩ | ⟨a0, a1, a2, a3⟩ | ⟨a0, a1, a2, a3, a4⟩ | ⟨a0, a1, a2, a3, a4, a5⟩ | ⟨a0, a1, a2, a3, a4, a5, a6⟩ | ⟨a0, a1, a2, a3, a4, a5, a6, a7⟩ | ⟨a0, a1, a2, a3, a4, a5, a6, a7, a8⟩ | ⟨a0, a1, a2, a3, a4, a5, a6, a7, a8, a9⟩ | ⟨a0, a1, a2, a3, a4, a5, a6, a7, a8, a9, a10⟩ | ⟨a0, a1, a2, a3, a4, a5, a6, a7, a8, a9, a10⟩
  · have hG : ¬ GoodL l := fun g => a0 g.1.1
    refine EW.region ?_
    refine WL.field rfl rfl rfl (f43_0 q1 _) ?_
    refine WL.load rfl rfl rfl (Lm.ld_0 b1 k) ?_
    refine WL.bin rfl rfl rfl rfl (int_ge_f a0 _ _ _) ?_
    first | refine WL.move rfl rfl rfl ?_
    refine WL.skip _ rfl rfl rfl ?_
    refine WL.skip _ rfl rfl rfl ?_
    refine WL.skip _ rfl rfl rfl ?_
    refine WL.pick rfl rfl rfl rfl ?_
    first | refine WL.move rfl rfl rfl ?_
    refine WL.skip _ rfl rfl rfl ?_
    refine WL.skip _ rfl rfl rfl ?_
    refine WL.skip _ rfl rfl rfl ?_
    refine WL.pick rfl rfl rfl rfl ?_
    first | refine WL.move rfl rfl rfl ?_
    refine WL.skip _ rfl rfl rfl ?_
    refine WL.skip _ rfl rfl rfl ?_
    refine WL.skip _ rfl rfl rfl ?_
    refine WL.pick rfl rfl rfl rfl ?_
    first | refine WL.move rfl rfl rfl ?_
    refine WL.skip _ rfl rfl rfl ?_
    refine WL.skip _ rfl rfl rfl ?_
    refine WL.skip _ rfl rfl rfl ?_
    refine WL.pick rfl rfl rfl rfl ?_
    first | refine WL.move rfl rfl rfl ?_
    refine WL.skip _ rfl rfl rfl ?_
    refine WL.skip _ rfl rfl rfl ?_
    refine WL.skip _ rfl rfl rfl ?_
    refine WL.pick rfl rfl rfl rfl ?_
    first | refine WL.move rfl rfl rfl ?_
    refine WL.skip _ rfl rfl rfl ?_
    refine WL.skip _ rfl rfl rfl ?_
    refine WL.skip _ rfl rfl rfl ?_
    refine WL.pick rfl rfl rfl rfl ?_
    first | refine WL.move rfl rfl rfl ?_
    refine WL.skip _ rfl rfl rfl ?_
    refine WL.skip _ rfl rfl rfl ?_
    refine WL.skip _ rfl rfl rfl ?_
    refine WL.pick rfl rfl rfl rfl ?_
    first | refine WL.move rfl rfl rfl ?_
    refine WL.skip _ rfl rfl rfl ?_
    refine WL.skip _ rfl rfl rfl ?_
    refine WL.skip _ rfl rfl rfl ?_
    refine WL.pick rfl rfl rfl rfl ?_
    first | refine WL.move rfl rfl rfl ?_
    refine WL.skip _ rfl rfl rfl ?_
    refine WL.skip _ rfl rfl rfl ?_
    refine WL.skip _ rfl rfl rfl ?_
    refine WL.pick rfl rfl rfl rfl ?_
    first | refine WL.move rfl rfl rfl ?_
    refine WL.skip _ rfl rfl rfl ?_
    refine WL.skip _ rfl rfl rfl ?_
    refine WL.skip _ rfl rfl rfl ?_
    refine WL.pick rfl rfl rfl rfl ?_
    first | refine WL.assign rfl rfl rfl ?_
    refine WL.done ?_
    refine EW.on ?_
    refine EW.seq ?_
    refine EW.region ?_
    refine WL.load rfl rfl rfl (Lm.ld b1 k) ?_
    refine WL.call [l.v] enter13 rfl rfl rfl (encodeL_any l k _) ?_
    rintro _ w2 ⟨vb, rfl, ob_2, e2⟩
    rw [if_neg hG] at ob_2
    rw [chkL, if_neg hG]
    have bs_2 := b1.on e2
    have l_2 := bt e1 e2
    refine ⟨_, rfl, ?_⟩
    first | refine WL.move rfl rfl rfl ?_
    first | refine WL.extract rfl rfl rfl (ext_2 _ _ _).1 ?_
    first | refine WL.extract rfl rfl rfl (ext_2 _ _ _).2 ?_
    first | refine WL.assign rfl rfl rfl ?_
    first | refine WL.assign rfl rfl rfl ?_
    refine WL.done ?_
    refine EW.on ?_
    refine EW.seq ?_
    refine EW.seq ?_
    refine EW.region ?_
    first | refine WL.move rfl rfl rfl ?_
    refine WL.un rfl rfl rfl (not_t _ _) ?_
    refine WL.done ?_
    refine EW.on ?_
    refine EW.cond_t rfl ?_
    refine EW.seq ?_
    refine EW.region ?_
    first | refine WL.move rfl rfl rfl ?_
    refine WL.bin rfl rfl rfl rfl (int_eq_t rfl _ _ _) ?_
    first | refine WL.move rfl rfl rfl ?_
    first | refine WL.move rfl rfl rfl ?_ | refine WL.skip _ rfl rfl rfl ?_
    refine WL.len rfl rfl rfl (ob_2.has.len _ _) ?_
    refine WL.bin rfl rfl rfl rfl (int_eq_t rfl _ _ _) ?_
    first | refine WL.pick rfl rfl rfl rfl ?_
    first | refine WL.move rfl rfl rfl ?_
    refine WL.load rfl rfl rfl (Lm.ld bs_2 k) ?_
    refine WL.call [l.v] enter14 rfl rfl rfl (checkL_any l k _) ?_
    rintro _ w11 ⟨rfl, e11⟩
    rw [chkL, if_neg hG]
    refine ⟨_, rfl, ?_⟩
    have ob_11 := ob_2.below e11
    have bs_11 := bs_2.on e11
    have l_11 := bt l_2 e11
    refine WL.bin rfl rfl rfl rfl (int_eq_t rfl _ _ _) ?_
    first | refine WL.pick rfl rfl rfl rfl ?_
    first | refine WL.assign rfl rfl rfl ?_
    refine WL.done ?_
    refine EW.on ?_
    refine EW.ret ?_
    refine pr_then ?_
    exact EW.returns Try.results4 rfl ⟨rfl, l_11⟩
  · have hG : ¬ GoodL l := fun g => a1 g.1.2
    refine EW.region ?_
    refine WL.field rfl rfl rfl (f43_0 q1 _) ?_
    refine WL.load rfl rfl rfl (Lm.ld_0 b1 k) ?_
    refine WL.bin rfl rfl rfl rfl (int_ge_t a0 _ _ _) ?_
    first | refine WL.move rfl rfl rfl ?_
    refine WL.field rfl rfl rfl (f43_0 q1 _) ?_
    refine WL.load rfl rfl rfl (Lm.ld_0 b1 k) ?_
    refine WL.bin rfl rfl rfl rfl (int_le_f a1 _ _ _) ?_
    refine WL.pick rfl rfl rfl rfl ?_
    first | refine WL.move rfl rfl rfl ?_
    refine WL.skip _ rfl rfl rfl ?_
    refine WL.skip _ rfl rfl rfl ?_
    refine WL.skip _ rfl rfl rfl ?_
    refine WL.pick rfl rfl rfl rfl ?_
    first | refine WL.move rfl rfl rfl ?_
    refine WL.skip _ rfl rfl rfl ?_
    refine WL.skip _ rfl rfl rfl ?_
    refine WL.skip _ rfl rfl rfl ?_
    refine WL.pick rfl rfl rfl rfl ?_
    first | refine WL.move rfl rfl rfl ?_
    refine WL.skip _ rfl rfl rfl ?_
    refine WL.skip _ rfl rfl rfl ?_
    refine WL.skip _ rfl rfl rfl ?_
    refine WL.pick rfl rfl rfl rfl ?_
    first | refine WL.move rfl rfl rfl ?_
    refine WL.skip _ rfl rfl rfl ?_
    refine WL.skip _ rfl rfl rfl ?_
    refine WL.skip _ rfl rfl rfl ?_
    refine WL.pick rfl rfl rfl rfl ?_
    first | refine WL.move rfl rfl rfl ?_
    refine WL.skip _ rfl rfl rfl ?_
    refine WL.skip _ rfl rfl rfl ?_
    refine WL.skip _ rfl rfl rfl ?_
    refine WL.pick rfl rfl rfl rfl ?_
    first | refine WL.move rfl rfl rfl ?_
    refine WL.skip _ rfl rfl rfl ?_
    refine WL.skip _ rfl rfl rfl ?_
    refine WL.skip _ rfl rfl rfl ?_
    refine WL.pick rfl rfl rfl rfl ?_
    first | refine WL.move rfl rfl rfl ?_
    refine WL.skip _ rfl rfl rfl ?_
    refine WL.skip _ rfl rfl rfl ?_
    refine WL.skip _ rfl rfl rfl ?_
    refine WL.pick rfl rfl rfl rfl ?_
    first | refine WL.move rfl rfl rfl ?_
    refine WL.skip _ rfl rfl rfl ?_
    refine WL.skip _ rfl rfl rfl ?_
    refine WL.skip _ rfl rfl rfl ?_
    refine WL.pick rfl rfl rfl rfl ?_
    first | refine WL.move rfl rfl rfl ?_
    refine WL.skip _ rfl rfl rfl ?_
    refine WL.skip _ rfl rfl rfl ?_
    refine WL.skip _ rfl rfl rfl ?_
    refine WL.pick rfl rfl rfl rfl ?_
    first | refine WL.assign rfl rfl rfl ?_
    refine WL.done ?_
    refine EW.on ?_
    refine EW.seq ?_
    refine EW.region ?_
    refine WL.load rfl rfl rfl (Lm.ld b1 k) ?_
    refine WL.call [l.v] enter13 rfl rfl rfl (encodeL_any l k _) ?_
    rintro _ w2 ⟨vb, rfl, ob_2, e2⟩
    rw [if_neg hG] at ob_2
    rw [chkL, if_neg hG]
    have bs_2 := b1.on e2
    have l_2 := bt e1 e2
    refine ⟨_, rfl, ?_⟩
    first | refine WL.move rfl rfl rfl ?_
    first | refine WL.extract rfl rfl rfl (ext_2 _ _ _).1 ?_
    first | refine WL.extract rfl rfl rfl (ext_2 _ _ _).2 ?_
    first | refine WL.assign rfl rfl rfl ?_
    first | refine WL.assign rfl rfl rfl ?_
    refine WL.done ?_
    refine EW.on ?_
    refine EW.seq ?_
    refine EW.seq ?_
    refine EW.region ?_
    first | refine WL.move rfl rfl rfl ?_
    refine WL.un rfl rfl rfl (not_t _ _) ?_
    refine WL.done ?_
    refine EW.on ?_
    refine EW.cond_t rfl ?_
    refine EW.seq ?_
    refine EW.region ?_
    first | refine WL.move rfl rfl rfl ?_
    refine WL.bin rfl rfl rfl rfl (int_eq_t rfl _ _ _) ?_
    first | refine WL.move rfl rfl rfl ?_
    first | refine WL.move rfl rfl rfl ?_ | refine WL.skip _ rfl rfl rfl ?_
    refine WL.len rfl rfl rfl (ob_2.has.len _ _) ?_
    refine WL.bin rfl rfl rfl rfl (int_eq_t rfl _ _ _) ?_
    first | refine WL.pick rfl rfl rfl rfl ?_
    first | refine WL.move rfl rfl rfl ?_
    refine WL.load rfl rfl rfl (Lm.ld bs_2 k) ?_
    refine WL.call [l.v] enter14 rfl rfl rfl (checkL_any l k _) ?_
    rintro _ w11 ⟨rfl, e11⟩
    rw [chkL, if_neg hG]
    refine ⟨_, rfl, ?_⟩
    have ob_11 := ob_2.below e11
    have bs_11 := bs_2.on e11
    have l_11 := bt l_2 e11
    refine WL.bin rfl rfl rfl rfl (int_eq_t rfl _ _ _) ?_
    first | refine WL.pick rfl rfl rfl rfl ?_
    first | refine WL.assign rfl rfl rfl ?_
    refine WL.done ?_
    refine EW.on ?_
    refine EW.ret ?_
    refine pr_then ?_
    exact EW.returns Try.results4 rfl ⟨rfl, l_11⟩
  · have hG : ¬ GoodL l := fun g => a2 g.2.1.1
    refine EW.region ?_
    refine WL.field rfl rfl rfl (f43_0 q1 _) ?_
    refine WL.load rfl rfl rfl (Lm.ld_0 b1 k) ?_
    refine WL.bin rfl rfl rfl rfl (int_ge_t a0 _ _ _) ?_
    first | refine WL.move rfl rfl rfl ?_
    refine WL.field rfl rfl rfl (f43_0 q1 _) ?_
    refine WL.load rfl rfl rfl (Lm.ld_0 b1 k) ?_
    refine WL.bin rfl rfl rfl rfl (int_le_t a1 _ _ _) ?_
    refine WL.pick rfl rfl rfl rfl ?_
    first | refine WL.move rfl rfl rfl ?_
    refine WL.field rfl rfl rfl (f43_1 q1 _) ?_
    refine WL.load rfl rfl rfl (Lm.ld_1 b1 k) ?_
    refine WL.bin rfl rfl rfl rfl (int_ge_f a2 _ _ _) ?_
    refine WL.pick rfl rfl rfl rfl ?_
    first | refine WL.move rfl rfl rfl ?_
    refine WL.skip _ rfl rfl rfl ?_
    refine WL.skip _ rfl rfl rfl ?_
    refine WL.skip _ rfl rfl rfl ?_
    refine WL.pick rfl rfl rfl rfl ?_
    first | refine WL.move rfl rfl rfl ?_
    refine WL.skip _ rfl rfl rfl ?_
    refine WL.skip _ rfl rfl rfl ?_
    refine WL.skip _ rfl rfl rfl ?_
    refine WL.pick rfl rfl rfl rfl ?_
    first | refine WL.move rfl rfl rfl ?_
    refine WL.skip _ rfl rfl rfl ?_
    refine WL.skip _ rfl rfl rfl ?_
    refine WL.skip _ rfl rfl rfl ?_
    refine WL.pick rfl rfl rfl rfl ?_
    first | refine WL.move rfl rfl rfl ?_
    refine WL.skip _ rfl rfl rfl ?_
    refine WL.skip _ rfl rfl rfl ?_
    refine WL.skip _ rfl rfl rfl ?_
    refine WL.pick rfl rfl rfl rfl ?_
    first | refine WL.move rfl rfl rfl ?_
    refine WL.skip _ rfl rfl rfl ?_
    refine WL.skip _ rfl rfl rfl ?_
    refine WL.skip _ rfl rfl rfl ?_
    refine WL.pick rfl rfl rfl rfl ?_
    first | refine WL.move rfl rfl rfl ?_
    refine WL.skip _ rfl rfl rfl ?_
    refine WL.skip _ rfl rfl rfl ?_
    refine WL.skip _ rfl rfl rfl ?_
    refine WL.pick rfl rfl rfl rfl ?_
    first | refine WL.move rfl rfl rfl ?_
    refine WL.skip _ rfl rfl rfl ?_
    refine WL.skip _ rfl rfl rfl ?_
    refine WL.skip _ rfl rfl rfl ?_
    refine WL.pick rfl rfl rfl rfl ?_
    first | refine WL.move rfl rfl rfl ?_
    refine WL.skip _ rfl rfl rfl ?_
    refine WL.skip _ rfl rfl rfl ?_
    refine WL.skip _ rfl rfl rfl ?_
    refine WL.pick rfl rfl rfl rfl ?_
    first | refine WL.assign rfl rfl rfl ?_
    refine WL.done ?_
    refine EW.on ?_
    refine EW.seq ?_
    refine EW.region ?_
    refine WL.load rfl rfl rfl (Lm.ld b1 k) ?_
    refine WL.call [l.v] enter13 rfl rfl rfl (encodeL_any l k _) ?_
    rintro _ w2 ⟨vb, rfl, ob_2, e2⟩
    rw [if_neg hG] at ob_2
    rw [chkL, if_neg hG]
    have bs_2 := b1.on e2
    have l_2 := bt e1 e2
    refine ⟨_, rfl, ?_⟩
    first | refine WL.move rfl rfl rfl ?_
    first | refine WL.extract rfl rfl rfl (ext_2 _ _ _).1 ?_
    first | refine WL.extract rfl rfl rfl (ext_2 _ _ _).2 ?_
    first | refine WL.assign rfl rfl rfl ?_
    first | refine WL.assign rfl rfl rfl ?_
    refine WL.done ?_
    refine EW.on ?_
    refine EW.seq ?_
    refine EW.seq ?_
    refine EW.region ?_
    first | refine WL.move rfl rfl rfl ?_
    refine WL.un rfl rfl rfl (not_t _ _) ?_
    refine WL.done ?_
    refine EW.on ?_
    refine EW.cond_t rfl ?_
    refine EW.seq ?_
    refine EW.region ?_
    first | refine WL.move rfl rfl rfl ?_
    refine WL.bin rfl rfl rfl rfl (int_eq_t rfl _ _ _) ?_
    first | refine WL.move rfl rfl rfl ?_
    first | refine WL.move rfl rfl rfl ?_ | refine WL.skip _ rfl rfl rfl ?_
    refine WL.len rfl rfl rfl (ob_2.has.len _ _) ?_
    refine WL.bin rfl rfl rfl rfl (int_eq_t rfl _ _ _) ?_
    first | refine WL.pick rfl rfl rfl rfl ?_
    first | refine WL.move rfl rfl rfl ?_
    refine WL.load rfl rfl rfl (Lm.ld bs_2 k) ?_
    refine WL.call [l.v] enter14 rfl rfl rfl (checkL_any l k _) ?_
    rintro _ w11 ⟨rfl, e11⟩
    rw [chkL, if_neg hG]
    refine ⟨_, rfl, ?_⟩
    have ob_11 := ob_2.below e11
    have bs_11 := bs_2.on e11
    have l_11 := bt l_2 e11
    refine WL.bin rfl rfl rfl rfl (int_eq_t rfl _ _ _) ?_
    first | refine WL.pick rfl rfl rfl rfl ?_
    first | refine WL.assign rfl rfl rfl ?_
    refine WL.done ?_
    refine EW.on ?_
    refine EW.ret ?_
    refine pr_then ?_
    exact EW.returns Try.results4 rfl ⟨rfl, l_11⟩
  · have hG : ¬ GoodL l := fun g => a3 g.2.1.2
    refine EW.region ?_
    refine WL.field rfl rfl rfl (f43_0 q1 _) ?_
    refine WL.load rfl rfl rfl (Lm.ld_0 b1 k) ?_
    refine WL.bin rfl rfl rfl rfl (int_ge_t a0 _ _ _) ?_
    first | refine WL.move rfl rfl rfl ?_
    refine WL.field rfl rfl rfl (f43_0 q1 _) ?_
    refine WL.load rfl rfl rfl (Lm.ld_0 b1 k) ?_
    refine WL.bin rfl rfl rfl rfl (int_le_t a1 _ _ _) ?_
    refine WL.pick rfl rfl rfl rfl ?_
    first | refine WL.move rfl rfl rfl ?_
    refine WL.field rfl rfl rfl (f43_1 q1 _) ?_
    refine WL.load rfl rfl rfl (Lm.ld_1 b1 k) ?_
    refine WL.bin rfl rfl rfl rfl (int_ge_t a2 _ _ _) ?_
    refine WL.pick rfl rfl rfl rfl ?_
    first | refine WL.move rfl rfl rfl ?_
    refine WL.field rfl rfl rfl (f43_1 q1 _) ?_
    refine WL.load rfl rfl rfl (Lm.ld_1 b1 k) ?_
    refine WL.bin rfl rfl rfl rfl (int_le_f a3 _ _ _) ?_
    refine WL.pick rfl rfl rfl rfl ?_
    first | refine WL.move rfl rfl rfl ?_
    refine WL.skip _ rfl rfl rfl ?_
    refine WL.skip _ rfl rfl rfl ?_
    refine WL.skip _ rfl rfl rfl ?_
    refine WL.pick rfl rfl rfl rfl ?_
    first | refine WL.move rfl rfl rfl ?_
    refine WL.skip _ rfl rfl rfl ?_
    refine WL.skip _ rfl rfl rfl ?_
    refine WL.skip _ rfl rfl rfl ?_
    refine WL.pick rfl rfl rfl rfl ?_
    first | refine WL.move rfl rfl rfl ?_
    refine WL.skip _ rfl rfl rfl ?_
    refine WL.skip _ rfl rfl rfl ?_
    refine WL.skip _ rfl rfl rfl ?_
    refine WL.pick rfl rfl rfl rfl ?_
    first | refine WL.move rfl rfl rfl ?_
    refine WL.skip _ rfl rfl rfl ?_
    refine WL.skip _ rfl rfl rfl ?_
    refine WL.skip _ rfl rfl rfl ?_
    refine WL.pick rfl rfl rfl rfl ?_
    first | refine WL.move rfl rfl rfl ?_
    refine WL.skip _ rfl rfl rfl ?_
    refine WL.skip _ rfl rfl rfl ?_
    refine WL.skip _ rfl rfl rfl ?_
    refine WL.pick rfl rfl rfl rfl ?_
    first | refine WL.move rfl rfl rfl ?_
    refine WL.skip _ rfl rfl rfl ?_
    refine WL.skip _ rfl rfl rfl ?_
    refine WL.skip _ rfl rfl rfl ?_
    refine WL.pick rfl rfl rfl rfl ?_
    first | refine WL.move rfl rfl rfl ?_
    refine WL.skip _ rfl rfl rfl ?_
    refine WL.skip _ rfl rfl rfl ?_
    refine WL.skip _ rfl rfl rfl ?_
    refine WL.pick rfl rfl rfl rfl ?_
    first | refine WL.assign rfl rfl rfl ?_
    refine WL.done ?_
    refine EW.on ?_
    refine EW.seq ?_
    refine EW.region ?_
    refine WL.load rfl rfl rfl (Lm.ld b1 k) ?_
    refine WL.call [l.v] enter13 rfl rfl rfl (encodeL_any l k _) ?_
    rintro _ w2 ⟨vb, rfl, ob_2, e2⟩
    rw [if_neg hG] at ob_2
    rw [chkL, if_neg hG]
    have bs_2 := b1.on e2
    have l_2 := bt e1 e2
    refine ⟨_, rfl, ?_⟩
    first | refine WL.move rfl rfl rfl ?_
    first | refine WL.extract rfl rfl rfl (ext_2 _ _ _).1 ?_
    first | refine WL.extract rfl rfl rfl (ext_2 _ _ _).2 ?_
    first | refine WL.assign rfl rfl rfl ?_
    first | refine WL.assign rfl rfl rfl ?_
    refine WL.done ?_
    refine EW.on ?_
    refine EW.seq ?_
    refine EW.seq ?_
    refine EW.region ?_
    first | refine WL.move rfl rfl rfl ?_
    refine WL.un rfl rfl rfl (not_t _ _) ?_
    refine WL.done ?_
    refine EW.on ?_
    refine EW.cond_t rfl ?_
    refine EW.seq ?_
    refine EW.region ?_
    first | refine WL.move rfl rfl rfl ?_
    refine WL.bin rfl rfl rfl rfl (int_eq_t rfl _ _ _) ?_
    first | refine WL.move rfl rfl rfl ?_
    first | refine WL.move rfl rfl rfl ?_ | refine WL.skip _ rfl rfl rfl ?_
    refine WL.len rfl rfl rfl (ob_2.has.len _ _) ?_
    refine WL.bin rfl rfl rfl rfl (int_eq_t rfl _ _ _) ?_
    first | refine WL.pick rfl rfl rfl rfl ?_
    first | refine WL.move rfl rfl rfl ?_
    refine WL.load rfl rfl rfl (Lm.ld bs_2 k) ?_
    refine WL.call [l.v] enter14 rfl rfl rfl (checkL_any l k _) ?_
    rintro _ w11 ⟨rfl, e11⟩
    rw [chkL, if_neg hG]
    refine ⟨_, rfl, ?_⟩
    have ob_11 := ob_2.below e11
    have bs_11 := bs_2.on e11
    have l_11 := bt l_2 e11
    refine WL.bin rfl rfl rfl rfl (int_eq_t rfl _ _ _) ?_
    first | refine WL.pick rfl rfl rfl rfl ?_
    first | refine WL.assign rfl rfl rfl ?_
    refine WL.done ?_
    refine EW.on ?_
    refine EW.ret ?_
    refine pr_then ?_
    exact EW.returns Try.results4 rfl ⟨rfl, l_11⟩
  · have hG : ¬ GoodL l := fun g => a4 g.2.2.1.1
    refine EW.region ?_
    refine WL.field rfl rfl rfl (f43_0 q1 _) ?_
    refine WL.load rfl rfl rfl (Lm.ld_0 b1 k) ?_
    refine WL.bin rfl rfl rfl rfl (int_ge_t a0 _ _ _) ?_
    first | refine WL.move rfl rfl rfl ?_
    refine WL.field rfl rfl rfl (f43_0 q1 _) ?_
    refine WL.load rfl rfl rfl (Lm.ld_0 b1 k) ?_
    refine WL.bin rfl rfl rfl rfl (int_le_t a1 _ _ _) ?_
    refine WL.pick rfl rfl rfl rfl ?_
    first | refine WL.move rfl rfl rfl ?_
    refine WL.field rfl rfl rfl (f43_1 q1 _) ?_
    refine WL.load rfl rfl rfl (Lm.ld_1 b1 k) ?_
    refine WL.bin rfl rfl rfl rfl (int_ge_t a2 _ _ _) ?_
    refine WL.pick rfl rfl rfl rfl ?_
    first | refine WL.move rfl rfl rfl ?_
    refine WL.field rfl rfl rfl (f43_1 q1 _) ?_
    refine WL.load rfl rfl rfl (Lm.ld_1 b1 k) ?_
    refine WL.bin rfl rfl rfl rfl (int_le_t a3 _ _ _) ?_
    refine WL.pick rfl rfl rfl rfl ?_
    first | refine WL.move rfl rfl rfl ?_
    refine WL.field rfl rfl rfl (f43_2 q1 _) ?_
    refine WL.load rfl rfl rfl (Lm.ld_2 b1 k) ?_
    refine WL.bin rfl rfl rfl rfl (int_ge_f a4 _ _ _) ?_
    refine WL.pick rfl rfl rfl rfl ?_
    first | refine WL.move rfl rfl rfl ?_
    refine WL.skip _ rfl rfl rfl ?_
    refine WL.skip _ rfl rfl rfl ?_
    refine WL.skip _ rfl rfl rfl ?_
    refine WL.pick rfl rfl rfl rfl ?_
    first | refine WL.move rfl rfl rfl ?_
    refine WL.skip _ rfl rfl rfl ?_
    refine WL.skip _ rfl rfl rfl ?_
    refine WL.skip _ rfl rfl rfl ?_
    refine WL.pick rfl rfl rfl rfl ?_
    first | refine WL.move rfl rfl rfl ?_
    refine WL.skip _ rfl rfl rfl ?_
    refine WL.skip _ rfl rfl rfl ?_
    refine WL.skip _ rfl rfl rfl ?_
    refine WL.pick rfl rfl rfl rfl ?_
    first | refine WL.move rfl rfl rfl ?_
    refine WL.skip _ rfl rfl rfl ?_
    refine WL.skip _ rfl rfl rfl ?_
    refine WL.skip _ rfl rfl rfl ?_
    refine WL.pick rfl rfl rfl rfl ?_
    first | refine WL.move rfl rfl rfl ?_
    refine WL.skip _ rfl rfl rfl ?_
    refine WL.skip _ rfl rfl rfl ?_
    refine WL.skip _ rfl rfl rfl ?_
    refine WL.pick rfl rfl rfl rfl ?_
    first | refine WL.move rfl rfl rfl ?_
    refine WL.skip _ rfl rfl rfl ?_
    refine WL.skip _ rfl rfl rfl ?_
    refine WL.skip _ rfl rfl rfl ?_
    refine WL.pick rfl rfl rfl rfl ?_
    first | refine WL.assign rfl rfl rfl ?_
    refine WL.done ?_
    refine EW.on ?_
    refine EW.seq ?_
    refine EW.region ?_
    refine WL.load rfl rfl rfl (Lm.ld b1 k) ?_
    refine WL.call [l.v] enter13 rfl rfl rfl (encodeL_any l k _) ?_
    rintro _ w2 ⟨vb, rfl, ob_2, e2⟩
    rw [if_neg hG] at ob_2
    rw [chkL, if_neg hG]
    have bs_2 := b1.on e2
    have l_2 := bt e1 e2
    refine ⟨_, rfl, ?_⟩
    first | refine WL.move rfl rfl rfl ?_
    first | refine WL.extract rfl rfl rfl (ext_2 _ _ _).1 ?_
    first | refine WL.extract rfl rfl rfl (ext_2 _ _ _).2 ?_
    first | refine WL.assign rfl rfl rfl ?_
    first | refine WL.assign rfl rfl rfl ?_
    refine WL.done ?_
    refine EW.on ?_
    refine EW.seq ?_
    refine EW.seq ?_
    refine EW.region ?_
    first | refine WL.move rfl rfl rfl ?_
    refine WL.un rfl rfl rfl (not_t _ _) ?_
    refine WL.done ?_
    refine EW.on ?_
    refine EW.cond_t rfl ?_
    refine EW.seq ?_
    refine EW.region ?_
    first | refine WL.move rfl rfl rfl ?_
    refine WL.bin rfl rfl rfl rfl (int_eq_t rfl _ _ _) ?_
    first | refine WL.move rfl rfl rfl ?_
    first | refine WL.move rfl rfl rfl ?_ | refine WL.skip _ rfl rfl rfl ?_
    refine WL.len rfl rfl rfl (ob_2.has.len _ _) ?_
    refine WL.bin rfl rfl rfl rfl (int_eq_t rfl _ _ _) ?_
    first | refine WL.pick rfl rfl rfl rfl ?_
    first | refine WL.move rfl rfl rfl ?_
    refine WL.load rfl rfl rfl (Lm.ld bs_2 k) ?_
    refine WL.call [l.v] enter14 rfl rfl rfl (checkL_any l k _) ?_
    rintro _ w11 ⟨rfl, e11⟩
    rw [chkL, if_neg hG]
    refine ⟨_, rfl, ?_⟩
    have ob_11 := ob_2.below e11
    have bs_11 := bs_2.on e11
    have l_11 := bt l_2 e11
    refine WL.bin rfl rfl rfl rfl (int_eq_t rfl _ _ _) ?_
    first | refine WL.pick rfl rfl rfl rfl ?_
    first | refine WL.assign rfl rfl rfl ?_
    refine WL.done ?_
    refine EW.on ?_
    refine EW.ret ?_
    refine pr_then ?_
    exact EW.returns Try.results4 rfl ⟨rfl, l_11⟩
  · have hG : ¬ GoodL l := fun g => a5 g.2.2.1.2
    refine EW.region ?_
    refine WL.field rfl rfl rfl (f43_0 q1 _) ?_
    refine WL.load rfl rfl rfl (Lm.ld_0 b1 k) ?_
    refine WL.bin rfl rfl rfl rfl (int_ge_t a0 _ _ _) ?_
    first | refine WL.move rfl rfl rfl ?_
    refine WL.field rfl rfl rfl (f43_0 q1 _) ?_
    refine WL.load rfl rfl rfl (Lm.ld_0 b1 k) ?_
    refine WL.bin rfl rfl rfl rfl (int_le_t a1 _ _ _) ?_
    refine WL.pick rfl rfl rfl rfl ?_
    first | refine WL.move rfl rfl rfl ?_
    refine WL.field rfl rfl rfl (f43_1 q1 _) ?_
    refine WL.load rfl rfl rfl (Lm.ld_1 b1 k) ?_
    refine WL.bin rfl rfl rfl rfl (int_ge_t a2 _ _ _) ?_
    refine WL.pick rfl rfl rfl rfl ?_
    first | refine WL.move rfl rfl rfl ?_
    refine WL.field rfl rfl rfl (f43_1 q1 _) ?_
    refine WL.load rfl rfl rfl (Lm.ld_1 b1 k) ?_
    refine WL.bin rfl rfl rfl rfl (int_le_t a3 _ _ _) ?_
    refine WL.pick rfl rfl rfl rfl ?_
    first | refine WL.move rfl rfl rfl ?_
    refine WL.field rfl rfl rfl (f43_2 q1 _) ?_
    refine WL.load rfl rfl rfl (Lm.ld_2 b1 k) ?_
    refine WL.bin rfl rfl rfl rfl (int_ge_t a4 _ _ _) ?_
    refine WL.pick rfl rfl rfl rfl ?_
    first | refine WL.move rfl rfl rfl ?_
    refine WL.field rfl rfl rfl (f43_2 q1 _) ?_
    refine WL.load rfl rfl rfl (Lm.ld_2 b1 k) ?_
    refine WL.bin rfl rfl rfl rfl (int_le_f a5 _ _ _) ?_
    refine WL.pick rfl rfl rfl rfl ?_
    first | refine WL.move rfl rfl rfl ?_
    refine WL.skip _ rfl rfl rfl ?_
    refine WL.skip _ rfl rfl rfl ?_
    refine WL.skip _ rfl rfl rfl ?_
    refine WL.pick rfl rfl rfl rfl ?_
    first | refine WL.move rfl rfl rfl ?_
    refine WL.skip _ rfl rfl rfl ?_
    refine WL.skip _ rfl rfl rfl ?_
    refine WL.skip _ rfl rfl rfl ?_
    refine WL.pick rfl rfl rfl rfl ?_
    first | refine WL.move rfl rfl rfl ?_
    refine WL.skip _ rfl rfl rfl ?_
    refine WL.skip _ rfl rfl rfl ?_
    refine WL.skip _ rfl rfl rfl ?_
    refine WL.pick rfl rfl rfl rfl ?_
    first | refine WL.move rfl rfl rfl ?_
    refine WL.skip _ rfl rfl rfl ?_
    refine WL.skip _ rfl rfl rfl ?_
    refine WL.skip _ rfl rfl rfl ?_
    refine WL.pick rfl rfl rfl rfl ?_
    first | refine WL.move rfl rfl rfl ?_
    refine WL.skip _ rfl rfl rfl ?_
    refine WL.skip _ rfl rfl rfl ?_
    refine WL.skip _ rfl rfl rfl ?_
    refine WL.pick rfl rfl rfl rfl ?_
    first | refine WL.assign rfl rfl rfl ?_
    refine WL.done ?_
    refine EW.on ?_
    refine EW.seq ?_
    refine EW.region ?_
    refine WL.load rfl rfl rfl (Lm.ld b1 k) ?_
    refine WL.call [l.v] enter13 rfl rfl rfl (encodeL_any l k _) ?_
    rintro _ w2 ⟨vb, rfl, ob_2, e2⟩
    rw [if_neg hG] at ob_2
    rw [chkL, if_neg hG]
    have bs_2 := b1.on e2
    have l_2 := bt e1 e2
    refine ⟨_, rfl, ?_⟩
    first | refine WL.move rfl rfl rfl ?_
    first | refine WL.extract rfl rfl rfl (ext_2 _ _ _).1 ?_
    first | refine WL.extract rfl rfl rfl (ext_2 _ _ _).2 ?_
    first | refine WL.assign rfl rfl rfl ?_
    first | refine WL.assign rfl rfl rfl ?_
    refine WL.done ?_
    refine EW.on ?_
    refine EW.seq ?_
    refine EW.seq ?_
    refine EW.region ?_
    first | refine WL.move rfl rfl rfl ?_
    refine WL.un rfl rfl rfl (not_t _ _) ?_
    refine WL.done ?_
    refine EW.on ?_
    refine EW.cond_t rfl ?_
    refine EW.seq ?_
    refine EW.region ?_
    first | refine WL.move rfl rfl rfl ?_
    refine WL.bin rfl rfl rfl rfl (int_eq_t rfl _ _ _) ?_
    first | refine WL.move rfl rfl rfl ?_
    first | refine WL.move rfl rfl rfl ?_ | refine WL.skip _ rfl rfl rfl ?_
    refine WL.len rfl rfl rfl (ob_2.has.len _ _) ?_
    refine WL.bin rfl rfl rfl rfl (int_eq_t rfl _ _ _) ?_
    first | refine WL.pick rfl rfl rfl rfl ?_
    first | refine WL.move rfl rfl rfl ?_
    refine WL.load rfl rfl rfl (Lm.ld bs_2 k) ?_
    refine WL.call [l.v] enter14 rfl rfl rfl (checkL_any l k _) ?_
    rintro _ w11 ⟨rfl, e11⟩
    rw [chkL, if_neg hG]
    refine ⟨_, rfl, ?_⟩
    have ob_11 := ob_2.below e11
    have bs_11 := bs_2.on e11
    have l_11 := bt l_2 e11
    refine WL.bin rfl rfl rfl rfl (int_eq_t rfl _ _ _) ?_
    first | refine WL.pick rfl rfl rfl rfl ?_
    first | refine WL.assign rfl rfl rfl ?_
    refine WL.done ?_
    refine EW.on ?_
    refine EW.ret ?_
    refine pr_then ?_
    exact EW.returns Try.results4 rfl ⟨rfl, l_11⟩
  · have hG : ¬ GoodL l := fun g => a6 g.2.2.2.1.1
    refine EW.region ?_
    refine WL.field rfl rfl rfl (f43_0 q1 _) ?_
    refine WL.load rfl rfl rfl (Lm.ld_0 b1 k) ?_
    refine WL.bin rfl rfl rfl rfl (int_ge_t a0 _ _ _) ?_
    first | refine WL.move rfl rfl rfl ?_
    refine WL.field rfl rfl rfl (f43_0 q1 _) ?_
    refine WL.load rfl rfl rfl (Lm.ld_0 b1 k) ?_
    refine WL.bin rfl rfl rfl rfl (int_le_t a1 _ _ _) ?_
    refine WL.pick rfl rfl rfl rfl ?_
    first | refine WL.move rfl rfl rfl ?_
    refine WL.field rfl rfl rfl (f43_1 q1 _) ?_
    refine WL.load rfl rfl rfl (Lm.ld_1 b1 k) ?_
    refine WL.bin rfl rfl rfl rfl (int_ge_t a2 _ _ _) ?_
    refine WL.pick rfl rfl rfl rfl ?_
    first | refine WL.move rfl rfl rfl ?_
    refine WL.field rfl rfl rfl (f43_1 q1 _) ?_
    refine WL.load rfl rfl rfl (Lm.ld_1 b1 k) ?_
    refine WL.bin rfl rfl rfl rfl (int_le_t a3 _ _ _) ?_
    refine WL.pick rfl rfl rfl rfl ?_
    first | refine WL.move rfl rfl rfl ?_
    refine WL.field rfl rfl rfl (f43_2 q1 _) ?_
    refine WL.load rfl rfl rfl (Lm.ld_2 b1 k) ?_
    refine WL.bin rfl rfl rfl rfl (int_ge_t a4 _ _ _) ?_
    refine WL.pick rfl rfl rfl rfl ?_
    first | refine WL.move rfl rfl rfl ?_
    refine WL.field rfl rfl rfl (f43_2 q1 _) ?_
    refine WL.load rfl rfl rfl (Lm.ld_2 b1 k) ?_
    refine WL.bin rfl rfl rfl rfl (int_le_t a5 _ _ _) ?_
    refine WL.pick rfl rfl rfl rfl ?_
    first | refine WL.move rfl rfl rfl ?_
    refine WL.field rfl rfl rfl (f43_3 q1 _) ?_
    refine WL.load rfl rfl rfl (Lm.ld_3 b1 k) ?_
    refine WL.bin rfl rfl rfl rfl (int_ge_f a6 _ _ _) ?_
    refine WL.pick rfl rfl rfl rfl ?_
    first | refine WL.move rfl rfl rfl ?_
    refine WL.skip _ rfl rfl rfl ?_
    refine WL.skip _ rfl rfl rfl ?_
    refine WL.skip _ rfl rfl rfl ?_
    refine WL.pick rfl rfl rfl rfl ?_
    first | refine WL.move rfl rfl rfl ?_
    refine WL.skip _ rfl rfl rfl ?_
    refine WL.skip _ rfl rfl rfl ?_
    refine WL.skip _ rfl rfl rfl ?_
    refine WL.pick rfl rfl rfl rfl ?_
    first | refine WL.move rfl rfl rfl ?_
    refine WL.skip _ rfl rfl rfl ?_
    refine WL.skip _ rfl rfl rfl ?_
    refine WL.skip _ rfl rfl rfl ?_
    refine WL.pick rfl rfl rfl rfl ?_
    first | refine WL.move rfl rfl rfl ?_
    refine WL.skip _ rfl rfl rfl ?_
    refine WL.skip _ rfl rfl rfl ?_
    refine WL.skip _ rfl rfl rfl ?_
    refine WL.pick rfl rfl rfl rfl ?_
    first | refine WL.assign rfl rfl rfl ?_
    refine WL.done ?_
    refine EW.on ?_
    refine EW.seq ?_
    refine EW.region ?_
    refine WL.load rfl rfl rfl (Lm.ld b1 k) ?_
    refine WL.call [l.v] enter13 rfl rfl rfl (encodeL_any l k _) ?_
    rintro _ w2 ⟨vb, rfl, ob_2, e2⟩
    rw [if_neg hG] at ob_2
    rw [chkL, if_neg hG]
    have bs_2 := b1.on e2
    have l_2 := bt e1 e2
    refine ⟨_, rfl, ?_⟩
    first | refine WL.move rfl rfl rfl ?_
    first | refine WL.extract rfl rfl rfl (ext_2 _ _ _).1 ?_
    first | refine WL.extract rfl rfl rfl (ext_2 _ _ _).2 ?_
    first | refine WL.assign rfl rfl rfl ?_
    first | refine WL.assign rfl rfl rfl ?_
    refine WL.done ?_
    refine EW.on ?_
    refine EW.seq ?_
    refine EW.seq ?_
    refine EW.region ?_
    first | refine WL.move rfl rfl rfl ?_
    refine WL.un rfl rfl rfl (not_t _ _) ?_
    refine WL.done ?_
    refine EW.on ?_
    refine EW.cond_t rfl ?_
    refine EW.seq ?_
    refine EW.region ?_
    first | refine WL.move rfl rfl rfl ?_
    refine WL.bin rfl rfl rfl rfl (int_eq_t rfl _ _ _) ?_
    first | refine WL.move rfl rfl rfl ?_
    first | refine WL.move rfl rfl rfl ?_ | refine WL.skip _ rfl rfl rfl ?_
    refine WL.len rfl rfl rfl (ob_2.has.len _ _) ?_
    refine WL.bin rfl rfl rfl rfl (int_eq_t rfl _ _ _) ?_
    first | refine WL.pick rfl rfl rfl rfl ?_
    first | refine WL.move rfl rfl rfl ?_
    refine WL.load rfl rfl rfl (Lm.ld bs_2 k) ?_
    refine WL.call [l.v] enter14 rfl rfl rfl (checkL_any l k _) ?_
    rintro _ w11 ⟨rfl, e11⟩
    rw [chkL, if_neg hG]
    refine ⟨_, rfl, ?_⟩
    have ob_11 := ob_2.below e11
    have bs_11 := bs_2.on e11
    have l_11 := bt l_2 e11
    refine WL.bin rfl rfl rfl rfl (int_eq_t rfl _ _ _) ?_
    first | refine WL.pick rfl rfl rfl rfl ?_
    first | refine WL.assign rfl rfl rfl ?_
    refine WL.done ?_
    refine EW.on ?_
    refine EW.ret ?_
    refine pr_then ?_
    exact EW.returns Try.results4 rfl ⟨rfl, l_11⟩
  · have hG : ¬ GoodL l := fun g => a7 g.2.2.2.1.2
    refine EW.region ?_
    refine WL.field rfl rfl rfl (f43_0 q1 _) ?_
    refine WL.load rfl rfl rfl (Lm.ld_0 b1 k) ?_
    refine WL.bin rfl rfl rfl rfl (int_ge_t a0 _ _ _) ?_
    first | refine WL.move rfl rfl rfl ?_
    refine WL.field rfl rfl rfl (f43_0 q1 _) ?_
    refine WL.load rfl rfl rfl (Lm.ld_0 b1 k) ?_
    refine WL.bin rfl rfl rfl rfl (int_le_t a1 _ _ _) ?_
    refine WL.pick rfl rfl rfl rfl ?_
    first | refine WL.move rfl rfl rfl ?_
    refine WL.field rfl rfl rfl (f43_1 q1 _) ?_
    refine WL.load rfl rfl rfl (Lm.ld_1 b1 k) ?_
    refine WL.bin rfl rfl rfl rfl (int_ge_t a2 _ _ _) ?_
    refine WL.pick rfl rfl rfl rfl ?_
    first | refine WL.move rfl rfl rfl ?_
    refine WL.field rfl rfl rfl (f43_1 q1 _) ?_
    refine WL.load rfl rfl rfl (Lm.ld_1 b1 k) ?_
    refine WL.bin rfl rfl rfl rfl (int_le_t a3 _ _ _) ?_
    refine WL.pick rfl rfl rfl rfl ?_
    first | refine WL.move rfl rfl rfl ?_
    refine WL.field rfl rfl rfl (f43_2 q1 _) ?_
    refine WL.load rfl rfl rfl (Lm.ld_2 b1 k) ?_
    refine WL.bin rfl rfl rfl rfl (int_ge_t a4 _ _ _) ?_
    refine WL.pick rfl rfl rfl rfl ?_
    first | refine WL.move rfl rfl rfl ?_
    refine WL.field rfl rfl rfl (f43_2 q1 _) ?_
    refine WL.load rfl rfl rfl (Lm.ld_2 b1 k) ?_
    refine WL.bin rfl rfl rfl rfl (int_le_t a5 _ _ _) ?_
    refine WL.pick rfl rfl rfl rfl ?_
    first | refine WL.move rfl rfl rfl ?_
    refine WL.field rfl rfl rfl (f43_3 q1 _) ?_
    refine WL.load rfl rfl rfl (Lm.ld_3 b1 k) ?_
    refine WL.bin rfl rfl rfl rfl (int_ge_t a6 _ _ _) ?_
    refine WL.pick rfl rfl rfl rfl ?_
    first | refine WL.move rfl rfl rfl ?_
    refine WL.field rfl rfl rfl (f43_3 q1 _) ?_
    refine WL.load rfl rfl rfl (Lm.ld_3 b1 k) ?_
    refine WL.bin rfl rfl rfl rfl (int_le_f a7 _ _ _) ?_
    refine WL.pick rfl rfl rfl rfl ?_
    first | refine WL.move rfl rfl rfl ?_
    refine WL.skip _ rfl rfl rfl ?_
    refine WL.skip _ rfl rfl rfl ?_
    refine WL.skip _ rfl rfl rfl ?_
    refine WL.pick rfl rfl rfl rfl ?_
    first | refine WL.move rfl rfl rfl ?_
    refine WL.skip _ rfl rfl rfl ?_
    refine WL.skip _ rfl rfl rfl ?_
    refine WL.skip _ rfl rfl rfl ?_
    refine WL.pick rfl rfl rfl rfl ?_
    first | refine WL.move rfl rfl rfl ?_
    refine WL.skip _ rfl rfl rfl ?_
    refine WL.skip _ rfl rfl rfl ?_
    refine WL.skip _ rfl rfl rfl ?_
    refine WL.pick rfl rfl rfl rfl ?_
    first | refine WL.assign rfl rfl rfl ?_
    refine WL.done ?_
    refine EW.on ?_
    refine EW.seq ?_
    refine EW.region ?_
    refine WL.load rfl rfl rfl (Lm.ld b1 k) ?_
    refine WL.call [l.v] enter13 rfl rfl rfl (encodeL_any l k _) ?_
    rintro _ w2 ⟨vb, rfl, ob_2, e2⟩
    rw [if_neg hG] at ob_2
    rw [chkL, if_neg hG]
    have bs_2 := b1.on e2
    have l_2 := bt e1 e2
    refine ⟨_, rfl, ?_⟩
    first | refine WL.move rfl rfl rfl ?_
    first | refine WL.extract rfl rfl rfl (ext_2 _ _ _).1 ?_
    first | refine WL.extract rfl rfl rfl (ext_2 _ _ _).2 ?_
    first | refine WL.assign rfl rfl rfl ?_
    first | refine WL.assign rfl rfl rfl ?_
    refine WL.done ?_
    refine EW.on ?_
    refine EW.seq ?_
    refine EW.seq ?_
    refine EW.region ?_
    first | refine WL.move rfl rfl rfl ?_
    refine WL.un rfl rfl rfl (not_t _ _) ?_
    refine WL.done ?_
    refine EW.on ?_
    refine EW.cond_t rfl ?_
    refine EW.seq ?_
    refine EW.region ?_
    first | refine WL.move rfl rfl rfl ?_
    refine WL.bin rfl rfl rfl rfl (int_eq_t rfl _ _ _) ?_
    first | refine WL.move rfl rfl rfl ?_
    first | refine WL.move rfl rfl rfl ?_ | refine WL.skip _ rfl rfl rfl ?_
    refine WL.len rfl rfl rfl (ob_2.has.len _ _) ?_
    refine WL.bin rfl rfl rfl rfl (int_eq_t rfl _ _ _) ?_
    first | refine WL.pick rfl rfl rfl rfl ?_
    first | refine WL.move rfl rfl rfl ?_
    refine WL.load rfl rfl rfl (Lm.ld bs_2 k) ?_
    refine WL.call [l.v] enter14 rfl rfl rfl (checkL_any l k _) ?_
    rintro _ w11 ⟨rfl, e11⟩
    rw [chkL, if_neg hG]
    refine ⟨_, rfl, ?_⟩
    have ob_11 := ob_2.below e11
    have bs_11 := bs_2.on e11
    have l_11 := bt l_2 e11
    refine WL.bin rfl rfl rfl rfl (int_eq_t rfl _ _ _) ?_
    first | refine WL.pick rfl rfl rfl rfl ?_
    first | refine WL.assign rfl rfl rfl ?_
    refine WL.done ?_
    refine EW.on ?_
    refine EW.ret ?_
    refine pr_then ?_
    exact EW.returns Try.results4 rfl ⟨rfl, l_11⟩
  · have hG : ¬ GoodL l := fun g => a8 g.2.2.2.2.1.1
    refine EW.region ?_
    refine WL.field rfl rfl rfl (f43_0 q1 _) ?_
    refine WL.load rfl rfl rfl (Lm.ld_0 b1 k) ?_
    refine WL.bin rfl rfl rfl rfl (int_ge_t a0 _ _ _) ?_
    first | refine WL.move rfl rfl rfl ?_
    refine WL.field rfl rfl rfl (f43_0 q1 _) ?_
    refine WL.load rfl rfl rfl (Lm.ld_0 b1 k) ?_
    refine WL.bin rfl rfl rfl rfl (int_le_t a1 _ _ _) ?_
    refine WL.pick rfl rfl rfl rfl ?_
    first | refine WL.move rfl rfl rfl ?_
    refine WL.field rfl rfl rfl (f43_1 q1 _) ?_
    refine WL.load rfl rfl rfl (Lm.ld_1 b1 k) ?_
    refine WL.bin rfl rfl rfl rfl (int_ge_t a2 _ _ _) ?_
    refine WL.pick rfl rfl rfl rfl ?_
    first | refine WL.move rfl rfl rfl ?_
    refine WL.field rfl rfl rfl (f43_1 q1 _) ?_
    refine WL.load rfl rfl rfl (Lm.ld_1 b1 k) ?_
    refine WL.bin rfl rfl rfl rfl (int_le_t a3 _ _ _) ?_
    refine WL.pick rfl rfl rfl rfl ?_
    first | refine WL.move rfl rfl rfl ?_
    refine WL.field rfl rfl rfl (f43_2 q1 _) ?_
    refine WL.load rfl rfl rfl (Lm.ld_2 b1 k) ?_
    refine WL.bin rfl rfl rfl rfl (int_ge_t a4 _ _ _) ?_
    refine WL.pick rfl rfl rfl rfl ?_
    first | refine WL.move rfl rfl rfl ?_
    refine WL.field rfl rfl rfl (f43_2 q1 _) ?_
    refine WL.load rfl rfl rfl (Lm.ld_2 b1 k) ?_
    refine WL.bin rfl rfl rfl rfl (int_le_t a5 _ _ _) ?_
    refine WL.pick rfl rfl rfl rfl ?_
    first | refine WL.move rfl rfl rfl ?_
    refine WL.field rfl rfl rfl (f43_3 q1 _) ?_
    refine WL.load rfl rfl rfl (Lm.ld_3 b1 k) ?_
    refine WL.bin rfl rfl rfl rfl (int_ge_t a6 _ _ _) ?_
    refine WL.pick rfl rfl rfl rfl ?_
    first | refine WL.move rfl rfl rfl ?_
    refine WL.field rfl rfl rfl (f43_3 q1 _) ?_
    refine WL.load rfl rfl rfl (Lm.ld_3 b1 k) ?_
    refine WL.bin rfl rfl rfl rfl (int_le_t a7 _ _ _) ?_
    refine WL.pick rfl rfl rfl rfl ?_
    first | refine WL.move rfl rfl rfl ?_
    refine WL.field rfl rfl rfl (f43_4 q1 _) ?_
    refine WL.load rfl rfl rfl (Lm.ld_4 b1 k) ?_
    refine WL.bin rfl rfl rfl rfl (int_ge_f a8 _ _ _) ?_
    refine WL.pick rfl rfl rfl rfl ?_
    first | refine WL.move rfl rfl rfl ?_
    refine WL.skip _ rfl rfl rfl ?_
    refine WL.skip _ rfl rfl rfl ?_
    refine WL.skip _ rfl rfl rfl ?_
    refine WL.pick rfl rfl rfl rfl ?_
    first | refine WL.move rfl rfl rfl ?_
    refine WL.skip _ rfl rfl rfl ?_
    refine WL.skip _ rfl rfl rfl ?_
    refine WL.skip _ rfl rfl rfl ?_
    refine WL.pick rfl rfl rfl rfl ?_
    first | refine WL.assign rfl rfl rfl ?_
    refine WL.done ?_
    refine EW.on ?_
    refine EW.seq ?_
    refine EW.region ?_
    refine WL.load rfl rfl rfl (Lm.ld b1 k) ?_
    refine WL.call [l.v] enter13 rfl rfl rfl (encodeL_any l k _) ?_
    rintro _ w2 ⟨vb, rfl, ob_2, e2⟩
    rw [if_neg hG] at ob_2
    rw [chkL, if_neg hG]
    have bs_2 := b1.on e2
    have l_2 := bt e1 e2
    refine ⟨_, rfl, ?_⟩
    first | refine WL.move rfl rfl rfl ?_
    first | refine WL.extract rfl rfl rfl (ext_2 _ _ _).1 ?_
    first | refine WL.extract rfl rfl rfl (ext_2 _ _ _).2 ?_
    first | refine WL.assign rfl rfl rfl ?_
    first | refine WL.assign rfl rfl rfl ?_
    refine WL.done ?_
    refine EW.on ?_
    refine EW.seq ?_
    refine EW.seq ?_
    refine EW.region ?_
    first | refine WL.move rfl rfl rfl ?_
    refine WL.un rfl rfl rfl (not_t _ _) ?_
    refine WL.done ?_
    refine EW.on ?_
    refine EW.cond_t rfl ?_
    refine EW.seq ?_
    refine EW.region ?_
    first | refine WL.move rfl rfl rfl ?_
    refine WL.bin rfl rfl rfl rfl (int_eq_t rfl _ _ _) ?_
    first | refine WL.move rfl rfl rfl ?_
    first | refine WL.move rfl rfl rfl ?_ | refine WL.skip _ rfl rfl rfl ?_
    refine WL.len rfl rfl rfl (ob_2.has.len _ _) ?_
    refine WL.bin rfl rfl rfl rfl (int_eq_t rfl _ _ _) ?_
    first | refine WL.pick rfl rfl rfl rfl ?_
    first | refine WL.move rfl rfl rfl ?_
    refine WL.load rfl rfl rfl (Lm.ld bs_2 k) ?_
    refine WL.call [l.v] enter14 rfl rfl rfl (checkL_any l k _) ?_
    rintro _ w11 ⟨rfl, e11⟩
    rw [chkL, if_neg hG]
    refine ⟨_, rfl, ?_⟩
    have ob_11 := ob_2.below e11
    have bs_11 := bs_2.on e11
    have l_11 := bt l_2 e11
    refine WL.bin rfl rfl rfl rfl (int_eq_t rfl _ _ _) ?_
    first | refine WL.pick rfl rfl rfl rfl ?_
    first | refine WL.assign rfl rfl rfl ?_
    refine WL.done ?_
    refine EW.on ?_
    refine EW.ret ?_
    refine pr_then ?_
    exact EW.returns Try.results4 rfl ⟨rfl, l_11⟩
  · have hG : ¬ GoodL l := fun g => a9 g.2.2.2.2.1.2
    refine EW.region ?_
    refine WL.field rfl rfl rfl (f43_0 q1 _) ?_
    refine WL.load rfl rfl rfl (Lm.ld_0 b1 k) ?_
    refine WL.bin rfl rfl rfl rfl (int_ge_t a0 _ _ _) ?_
    first | refine WL.move rfl rfl rfl ?_
    refine WL.field rfl rfl rfl (f43_0 q1 _) ?_
    refine WL.load rfl rfl rfl (Lm.ld_0 b1 k) ?_
    refine WL.bin rfl rfl rfl rfl (int_le_t a1 _ _ _) ?_
    refine WL.pick rfl rfl rfl rfl ?_
    first | refine WL.move rfl rfl rfl ?_
    refine WL.field rfl rfl rfl (f43_1 q1 _) ?_
    refine WL.load rfl rfl rfl (Lm.ld_1 b1 k) ?_
    refine WL.bin rfl rfl rfl rfl (int_ge_t a2 _ _ _) ?_
    refine WL.pick rfl rfl rfl rfl ?_
    first | refine WL.move rfl rfl rfl ?_
    refine WL.field rfl rfl rfl (f43_1 q1 _) ?_
    refine WL.load rfl rfl rfl (Lm.ld_1 b1 k) ?_
    refine WL.bin rfl rfl rfl rfl (int_le_t a3 _ _ _) ?_
    refine WL.pick rfl rfl rfl rfl ?_
    first | refine WL.move rfl rfl rfl ?_
    refine WL.field rfl rfl rfl (f43_2 q1 _) ?_
    refine WL.load rfl rfl rfl (Lm.ld_2 b1 k) ?_
    refine WL.bin rfl rfl rfl rfl (int_ge_t a4 _ _ _) ?_
    refine WL.pick rfl rfl rfl rfl ?_
    first | refine WL.move rfl rfl rfl ?_
    refine WL.field rfl rfl rfl (f43_2 q1 _) ?_
    refine WL.load rfl rfl rfl (Lm.ld_2 b1 k) ?_
    refine WL.bin rfl rfl rfl rfl (int_le_t a5 _ _ _) ?_
    refine WL.pick rfl rfl rfl rfl ?_
    first | refine WL.move rfl rfl rfl ?_
    refine WL.field rfl rfl rfl (f43_3 q1 _) ?_
    refine WL.load rfl rfl rfl (Lm.ld_3 b1 k) ?_
    refine WL.bin rfl rfl rfl rfl (int_ge_t a6 _ _ _) ?_
    refine WL.pick rfl rfl rfl rfl ?_
    first | refine WL.move rfl rfl rfl ?_
    refine WL.field rfl rfl rfl (f43_3 q1 _) ?_
    refine WL.load rfl rfl rfl (Lm.ld_3 b1 k) ?_
    refine WL.bin rfl rfl rfl rfl (int_le_t a7 _ _ _) ?_
    refine WL.pick rfl rfl rfl rfl ?_
    first | refine WL.move rfl rfl rfl ?_
    refine WL.field rfl rfl rfl (f43_4 q1 _) ?_
    refine WL.load rfl rfl rfl (Lm.ld_4 b1 k) ?_
    refine WL.bin rfl rfl rfl rfl (int_ge_t a8 _ _ _) ?_
    refine WL.pick rfl rfl rfl rfl ?_
    first | refine WL.move rfl rfl rfl ?_
    refine WL.field rfl rfl rfl (f43_4 q1 _) ?_
    refine WL.load rfl rfl rfl (Lm.ld_4 b1 k) ?_
    refine WL.bin rfl rfl rfl rfl (int_le_f a9 _ _ _) ?_
    refine WL.pick rfl rfl rfl rfl ?_
    first | refine WL.move rfl rfl rfl ?_
    refine WL.skip _ rfl rfl rfl ?_
    refine WL.skip _ rfl rfl rfl ?_
    refine WL.skip _ rfl rfl rfl ?_
    refine WL.pick rfl rfl rfl rfl ?_
    first | refine WL.assign rfl rfl rfl ?_
    refine WL.done ?_
    refine EW.on ?_
    refine EW.seq ?_
    refine EW.region ?_
    refine WL.load rfl rfl rfl (Lm.ld b1 k) ?_
    refine WL.call [l.v] enter13 rfl rfl rfl (encodeL_any l k _) ?_
    rintro _ w2 ⟨vb, rfl, ob_2, e2⟩
    rw [if_neg hG] at ob_2
    rw [chkL, if_neg hG]
    have bs_2 := b1.on e2
    have l_2 := bt e1 e2
    refine ⟨_, rfl, ?_⟩
    first | refine WL.move rfl rfl rfl ?_
    first | refine WL.extract rfl rfl rfl (ext_2 _ _ _).1 ?_
    first | refine WL.extract rfl rfl rfl (ext_2 _ _ _).2 ?_
    first | refine WL.assign rfl rfl rfl ?_
    first | refine WL.assign rfl rfl rfl ?_
    refine WL.done ?_
    refine EW.on ?_
    refine EW.seq ?_
    refine EW.seq ?_
    refine EW.region ?_
    first | refine WL.move rfl rfl rfl ?_
    refine WL.un rfl rfl rfl (not_t _ _) ?_
    refine WL.done ?_
    refine EW.on ?_
    refine EW.cond_t rfl ?_
    refine EW.seq ?_
    refine EW.region ?_
    first | refine WL.move rfl rfl rfl ?_
    refine WL.bin rfl rfl rfl rfl (int_eq_t rfl _ _ _) ?_
    first | refine WL.move rfl rfl rfl ?_
    first | refine WL.move rfl rfl rfl ?_ | refine WL.skip _ rfl rfl rfl ?_
    refine WL.len rfl rfl rfl (ob_2.has.len _ _) ?_
    refine WL.bin rfl rfl rfl rfl (int_eq_t rfl _ _ _) ?_
    first | refine WL.pick rfl rfl rfl rfl ?_
    first | refine WL.move rfl rfl rfl ?_
    refine WL.load rfl rfl rfl (Lm.ld bs_2 k) ?_
    refine WL.call [l.v] enter14 rfl rfl rfl (checkL_any l k _) ?_
    rintro _ w11 ⟨rfl, e11⟩
    rw [chkL, if_neg hG]
    refine ⟨_, rfl, ?_⟩
    have ob_11 := ob_2.below e11
    have bs_11 := bs_2.on e11
    have l_11 := bt l_2 e11
    refine WL.bin rfl rfl rfl rfl (int_eq_t rfl _ _ _) ?_
    first | refine WL.pick rfl rfl rfl rfl ?_
    first | refine WL.assign rfl rfl rfl ?_
    refine WL.done ?_
    refine EW.on ?_
    refine EW.ret ?_
    refine pr_then ?_
    exact EW.returns Try.results4 rfl ⟨rfl, l_11⟩
  · have hG : ¬ GoodL l := fun g => a10 (by have := g.2.2.2.2.2; omega)
    refine EW.region ?_
    refine WL.field rfl rfl rfl (f43_0 q1 _) ?_
    refine WL.load rfl rfl rfl (Lm.ld_0 b1 k) ?_
    refine WL.bin rfl rfl rfl rfl (int_ge_t a0 _ _ _) ?_
    first | refine WL.move rfl rfl rfl ?_
    refine WL.field rfl rfl rfl (f43_0 q1 _) ?_
    refine WL.load rfl rfl rfl (Lm.ld_0 b1 k) ?_
    refine WL.bin rfl rfl rfl rfl (int_le_t a1 _ _ _) ?_
    refine WL.pick rfl rfl rfl rfl ?_
    first | refine WL.move rfl rfl rfl ?_
    refine WL.field rfl rfl rfl (f43_1 q1 _) ?_
    refine WL.load rfl rfl rfl (Lm.ld_1 b1 k) ?_
    refine WL.bin rfl rfl rfl rfl (int_ge_t a2 _ _ _) ?_
    refine WL.pick rfl rfl rfl rfl ?_
    first | refine WL.move rfl rfl rfl ?_
    refine WL.field rfl rfl rfl (f43_1 q1 _) ?_
    refine WL.load rfl rfl rfl (Lm.ld_1 b1 k) ?_
    refine WL.bin rfl rfl rfl rfl (int_le_t a3 _ _ _) ?_
    refine WL.pick rfl rfl rfl rfl ?_
    first | refine WL.move rfl rfl rfl ?_
    refine WL.field rfl rfl rfl (f43_2 q1 _) ?_
    refine WL.load rfl rfl rfl (Lm.ld_2 b1 k) ?_
    refine WL.bin rfl rfl rfl rfl (int_ge_t a4 _ _ _) ?_
    refine WL.pick rfl rfl rfl rfl ?_
    first | refine WL.move rfl rfl rfl ?_
    refine WL.field rfl rfl rfl (f43_2 q1 _) ?_
    refine WL.load rfl rfl rfl (Lm.ld_2 b1 k) ?_
    refine WL.bin rfl rfl rfl rfl (int_le_t a5 _ _ _) ?_
    refine WL.pick rfl rfl rfl rfl ?_
    first | refine WL.move rfl rfl rfl ?_
    refine WL.field rfl rfl rfl (f43_3 q1 _) ?_
    refine WL.load rfl rfl rfl (Lm.ld_3 b1 k) ?_
    refine WL.bin rfl rfl rfl rfl (int_ge_t a6 _ _ _) ?_
    refine WL.pick rfl rfl rfl rfl ?_
    first | refine WL.move rfl rfl rfl ?_
    refine WL.field rfl rfl rfl (f43_3 q1 _) ?_
    refine WL.load rfl rfl rfl (Lm.ld_3 b1 k) ?_
    refine WL.bin rfl rfl rfl rfl (int_le_t a7 _ _ _) ?_
    refine WL.pick rfl rfl rfl rfl ?_
    first | refine WL.move rfl rfl rfl ?_
    refine WL.field rfl rfl rfl (f43_4 q1 _) ?_
    refine WL.load rfl rfl rfl (Lm.ld_4 b1 k) ?_
    refine WL.bin rfl rfl rfl rfl (int_ge_t a8 _ _ _) ?_
    refine WL.pick rfl rfl rfl rfl ?_
    first | refine WL.move rfl rfl rfl ?_
    refine WL.field rfl rfl rfl (f43_4 q1 _) ?_
    refine WL.load rfl rfl rfl (Lm.ld_4 b1 k) ?_
    refine WL.bin rfl rfl rfl rfl (int_le_t a9 _ _ _) ?_
    refine WL.pick rfl rfl rfl rfl ?_
    first | refine WL.move rfl rfl rfl ?_
    refine WL.field rfl rfl rfl (f43_5 q1 _) ?_
    refine WL.load rfl rfl rfl (Lm.ld_5 b1 k) ?_
    refine WL.bin rfl rfl rfl rfl (u_ge_f a10 _ _ _) ?_
    refine WL.pick rfl rfl rfl rfl ?_
    first | refine WL.assign rfl rfl rfl ?_
    refine WL.done ?_
    refine EW.on ?_
    refine EW.seq ?_
    refine EW.region ?_
    refine WL.load rfl rfl rfl (Lm.ld b1 k) ?_
    refine WL.call [l.v] enter13 rfl rfl rfl (encodeL_any l k _) ?_
    rintro _ w2 ⟨vb, rfl, ob_2, e2⟩
    rw [if_neg hG] at ob_2
    rw [chkL, if_neg hG]
    have bs_2 := b1.on e2
    have l_2 := bt e1 e2
    refine ⟨_, rfl, ?_⟩
    first | refine WL.move rfl rfl rfl ?_
    first | refine WL.extract rfl rfl rfl (ext_2 _ _ _).1 ?_
    first | refine WL.extract rfl rfl rfl (ext_2 _ _ _).2 ?_
    first | refine WL.assign rfl rfl rfl ?_
    first | refine WL.assign rfl rfl rfl ?_
    refine WL.done ?_
    refine EW.on ?_
    refine EW.seq ?_
    refine EW.seq ?_
    refine EW.region ?_
    first | refine WL.move rfl rfl rfl ?_
    refine WL.un rfl rfl rfl (not_t _ _) ?_
    refine WL.done ?_
    refine EW.on ?_
    refine EW.cond_t rfl ?_
    refine EW.seq ?_
    refine EW.region ?_
    first | refine WL.move rfl rfl rfl ?_
    refine WL.bin rfl rfl rfl rfl (int_eq_t rfl _ _ _) ?_
    first | refine WL.move rfl rfl rfl ?_
    first | refine WL.move rfl rfl rfl ?_ | refine WL.skip _ rfl rfl rfl ?_
    refine WL.len rfl rfl rfl (ob_2.has.len _ _) ?_
    refine WL.bin rfl rfl rfl rfl (int_eq_t rfl _ _ _) ?_
    first | refine WL.pick rfl rfl rfl rfl ?_
    first | refine WL.move rfl rfl rfl ?_
    refine WL.load rfl rfl rfl (Lm.ld bs_2 k) ?_
    refine WL.call [l.v] enter14 rfl rfl rfl (checkL_any l k _) ?_
    rintro _ w11 ⟨rfl, e11⟩
    rw [chkL, if_neg hG]
    refine ⟨_, rfl, ?_⟩
    have ob_11 := ob_2.below e11
    have bs_11 := bs_2.on e11
    have l_11 := bt l_2 e11
    refine WL.bin rfl rfl rfl rfl (int_eq_t rfl _ _ _) ?_
    first | refine WL.pick rfl rfl rfl rfl ?_
    first | refine WL.assign rfl rfl rfl ?_
    refine WL.done ?_
    refine EW.on ?_
    refine EW.ret ?_
    refine pr_then ?_
    exact EW.returns Try.results4 rfl ⟨rfl, l_11⟩
  · have hG : GoodL l := ⟨⟨a0, a1⟩, ⟨a2, a3⟩, ⟨a4, a5⟩, ⟨a6, a7⟩, ⟨a8, a9⟩, fun e => by omega⟩
    refine EW.region ?_
    refine WL.field rfl rfl rfl (f43_0 q1 _) ?_
    refine WL.load rfl rfl rfl (Lm.ld_0 b1 k) ?_
    refine WL.bin rfl rfl rfl rfl (int_ge_t a0 _ _ _) ?_
    first | refine WL.move rfl rfl rfl ?_
    refine WL.field rfl rfl rfl (f43_0 q1 _) ?_
    refine WL.load rfl rfl rfl (Lm.ld_0 b1 k) ?_
    refine WL.bin rfl rfl rfl rfl (int_le_t a1 _ _ _) ?_
    refine WL.pick rfl rfl rfl rfl ?_
    first | refine WL.move rfl rfl rfl ?_
    refine WL.field rfl rfl rfl (f43_1 q1 _) ?_
    refine WL.load rfl rfl rfl (Lm.ld_1 b1 k) ?_
    refine WL.bin rfl rfl rfl rfl (int_ge_t a2 _ _ _) ?_
    refine WL.pick rfl rfl rfl rfl ?_
    first | refine WL.move rfl rfl rfl ?_
    refine WL.field rfl rfl rfl (f43_1 q1 _) ?_
    refine WL.load rfl rfl rfl (Lm.ld_1 b1 k) ?_
    refine WL.bin rfl rfl rfl rfl (int_le_t a3 _ _ _) ?_
    refine WL.pick rfl rfl rfl rfl ?_
    first | refine WL.move rfl rfl rfl ?_
    refine WL.field rfl rfl rfl (f43_2 q1 _) ?_
    refine WL.load rfl rfl rfl (Lm.ld_2 b1 k) ?_
    refine WL.bin rfl rfl rfl rfl (int_ge_t a4 _ _ _) ?_
    refine WL.pick rfl rfl rfl rfl ?_
    first | refine WL.move rfl rfl rfl ?_
    refine WL.field rfl rfl rfl (f43_2 q1 _) ?_
    refine WL.load rfl rfl rfl (Lm.ld_2 b1 k) ?_
    refine WL.bin rfl rfl rfl rfl (int_le_t a5 _ _ _) ?_
    refine WL.pick rfl rfl rfl rfl ?_
    first | refine WL.move rfl rfl rfl ?_
    refine WL.field rfl rfl rfl (f43_3 q1 _) ?_
    refine WL.load rfl rfl rfl (Lm.ld_3 b1 k) ?_
    refine WL.bin rfl rfl rfl rfl (int_ge_t a6 _ _ _) ?_
    refine WL.pick rfl rfl rfl rfl ?_
    first | refine WL.move rfl rfl rfl ?_
    refine WL.field rfl rfl rfl (f43_3 q1 _) ?_
    refine WL.load rfl rfl rfl (Lm.ld_3 b1 k) ?_
    refine WL.bin rfl rfl rfl rfl (int_le_t a7 _ _ _) ?_
    refine WL.pick rfl rfl rfl rfl ?_
    first | refine WL.move rfl rfl rfl ?_
    refine WL.field rfl rfl rfl (f43_4 q1 _) ?_
    refine WL.load rfl rfl rfl (Lm.ld_4 b1 k) ?_
    refine WL.bin rfl rfl rfl rfl (int_ge_t a8 _ _ _) ?_
    refine WL.pick rfl rfl rfl rfl ?_
    first | refine WL.move rfl rfl rfl ?_
    refine WL.field rfl rfl rfl (f43_4 q1 _) ?_
    refine WL.load rfl rfl rfl (Lm.ld_4 b1 k) ?_
    refine WL.bin rfl rfl rfl rfl (int_le_t a9 _ _ _) ?_
    refine WL.pick rfl rfl rfl rfl ?_
    first | refine WL.move rfl rfl rfl ?_
    refine WL.field rfl rfl rfl (f43_5 q1 _) ?_
    refine WL.load rfl rfl rfl (Lm.ld_5 b1 k) ?_
    refine WL.bin rfl rfl rfl rfl (u_ge_t a10 _ _ _) ?_
    refine WL.pick rfl rfl rfl rfl ?_
    first | refine WL.assign rfl rfl rfl ?_
    refine WL.done ?_
    refine EW.on ?_
    refine EW.seq ?_
    refine EW.region ?_
    refine WL.load rfl rfl rfl (Lm.ld b1 k) ?_
    refine WL.call [l.v] enter13 rfl rfl rfl (encodeL_any l k _) ?_
    rintro _ w2 ⟨vb, rfl, ob_2, e2⟩
    rw [if_pos hG] at ob_2
    rw [chkL, if_pos hG]
    have bs_2 := b1.on e2
    have l_2 := bt e1 e2
    refine ⟨_, rfl, ?_⟩
    first | refine WL.move rfl rfl rfl ?_
    first | refine WL.extract rfl rfl rfl (ext_2 _ _ _).1 ?_
    first | refine WL.extract rfl rfl rfl (ext_2 _ _ _).2 ?_
    first | refine WL.assign rfl rfl rfl ?_
    first | refine WL.assign rfl rfl rfl ?_
    refine WL.done ?_
    refine EW.on ?_
    refine EW.seq ?_
    refine EW.seq ?_
    refine EW.region ?_
    first | refine WL.move rfl rfl rfl ?_
    refine WL.un rfl rfl rfl (not_t _ _) ?_
    refine WL.done ?_
    refine EW.on ?_
    refine EW.cond_f rfl ?_
    refine EW.skip ?_
    refine EW.on ?_
    refine EW.seq ?_
    refine EW.region ?_
    first | refine WL.move rfl rfl rfl ?_
    refine WL.call [vb] enter15 rfl rfl rfl (decodeL_any vb (encL l) _ ob_2.has (by first | (rw [encL_len]; decide) | (rw [List.length_take, encL_len]; decide) | (rw [List.length_append, encL_len]; decide))) ?_
    rintro _ w11 ⟨rfl, e11⟩
    rw [(dL_enc k hG).1, (dL_enc k hG).2]
    refine ⟨_, rfl, ?_⟩
    have ob_11 := ob_2.below e11
    have bs_11 := bs_2.on e11
    have l_11 := bt l_2 e11
    first | refine WL.move rfl rfl rfl ?_
    first | refine WL.extract rfl rfl rfl (ext_2 _ _ _).1 ?_
    first | refine WL.extract rfl rfl rfl (ext_2 _ _ _).2 ?_
    obtain ⟨q12, wa12, w12, r12, s12, bm_12, e12, hq12⟩ := putL k w11
    refine WL.new rfl rfl r12 ?_
    refine WL.store rfl rfl rfl s12 ?_
    have ob_12 := ob_11.below e12
    have bs_12 := bs_11.on e12
    have l_12 := bt l_11 e12
    first | refine WL.assign rfl rfl rfl ?_
    refine WL.done ?_
    refine EW.on ?_
    refine EW.seq ?_
    refine EW.seq ?_
    refine EW.region ?_
    first | refine WL.move rfl rfl rfl ?_
    refine WL.bin rfl rfl rfl rfl (int_ne_f rfl _ _ _) ?_
    first | refine WL.move rfl rfl rfl ?_
    first | refine WL.move rfl rfl rfl ?_ | refine WL.skip _ rfl rfl rfl ?_
    refine WL.bin rfl rfl rfl rfl (int_ne_f rfl _ _ _) ?_
    first | refine WL.pick rfl rfl rfl rfl ?_
    first | refine WL.move rfl rfl rfl ?_
    refine WL.load rfl rfl rfl (Lm.ld bm_12 k) ?_
    refine WL.load rfl rfl rfl (Lm.ld bs_12 k) ?_
    refine WL.bin rfl rfl rfl rfl ((neq43 l l _ _ _).trans (by rw [decide_eq_false (fun h => h rfl)])) ?_
    first | refine WL.pick rfl rfl rfl rfl ?_
    first | refine WL.move rfl rfl rfl ?_
    first | refine WL.move rfl rfl rfl ?_ | refine WL.skip _ rfl rfl rfl ?_
    refine WL.len rfl rfl rfl (ob_12.has.len _ _) ?_
    refine WL.bin rfl rfl rfl rfl (int_ne_f rfl _ _ _) ?_
    first | refine WL.pick rfl rfl rfl rfl ?_
    first | refine WL.move rfl rfl rfl ?_
    refine WL.load rfl rfl rfl (Lm.ld bs_12 k) ?_
    refine WL.call [l.v] enter14 rfl rfl rfl (checkL_any l k _) ?_
    rintro _ w13 ⟨rfl, e13⟩
    rw [chkL, if_pos hG]
    refine ⟨_, rfl, ?_⟩
    have ob_13 := ob_12.below e13
    have bs_13 := bs_12.on e13
    have l_13 := bt l_12 e13
    refine WL.bin rfl rfl rfl rfl (int_ne_f rfl _ _ _) ?_
    first | refine WL.pick rfl rfl rfl rfl ?_
    refine WL.done ?_
    refine EW.on ?_
    refine EW.cond_f rfl ?_
    refine EW.skip ?_
    refine EW.on ?_
    refine EW.seq ?_
    refine EW.region ?_
    first | refine WL.move rfl rfl rfl ?_
    refine WL.slice3 rfl rfl rfl rfl rfl (by rw [sl22]; exact ob_13.has.cut3r 13 (by rw [encL_len]; decide) _) ?_
    refine WL.call [(cut3V vb 13)] enter15 rfl rfl rfl (decodeL_any (cut3V vb 13) ((encL l).take 13) _ (ob_13.has.cut3 13 (by rw [encL_len]; decide)) (by first | (rw [encL_len]; decide) | (rw [List.length_take, encL_len]; decide) | (rw [List.length_append, encL_len]; decide))) ?_
    rintro _ w14 ⟨rfl, e14⟩
    rw [dL_short (by rw [List.length_take, encL_len]; decide)]
    refine ⟨_, rfl, ?_⟩
    have ob_14 := ob_13.below e14
    have bs_14 := bs_13.on e14
    have l_14 := bt l_13 e14
    first | refine WL.move rfl rfl rfl ?_
    first | refine WL.extract rfl rfl rfl (ext_2 _ _ _).1 ?_
    first | refine WL.extract rfl rfl rfl (ext_2 _ _ _).2 ?_
    obtain ⟨q15, wa15, w15, r15, s15, bm_15, e15, hq15⟩ := putL (dLS_ok ((encL l).take 13)) w14
    refine WL.new rfl rfl r15 ?_
    refine WL.store rfl rfl rfl s15 ?_
    have ob_15 := ob_14.below e15
    have bs_15 := bs_14.on e15
    have l_15 := bt l_14 e15
    first | refine WL.assign rfl rfl rfl ?_
    refine WL.done ?_
    refine EW.on ?_
    refine EW.seq ?_
    refine EW.region ?_
    first | refine WL.move rfl rfl rfl ?_
    obtain ⟨vu, w16, ap16, ou_16, e16⟩ := app_nil ob_15.has (by rw [encL_len]; decide) 38
    refine WL.app rfl rfl rfl rfl ap16 ?_
    have ob_16 := ob_15.below e16
    have bs_16 := bs_15.on e16
    have l_16 := bt l_15 e16
    have e17 := below_new w16 (.cells ([(0 : UInt8)].map byt).toArray 5)
    refine WL.bslN [(0, byt 0)] rfl rfl rfl (bsl22_1 0 _) ?_
    obtain ⟨w17, hw17⟩ : ∃ W, w16.alloc (.cells ([(0 : UInt8)].map byt).toArray 5) = W := ⟨_, rfl⟩
    have bg17 := Blk.new w16 ([(0 : UInt8)].map byt) 5
    rw [hw17] at e17 bg17 ⊢
    have hg9 := Has.new bg17 1 (Nat.le_refl 1)
    obtain ⟨g9, hgg9⟩ : ∃ g, w16.heap.size = g := ⟨_, rfl⟩
    rw [hgg9] at hg9 ⊢
    have ob_17 := ob_16.below e17
    have ou_17 := ou_16.below e17
    have bs_17 := bs_16.on e17
    have l_17 := bt l_16 e17
    obtain ⟨vx9, w18, ap18, ox_18, e18'⟩ := ou_17.push1 (by have h1 := e16.size; have h2 := e17.size; omega) 0 (by rw [encL_len]; decide) 38 g9 hg9
    refine WL.app rfl rfl rfl rfl ap18 ?_
    have e18 := (bt e16 e17).trans e18'
    have ob_18 := ob_15.below e18
    have bs_18 := bs_15.on e18
    have l_18 := bt l_15 e18
    refine WL.call [vx9] enter15 rfl rfl rfl (decodeL_any vx9 (encL l ++ [0]) _ ox_18.has (by first | (rw [encL_len]; decide) | (rw [List.length_take, encL_len]; decide) | (rw [List.length_append, encL_len]; decide))) ?_
    rintro _ w19 ⟨rfl, e19⟩
    rw [dL_long (by rw [List.length_append, encL_len]; decide)]
    refine ⟨_, rfl, ?_⟩
    have ob_19 := ob_18.below e19
    have ox_19 := ox_18.below e19
    have bs_19 := bs_18.on e19
    have l_19 := bt l_18 e19
    first | refine WL.move rfl rfl rfl ?_
    first | refine WL.extract rfl rfl rfl (ext_2 _ _ _).1 ?_
    first | refine WL.extract rfl rfl rfl (ext_2 _ _ _).2 ?_
    obtain ⟨q20, wa20, w20, r20, s20, bm_20, e20, hq20⟩ := putL (dLS_ok (encL l ++ [0])) w19
    refine WL.new rfl rfl r20 ?_
    refine WL.store rfl rfl rfl s20 ?_
    have ob_20 := ob_19.below e20
    have ox_20 := ox_19.below e20
    have bs_20 := bs_19.on e20
    have l_20 := bt l_19 e20
    first | refine WL.assign rfl rfl rfl ?_
    refine WL.done ?_
    refine EW.on ?_
    refine EW.seq ?_
    refine EW.region ?_
    first | refine WL.move rfl rfl rfl ?_
    refine WL.bin rfl rfl rfl rfl (int_eq_t rfl _ _ _) ?_
    first | refine WL.move rfl rfl rfl ?_
    first | refine WL.move rfl rfl rfl ?_ | refine WL.skip _ rfl rfl rfl ?_
    refine WL.bin rfl rfl rfl rfl (int_eq_t rfl _ _ _) ?_
    first | refine WL.pick rfl rfl rfl rfl ?_
    first | refine WL.assign rfl rfl rfl ?_
    refine WL.done ?_
    refine EW.on ?_
    refine EW.ret ?_
    exact EW.returns Try.results4 rfl ⟨rfl, l_20⟩
end Go.Proofs.Ytacimelcmkhhlaa
