import Derived.Test.YtobfebpinkikdaaIj
set_option linter.unusedVariables false
set_option linter.unusedSimpArgs false
namespace Go.Proofs.Ytobfebpinkikdaa
open Go.RowKit

theorem bg_E {c : List UInt8} {lo hi : Nat} (h : ¬ begE c = 0) : bgD c lo hi = begE c := by unfold bgD; rw [if_neg h]
theorem bg_k {c : List UInt8} {lo hi : Nat} (h : begE c = 0) (hk : ¬ (lo ≤ kdD c ∧ kdD c ≤ hi)) : bgD c lo hi = 103 := by unfold bgD; rw [if_pos h, if_neg hk]
theorem bg_0 {c : List UInt8} {lo hi : Nat} (h : begE c = 0) (hk : lo ≤ kdD c ∧ kdD c ≤ hi) : bgD c lo hi = 0 := by unfold bgD; rw [if_pos h, if_pos hk]
theorem kd_at {c : List UInt8} {u : UInt8} (h : c[1]? = some u) : kdD c = u.toNat := by unfold kdD; rw [cutAt h, num1]
/-- The document's Unpack. -/
theorem unpackr_any (vb : Value) (c : List UInt8) (w : World) (hb : Has w vb c) (hl : c.length ≤ 140737488355328) : Calls Try.prog 40 #[vb] w (UnA w c) := by
  have bad : ∀ {E : Int}, unE c = E → ¬ E = 0 → (Calls Try.prog 40 #[vb] w fun e w' => e = .returned (.tuple #[Pk.z.v, .int .i64 E]) ∧ Below w.heap.size w w') → Calls Try.prog 40 #[vb] w (UnA w c) := fun hu hE h => h.mono fun e w' ⟨h1, h2⟩ => ⟨Pk.z, by rw [hu]; exact h1, fun _ => rfl, fun h => absurd (hu.symm.trans h) hE, h2⟩
  by_cases hE : begE c = 0
  · by_cases hk : kdD c = 1 ∨ kdD c = 2
    · have hB : bgD c 1 2 = 0 := bg_0 hE (by omega)
      have h2 := (beg_ok hE).1
      obtain ⟨u, hu⟩ := ofset (l := c) (j := 1) (by omega)
      have hku := kd_at hu
      have split : ∀ K : Nat, kdD c = K → (K = 1 ∨ K = 2) → (c.length < atD K + 62 → unE c = 10) ∧ (¬ c.length < atD K + 62 → (¬ suitD K (hlD c K) → unE c = 141) ∧ (suitD K (hlD c K) → (nD c K < 32 → unE c = 10) ∧ (¬ nD c K < 32 → (544 < nD c K → unE c = 5) ∧ (¬ 544 < nD c K → unE c = tailE c (atD K + 62 + nD c K))))) := by
        intro K hK h12
        have h12i : (K : Int) = 1 ∨ (K : Int) = 2 := by omega
        unfold unE
        rw [if_pos hE, hK, if_pos h12]
        refine ⟨fun h => if_pos h, fun h => ?_⟩
        rw [if_neg h]
        refine ⟨fun hs => ?_, fun hs => ⟨fun hn => ?_, fun hn => ⟨fun hn2 => ?_, fun hn2 => ?_⟩⟩⟩
        · rw [flt_141 h12i hs, if_neg (by decide)]
        · rw [flt_10 h12i hs (by omega), if_neg (by decide)]
        · rw [flt_5 h12i hs (by omega), if_neg (by decide)]
        · rw [if_pos]
          unfold fltD
          rw [if_pos h12i, if_pos hs, if_neg (by omega), if_neg (by omega)]
      rcases hk with hk | hk
      · have hu1 : (u.toNat : Int) = 1 := by omega
        obtain ⟨s1, s2⟩ := split 1 hk (by decide)
        have hat : atD 1 = 70 := rfl
        by_cases h62 : c.length < 132
        · exact bad (s1 h62) (by decide) (unr_1S vb c w hb hl hB u hu hu1 (by omega))
        · obtain ⟨s3, s4⟩ := s2 h62
          have h62i : ¬ (c.length : Int) < 132 := by omega
          by_cases hs : suitD 1 (hlD c 1)
          · obtain ⟨s5, s6⟩ := s4 hs
            have hsd := decide_eq_true hs
            by_cases hn : nD c 1 < 32
            · exact bad (s5 hn) (by decide) (unr_1b vb c w hb hl hB u hu hu1 h62i hsd (by have := hn; unfold nD at this; rw [hat] at this; omega))
            · obtain ⟨s7, s8⟩ := s6 hn
              have hni : ¬ (numB (cutB c (70 + 60) 2) : Int) < 32 := by have := hn; unfold nD at this; rw [hat] at this; omega
              by_cases hn2 : 544 < nD c 1
              · exact bad (s7 hn2) (by decide) (unr_1c vb c w hb hl hB u hu hu1 h62i hsd hni (by have := hn2; unfold nD at this; rw [hat] at this; omega))
              · have hn2i : ¬ (544 : Int) < (numB (cutB c (70 + 60) 2) : Int) := by have := hn2; unfold nD at this; rw [hat] at this; omega
                have ht := s8 hn2
                have hnd : nD c 1 = numB (cutB c (70 + 60) 2) := rfl
                by_cases h1 : c.length < atD 1 + 62 + nD c 1
                · exact bad (by rw [ht]; unfold tailE; rw [if_pos h1]) (by decide) (unr_1d vb c w hb hl hB u hu hu1 h62i hsd hni hn2i (by omega))
                · by_cases h3 : atD 1 + 62 + nD c 1 < c.length
                  · exact bad (by rw [ht]; unfold tailE; rw [if_neg h1, if_pos h3]) (by decide) (unr_1e vb c w hb hl hB u hu hu1 h62i hsd hni hn2i (by omega) (by omega))
                  · have hu0 : unE c = 0 := by rw [ht]; unfold tailE; rw [if_neg h1, if_neg h3]
                    refine (unr_1o vb c w hb hl hB u hu hu1 h62i hsd hni hn2i (by omega) (by omega)).mono fun e w' ⟨vy, h4, h5, h6⟩ => ⟨_, by rw [hu0]; exact h4, fun h => absurd hu0 h, fun _ => ⟨vy, ?_, ?_⟩, h6⟩
                    · unfold pkD
                      rw [hk]
                      rfl
                    · unfold boD
                      rw [hk]
                      exact h5
          · exact bad (s3 hs) (by decide) (unr_1a vb c w hb hl hB u hu hu1 h62i (decide_eq_false hs))
      · have hu1 : (u.toNat : Int) = 2 := by omega
        obtain ⟨s1, s2⟩ := split 2 hk (by decide)
        have hat : atD 2 = 2 := rfl
        by_cases h62 : c.length < 64
        · exact bad (s1 h62) (by decide) (unr_2S vb c w hb hl hB u hu hu1 (by omega))
        · obtain ⟨s3, s4⟩ := s2 h62
          have h62i : ¬ (c.length : Int) < 64 := by omega
          by_cases hs : suitD 2 (hlD c 2)
          · obtain ⟨s5, s6⟩ := s4 hs
            have hsd := decide_eq_true hs
            by_cases hn : nD c 2 < 32
            · exact bad (s5 hn) (by decide) (unr_2b vb c w hb hl hB u hu hu1 h62i hsd (by have := hn; unfold nD at this; rw [hat] at this; omega))
            · obtain ⟨s7, s8⟩ := s6 hn
              have hni : ¬ (numB (cutB c (2 + 60) 2) : Int) < 32 := by have := hn; unfold nD at this; rw [hat] at this; omega
              by_cases hn2 : 544 < nD c 2
              · exact bad (s7 hn2) (by decide) (unr_2c vb c w hb hl hB u hu hu1 h62i hsd hni (by have := hn2; unfold nD at this; rw [hat] at this; omega))
              · have hn2i : ¬ (544 : Int) < (numB (cutB c (2 + 60) 2) : Int) := by have := hn2; unfold nD at this; rw [hat] at this; omega
                have ht := s8 hn2
                have hnd : nD c 2 = numB (cutB c (2 + 60) 2) := rfl
                by_cases h1 : c.length < atD 2 + 62 + nD c 2
                · exact bad (by rw [ht]; unfold tailE; rw [if_pos h1]) (by decide) (unr_2d vb c w hb hl hB u hu hu1 h62i hsd hni hn2i (by omega))
                · by_cases h3 : atD 2 + 62 + nD c 2 < c.length
                  · exact bad (by rw [ht]; unfold tailE; rw [if_neg h1, if_pos h3]) (by decide) (unr_2e vb c w hb hl hB u hu hu1 h62i hsd hni hn2i (by omega) (by omega))
                  · have hu0 : unE c = 0 := by rw [ht]; unfold tailE; rw [if_neg h1, if_neg h3]
                    refine (unr_2o vb c w hb hl hB u hu hu1 h62i hsd hni hn2i (by omega) (by omega)).mono fun e w' ⟨vy, h4, h5, h6⟩ => ⟨_, by rw [hu0]; exact h4, fun h => absurd hu0 h, fun _ => ⟨vy, ?_, ?_⟩, h6⟩
                    · unfold pkD
                      rw [hk]
                      rfl
                    · unfold boD
                      rw [hk]
                      exact h5
          · exact bad (s3 hs) (by decide) (unr_2a vb c w hb hl hB u hu hu1 h62i (decide_eq_false hs))
    · have hB : bgD c 1 2 = 103 := bg_k hE (by omega)
      have h := unr_A vb c w hb hl (by rw [hB]; decide)
      rw [hB] at h
      exact bad (by unfold unE; rw [if_pos hE, if_neg hk]) (by decide) h
  · have hB : bgD c 1 2 = begE c := bg_E hE
    have h := unr_A vb c w hb hl (by rw [hB]; exact hE)
    rw [hB] at h
    exact bad (by unfold unE; rw [if_neg hE]) hE h
/-- The document's Pack. -/
theorem packr_any (p : Pk) (kp : p.ok) (body : List UInt8) (w : World) (hy : Has w p.bv body) (hne : ¬ fltD p.k p.hl body.length = 0) : Calls Try.prog 39 #[p.v] w fun e w' => e = .returned (.tuple #[.slice none 0 0, .int .i64 (fltD p.k p.hl body.length)]) ∧ Below w.heap.size w w' := by
  by_cases hk1 : p.k = 1
  · rw [hk1] at hne ⊢
    by_cases hs : suitD 1 p.hl
    · by_cases hb : (body.length : Int) < 32
      · rw [flt_10 (.inl rfl) hs hb]; exact packr_1l p kp body w hy hk1 (decide_eq_true hs) hb
      · by_cases hb2 : (544 : Int) < (body.length : Int)
        · rw [flt_5 (.inl rfl) hs hb2]; exact packr_1h p kp body w hy hk1 (decide_eq_true hs) hb hb2
        · exact absurd (by unfold fltD; rw [if_pos (.inl rfl), if_pos hs, if_neg hb, if_neg hb2]) hne
    · rw [flt_141 (.inl rfl) hs]; exact packr_1s p kp body w hy hk1 (decide_eq_false hs)
  · by_cases hk2 : p.k = 2
    · rw [hk2] at hne ⊢
      by_cases hs : suitD 2 p.hl
      · by_cases hb : (body.length : Int) < 32
        · rw [flt_10 (.inr rfl) hs hb]; exact packr_2l p kp body w hy hk2 (decide_eq_true hs) hb
        · by_cases hb2 : (544 : Int) < (body.length : Int)
          · rw [flt_5 (.inr rfl) hs hb2]; exact packr_2h p kp body w hy hk2 (decide_eq_true hs) hb hb2
          · exact absurd (by unfold fltD; rw [if_pos (.inr rfl), if_pos hs, if_neg hb, if_neg hb2]) hne
      · rw [flt_141 (.inr rfl) hs]; exact packr_2s p kp body w hy hk2 (decide_eq_false hs)
    · rw [flt_103 (by omega)]; exact packr_k p kp body w hy hk1 hk2
theorem packr_ok (p : Pk) (k : Nat) (body : List UInt8) (w : World) (h : RtP w p k body) : Calls Try.prog 39 #[p.v] w fun e w' => ∃ v, e = .returned (.tuple #[v, .int .i64 0]) ∧ Ob w' w.heap.size v (packB k p.hl p.hd body) ∧ Below w.heap.size w w' := by
  obtain ⟨_, hs, hb1, hb2⟩ := flt_ok h.fl
  have hk := h.hk
  rcases h.k12 with rfl | rfl
  · exact packr_1o p h.ok body w h.hs hk (decide_eq_true hs) (by omega) (by omega)
  · exact packr_2o p h.ok body w h.hs hk (decide_eq_true hs) (by omega) (by omega)
theorem blkOf {W : World} {q5 B : Nat} {cs : List Value} {t : TypeId} (h : ∃ q, (Value.pointer (some ⟨q5, 0, none⟩)) = .pointer (some ⟨q, 0, none⟩) ∧ B ≤ q ∧ Blk W q cs t) : Blk W q5 cs t := by
  obtain ⟨q, hq, _, hb⟩ := h
  simp only [Value.pointer.injEq, Option.some.injEq, Addr.mk.injEq, and_true] at hq
  rw [hq]
  exact hb
section
variable {P : Program} {n : Nat} {ops : Array Oper} {S : Nat → World → Prop} {K : List (Nat × Value) → (World → Prop) → Prop} {i c lv : Nat} {ty : TypeId} {ps : String} {af : Array Edge} {gd : Option (Nat × Bool)} {r : List (Oper × Nat × Nat)} {e : List (Nat × Value)} {C : World → Prop}
theorem ZE.new {t : TypeId} (C' : Value → World → Prop) (hw : wantE ops e ⟨some i, .alloc t, ty, ps, af, gd⟩ = some true) (hi : decide (i < n) = true) (h1 : ∀ v w, C' v w → S lv w) (hr : ∀ w, C w → ∃ v w', (Instr.alloc t true (.tuple #[])).run P w = .ok v w' ∧ C' v w') (k : ∀ v, (∃ w, C' v w) → wpZE P n ops S K r ((i, v) :: e) (C' v)) : wpZE P n ops S K ((⟨some i, .alloc t, ty, ps, af, gd⟩, 1, lv) :: r) e C :=
  ZE.eff C' hw hi h1 (fun W hW => by
    obtain ⟨v, w', h2, h3⟩ := hr W hW
    exact ⟨v, w', fun a ha => by simp [execOp, h2, Result.andThen], h3⟩) k
end
set_option maxRecDepth 100000 in
set_option maxHeartbeats 4000000 in
theorem ror_A (vb : Value) (c : List UInt8) (w : World) (hb : Has w vb c) (hl : c.length ≤ 140737488355328) (hB : ¬ bgD c 3 3 = 0) : Calls Try.prog 42 #[vb] w fun e w' => e = .returned (.tuple #[Of.z.v, .int .i64 (bgD c 3 3)]) ∧ Below w.heap.size w w' := by
  obtain ⟨w1, q1, r1, bp1, e1, hq1⟩ := new_any (t := 42) (cs := Of.z.cs) zv42 w
  have hs1 := e1.size
  refine calls_of_args [vb] Try.func42 rfl 46 Try.ntmps42 (by show 1 ≤ 46; decide) ?_
  refine EW.seq ?_
  refine EW.region ?_
  refine WL.new rfl rfl r1 ?_
  first | refine WL.assign rfl rfl rfl ?_
  refine WL.done ?_
  refine EW.on ?_
  refine EW.seq ?_
  refine EW.region ?_
  first | refine WL.move rfl rfl rfl ?_
  refine WL.call [vb, .int .i64 3, .int .i64 3] enter58 rfl rfl rfl (begun_any vb c 3 3 _ (hb.below e1)) ?_
  rintro _ wz ⟨rfl, hz⟩
  rw [hz]
  clear hz
  refine ⟨_, rfl, ?_⟩
  first | refine WL.assign rfl rfl rfl ?_
  refine WL.done ?_
  refine EW.on ?_
  refine EW.seq ?_
  refine EW.block ?_
  refine EW.seq ?_
  refine EW.region ?_
  first | refine WL.move rfl rfl rfl ?_
  first | refine WL.bin rfl rfl rfl rfl (int_ne_f rfl _ _ _) ?_ | refine WL.bin rfl rfl rfl rfl (int_ne_t ‹_› _ _ _) ?_ | refine WL.bin rfl rfl rfl rfl (int_ne_f ‹_› _ _ _) ?_ | refine WL.bin rfl rfl rfl rfl (int_ne_t (by decide) _ _ _) ?_ | refine WL.bin rfl rfl rfl rfl (int_ne_d _ _ _ _ _) ?_
  first | refine WL.assign rfl rfl rfl ?_
  refine WL.done ?_
  refine EW.on ?_
  refine EW.cond_t rfl ?_
  refine EW.seq ?_
  refine EW.region ?_
  refine WL.buildN [] rfl rfl rfl (bd42 _) ?_
  first | refine WL.move rfl rfl rfl ?_
  obtain ⟨we, se, bpe, fe⟩ := stOf bp1 Of.z_ok Of.z Of.z_ok
  refine WL.store rfl rfl rfl se ?_
  have sbe := e1.trans (fe.low (by omega) e1.size)
  first | refine WL.assign rfl rfl rfl ?_
  refine WL.done ?_
  refine EW.on ?_
  refine EW.ret ?_
  refine pr_block ?_
  refine pr_then ?_
  exact EW.returnsCT Try.results42 rfl rfl bpe Try.underlying42 rfl (i42 Of.z_ok) ⟨rfl, sbe⟩
set_option maxRecDepth 100000 in
set_option maxHeartbeats 4000000 in
theorem ror_S (vb : Value) (c : List UInt8) (w : World) (hb : Has w vb c) (hl : c.length ≤ 140737488355328) (hB : bgD c 3 3 = 0) (h70 : (c.length : Int) < 70) : Calls Try.prog 42 #[vb] w fun e w' => e = .returned (.tuple #[Of.z.v, .int .i64 (10)]) ∧ Below w.heap.size w w' := by
  obtain ⟨w1, q1, r1, bp1, e1, hq1⟩ := new_any (t := 42) (cs := Of.z.cs) zv42 w
  have hs1 := e1.size
  refine calls_of_args [vb] Try.func42 rfl 46 Try.ntmps42 (by show 1 ≤ 46; decide) ?_
  refine EW.seq ?_
  refine EW.region ?_
  refine WL.new rfl rfl r1 ?_
  first | refine WL.assign rfl rfl rfl ?_
  refine WL.done ?_
  refine EW.on ?_
  refine EW.seq ?_
  refine EW.region ?_
  first | refine WL.move rfl rfl rfl ?_
  refine WL.call [vb, .int .i64 3, .int .i64 3] enter58 rfl rfl rfl (begun_any vb c 3 3 _ (hb.below e1)) ?_
  rintro _ wz ⟨rfl, hz⟩
  rw [hz]
  clear hz
  rw [hB]
  refine ⟨_, rfl, ?_⟩
  first | refine WL.assign rfl rfl rfl ?_
  refine WL.done ?_
  refine EW.on ?_
  refine EW.seq ?_
  refine EW.block ?_
  refine EW.seq ?_
  refine EW.region ?_
  first | refine WL.move rfl rfl rfl ?_
  first | refine WL.bin rfl rfl rfl rfl (int_ne_f rfl _ _ _) ?_ | refine WL.bin rfl rfl rfl rfl (int_ne_t ‹_› _ _ _) ?_ | refine WL.bin rfl rfl rfl rfl (int_ne_f ‹_› _ _ _) ?_ | refine WL.bin rfl rfl rfl rfl (int_ne_t (by decide) _ _ _) ?_ | refine WL.bin rfl rfl rfl rfl (int_ne_d _ _ _ _ _) ?_
  first | refine WL.assign rfl rfl rfl ?_
  refine WL.done ?_
  refine EW.on ?_
  refine EW.cond_f rfl ?_
  refine EW.seq ?_
  refine EW.region ?_
  first | refine WL.move rfl rfl rfl ?_
  refine WL.len rfl rfl rfl (hb.len _ _) ?_
  first | refine WL.bin rfl rfl rfl rfl (int_lt_t ‹_› _ _ _) ?_ | refine WL.bin rfl rfl rfl rfl (int_lt_f ‹_› _ _ _) ?_ | refine WL.bin rfl rfl rfl rfl (int_lt_d _ _ _ _ _) ?_
  first | refine WL.assign rfl rfl rfl ?_
  refine WL.done ?_
  refine EW.on ?_
  refine EW.cond_t rfl ?_
  refine EW.seq ?_
  refine EW.region ?_
  refine WL.buildN [] rfl rfl rfl (bd42 _) ?_
  obtain ⟨we, se, bpe, fe⟩ := stOf bp1 Of.z_ok Of.z Of.z_ok
  refine WL.store rfl rfl rfl se ?_
  have sbe := e1.trans (fe.low (by omega) e1.size)
  first | refine WL.assign rfl rfl rfl ?_
  refine WL.done ?_
  refine EW.on ?_
  refine EW.ret ?_
  refine pr_block ?_
  refine pr_then ?_
  exact EW.returnsCT Try.results42 rfl rfl bpe Try.underlying42 rfl (i42 Of.z_ok) ⟨rfl, sbe⟩
set_option maxRecDepth 100000 in
set_option maxHeartbeats 4000000 in
theorem ror_L (vb : Value) (c : List UInt8) (w : World) (hb : Has w vb c) (hl : c.length ≤ 140737488355328) (hB : bgD c 3 3 = 0) (h70 : ¬ (c.length : Int) < 70) (h71 : (70 : Int) < (c.length : Int)) : Calls Try.prog 42 #[vb] w fun e w' => e = .returned (.tuple #[Of.z.v, .int .i64 (11)]) ∧ Below w.heap.size w w' := by
  obtain ⟨w1, q1, r1, bp1, e1, hq1⟩ := new_any (t := 42) (cs := Of.z.cs) zv42 w
  have hs1 := e1.size
  refine calls_of_args [vb] Try.func42 rfl 46 Try.ntmps42 (by show 1 ≤ 46; decide) ?_
  refine EW.seq ?_
  refine EW.region ?_
  refine WL.new rfl rfl r1 ?_
  first | refine WL.assign rfl rfl rfl ?_
  refine WL.done ?_
  refine EW.on ?_
  refine EW.seq ?_
  refine EW.region ?_
  first | refine WL.move rfl rfl rfl ?_
  refine WL.call [vb, .int .i64 3, .int .i64 3] enter58 rfl rfl rfl (begun_any vb c 3 3 _ (hb.below e1)) ?_
  rintro _ wz ⟨rfl, hz⟩
  rw [hz]
  clear hz
  rw [hB]
  refine ⟨_, rfl, ?_⟩
  first | refine WL.assign rfl rfl rfl ?_
  refine WL.done ?_
  refine EW.on ?_
  refine EW.seq ?_
  refine EW.block ?_
  refine EW.seq ?_
  refine EW.region ?_
  first | refine WL.move rfl rfl rfl ?_
  first | refine WL.bin rfl rfl rfl rfl (int_ne_f rfl _ _ _) ?_ | refine WL.bin rfl rfl rfl rfl (int_ne_t ‹_› _ _ _) ?_ | refine WL.bin rfl rfl rfl rfl (int_ne_f ‹_› _ _ _) ?_ | refine WL.bin rfl rfl rfl rfl (int_ne_t (by decide) _ _ _) ?_ | refine WL.bin rfl rfl rfl rfl (int_ne_d _ _ _ _ _) ?_
  first | refine WL.assign rfl rfl rfl ?_
  refine WL.done ?_
  refine EW.on ?_
  refine EW.cond_f rfl ?_
  refine EW.seq ?_
  refine EW.region ?_
  first | refine WL.move rfl rfl rfl ?_
  refine WL.len rfl rfl rfl (hb.len _ _) ?_
  first | refine WL.bin rfl rfl rfl rfl (int_lt_t ‹_› _ _ _) ?_ | refine WL.bin rfl rfl rfl rfl (int_lt_f ‹_› _ _ _) ?_ | refine WL.bin rfl rfl rfl rfl (int_lt_d _ _ _ _ _) ?_
  first | refine WL.assign rfl rfl rfl ?_
  refine WL.done ?_
  refine EW.on ?_
  refine EW.cond_f rfl ?_
  refine EW.seq ?_
  refine EW.region ?_
  first | refine WL.move rfl rfl rfl ?_
  refine WL.len rfl rfl rfl (hb.len _ _) ?_
  first | refine WL.bin rfl rfl rfl rfl (int_gt_t ‹_› _ _ _) ?_ | refine WL.bin rfl rfl rfl rfl (int_gt_f ‹_› _ _ _) ?_ | refine WL.bin rfl rfl rfl rfl (int_gt_d _ _ _ _ _) ?_
  first | refine WL.assign rfl rfl rfl ?_
  refine WL.done ?_
  refine EW.on ?_
  refine EW.cond_t rfl ?_
  refine EW.seq ?_
  refine EW.region ?_
  refine WL.buildN [] rfl rfl rfl (bd42 _) ?_
  obtain ⟨we, se, bpe, fe⟩ := stOf bp1 Of.z_ok Of.z Of.z_ok
  refine WL.store rfl rfl rfl se ?_
  have sbe := e1.trans (fe.low (by omega) e1.size)
  first | refine WL.assign rfl rfl rfl ?_
  refine WL.done ?_
  refine EW.on ?_
  refine EW.ret ?_
  refine pr_block ?_
  refine pr_then ?_
  exact EW.returnsCT Try.results42 rfl rfl bpe Try.underlying42 rfl (i42 Of.z_ok) ⟨rfl, sbe⟩
set_option maxRecDepth 100000 in
set_option maxHeartbeats 4000000 in
theorem ror_z1 (vb : Value) (c : List UInt8) (w : World) (hb : Has w vb c) (hl : c.length ≤ 140737488355328) (hB : bgD c 3 3 = 0) (h70 : ¬ (c.length : Int) < 70) (h71 : ¬ (70 : Int) < (c.length : Int)) (di : decide ((ofD c).id = z32) = true) : Calls Try.prog 42 #[vb] w fun e w' => e = .returned (.tuple #[Of.z.v, .int .i64 (170)]) ∧ Below w.heap.size w w' := by
  obtain ⟨w1, q1, r1, bp1, e1, hq1⟩ := new_any (t := 42) (cs := Of.z.cs) zv42 w
  have hs1 := e1.size
  have odk : (ofD c).ok := ⟨cutB_len (by omega), numc_lt, cutB_len (by omega)⟩
  refine calls_of_args [vb] Try.func42 rfl 46 Try.ntmps42 (by show 1 ≤ 46; decide) ?_
  refine EW.seq ?_
  refine EW.region ?_
  refine WL.new rfl rfl r1 ?_
  first | refine WL.assign rfl rfl rfl ?_
  refine WL.done ?_
  refine EW.on ?_
  refine EW.seq ?_
  refine EW.region ?_
  first | refine WL.move rfl rfl rfl ?_
  refine WL.call [vb, .int .i64 3, .int .i64 3] enter58 rfl rfl rfl (begun_any vb c 3 3 _ (hb.below e1)) ?_
  rintro _ wz ⟨rfl, hz⟩
  rw [hz]
  clear hz
  rw [hB]
  refine ⟨_, rfl, ?_⟩
  first | refine WL.assign rfl rfl rfl ?_
  refine WL.done ?_
  refine EW.on ?_
  refine EW.seq ?_
  refine EW.block ?_
  refine EW.seq ?_
  refine EW.region ?_
  first | refine WL.move rfl rfl rfl ?_
  first | refine WL.bin rfl rfl rfl rfl (int_ne_f rfl _ _ _) ?_ | refine WL.bin rfl rfl rfl rfl (int_ne_t ‹_› _ _ _) ?_ | refine WL.bin rfl rfl rfl rfl (int_ne_f ‹_› _ _ _) ?_ | refine WL.bin rfl rfl rfl rfl (int_ne_t (by decide) _ _ _) ?_ | refine WL.bin rfl rfl rfl rfl (int_ne_d _ _ _ _ _) ?_
  first | refine WL.assign rfl rfl rfl ?_
  refine WL.done ?_
  refine EW.on ?_
  refine EW.cond_f rfl ?_
  refine EW.seq ?_
  refine EW.region ?_
  first | refine WL.move rfl rfl rfl ?_
  refine WL.len rfl rfl rfl (hb.len _ _) ?_
  first | refine WL.bin rfl rfl rfl rfl (int_lt_t ‹_› _ _ _) ?_ | refine WL.bin rfl rfl rfl rfl (int_lt_f ‹_› _ _ _) ?_ | refine WL.bin rfl rfl rfl rfl (int_lt_d _ _ _ _ _) ?_
  first | refine WL.assign rfl rfl rfl ?_
  refine WL.done ?_
  refine EW.on ?_
  refine EW.cond_f rfl ?_
  refine EW.seq ?_
  refine EW.region ?_
  first | refine WL.move rfl rfl rfl ?_
  refine WL.len rfl rfl rfl (hb.len _ _) ?_
  first | refine WL.bin rfl rfl rfl rfl (int_gt_t ‹_› _ _ _) ?_ | refine WL.bin rfl rfl rfl rfl (int_gt_f ‹_› _ _ _) ?_ | refine WL.bin rfl rfl rfl rfl (int_gt_d _ _ _ _ _) ?_
  first | refine WL.assign rfl rfl rfl ?_
  refine WL.done ?_
  refine EW.on ?_
  refine EW.cond_f rfl ?_
  refine EW.skip ?_
  refine pn_block ?_
  refine EW.on ?_
  refine EW.seq ?_
  refine EW.az (SQ (fun W => Below w1.heap.size w1 W)) (levZ [(1, 1, 1), (4, 1, 1), (6, 1, 1), (8, 1, 1), (9, 1, 0)]) (fun W => Below w1.heap.size w1 W) 10 (by kernel_rfl) rfl (below_drawn w1) ?_
  refine AZ.seg [(0, 0, 0), (2, 0, 0), (3, 0, 0), (5, 0, 0)] 6 rfl (by kernel_rfl) (sq_anti _) (by kernel_rfl) ?_
  simp only [opsZ, List.getD_cons_zero, List.getD_cons_succ]
  refine ZE.move rfl rfl rfl rfl sq0 ?_
  refine ZE.move rfl rfl rfl rfl sq0 ?_
  refine ZE.slice2 rfl rfl rfl rfl rfl rfl sq0 (fun W => by rw [sl22]; exact hb.cutLH 34 38 (by decide) (by omega) W) ?_
  refine ZE.move rfl rfl rfl rfl sq0 ?_
  refine AZ.two 5 1 1 8 1 rfl (by kernel_rfl) ?_ ?_
  · simp only [List.getD_cons_zero, List.getD_cons_succ]
    refine ZE.callV [vb, .int .i64 2] (kv (cutB c 2 32)) (fun W => Below w1.heap.size w1 W) enter59 rfl rfl rfl (fun _ h => .inr h) (fun W hW => (keyr_any vb c 2 W ((hb.below e1).below hW) (by omega) hl).mono fun e w' ⟨h1, h2⟩ => ⟨h1, hW.trans (h2.mono hW.size)⟩) ?_
    refine AZ.two 4 4 1 8 1 rfl (by kernel_rfl) ?_ ?_
    · simp only [List.getD_cons_zero, List.getD_cons_succ]
      refine ZE.callV [cutV vb 34 38] (u32v (numB (cutB c 34 4))) (fun W => Below w1.heap.size w1 W) enter60 rfl rfl rfl (fun _ h => .inr h) (fun W hW => (value_any _ (cutB c 34 4) W (((hb.below e1).below hW).cut 34 38 (by decide) (by omega)) (by rw [cutB_len (by omega)]; exact Nat.le_refl _)).mono fun e w' ⟨h1, h2⟩ => ⟨h1, by rw [h2]; exact hW⟩) ?_
      refine AZ.two 3 6 1 8 1 rfl (by kernel_rfl) ?_ ?_
      · simp only [List.getD_cons_zero, List.getD_cons_succ]
        refine ZE.callV [vb, .int .i64 38] (kv (cutB c 38 32)) (fun W => Below w1.heap.size w1 W) enter59 rfl rfl rfl (fun _ h => .inr h) (fun W hW => (keyr_any vb c 38 W ((hb.below e1).below hW) (by omega) hl).mono fun e w' ⟨h1, h2⟩ => ⟨h1, hW.trans (h2.mono hW.size)⟩) ?_
        refine AZ.seg [(7, 0, 0), (8, 1, 1), (9, 1, 0)] 0 rfl (by kernel_rfl) (sq_anti _) (by kernel_rfl) ?_
        simp only [opsZ, List.getD_cons_zero, List.getD_cons_succ]
        refine ZE.buildN [(0, kv (cutB c 2 32)), (1, u32v (numB (cutB c 34 4))), (2, kv (cutB c 38 32))] rfl rfl rfl rfl sq0 (fun W => bdOf (cutB_len (by omega)) (cutB_len (by omega)) W) ?_
        refine ZE.new (fun v W => (∃ q, v = .pointer (some ⟨q, 0, none⟩) ∧ w1.heap.size ≤ q ∧ Blk W q Of.z.cs 42) ∧ Below w1.heap.size w1 W) rfl rfl (fun _ _ h => .inr h.2) (fun W hW => by
          obtain ⟨w', q, a1, a2, a3, a4⟩ := new_any (t := 42) (cs := Of.z.cs) zv42 W
          exact ⟨_, w', a1, ⟨q, rfl, by have := hW.size; omega, a2⟩, hW.trans (a3.mono hW.size)⟩) ?_
        rintro va ⟨_, ⟨q5, hva, hq5, _⟩, _⟩
        subst hva
        refine ZE.store (fun W => Blk W q5 (ofD c).cs 42 ∧ Blk W q1 Of.z.cs 42 ∧ Below w.heap.size w W) rfl rfl rfl (fun _ _ => .inl rfl) (fun W hW => by
          obtain ⟨w', a1, a2, a3⟩ := stOf (blkOf hW.1) Of.z_ok (ofD c) odk
          exact ⟨w', a1, a2, (bp1.on hW.2).fx a3 (fun e => by have := bp1.lt; omega), (e1.trans (hW.2.mono e1.size)).trans (a3.low (by have := e1.size; omega) (by have := hW.2.size; have := e1.size; omega))⟩) ?_
        refine AZ.done (by kernel_rfl) ?_
        rintro w5 ⟨bd5, bp5, sb5⟩
        refine EW.on ?_
        refine EW.seq ?_
        refine EW.seq ?_
        refine EW.region ?_
        first | refine WL.field rfl rfl rfl (f42_0 q5 0 _) ?_ | refine WL.skip _ rfl rfl rfl ?_
        first | refine WL.load rfl rfl rfl (ldOfI bd5 odk) ?_ | refine WL.skip _ rfl rfl rfl ?_
        refine WL.call [kv (ofD c).id] enter62 rfl rfl rfl (zero_any _ odk.i _) ?_
        rintro _ w6 ⟨rfl, be6⟩
        rw [di]
        have bd6 := bd5.on be6
        have bp6 := bp5.on be6
        have sb6 := sb5.trans (be6.mono sb5.size)
        refine ⟨_, rfl, ?_⟩
        first | refine WL.move rfl rfl rfl ?_
        first | refine WL.field rfl rfl rfl (f42_2 q5 0 _) ?_ | refine WL.skip _ rfl rfl rfl ?_
        first | refine WL.load rfl rfl rfl (ldOfK bd6 odk) ?_ | refine WL.skip _ rfl rfl rfl ?_
        refine WL.skip _ rfl rfl rfl ?_
        first | refine WL.pick rfl rfl rfl rfl ?_
        first | refine WL.move rfl rfl rfl ?_
        first | refine WL.field rfl rfl rfl (f42_1 q5 0 _) ?_ | refine WL.skip _ rfl rfl rfl ?_
        first | refine WL.load rfl rfl rfl (ldOfP bd6 odk) ?_ | refine WL.skip _ rfl rfl rfl ?_
        first | refine WL.bin rfl rfl rfl rfl (eqlU _ 0 _ _ _) ?_ | refine WL.skip _ rfl rfl rfl ?_
        try rw [dp]
        first | refine WL.pick rfl rfl rfl rfl ?_
        refine WL.done ?_
        refine EW.on ?_
        refine EW.cond_t rfl ?_
        refine EW.seq ?_
        refine EW.region ?_
        refine WL.buildN [] rfl rfl rfl (bd42 _) ?_
        obtain ⟨we, se, bpe, fe⟩ := stOf bp6 Of.z_ok Of.z Of.z_ok
        refine WL.store rfl rfl rfl se ?_
        have sbe := sb6.trans (fe.low (by omega) sb6.size)
        first | refine WL.assign rfl rfl rfl ?_
        refine WL.done ?_
        refine EW.on ?_
        refine EW.ret ?_
        refine pr_then ?_
        exact EW.returnsCT Try.results42 rfl rfl bpe Try.underlying42 rfl (i42 Of.z_ok) ⟨rfl, sbe⟩
      · simp only [List.getD_cons_zero, List.getD_cons_succ]
        refine ZE.new (fun v W => (∃ q, v = .pointer (some ⟨q, 0, none⟩) ∧ w1.heap.size ≤ q ∧ Blk W q Of.z.cs 42) ∧ Below w1.heap.size w1 W) rfl rfl (fun _ _ h => .inr h.2) (fun W hW => by
          obtain ⟨w', q, a1, a2, a3, a4⟩ := new_any (t := 42) (cs := Of.z.cs) zv42 W
          exact ⟨_, w', a1, ⟨q, rfl, by have := hW.size; omega, a2⟩, hW.trans (a3.mono hW.size)⟩) ?_
        rintro va ⟨_, ⟨q5, hva, hq5, _⟩, _⟩
        subst hva
        refine AZ.seg [(6, 1, 1), (7, 0, 0), (9, 1, 0)] 0 rfl (by kernel_rfl) (sq_anti _) (by kernel_rfl) ?_
        simp only [opsZ, List.getD_cons_zero, List.getD_cons_succ]
        refine ZE.callV [vb, .int .i64 38] (kv (cutB c 38 32)) (fun W => Blk W q5 Of.z.cs 42 ∧ Below w1.heap.size w1 W) enter59 rfl rfl rfl (fun _ h => .inr h.2) (fun W hW => (keyr_any vb c 38 W ((hb.below e1).below hW.2) (by omega) hl).mono fun e w' ⟨h1, h2⟩ => ⟨h1, (blkOf hW.1).on h2, hW.2.trans (h2.mono hW.2.size)⟩) ?_
        refine ZE.buildN [(0, kv (cutB c 2 32)), (1, u32v (numB (cutB c 34 4))), (2, kv (cutB c 38 32))] rfl rfl rfl rfl sq0 (fun W => bdOf (cutB_len (by omega)) (cutB_len (by omega)) W) ?_
        refine ZE.store (fun W => Blk W q5 (ofD c).cs 42 ∧ Blk W q1 Of.z.cs 42 ∧ Below w.heap.size w W) rfl rfl rfl (fun _ _ => .inl rfl) (fun W hW => by
          obtain ⟨w', a1, a2, a3⟩ := stOf hW.1 Of.z_ok (ofD c) odk
          exact ⟨w', a1, a2, (bp1.on hW.2).fx a3 (fun e => by have := bp1.lt; omega), (e1.trans (hW.2.mono e1.size)).trans (a3.low (by have := e1.size; omega) (by have := hW.2.size; have := e1.size; omega))⟩) ?_
        refine AZ.done (by kernel_rfl) ?_
        rintro w5 ⟨bd5, bp5, sb5⟩
        refine EW.on ?_
        refine EW.seq ?_
        refine EW.seq ?_
        refine EW.region ?_
        first | refine WL.field rfl rfl rfl (f42_0 q5 0 _) ?_ | refine WL.skip _ rfl rfl rfl ?_
        first | refine WL.load rfl rfl rfl (ldOfI bd5 odk) ?_ | refine WL.skip _ rfl rfl rfl ?_
        refine WL.call [kv (ofD c).id] enter62 rfl rfl rfl (zero_any _ odk.i _) ?_
        rintro _ w6 ⟨rfl, be6⟩
        rw [di]
        have bd6 := bd5.on be6
        have bp6 := bp5.on be6
        have sb6 := sb5.trans (be6.mono sb5.size)
        refine ⟨_, rfl, ?_⟩
        first | refine WL.move rfl rfl rfl ?_
        first | refine WL.field rfl rfl rfl (f42_2 q5 0 _) ?_ | refine WL.skip _ rfl rfl rfl ?_
        first | refine WL.load rfl rfl rfl (ldOfK bd6 odk) ?_ | refine WL.skip _ rfl rfl rfl ?_
        refine WL.skip _ rfl rfl rfl ?_
        first | refine WL.pick rfl rfl rfl rfl ?_
        first | refine WL.move rfl rfl rfl ?_
        first | refine WL.field rfl rfl rfl (f42_1 q5 0 _) ?_ | refine WL.skip _ rfl rfl rfl ?_
        first | refine WL.load rfl rfl rfl (ldOfP bd6 odk) ?_ | refine WL.skip _ rfl rfl rfl ?_
        first | refine WL.bin rfl rfl rfl rfl (eqlU _ 0 _ _ _) ?_ | refine WL.skip _ rfl rfl rfl ?_
        try rw [dp]
        first | refine WL.pick rfl rfl rfl rfl ?_
        refine WL.done ?_
        refine EW.on ?_
        refine EW.cond_t rfl ?_
        refine EW.seq ?_
        refine EW.region ?_
        refine WL.buildN [] rfl rfl rfl (bd42 _) ?_
        obtain ⟨we, se, bpe, fe⟩ := stOf bp6 Of.z_ok Of.z Of.z_ok
        refine WL.store rfl rfl rfl se ?_
        have sbe := sb6.trans (fe.low (by omega) sb6.size)
        first | refine WL.assign rfl rfl rfl ?_
        refine WL.done ?_
        refine EW.on ?_
        refine EW.ret ?_
        refine pr_then ?_
        exact EW.returnsCT Try.results42 rfl rfl bpe Try.underlying42 rfl (i42 Of.z_ok) ⟨rfl, sbe⟩
    · simp only [List.getD_cons_zero, List.getD_cons_succ]
      refine ZE.new (fun v W => (∃ q, v = .pointer (some ⟨q, 0, none⟩) ∧ w1.heap.size ≤ q ∧ Blk W q Of.z.cs 42) ∧ Below w1.heap.size w1 W) rfl rfl (fun _ _ h => .inr h.2) (fun W hW => by
        obtain ⟨w', q, a1, a2, a3, a4⟩ := new_any (t := 42) (cs := Of.z.cs) zv42 W
        exact ⟨_, w', a1, ⟨q, rfl, by have := hW.size; omega, a2⟩, hW.trans (a3.mono hW.size)⟩) ?_
      rintro va ⟨_, ⟨q5, hva, hq5, _⟩, _⟩
      subst hva
      refine AZ.seg [(4, 1, 1), (6, 1, 1), (7, 0, 0), (9, 1, 0)] 0 rfl (by kernel_rfl) (sq_anti _) (by kernel_rfl) ?_
      simp only [opsZ, List.getD_cons_zero, List.getD_cons_succ]
      refine ZE.callV [cutV vb 34 38] (u32v (numB (cutB c 34 4))) (fun W => Blk W q5 Of.z.cs 42 ∧ Below w1.heap.size w1 W) enter60 rfl rfl rfl (fun _ h => .inr h.2) (fun W hW => (value_any _ (cutB c 34 4) W (((hb.below e1).below hW.2).cut 34 38 (by decide) (by omega)) (by rw [cutB_len (by omega)]; exact Nat.le_refl _)).mono fun e w' ⟨h1, h2⟩ => ⟨h1, by rw [h2]; exact ⟨(blkOf hW.1), hW.2⟩⟩) ?_
      refine ZE.callV [vb, .int .i64 38] (kv (cutB c 38 32)) (fun W => Blk W q5 Of.z.cs 42 ∧ Below w1.heap.size w1 W) enter59 rfl rfl rfl (fun _ h => .inr h.2) (fun W hW => (keyr_any vb c 38 W ((hb.below e1).below hW.2) (by omega) hl).mono fun e w' ⟨h1, h2⟩ => ⟨h1, hW.1.on h2, hW.2.trans (h2.mono hW.2.size)⟩) ?_
      refine ZE.buildN [(0, kv (cutB c 2 32)), (1, u32v (numB (cutB c 34 4))), (2, kv (cutB c 38 32))] rfl rfl rfl rfl sq0 (fun W => bdOf (cutB_len (by omega)) (cutB_len (by omega)) W) ?_
      refine ZE.store (fun W => Blk W q5 (ofD c).cs 42 ∧ Blk W q1 Of.z.cs 42 ∧ Below w.heap.size w W) rfl rfl rfl (fun _ _ => .inl rfl) (fun W hW => by
        obtain ⟨w', a1, a2, a3⟩ := stOf hW.1 Of.z_ok (ofD c) odk
        exact ⟨w', a1, a2, (bp1.on hW.2).fx a3 (fun e => by have := bp1.lt; omega), (e1.trans (hW.2.mono e1.size)).trans (a3.low (by have := e1.size; omega) (by have := hW.2.size; have := e1.size; omega))⟩) ?_
      refine AZ.done (by kernel_rfl) ?_
      rintro w5 ⟨bd5, bp5, sb5⟩
      refine EW.on ?_
      refine EW.seq ?_
      refine EW.seq ?_
      refine EW.region ?_
      first | refine WL.field rfl rfl rfl (f42_0 q5 0 _) ?_ | refine WL.skip _ rfl rfl rfl ?_
      first | refine WL.load rfl rfl rfl (ldOfI bd5 odk) ?_ | refine WL.skip _ rfl rfl rfl ?_
      refine WL.call [kv (ofD c).id] enter62 rfl rfl rfl (zero_any _ odk.i _) ?_
      rintro _ w6 ⟨rfl, be6⟩
      rw [di]
      have bd6 := bd5.on be6
      have bp6 := bp5.on be6
      have sb6 := sb5.trans (be6.mono sb5.size)
      refine ⟨_, rfl, ?_⟩
      first | refine WL.move rfl rfl rfl ?_
      first | refine WL.field rfl rfl rfl (f42_2 q5 0 _) ?_ | refine WL.skip _ rfl rfl rfl ?_
      first | refine WL.load rfl rfl rfl (ldOfK bd6 odk) ?_ | refine WL.skip _ rfl rfl rfl ?_
      refine WL.skip _ rfl rfl rfl ?_
      first | refine WL.pick rfl rfl rfl rfl ?_
      first | refine WL.move rfl rfl rfl ?_
      first | refine WL.field rfl rfl rfl (f42_1 q5 0 _) ?_ | refine WL.skip _ rfl rfl rfl ?_
      first | refine WL.load rfl rfl rfl (ldOfP bd6 odk) ?_ | refine WL.skip _ rfl rfl rfl ?_
      first | refine WL.bin rfl rfl rfl rfl (eqlU _ 0 _ _ _) ?_ | refine WL.skip _ rfl rfl rfl ?_
      try rw [dp]
      first | refine WL.pick rfl rfl rfl rfl ?_
      refine WL.done ?_
      refine EW.on ?_
      refine EW.cond_t rfl ?_
      refine EW.seq ?_
      refine EW.region ?_
      refine WL.buildN [] rfl rfl rfl (bd42 _) ?_
      obtain ⟨we, se, bpe, fe⟩ := stOf bp6 Of.z_ok Of.z Of.z_ok
      refine WL.store rfl rfl rfl se ?_
      have sbe := sb6.trans (fe.low (by omega) sb6.size)
      first | refine WL.assign rfl rfl rfl ?_
      refine WL.done ?_
      refine EW.on ?_
      refine EW.ret ?_
      refine pr_then ?_
      exact EW.returnsCT Try.results42 rfl rfl bpe Try.underlying42 rfl (i42 Of.z_ok) ⟨rfl, sbe⟩
  · simp only [List.getD_cons_zero, List.getD_cons_succ]
    refine ZE.new (fun v W => (∃ q, v = .pointer (some ⟨q, 0, none⟩) ∧ w1.heap.size ≤ q ∧ Blk W q Of.z.cs 42) ∧ Below w1.heap.size w1 W) rfl rfl (fun _ _ h => .inr h.2) (fun W hW => by
      obtain ⟨w', q, a1, a2, a3, a4⟩ := new_any (t := 42) (cs := Of.z.cs) zv42 W
      exact ⟨_, w', a1, ⟨q, rfl, by have := hW.size; omega, a2⟩, hW.trans (a3.mono hW.size)⟩) ?_
    rintro va ⟨_, ⟨q5, hva, hq5, _⟩, _⟩
    subst hva
    refine AZ.seg [(1, 1, 1), (4, 1, 1), (6, 1, 1), (7, 0, 0), (9, 1, 0)] 0 rfl (by kernel_rfl) (sq_anti _) (by kernel_rfl) ?_
    simp only [opsZ, List.getD_cons_zero, List.getD_cons_succ]
    refine ZE.callV [vb, .int .i64 2] (kv (cutB c 2 32)) (fun W => Blk W q5 Of.z.cs 42 ∧ Below w1.heap.size w1 W) enter59 rfl rfl rfl (fun _ h => .inr h.2) (fun W hW => (keyr_any vb c 2 W ((hb.below e1).below hW.2) (by omega) hl).mono fun e w' ⟨h1, h2⟩ => ⟨h1, (blkOf hW.1).on h2, hW.2.trans (h2.mono hW.2.size)⟩) ?_
    refine ZE.callV [cutV vb 34 38] (u32v (numB (cutB c 34 4))) (fun W => Blk W q5 Of.z.cs 42 ∧ Below w1.heap.size w1 W) enter60 rfl rfl rfl (fun _ h => .inr h.2) (fun W hW => (value_any _ (cutB c 34 4) W (((hb.below e1).below hW.2).cut 34 38 (by decide) (by omega)) (by rw [cutB_len (by omega)]; exact Nat.le_refl _)).mono fun e w' ⟨h1, h2⟩ => ⟨h1, by rw [h2]; exact ⟨hW.1, hW.2⟩⟩) ?_
    refine ZE.callV [vb, .int .i64 38] (kv (cutB c 38 32)) (fun W => Blk W q5 Of.z.cs 42 ∧ Below w1.heap.size w1 W) enter59 rfl rfl rfl (fun _ h => .inr h.2) (fun W hW => (keyr_any vb c 38 W ((hb.below e1).below hW.2) (by omega) hl).mono fun e w' ⟨h1, h2⟩ => ⟨h1, hW.1.on h2, hW.2.trans (h2.mono hW.2.size)⟩) ?_
    refine ZE.buildN [(0, kv (cutB c 2 32)), (1, u32v (numB (cutB c 34 4))), (2, kv (cutB c 38 32))] rfl rfl rfl rfl sq0 (fun W => bdOf (cutB_len (by omega)) (cutB_len (by omega)) W) ?_
    refine ZE.store (fun W => Blk W q5 (ofD c).cs 42 ∧ Blk W q1 Of.z.cs 42 ∧ Below w.heap.size w W) rfl rfl rfl (fun _ _ => .inl rfl) (fun W hW => by
      obtain ⟨w', a1, a2, a3⟩ := stOf hW.1 Of.z_ok (ofD c) odk
      exact ⟨w', a1, a2, (bp1.on hW.2).fx a3 (fun e => by have := bp1.lt; omega), (e1.trans (hW.2.mono e1.size)).trans (a3.low (by have := e1.size; omega) (by have := hW.2.size; have := e1.size; omega))⟩) ?_
    refine AZ.done (by kernel_rfl) ?_
    rintro w5 ⟨bd5, bp5, sb5⟩
    refine EW.on ?_
    refine EW.seq ?_
    refine EW.seq ?_
    refine EW.region ?_
    first | refine WL.field rfl rfl rfl (f42_0 q5 0 _) ?_ | refine WL.skip _ rfl rfl rfl ?_
    first | refine WL.load rfl rfl rfl (ldOfI bd5 odk) ?_ | refine WL.skip _ rfl rfl rfl ?_
    refine WL.call [kv (ofD c).id] enter62 rfl rfl rfl (zero_any _ odk.i _) ?_
    rintro _ w6 ⟨rfl, be6⟩
    rw [di]
    have bd6 := bd5.on be6
    have bp6 := bp5.on be6
    have sb6 := sb5.trans (be6.mono sb5.size)
    refine ⟨_, rfl, ?_⟩
    first | refine WL.move rfl rfl rfl ?_
    first | refine WL.field rfl rfl rfl (f42_2 q5 0 _) ?_ | refine WL.skip _ rfl rfl rfl ?_
    first | refine WL.load rfl rfl rfl (ldOfK bd6 odk) ?_ | refine WL.skip _ rfl rfl rfl ?_
    refine WL.skip _ rfl rfl rfl ?_
    first | refine WL.pick rfl rfl rfl rfl ?_
    first | refine WL.move rfl rfl rfl ?_
    first | refine WL.field rfl rfl rfl (f42_1 q5 0 _) ?_ | refine WL.skip _ rfl rfl rfl ?_
    first | refine WL.load rfl rfl rfl (ldOfP bd6 odk) ?_ | refine WL.skip _ rfl rfl rfl ?_
    first | refine WL.bin rfl rfl rfl rfl (eqlU _ 0 _ _ _) ?_ | refine WL.skip _ rfl rfl rfl ?_
    try rw [dp]
    first | refine WL.pick rfl rfl rfl rfl ?_
    refine WL.done ?_
    refine EW.on ?_
    refine EW.cond_t rfl ?_
    refine EW.seq ?_
    refine EW.region ?_
    refine WL.buildN [] rfl rfl rfl (bd42 _) ?_
    obtain ⟨we, se, bpe, fe⟩ := stOf bp6 Of.z_ok Of.z Of.z_ok
    refine WL.store rfl rfl rfl se ?_
    have sbe := sb6.trans (fe.low (by omega) sb6.size)
    first | refine WL.assign rfl rfl rfl ?_
    refine WL.done ?_
    refine EW.on ?_
    refine EW.ret ?_
    refine pr_then ?_
    exact EW.returnsCT Try.results42 rfl rfl bpe Try.underlying42 rfl (i42 Of.z_ok) ⟨rfl, sbe⟩
set_option maxRecDepth 100000 in
set_option maxHeartbeats 4000000 in
theorem ror_z2 (vb : Value) (c : List UInt8) (w : World) (hb : Has w vb c) (hl : c.length ≤ 140737488355328) (hB : bgD c 3 3 = 0) (h70 : ¬ (c.length : Int) < 70) (h71 : ¬ (70 : Int) < (c.length : Int)) (di : decide ((ofD c).id = z32) = false) (dk : decide ((ofD c).key = z32) = true) : Calls Try.prog 42 #[vb] w fun e w' => e = .returned (.tuple #[Of.z.v, .int .i64 (170)]) ∧ Below w.heap.size w w' := by
  obtain ⟨w1, q1, r1, bp1, e1, hq1⟩ := new_any (t := 42) (cs := Of.z.cs) zv42 w
  have hs1 := e1.size
  have odk : (ofD c).ok := ⟨cutB_len (by omega), numc_lt, cutB_len (by omega)⟩
  refine calls_of_args [vb] Try.func42 rfl 46 Try.ntmps42 (by show 1 ≤ 46; decide) ?_
  refine EW.seq ?_
  refine EW.region ?_
  refine WL.new rfl rfl r1 ?_
  first | refine WL.assign rfl rfl rfl ?_
  refine WL.done ?_
  refine EW.on ?_
  refine EW.seq ?_
  refine EW.region ?_
  first | refine WL.move rfl rfl rfl ?_
  refine WL.call [vb, .int .i64 3, .int .i64 3] enter58 rfl rfl rfl (begun_any vb c 3 3 _ (hb.below e1)) ?_
  rintro _ wz ⟨rfl, hz⟩
  rw [hz]
  clear hz
  rw [hB]
  refine ⟨_, rfl, ?_⟩
  first | refine WL.assign rfl rfl rfl ?_
  refine WL.done ?_
  refine EW.on ?_
  refine EW.seq ?_
  refine EW.block ?_
  refine EW.seq ?_
  refine EW.region ?_
  first | refine WL.move rfl rfl rfl ?_
  first | refine WL.bin rfl rfl rfl rfl (int_ne_f rfl _ _ _) ?_ | refine WL.bin rfl rfl rfl rfl (int_ne_t ‹_› _ _ _) ?_ | refine WL.bin rfl rfl rfl rfl (int_ne_f ‹_› _ _ _) ?_ | refine WL.bin rfl rfl rfl rfl (int_ne_t (by decide) _ _ _) ?_ | refine WL.bin rfl rfl rfl rfl (int_ne_d _ _ _ _ _) ?_
  first | refine WL.assign rfl rfl rfl ?_
  refine WL.done ?_
  refine EW.on ?_
  refine EW.cond_f rfl ?_
  refine EW.seq ?_
  refine EW.region ?_
  first | refine WL.move rfl rfl rfl ?_
  refine WL.len rfl rfl rfl (hb.len _ _) ?_
  first | refine WL.bin rfl rfl rfl rfl (int_lt_t ‹_› _ _ _) ?_ | refine WL.bin rfl rfl rfl rfl (int_lt_f ‹_› _ _ _) ?_ | refine WL.bin rfl rfl rfl rfl (int_lt_d _ _ _ _ _) ?_
  first | refine WL.assign rfl rfl rfl ?_
  refine WL.done ?_
  refine EW.on ?_
  refine EW.cond_f rfl ?_
  refine EW.seq ?_
  refine EW.region ?_
  first | refine WL.move rfl rfl rfl ?_
  refine WL.len rfl rfl rfl (hb.len _ _) ?_
  first | refine WL.bin rfl rfl rfl rfl (int_gt_t ‹_› _ _ _) ?_ | refine WL.bin rfl rfl rfl rfl (int_gt_f ‹_› _ _ _) ?_ | refine WL.bin rfl rfl rfl rfl (int_gt_d _ _ _ _ _) ?_
  first | refine WL.assign rfl rfl rfl ?_
  refine WL.done ?_
  refine EW.on ?_
  refine EW.cond_f rfl ?_
  refine EW.skip ?_
  refine pn_block ?_
  refine EW.on ?_
  refine EW.seq ?_
  refine EW.az (SQ (fun W => Below w1.heap.size w1 W)) (levZ [(1, 1, 1), (4, 1, 1), (6, 1, 1), (8, 1, 1), (9, 1, 0)]) (fun W => Below w1.heap.size w1 W) 10 (by kernel_rfl) rfl (below_drawn w1) ?_
  refine AZ.seg [(0, 0, 0), (2, 0, 0), (3, 0, 0), (5, 0, 0)] 6 rfl (by kernel_rfl) (sq_anti _) (by kernel_rfl) ?_
  simp only [opsZ, List.getD_cons_zero, List.getD_cons_succ]
  refine ZE.move rfl rfl rfl rfl sq0 ?_
  refine ZE.move rfl rfl rfl rfl sq0 ?_
  refine ZE.slice2 rfl rfl rfl rfl rfl rfl sq0 (fun W => by rw [sl22]; exact hb.cutLH 34 38 (by decide) (by omega) W) ?_
  refine ZE.move rfl rfl rfl rfl sq0 ?_
  refine AZ.two 5 1 1 8 1 rfl (by kernel_rfl) ?_ ?_
  · simp only [List.getD_cons_zero, List.getD_cons_succ]
    refine ZE.callV [vb, .int .i64 2] (kv (cutB c 2 32)) (fun W => Below w1.heap.size w1 W) enter59 rfl rfl rfl (fun _ h => .inr h) (fun W hW => (keyr_any vb c 2 W ((hb.below e1).below hW) (by omega) hl).mono fun e w' ⟨h1, h2⟩ => ⟨h1, hW.trans (h2.mono hW.size)⟩) ?_
    refine AZ.two 4 4 1 8 1 rfl (by kernel_rfl) ?_ ?_
    · simp only [List.getD_cons_zero, List.getD_cons_succ]
      refine ZE.callV [cutV vb 34 38] (u32v (numB (cutB c 34 4))) (fun W => Below w1.heap.size w1 W) enter60 rfl rfl rfl (fun _ h => .inr h) (fun W hW => (value_any _ (cutB c 34 4) W (((hb.below e1).below hW).cut 34 38 (by decide) (by omega)) (by rw [cutB_len (by omega)]; exact Nat.le_refl _)).mono fun e w' ⟨h1, h2⟩ => ⟨h1, by rw [h2]; exact hW⟩) ?_
      refine AZ.two 3 6 1 8 1 rfl (by kernel_rfl) ?_ ?_
      · simp only [List.getD_cons_zero, List.getD_cons_succ]
        refine ZE.callV [vb, .int .i64 38] (kv (cutB c 38 32)) (fun W => Below w1.heap.size w1 W) enter59 rfl rfl rfl (fun _ h => .inr h) (fun W hW => (keyr_any vb c 38 W ((hb.below e1).below hW) (by omega) hl).mono fun e w' ⟨h1, h2⟩ => ⟨h1, hW.trans (h2.mono hW.size)⟩) ?_
        refine AZ.seg [(7, 0, 0), (8, 1, 1), (9, 1, 0)] 0 rfl (by kernel_rfl) (sq_anti _) (by kernel_rfl) ?_
        simp only [opsZ, List.getD_cons_zero, List.getD_cons_succ]
        refine ZE.buildN [(0, kv (cutB c 2 32)), (1, u32v (numB (cutB c 34 4))), (2, kv (cutB c 38 32))] rfl rfl rfl rfl sq0 (fun W => bdOf (cutB_len (by omega)) (cutB_len (by omega)) W) ?_
        refine ZE.new (fun v W => (∃ q, v = .pointer (some ⟨q, 0, none⟩) ∧ w1.heap.size ≤ q ∧ Blk W q Of.z.cs 42) ∧ Below w1.heap.size w1 W) rfl rfl (fun _ _ h => .inr h.2) (fun W hW => by
          obtain ⟨w', q, a1, a2, a3, a4⟩ := new_any (t := 42) (cs := Of.z.cs) zv42 W
          exact ⟨_, w', a1, ⟨q, rfl, by have := hW.size; omega, a2⟩, hW.trans (a3.mono hW.size)⟩) ?_
        rintro va ⟨_, ⟨q5, hva, hq5, _⟩, _⟩
        subst hva
        refine ZE.store (fun W => Blk W q5 (ofD c).cs 42 ∧ Blk W q1 Of.z.cs 42 ∧ Below w.heap.size w W) rfl rfl rfl (fun _ _ => .inl rfl) (fun W hW => by
          obtain ⟨w', a1, a2, a3⟩ := stOf (blkOf hW.1) Of.z_ok (ofD c) odk
          exact ⟨w', a1, a2, (bp1.on hW.2).fx a3 (fun e => by have := bp1.lt; omega), (e1.trans (hW.2.mono e1.size)).trans (a3.low (by have := e1.size; omega) (by have := hW.2.size; have := e1.size; omega))⟩) ?_
        refine AZ.done (by kernel_rfl) ?_
        rintro w5 ⟨bd5, bp5, sb5⟩
        refine EW.on ?_
        refine EW.seq ?_
        refine EW.seq ?_
        refine EW.region ?_
        first | refine WL.field rfl rfl rfl (f42_0 q5 0 _) ?_ | refine WL.skip _ rfl rfl rfl ?_
        first | refine WL.load rfl rfl rfl (ldOfI bd5 odk) ?_ | refine WL.skip _ rfl rfl rfl ?_
        refine WL.call [kv (ofD c).id] enter62 rfl rfl rfl (zero_any _ odk.i _) ?_
        rintro _ w6 ⟨rfl, be6⟩
        rw [di]
        have bd6 := bd5.on be6
        have bp6 := bp5.on be6
        have sb6 := sb5.trans (be6.mono sb5.size)
        refine ⟨_, rfl, ?_⟩
        first | refine WL.move rfl rfl rfl ?_
        first | refine WL.field rfl rfl rfl (f42_2 q5 0 _) ?_ | refine WL.skip _ rfl rfl rfl ?_
        first | refine WL.load rfl rfl rfl (ldOfK bd6 odk) ?_ | refine WL.skip _ rfl rfl rfl ?_
        refine WL.call [kv (ofD c).key] enter62 rfl rfl rfl (zero_any _ odk.k _) ?_
        rintro _ w7 ⟨rfl, be7⟩
        rw [dk]
        have bd7 := bd6.on be7
        have bp7 := bp6.on be7
        have sb7 := sb6.trans (be7.mono sb6.size)
        refine ⟨_, rfl, ?_⟩
        first | refine WL.pick rfl rfl rfl rfl ?_
        first | refine WL.move rfl rfl rfl ?_
        first | refine WL.field rfl rfl rfl (f42_1 q5 0 _) ?_ | refine WL.skip _ rfl rfl rfl ?_
        first | refine WL.load rfl rfl rfl (ldOfP bd7 odk) ?_ | refine WL.skip _ rfl rfl rfl ?_
        first | refine WL.bin rfl rfl rfl rfl (eqlU _ 0 _ _ _) ?_ | refine WL.skip _ rfl rfl rfl ?_
        try rw [dp]
        first | refine WL.pick rfl rfl rfl rfl ?_
        refine WL.done ?_
        refine EW.on ?_
        refine EW.cond_t rfl ?_
        refine EW.seq ?_
        refine EW.region ?_
        refine WL.buildN [] rfl rfl rfl (bd42 _) ?_
        obtain ⟨we, se, bpe, fe⟩ := stOf bp7 Of.z_ok Of.z Of.z_ok
        refine WL.store rfl rfl rfl se ?_
        have sbe := sb7.trans (fe.low (by omega) sb7.size)
        first | refine WL.assign rfl rfl rfl ?_
        refine WL.done ?_
        refine EW.on ?_
        refine EW.ret ?_
        refine pr_then ?_
        exact EW.returnsCT Try.results42 rfl rfl bpe Try.underlying42 rfl (i42 Of.z_ok) ⟨rfl, sbe⟩
      · simp only [List.getD_cons_zero, List.getD_cons_succ]
        refine ZE.new (fun v W => (∃ q, v = .pointer (some ⟨q, 0, none⟩) ∧ w1.heap.size ≤ q ∧ Blk W q Of.z.cs 42) ∧ Below w1.heap.size w1 W) rfl rfl (fun _ _ h => .inr h.2) (fun W hW => by
          obtain ⟨w', q, a1, a2, a3, a4⟩ := new_any (t := 42) (cs := Of.z.cs) zv42 W
          exact ⟨_, w', a1, ⟨q, rfl, by have := hW.size; omega, a2⟩, hW.trans (a3.mono hW.size)⟩) ?_
        rintro va ⟨_, ⟨q5, hva, hq5, _⟩, _⟩
        subst hva
        refine AZ.seg [(6, 1, 1), (7, 0, 0), (9, 1, 0)] 0 rfl (by kernel_rfl) (sq_anti _) (by kernel_rfl) ?_
        simp only [opsZ, List.getD_cons_zero, List.getD_cons_succ]
        refine ZE.callV [vb, .int .i64 38] (kv (cutB c 38 32)) (fun W => Blk W q5 Of.z.cs 42 ∧ Below w1.heap.size w1 W) enter59 rfl rfl rfl (fun _ h => .inr h.2) (fun W hW => (keyr_any vb c 38 W ((hb.below e1).below hW.2) (by omega) hl).mono fun e w' ⟨h1, h2⟩ => ⟨h1, (blkOf hW.1).on h2, hW.2.trans (h2.mono hW.2.size)⟩) ?_
        refine ZE.buildN [(0, kv (cutB c 2 32)), (1, u32v (numB (cutB c 34 4))), (2, kv (cutB c 38 32))] rfl rfl rfl rfl sq0 (fun W => bdOf (cutB_len (by omega)) (cutB_len (by omega)) W) ?_
        refine ZE.store (fun W => Blk W q5 (ofD c).cs 42 ∧ Blk W q1 Of.z.cs 42 ∧ Below w.heap.size w W) rfl rfl rfl (fun _ _ => .inl rfl) (fun W hW => by
          obtain ⟨w', a1, a2, a3⟩ := stOf hW.1 Of.z_ok (ofD c) odk
          exact ⟨w', a1, a2, (bp1.on hW.2).fx a3 (fun e => by have := bp1.lt; omega), (e1.trans (hW.2.mono e1.size)).trans (a3.low (by have := e1.size; omega) (by have := hW.2.size; have := e1.size; omega))⟩) ?_
        refine AZ.done (by kernel_rfl) ?_
        rintro w5 ⟨bd5, bp5, sb5⟩
        refine EW.on ?_
        refine EW.seq ?_
        refine EW.seq ?_
        refine EW.region ?_
        first | refine WL.field rfl rfl rfl (f42_0 q5 0 _) ?_ | refine WL.skip _ rfl rfl rfl ?_
        first | refine WL.load rfl rfl rfl (ldOfI bd5 odk) ?_ | refine WL.skip _ rfl rfl rfl ?_
        refine WL.call [kv (ofD c).id] enter62 rfl rfl rfl (zero_any _ odk.i _) ?_
        rintro _ w6 ⟨rfl, be6⟩
        rw [di]
        have bd6 := bd5.on be6
        have bp6 := bp5.on be6
        have sb6 := sb5.trans (be6.mono sb5.size)
        refine ⟨_, rfl, ?_⟩
        first | refine WL.move rfl rfl rfl ?_
        first | refine WL.field rfl rfl rfl (f42_2 q5 0 _) ?_ | refine WL.skip _ rfl rfl rfl ?_
        first | refine WL.load rfl rfl rfl (ldOfK bd6 odk) ?_ | refine WL.skip _ rfl rfl rfl ?_
        refine WL.call [kv (ofD c).key] enter62 rfl rfl rfl (zero_any _ odk.k _) ?_
        rintro _ w7 ⟨rfl, be7⟩
        rw [dk]
        have bd7 := bd6.on be7
        have bp7 := bp6.on be7
        have sb7 := sb6.trans (be7.mono sb6.size)
        refine ⟨_, rfl, ?_⟩
        first | refine WL.pick rfl rfl rfl rfl ?_
        first | refine WL.move rfl rfl rfl ?_
        first | refine WL.field rfl rfl rfl (f42_1 q5 0 _) ?_ | refine WL.skip _ rfl rfl rfl ?_
        first | refine WL.load rfl rfl rfl (ldOfP bd7 odk) ?_ | refine WL.skip _ rfl rfl rfl ?_
        first | refine WL.bin rfl rfl rfl rfl (eqlU _ 0 _ _ _) ?_ | refine WL.skip _ rfl rfl rfl ?_
        try rw [dp]
        first | refine WL.pick rfl rfl rfl rfl ?_
        refine WL.done ?_
        refine EW.on ?_
        refine EW.cond_t rfl ?_
        refine EW.seq ?_
        refine EW.region ?_
        refine WL.buildN [] rfl rfl rfl (bd42 _) ?_
        obtain ⟨we, se, bpe, fe⟩ := stOf bp7 Of.z_ok Of.z Of.z_ok
        refine WL.store rfl rfl rfl se ?_
        have sbe := sb7.trans (fe.low (by omega) sb7.size)
        first | refine WL.assign rfl rfl rfl ?_
        refine WL.done ?_
        refine EW.on ?_
        refine EW.ret ?_
        refine pr_then ?_
        exact EW.returnsCT Try.results42 rfl rfl bpe Try.underlying42 rfl (i42 Of.z_ok) ⟨rfl, sbe⟩
    · simp only [List.getD_cons_zero, List.getD_cons_succ]
      refine ZE.new (fun v W => (∃ q, v = .pointer (some ⟨q, 0, none⟩) ∧ w1.heap.size ≤ q ∧ Blk W q Of.z.cs 42) ∧ Below w1.heap.size w1 W) rfl rfl (fun _ _ h => .inr h.2) (fun W hW => by
        obtain ⟨w', q, a1, a2, a3, a4⟩ := new_any (t := 42) (cs := Of.z.cs) zv42 W
        exact ⟨_, w', a1, ⟨q, rfl, by have := hW.size; omega, a2⟩, hW.trans (a3.mono hW.size)⟩) ?_
      rintro va ⟨_, ⟨q5, hva, hq5, _⟩, _⟩
      subst hva
      refine AZ.seg [(4, 1, 1), (6, 1, 1), (7, 0, 0), (9, 1, 0)] 0 rfl (by kernel_rfl) (sq_anti _) (by kernel_rfl) ?_
      simp only [opsZ, List.getD_cons_zero, List.getD_cons_succ]
      refine ZE.callV [cutV vb 34 38] (u32v (numB (cutB c 34 4))) (fun W => Blk W q5 Of.z.cs 42 ∧ Below w1.heap.size w1 W) enter60 rfl rfl rfl (fun _ h => .inr h.2) (fun W hW => (value_any _ (cutB c 34 4) W (((hb.below e1).below hW.2).cut 34 38 (by decide) (by omega)) (by rw [cutB_len (by omega)]; exact Nat.le_refl _)).mono fun e w' ⟨h1, h2⟩ => ⟨h1, by rw [h2]; exact ⟨(blkOf hW.1), hW.2⟩⟩) ?_
      refine ZE.callV [vb, .int .i64 38] (kv (cutB c 38 32)) (fun W => Blk W q5 Of.z.cs 42 ∧ Below w1.heap.size w1 W) enter59 rfl rfl rfl (fun _ h => .inr h.2) (fun W hW => (keyr_any vb c 38 W ((hb.below e1).below hW.2) (by omega) hl).mono fun e w' ⟨h1, h2⟩ => ⟨h1, hW.1.on h2, hW.2.trans (h2.mono hW.2.size)⟩) ?_
      refine ZE.buildN [(0, kv (cutB c 2 32)), (1, u32v (numB (cutB c 34 4))), (2, kv (cutB c 38 32))] rfl rfl rfl rfl sq0 (fun W => bdOf (cutB_len (by omega)) (cutB_len (by omega)) W) ?_
      refine ZE.store (fun W => Blk W q5 (ofD c).cs 42 ∧ Blk W q1 Of.z.cs 42 ∧ Below w.heap.size w W) rfl rfl rfl (fun _ _ => .inl rfl) (fun W hW => by
        obtain ⟨w', a1, a2, a3⟩ := stOf hW.1 Of.z_ok (ofD c) odk
        exact ⟨w', a1, a2, (bp1.on hW.2).fx a3 (fun e => by have := bp1.lt; omega), (e1.trans (hW.2.mono e1.size)).trans (a3.low (by have := e1.size; omega) (by have := hW.2.size; have := e1.size; omega))⟩) ?_
      refine AZ.done (by kernel_rfl) ?_
      rintro w5 ⟨bd5, bp5, sb5⟩
      refine EW.on ?_
      refine EW.seq ?_
      refine EW.seq ?_
      refine EW.region ?_
      first | refine WL.field rfl rfl rfl (f42_0 q5 0 _) ?_ | refine WL.skip _ rfl rfl rfl ?_
      first | refine WL.load rfl rfl rfl (ldOfI bd5 odk) ?_ | refine WL.skip _ rfl rfl rfl ?_
      refine WL.call [kv (ofD c).id] enter62 rfl rfl rfl (zero_any _ odk.i _) ?_
      rintro _ w6 ⟨rfl, be6⟩
      rw [di]
      have bd6 := bd5.on be6
      have bp6 := bp5.on be6
      have sb6 := sb5.trans (be6.mono sb5.size)
      refine ⟨_, rfl, ?_⟩
      first | refine WL.move rfl rfl rfl ?_
      first | refine WL.field rfl rfl rfl (f42_2 q5 0 _) ?_ | refine WL.skip _ rfl rfl rfl ?_
      first | refine WL.load rfl rfl rfl (ldOfK bd6 odk) ?_ | refine WL.skip _ rfl rfl rfl ?_
      refine WL.call [kv (ofD c).key] enter62 rfl rfl rfl (zero_any _ odk.k _) ?_
      rintro _ w7 ⟨rfl, be7⟩
      rw [dk]
      have bd7 := bd6.on be7
      have bp7 := bp6.on be7
      have sb7 := sb6.trans (be7.mono sb6.size)
      refine ⟨_, rfl, ?_⟩
      first | refine WL.pick rfl rfl rfl rfl ?_
      first | refine WL.move rfl rfl rfl ?_
      first | refine WL.field rfl rfl rfl (f42_1 q5 0 _) ?_ | refine WL.skip _ rfl rfl rfl ?_
      first | refine WL.load rfl rfl rfl (ldOfP bd7 odk) ?_ | refine WL.skip _ rfl rfl rfl ?_
      first | refine WL.bin rfl rfl rfl rfl (eqlU _ 0 _ _ _) ?_ | refine WL.skip _ rfl rfl rfl ?_
      try rw [dp]
      first | refine WL.pick rfl rfl rfl rfl ?_
      refine WL.done ?_
      refine EW.on ?_
      refine EW.cond_t rfl ?_
      refine EW.seq ?_
      refine EW.region ?_
      refine WL.buildN [] rfl rfl rfl (bd42 _) ?_
      obtain ⟨we, se, bpe, fe⟩ := stOf bp7 Of.z_ok Of.z Of.z_ok
      refine WL.store rfl rfl rfl se ?_
      have sbe := sb7.trans (fe.low (by omega) sb7.size)
      first | refine WL.assign rfl rfl rfl ?_
      refine WL.done ?_
      refine EW.on ?_
      refine EW.ret ?_
      refine pr_then ?_
      exact EW.returnsCT Try.results42 rfl rfl bpe Try.underlying42 rfl (i42 Of.z_ok) ⟨rfl, sbe⟩
  · simp only [List.getD_cons_zero, List.getD_cons_succ]
    refine ZE.new (fun v W => (∃ q, v = .pointer (some ⟨q, 0, none⟩) ∧ w1.heap.size ≤ q ∧ Blk W q Of.z.cs 42) ∧ Below w1.heap.size w1 W) rfl rfl (fun _ _ h => .inr h.2) (fun W hW => by
      obtain ⟨w', q, a1, a2, a3, a4⟩ := new_any (t := 42) (cs := Of.z.cs) zv42 W
      exact ⟨_, w', a1, ⟨q, rfl, by have := hW.size; omega, a2⟩, hW.trans (a3.mono hW.size)⟩) ?_
    rintro va ⟨_, ⟨q5, hva, hq5, _⟩, _⟩
    subst hva
    refine AZ.seg [(1, 1, 1), (4, 1, 1), (6, 1, 1), (7, 0, 0), (9, 1, 0)] 0 rfl (by kernel_rfl) (sq_anti _) (by kernel_rfl) ?_
    simp only [opsZ, List.getD_cons_zero, List.getD_cons_succ]
    refine ZE.callV [vb, .int .i64 2] (kv (cutB c 2 32)) (fun W => Blk W q5 Of.z.cs 42 ∧ Below w1.heap.size w1 W) enter59 rfl rfl rfl (fun _ h => .inr h.2) (fun W hW => (keyr_any vb c 2 W ((hb.below e1).below hW.2) (by omega) hl).mono fun e w' ⟨h1, h2⟩ => ⟨h1, (blkOf hW.1).on h2, hW.2.trans (h2.mono hW.2.size)⟩) ?_
    refine ZE.callV [cutV vb 34 38] (u32v (numB (cutB c 34 4))) (fun W => Blk W q5 Of.z.cs 42 ∧ Below w1.heap.size w1 W) enter60 rfl rfl rfl (fun _ h => .inr h.2) (fun W hW => (value_any _ (cutB c 34 4) W (((hb.below e1).below hW.2).cut 34 38 (by decide) (by omega)) (by rw [cutB_len (by omega)]; exact Nat.le_refl _)).mono fun e w' ⟨h1, h2⟩ => ⟨h1, by rw [h2]; exact ⟨hW.1, hW.2⟩⟩) ?_
    refine ZE.callV [vb, .int .i64 38] (kv (cutB c 38 32)) (fun W => Blk W q5 Of.z.cs 42 ∧ Below w1.heap.size w1 W) enter59 rfl rfl rfl (fun _ h => .inr h.2) (fun W hW => (keyr_any vb c 38 W ((hb.below e1).below hW.2) (by omega) hl).mono fun e w' ⟨h1, h2⟩ => ⟨h1, hW.1.on h2, hW.2.trans (h2.mono hW.2.size)⟩) ?_
    refine ZE.buildN [(0, kv (cutB c 2 32)), (1, u32v (numB (cutB c 34 4))), (2, kv (cutB c 38 32))] rfl rfl rfl rfl sq0 (fun W => bdOf (cutB_len (by omega)) (cutB_len (by omega)) W) ?_
    refine ZE.store (fun W => Blk W q5 (ofD c).cs 42 ∧ Blk W q1 Of.z.cs 42 ∧ Below w.heap.size w W) rfl rfl rfl (fun _ _ => .inl rfl) (fun W hW => by
      obtain ⟨w', a1, a2, a3⟩ := stOf hW.1 Of.z_ok (ofD c) odk
      exact ⟨w', a1, a2, (bp1.on hW.2).fx a3 (fun e => by have := bp1.lt; omega), (e1.trans (hW.2.mono e1.size)).trans (a3.low (by have := e1.size; omega) (by have := hW.2.size; have := e1.size; omega))⟩) ?_
    refine AZ.done (by kernel_rfl) ?_
    rintro w5 ⟨bd5, bp5, sb5⟩
    refine EW.on ?_
    refine EW.seq ?_
    refine EW.seq ?_
    refine EW.region ?_
    first | refine WL.field rfl rfl rfl (f42_0 q5 0 _) ?_ | refine WL.skip _ rfl rfl rfl ?_
    first | refine WL.load rfl rfl rfl (ldOfI bd5 odk) ?_ | refine WL.skip _ rfl rfl rfl ?_
    refine WL.call [kv (ofD c).id] enter62 rfl rfl rfl (zero_any _ odk.i _) ?_
    rintro _ w6 ⟨rfl, be6⟩
    rw [di]
    have bd6 := bd5.on be6
    have bp6 := bp5.on be6
    have sb6 := sb5.trans (be6.mono sb5.size)
    refine ⟨_, rfl, ?_⟩
    first | refine WL.move rfl rfl rfl ?_
    first | refine WL.field rfl rfl rfl (f42_2 q5 0 _) ?_ | refine WL.skip _ rfl rfl rfl ?_
    first | refine WL.load rfl rfl rfl (ldOfK bd6 odk) ?_ | refine WL.skip _ rfl rfl rfl ?_
    refine WL.call [kv (ofD c).key] enter62 rfl rfl rfl (zero_any _ odk.k _) ?_
    rintro _ w7 ⟨rfl, be7⟩
    rw [dk]
    have bd7 := bd6.on be7
    have bp7 := bp6.on be7
    have sb7 := sb6.trans (be7.mono sb6.size)
    refine ⟨_, rfl, ?_⟩
    first | refine WL.pick rfl rfl rfl rfl ?_
    first | refine WL.move rfl rfl rfl ?_
    first | refine WL.field rfl rfl rfl (f42_1 q5 0 _) ?_ | refine WL.skip _ rfl rfl rfl ?_
    first | refine WL.load rfl rfl rfl (ldOfP bd7 odk) ?_ | refine WL.skip _ rfl rfl rfl ?_
    first | refine WL.bin rfl rfl rfl rfl (eqlU _ 0 _ _ _) ?_ | refine WL.skip _ rfl rfl rfl ?_
    try rw [dp]
    first | refine WL.pick rfl rfl rfl rfl ?_
    refine WL.done ?_
    refine EW.on ?_
    refine EW.cond_t rfl ?_
    refine EW.seq ?_
    refine EW.region ?_
    refine WL.buildN [] rfl rfl rfl (bd42 _) ?_
    obtain ⟨we, se, bpe, fe⟩ := stOf bp7 Of.z_ok Of.z Of.z_ok
    refine WL.store rfl rfl rfl se ?_
    have sbe := sb7.trans (fe.low (by omega) sb7.size)
    first | refine WL.assign rfl rfl rfl ?_
    refine WL.done ?_
    refine EW.on ?_
    refine EW.ret ?_
    refine pr_then ?_
    exact EW.returnsCT Try.results42 rfl rfl bpe Try.underlying42 rfl (i42 Of.z_ok) ⟨rfl, sbe⟩
set_option maxRecDepth 100000 in
set_option maxHeartbeats 4000000 in
theorem ror_z3 (vb : Value) (c : List UInt8) (w : World) (hb : Has w vb c) (hl : c.length ≤ 140737488355328) (hB : bgD c 3 3 = 0) (h70 : ¬ (c.length : Int) < 70) (h71 : ¬ (70 : Int) < (c.length : Int)) (di : decide ((ofD c).id = z32) = false) (dk : decide ((ofD c).key = z32) = false) (dp : decide ((ofD c).pre = 0) = true) : Calls Try.prog 42 #[vb] w fun e w' => e = .returned (.tuple #[Of.z.v, .int .i64 (170)]) ∧ Below w.heap.size w w' := by
  obtain ⟨w1, q1, r1, bp1, e1, hq1⟩ := new_any (t := 42) (cs := Of.z.cs) zv42 w
  have hs1 := e1.size
  have odk : (ofD c).ok := ⟨cutB_len (by omega), numc_lt, cutB_len (by omega)⟩
  refine calls_of_args [vb] Try.func42 rfl 46 Try.ntmps42 (by show 1 ≤ 46; decide) ?_
  refine EW.seq ?_
  refine EW.region ?_
  refine WL.new rfl rfl r1 ?_
  first | refine WL.assign rfl rfl rfl ?_
  refine WL.done ?_
  refine EW.on ?_
  refine EW.seq ?_
  refine EW.region ?_
  first | refine WL.move rfl rfl rfl ?_
  refine WL.call [vb, .int .i64 3, .int .i64 3] enter58 rfl rfl rfl (begun_any vb c 3 3 _ (hb.below e1)) ?_
  rintro _ wz ⟨rfl, hz⟩
  rw [hz]
  clear hz
  rw [hB]
  refine ⟨_, rfl, ?_⟩
  first | refine WL.assign rfl rfl rfl ?_
  refine WL.done ?_
  refine EW.on ?_
  refine EW.seq ?_
  refine EW.block ?_
  refine EW.seq ?_
  refine EW.region ?_
  first | refine WL.move rfl rfl rfl ?_
  first | refine WL.bin rfl rfl rfl rfl (int_ne_f rfl _ _ _) ?_ | refine WL.bin rfl rfl rfl rfl (int_ne_t ‹_› _ _ _) ?_ | refine WL.bin rfl rfl rfl rfl (int_ne_f ‹_› _ _ _) ?_ | refine WL.bin rfl rfl rfl rfl (int_ne_t (by decide) _ _ _) ?_ | refine WL.bin rfl rfl rfl rfl (int_ne_d _ _ _ _ _) ?_
  first | refine WL.assign rfl rfl rfl ?_
  refine WL.done ?_
  refine EW.on ?_
  refine EW.cond_f rfl ?_
  refine EW.seq ?_
  refine EW.region ?_
  first | refine WL.move rfl rfl rfl ?_
  refine WL.len rfl rfl rfl (hb.len _ _) ?_
  first | refine WL.bin rfl rfl rfl rfl (int_lt_t ‹_› _ _ _) ?_ | refine WL.bin rfl rfl rfl rfl (int_lt_f ‹_› _ _ _) ?_ | refine WL.bin rfl rfl rfl rfl (int_lt_d _ _ _ _ _) ?_
  first | refine WL.assign rfl rfl rfl ?_
  refine WL.done ?_
  refine EW.on ?_
  refine EW.cond_f rfl ?_
  refine EW.seq ?_
  refine EW.region ?_
  first | refine WL.move rfl rfl rfl ?_
  refine WL.len rfl rfl rfl (hb.len _ _) ?_
  first | refine WL.bin rfl rfl rfl rfl (int_gt_t ‹_› _ _ _) ?_ | refine WL.bin rfl rfl rfl rfl (int_gt_f ‹_› _ _ _) ?_ | refine WL.bin rfl rfl rfl rfl (int_gt_d _ _ _ _ _) ?_
  first | refine WL.assign rfl rfl rfl ?_
  refine WL.done ?_
  refine EW.on ?_
  refine EW.cond_f rfl ?_
  refine EW.skip ?_
  refine pn_block ?_
  refine EW.on ?_
  refine EW.seq ?_
  refine EW.az (SQ (fun W => Below w1.heap.size w1 W)) (levZ [(1, 1, 1), (4, 1, 1), (6, 1, 1), (8, 1, 1), (9, 1, 0)]) (fun W => Below w1.heap.size w1 W) 10 (by kernel_rfl) rfl (below_drawn w1) ?_
  refine AZ.seg [(0, 0, 0), (2, 0, 0), (3, 0, 0), (5, 0, 0)] 6 rfl (by kernel_rfl) (sq_anti _) (by kernel_rfl) ?_
  simp only [opsZ, List.getD_cons_zero, List.getD_cons_succ]
  refine ZE.move rfl rfl rfl rfl sq0 ?_
  refine ZE.move rfl rfl rfl rfl sq0 ?_
  refine ZE.slice2 rfl rfl rfl rfl rfl rfl sq0 (fun W => by rw [sl22]; exact hb.cutLH 34 38 (by decide) (by omega) W) ?_
  refine ZE.move rfl rfl rfl rfl sq0 ?_
  refine AZ.two 5 1 1 8 1 rfl (by kernel_rfl) ?_ ?_
  · simp only [List.getD_cons_zero, List.getD_cons_succ]
    refine ZE.callV [vb, .int .i64 2] (kv (cutB c 2 32)) (fun W => Below w1.heap.size w1 W) enter59 rfl rfl rfl (fun _ h => .inr h) (fun W hW => (keyr_any vb c 2 W ((hb.below e1).below hW) (by omega) hl).mono fun e w' ⟨h1, h2⟩ => ⟨h1, hW.trans (h2.mono hW.size)⟩) ?_
    refine AZ.two 4 4 1 8 1 rfl (by kernel_rfl) ?_ ?_
    · simp only [List.getD_cons_zero, List.getD_cons_succ]
      refine ZE.callV [cutV vb 34 38] (u32v (numB (cutB c 34 4))) (fun W => Below w1.heap.size w1 W) enter60 rfl rfl rfl (fun _ h => .inr h) (fun W hW => (value_any _ (cutB c 34 4) W (((hb.below e1).below hW).cut 34 38 (by decide) (by omega)) (by rw [cutB_len (by omega)]; exact Nat.le_refl _)).mono fun e w' ⟨h1, h2⟩ => ⟨h1, by rw [h2]; exact hW⟩) ?_
      refine AZ.two 3 6 1 8 1 rfl (by kernel_rfl) ?_ ?_
      · simp only [List.getD_cons_zero, List.getD_cons_succ]
        refine ZE.callV [vb, .int .i64 38] (kv (cutB c 38 32)) (fun W => Below w1.heap.size w1 W) enter59 rfl rfl rfl (fun _ h => .inr h) (fun W hW => (keyr_any vb c 38 W ((hb.below e1).below hW) (by omega) hl).mono fun e w' ⟨h1, h2⟩ => ⟨h1, hW.trans (h2.mono hW.size)⟩) ?_
        refine AZ.seg [(7, 0, 0), (8, 1, 1), (9, 1, 0)] 0 rfl (by kernel_rfl) (sq_anti _) (by kernel_rfl) ?_
        simp only [opsZ, List.getD_cons_zero, List.getD_cons_succ]
        refine ZE.buildN [(0, kv (cutB c 2 32)), (1, u32v (numB (cutB c 34 4))), (2, kv (cutB c 38 32))] rfl rfl rfl rfl sq0 (fun W => bdOf (cutB_len (by omega)) (cutB_len (by omega)) W) ?_
        refine ZE.new (fun v W => (∃ q, v = .pointer (some ⟨q, 0, none⟩) ∧ w1.heap.size ≤ q ∧ Blk W q Of.z.cs 42) ∧ Below w1.heap.size w1 W) rfl rfl (fun _ _ h => .inr h.2) (fun W hW => by
          obtain ⟨w', q, a1, a2, a3, a4⟩ := new_any (t := 42) (cs := Of.z.cs) zv42 W
          exact ⟨_, w', a1, ⟨q, rfl, by have := hW.size; omega, a2⟩, hW.trans (a3.mono hW.size)⟩) ?_
        rintro va ⟨_, ⟨q5, hva, hq5, _⟩, _⟩
        subst hva
        refine ZE.store (fun W => Blk W q5 (ofD c).cs 42 ∧ Blk W q1 Of.z.cs 42 ∧ Below w.heap.size w W) rfl rfl rfl (fun _ _ => .inl rfl) (fun W hW => by
          obtain ⟨w', a1, a2, a3⟩ := stOf (blkOf hW.1) Of.z_ok (ofD c) odk
          exact ⟨w', a1, a2, (bp1.on hW.2).fx a3 (fun e => by have := bp1.lt; omega), (e1.trans (hW.2.mono e1.size)).trans (a3.low (by have := e1.size; omega) (by have := hW.2.size; have := e1.size; omega))⟩) ?_
        refine AZ.done (by kernel_rfl) ?_
        rintro w5 ⟨bd5, bp5, sb5⟩
        refine EW.on ?_
        refine EW.seq ?_
        refine EW.seq ?_
        refine EW.region ?_
        first | refine WL.field rfl rfl rfl (f42_0 q5 0 _) ?_ | refine WL.skip _ rfl rfl rfl ?_
        first | refine WL.load rfl rfl rfl (ldOfI bd5 odk) ?_ | refine WL.skip _ rfl rfl rfl ?_
        refine WL.call [kv (ofD c).id] enter62 rfl rfl rfl (zero_any _ odk.i _) ?_
        rintro _ w6 ⟨rfl, be6⟩
        rw [di]
        have bd6 := bd5.on be6
        have bp6 := bp5.on be6
        have sb6 := sb5.trans (be6.mono sb5.size)
        refine ⟨_, rfl, ?_⟩
        first | refine WL.move rfl rfl rfl ?_
        first | refine WL.field rfl rfl rfl (f42_2 q5 0 _) ?_ | refine WL.skip _ rfl rfl rfl ?_
        first | refine WL.load rfl rfl rfl (ldOfK bd6 odk) ?_ | refine WL.skip _ rfl rfl rfl ?_
        refine WL.call [kv (ofD c).key] enter62 rfl rfl rfl (zero_any _ odk.k _) ?_
        rintro _ w7 ⟨rfl, be7⟩
        rw [dk]
        have bd7 := bd6.on be7
        have bp7 := bp6.on be7
        have sb7 := sb6.trans (be7.mono sb6.size)
        refine ⟨_, rfl, ?_⟩
        first | refine WL.pick rfl rfl rfl rfl ?_
        first | refine WL.move rfl rfl rfl ?_
        first | refine WL.field rfl rfl rfl (f42_1 q5 0 _) ?_ | refine WL.skip _ rfl rfl rfl ?_
        first | refine WL.load rfl rfl rfl (ldOfP bd7 odk) ?_ | refine WL.skip _ rfl rfl rfl ?_
        first | refine WL.bin rfl rfl rfl rfl (eqlU _ 0 _ _ _) ?_ | refine WL.skip _ rfl rfl rfl ?_
        try rw [dp]
        first | refine WL.pick rfl rfl rfl rfl ?_
        refine WL.done ?_
        refine EW.on ?_
        refine EW.cond_t rfl ?_
        refine EW.seq ?_
        refine EW.region ?_
        refine WL.buildN [] rfl rfl rfl (bd42 _) ?_
        obtain ⟨we, se, bpe, fe⟩ := stOf bp7 Of.z_ok Of.z Of.z_ok
        refine WL.store rfl rfl rfl se ?_
        have sbe := sb7.trans (fe.low (by omega) sb7.size)
        first | refine WL.assign rfl rfl rfl ?_
        refine WL.done ?_
        refine EW.on ?_
        refine EW.ret ?_
        refine pr_then ?_
        exact EW.returnsCT Try.results42 rfl rfl bpe Try.underlying42 rfl (i42 Of.z_ok) ⟨rfl, sbe⟩
      · simp only [List.getD_cons_zero, List.getD_cons_succ]
        refine ZE.new (fun v W => (∃ q, v = .pointer (some ⟨q, 0, none⟩) ∧ w1.heap.size ≤ q ∧ Blk W q Of.z.cs 42) ∧ Below w1.heap.size w1 W) rfl rfl (fun _ _ h => .inr h.2) (fun W hW => by
          obtain ⟨w', q, a1, a2, a3, a4⟩ := new_any (t := 42) (cs := Of.z.cs) zv42 W
          exact ⟨_, w', a1, ⟨q, rfl, by have := hW.size; omega, a2⟩, hW.trans (a3.mono hW.size)⟩) ?_
        rintro va ⟨_, ⟨q5, hva, hq5, _⟩, _⟩
        subst hva
        refine AZ.seg [(6, 1, 1), (7, 0, 0), (9, 1, 0)] 0 rfl (by kernel_rfl) (sq_anti _) (by kernel_rfl) ?_
        simp only [opsZ, List.getD_cons_zero, List.getD_cons_succ]
        refine ZE.callV [vb, .int .i64 38] (kv (cutB c 38 32)) (fun W => Blk W q5 Of.z.cs 42 ∧ Below w1.heap.size w1 W) enter59 rfl rfl rfl (fun _ h => .inr h.2) (fun W hW => (keyr_any vb c 38 W ((hb.below e1).below hW.2) (by omega) hl).mono fun e w' ⟨h1, h2⟩ => ⟨h1, (blkOf hW.1).on h2, hW.2.trans (h2.mono hW.2.size)⟩) ?_
        refine ZE.buildN [(0, kv (cutB c 2 32)), (1, u32v (numB (cutB c 34 4))), (2, kv (cutB c 38 32))] rfl rfl rfl rfl sq0 (fun W => bdOf (cutB_len (by omega)) (cutB_len (by omega)) W) ?_
        refine ZE.store (fun W => Blk W q5 (ofD c).cs 42 ∧ Blk W q1 Of.z.cs 42 ∧ Below w.heap.size w W) rfl rfl rfl (fun _ _ => .inl rfl) (fun W hW => by
          obtain ⟨w', a1, a2, a3⟩ := stOf hW.1 Of.z_ok (ofD c) odk
          exact ⟨w', a1, a2, (bp1.on hW.2).fx a3 (fun e => by have := bp1.lt; omega), (e1.trans (hW.2.mono e1.size)).trans (a3.low (by have := e1.size; omega) (by have := hW.2.size; have := e1.size; omega))⟩) ?_
        refine AZ.done (by kernel_rfl) ?_
        rintro w5 ⟨bd5, bp5, sb5⟩
        refine EW.on ?_
        refine EW.seq ?_
        refine EW.seq ?_
        refine EW.region ?_
        first | refine WL.field rfl rfl rfl (f42_0 q5 0 _) ?_ | refine WL.skip _ rfl rfl rfl ?_
        first | refine WL.load rfl rfl rfl (ldOfI bd5 odk) ?_ | refine WL.skip _ rfl rfl rfl ?_
        refine WL.call [kv (ofD c).id] enter62 rfl rfl rfl (zero_any _ odk.i _) ?_
        rintro _ w6 ⟨rfl, be6⟩
        rw [di]
        have bd6 := bd5.on be6
        have bp6 := bp5.on be6
        have sb6 := sb5.trans (be6.mono sb5.size)
        refine ⟨_, rfl, ?_⟩
        first | refine WL.move rfl rfl rfl ?_
        first | refine WL.field rfl rfl rfl (f42_2 q5 0 _) ?_ | refine WL.skip _ rfl rfl rfl ?_
        first | refine WL.load rfl rfl rfl (ldOfK bd6 odk) ?_ | refine WL.skip _ rfl rfl rfl ?_
        refine WL.call [kv (ofD c).key] enter62 rfl rfl rfl (zero_any _ odk.k _) ?_
        rintro _ w7 ⟨rfl, be7⟩
        rw [dk]
        have bd7 := bd6.on be7
        have bp7 := bp6.on be7
        have sb7 := sb6.trans (be7.mono sb6.size)
        refine ⟨_, rfl, ?_⟩
        first | refine WL.pick rfl rfl rfl rfl ?_
        first | refine WL.move rfl rfl rfl ?_
        first | refine WL.field rfl rfl rfl (f42_1 q5 0 _) ?_ | refine WL.skip _ rfl rfl rfl ?_
        first | refine WL.load rfl rfl rfl (ldOfP bd7 odk) ?_ | refine WL.skip _ rfl rfl rfl ?_
        first | refine WL.bin rfl rfl rfl rfl (eqlU _ 0 _ _ _) ?_ | refine WL.skip _ rfl rfl rfl ?_
        try rw [dp]
        first | refine WL.pick rfl rfl rfl rfl ?_
        refine WL.done ?_
        refine EW.on ?_
        refine EW.cond_t rfl ?_
        refine EW.seq ?_
        refine EW.region ?_
        refine WL.buildN [] rfl rfl rfl (bd42 _) ?_
        obtain ⟨we, se, bpe, fe⟩ := stOf bp7 Of.z_ok Of.z Of.z_ok
        refine WL.store rfl rfl rfl se ?_
        have sbe := sb7.trans (fe.low (by omega) sb7.size)
        first | refine WL.assign rfl rfl rfl ?_
        refine WL.done ?_
        refine EW.on ?_
        refine EW.ret ?_
        refine pr_then ?_
        exact EW.returnsCT Try.results42 rfl rfl bpe Try.underlying42 rfl (i42 Of.z_ok) ⟨rfl, sbe⟩
    · simp only [List.getD_cons_zero, List.getD_cons_succ]
      refine ZE.new (fun v W => (∃ q, v = .pointer (some ⟨q, 0, none⟩) ∧ w1.heap.size ≤ q ∧ Blk W q Of.z.cs 42) ∧ Below w1.heap.size w1 W) rfl rfl (fun _ _ h => .inr h.2) (fun W hW => by
        obtain ⟨w', q, a1, a2, a3, a4⟩ := new_any (t := 42) (cs := Of.z.cs) zv42 W
        exact ⟨_, w', a1, ⟨q, rfl, by have := hW.size; omega, a2⟩, hW.trans (a3.mono hW.size)⟩) ?_
      rintro va ⟨_, ⟨q5, hva, hq5, _⟩, _⟩
      subst hva
      refine AZ.seg [(4, 1, 1), (6, 1, 1), (7, 0, 0), (9, 1, 0)] 0 rfl (by kernel_rfl) (sq_anti _) (by kernel_rfl) ?_
      simp only [opsZ, List.getD_cons_zero, List.getD_cons_succ]
      refine ZE.callV [cutV vb 34 38] (u32v (numB (cutB c 34 4))) (fun W => Blk W q5 Of.z.cs 42 ∧ Below w1.heap.size w1 W) enter60 rfl rfl rfl (fun _ h => .inr h.2) (fun W hW => (value_any _ (cutB c 34 4) W (((hb.below e1).below hW.2).cut 34 38 (by decide) (by omega)) (by rw [cutB_len (by omega)]; exact Nat.le_refl _)).mono fun e w' ⟨h1, h2⟩ => ⟨h1, by rw [h2]; exact ⟨(blkOf hW.1), hW.2⟩⟩) ?_
      refine ZE.callV [vb, .int .i64 38] (kv (cutB c 38 32)) (fun W => Blk W q5 Of.z.cs 42 ∧ Below w1.heap.size w1 W) enter59 rfl rfl rfl (fun _ h => .inr h.2) (fun W hW => (keyr_any vb c 38 W ((hb.below e1).below hW.2) (by omega) hl).mono fun e w' ⟨h1, h2⟩ => ⟨h1, hW.1.on h2, hW.2.trans (h2.mono hW.2.size)⟩) ?_
      refine ZE.buildN [(0, kv (cutB c 2 32)), (1, u32v (numB (cutB c 34 4))), (2, kv (cutB c 38 32))] rfl rfl rfl rfl sq0 (fun W => bdOf (cutB_len (by omega)) (cutB_len (by omega)) W) ?_
      refine ZE.store (fun W => Blk W q5 (ofD c).cs 42 ∧ Blk W q1 Of.z.cs 42 ∧ Below w.heap.size w W) rfl rfl rfl (fun _ _ => .inl rfl) (fun W hW => by
        obtain ⟨w', a1, a2, a3⟩ := stOf hW.1 Of.z_ok (ofD c) odk
        exact ⟨w', a1, a2, (bp1.on hW.2).fx a3 (fun e => by have := bp1.lt; omega), (e1.trans (hW.2.mono e1.size)).trans (a3.low (by have := e1.size; omega) (by have := hW.2.size; have := e1.size; omega))⟩) ?_
      refine AZ.done (by kernel_rfl) ?_
      rintro w5 ⟨bd5, bp5, sb5⟩
      refine EW.on ?_
      refine EW.seq ?_
      refine EW.seq ?_
      refine EW.region ?_
      first | refine WL.field rfl rfl rfl (f42_0 q5 0 _) ?_ | refine WL.skip _ rfl rfl rfl ?_
      first | refine WL.load rfl rfl rfl (ldOfI bd5 odk) ?_ | refine WL.skip _ rfl rfl rfl ?_
      refine WL.call [kv (ofD c).id] enter62 rfl rfl rfl (zero_any _ odk.i _) ?_
      rintro _ w6 ⟨rfl, be6⟩
      rw [di]
      have bd6 := bd5.on be6
      have bp6 := bp5.on be6
      have sb6 := sb5.trans (be6.mono sb5.size)
      refine ⟨_, rfl, ?_⟩
      first | refine WL.move rfl rfl rfl ?_
      first | refine WL.field rfl rfl rfl (f42_2 q5 0 _) ?_ | refine WL.skip _ rfl rfl rfl ?_
      first | refine WL.load rfl rfl rfl (ldOfK bd6 odk) ?_ | refine WL.skip _ rfl rfl rfl ?_
      refine WL.call [kv (ofD c).key] enter62 rfl rfl rfl (zero_any _ odk.k _) ?_
      rintro _ w7 ⟨rfl, be7⟩
      rw [dk]
      have bd7 := bd6.on be7
      have bp7 := bp6.on be7
      have sb7 := sb6.trans (be7.mono sb6.size)
      refine ⟨_, rfl, ?_⟩
      first | refine WL.pick rfl rfl rfl rfl ?_
      first | refine WL.move rfl rfl rfl ?_
      first | refine WL.field rfl rfl rfl (f42_1 q5 0 _) ?_ | refine WL.skip _ rfl rfl rfl ?_
      first | refine WL.load rfl rfl rfl (ldOfP bd7 odk) ?_ | refine WL.skip _ rfl rfl rfl ?_
      first | refine WL.bin rfl rfl rfl rfl (eqlU _ 0 _ _ _) ?_ | refine WL.skip _ rfl rfl rfl ?_
      try rw [dp]
      first | refine WL.pick rfl rfl rfl rfl ?_
      refine WL.done ?_
      refine EW.on ?_
      refine EW.cond_t rfl ?_
      refine EW.seq ?_
      refine EW.region ?_
      refine WL.buildN [] rfl rfl rfl (bd42 _) ?_
      obtain ⟨we, se, bpe, fe⟩ := stOf bp7 Of.z_ok Of.z Of.z_ok
      refine WL.store rfl rfl rfl se ?_
      have sbe := sb7.trans (fe.low (by omega) sb7.size)
      first | refine WL.assign rfl rfl rfl ?_
      refine WL.done ?_
      refine EW.on ?_
      refine EW.ret ?_
      refine pr_then ?_
      exact EW.returnsCT Try.results42 rfl rfl bpe Try.underlying42 rfl (i42 Of.z_ok) ⟨rfl, sbe⟩
  · simp only [List.getD_cons_zero, List.getD_cons_succ]
    refine ZE.new (fun v W => (∃ q, v = .pointer (some ⟨q, 0, none⟩) ∧ w1.heap.size ≤ q ∧ Blk W q Of.z.cs 42) ∧ Below w1.heap.size w1 W) rfl rfl (fun _ _ h => .inr h.2) (fun W hW => by
      obtain ⟨w', q, a1, a2, a3, a4⟩ := new_any (t := 42) (cs := Of.z.cs) zv42 W
      exact ⟨_, w', a1, ⟨q, rfl, by have := hW.size; omega, a2⟩, hW.trans (a3.mono hW.size)⟩) ?_
    rintro va ⟨_, ⟨q5, hva, hq5, _⟩, _⟩
    subst hva
    refine AZ.seg [(1, 1, 1), (4, 1, 1), (6, 1, 1), (7, 0, 0), (9, 1, 0)] 0 rfl (by kernel_rfl) (sq_anti _) (by kernel_rfl) ?_
    simp only [opsZ, List.getD_cons_zero, List.getD_cons_succ]
    refine ZE.callV [vb, .int .i64 2] (kv (cutB c 2 32)) (fun W => Blk W q5 Of.z.cs 42 ∧ Below w1.heap.size w1 W) enter59 rfl rfl rfl (fun _ h => .inr h.2) (fun W hW => (keyr_any vb c 2 W ((hb.below e1).below hW.2) (by omega) hl).mono fun e w' ⟨h1, h2⟩ => ⟨h1, (blkOf hW.1).on h2, hW.2.trans (h2.mono hW.2.size)⟩) ?_
    refine ZE.callV [cutV vb 34 38] (u32v (numB (cutB c 34 4))) (fun W => Blk W q5 Of.z.cs 42 ∧ Below w1.heap.size w1 W) enter60 rfl rfl rfl (fun _ h => .inr h.2) (fun W hW => (value_any _ (cutB c 34 4) W (((hb.below e1).below hW.2).cut 34 38 (by decide) (by omega)) (by rw [cutB_len (by omega)]; exact Nat.le_refl _)).mono fun e w' ⟨h1, h2⟩ => ⟨h1, by rw [h2]; exact ⟨hW.1, hW.2⟩⟩) ?_
    refine ZE.callV [vb, .int .i64 38] (kv (cutB c 38 32)) (fun W => Blk W q5 Of.z.cs 42 ∧ Below w1.heap.size w1 W) enter59 rfl rfl rfl (fun _ h => .inr h.2) (fun W hW => (keyr_any vb c 38 W ((hb.below e1).below hW.2) (by omega) hl).mono fun e w' ⟨h1, h2⟩ => ⟨h1, hW.1.on h2, hW.2.trans (h2.mono hW.2.size)⟩) ?_
    refine ZE.buildN [(0, kv (cutB c 2 32)), (1, u32v (numB (cutB c 34 4))), (2, kv (cutB c 38 32))] rfl rfl rfl rfl sq0 (fun W => bdOf (cutB_len (by omega)) (cutB_len (by omega)) W) ?_
    refine ZE.store (fun W => Blk W q5 (ofD c).cs 42 ∧ Blk W q1 Of.z.cs 42 ∧ Below w.heap.size w W) rfl rfl rfl (fun _ _ => .inl rfl) (fun W hW => by
      obtain ⟨w', a1, a2, a3⟩ := stOf hW.1 Of.z_ok (ofD c) odk
      exact ⟨w', a1, a2, (bp1.on hW.2).fx a3 (fun e => by have := bp1.lt; omega), (e1.trans (hW.2.mono e1.size)).trans (a3.low (by have := e1.size; omega) (by have := hW.2.size; have := e1.size; omega))⟩) ?_
    refine AZ.done (by kernel_rfl) ?_
    rintro w5 ⟨bd5, bp5, sb5⟩
    refine EW.on ?_
    refine EW.seq ?_
    refine EW.seq ?_
    refine EW.region ?_
    first | refine WL.field rfl rfl rfl (f42_0 q5 0 _) ?_ | refine WL.skip _ rfl rfl rfl ?_
    first | refine WL.load rfl rfl rfl (ldOfI bd5 odk) ?_ | refine WL.skip _ rfl rfl rfl ?_
    refine WL.call [kv (ofD c).id] enter62 rfl rfl rfl (zero_any _ odk.i _) ?_
    rintro _ w6 ⟨rfl, be6⟩
    rw [di]
    have bd6 := bd5.on be6
    have bp6 := bp5.on be6
    have sb6 := sb5.trans (be6.mono sb5.size)
    refine ⟨_, rfl, ?_⟩
    first | refine WL.move rfl rfl rfl ?_
    first | refine WL.field rfl rfl rfl (f42_2 q5 0 _) ?_ | refine WL.skip _ rfl rfl rfl ?_
    first | refine WL.load rfl rfl rfl (ldOfK bd6 odk) ?_ | refine WL.skip _ rfl rfl rfl ?_
    refine WL.call [kv (ofD c).key] enter62 rfl rfl rfl (zero_any _ odk.k _) ?_
    rintro _ w7 ⟨rfl, be7⟩
    rw [dk]
    have bd7 := bd6.on be7
    have bp7 := bp6.on be7
    have sb7 := sb6.trans (be7.mono sb6.size)
    refine ⟨_, rfl, ?_⟩
    first | refine WL.pick rfl rfl rfl rfl ?_
    first | refine WL.move rfl rfl rfl ?_
    first | refine WL.field rfl rfl rfl (f42_1 q5 0 _) ?_ | refine WL.skip _ rfl rfl rfl ?_
    first | refine WL.load rfl rfl rfl (ldOfP bd7 odk) ?_ | refine WL.skip _ rfl rfl rfl ?_
    first | refine WL.bin rfl rfl rfl rfl (eqlU _ 0 _ _ _) ?_ | refine WL.skip _ rfl rfl rfl ?_
    try rw [dp]
    first | refine WL.pick rfl rfl rfl rfl ?_
    refine WL.done ?_
    refine EW.on ?_
    refine EW.cond_t rfl ?_
    refine EW.seq ?_
    refine EW.region ?_
    refine WL.buildN [] rfl rfl rfl (bd42 _) ?_
    obtain ⟨we, se, bpe, fe⟩ := stOf bp7 Of.z_ok Of.z Of.z_ok
    refine WL.store rfl rfl rfl se ?_
    have sbe := sb7.trans (fe.low (by omega) sb7.size)
    first | refine WL.assign rfl rfl rfl ?_
    refine WL.done ?_
    refine EW.on ?_
    refine EW.ret ?_
    refine pr_then ?_
    exact EW.returnsCT Try.results42 rfl rfl bpe Try.underlying42 rfl (i42 Of.z_ok) ⟨rfl, sbe⟩
set_option maxRecDepth 100000 in
set_option maxHeartbeats 4000000 in
theorem ror_o (vb : Value) (c : List UInt8) (w : World) (hb : Has w vb c) (hl : c.length ≤ 140737488355328) (hB : bgD c 3 3 = 0) (h70 : ¬ (c.length : Int) < 70) (h71 : ¬ (70 : Int) < (c.length : Int)) (di : decide ((ofD c).id = z32) = false) (dk : decide ((ofD c).key = z32) = false) (dp : decide ((ofD c).pre = 0) = false) : Calls Try.prog 42 #[vb] w fun e w' => e = .returned (.tuple #[(ofD c).v, .int .i64 (0)]) ∧ Below w.heap.size w w' := by
  obtain ⟨w1, q1, r1, bp1, e1, hq1⟩ := new_any (t := 42) (cs := Of.z.cs) zv42 w
  have hs1 := e1.size
  have odk : (ofD c).ok := ⟨cutB_len (by omega), numc_lt, cutB_len (by omega)⟩
  refine calls_of_args [vb] Try.func42 rfl 46 Try.ntmps42 (by show 1 ≤ 46; decide) ?_
  refine EW.seq ?_
  refine EW.region ?_
  refine WL.new rfl rfl r1 ?_
  first | refine WL.assign rfl rfl rfl ?_
  refine WL.done ?_
  refine EW.on ?_
  refine EW.seq ?_
  refine EW.region ?_
  first | refine WL.move rfl rfl rfl ?_
  refine WL.call [vb, .int .i64 3, .int .i64 3] enter58 rfl rfl rfl (begun_any vb c 3 3 _ (hb.below e1)) ?_
  rintro _ wz ⟨rfl, hz⟩
  rw [hz]
  clear hz
  rw [hB]
  refine ⟨_, rfl, ?_⟩
  first | refine WL.assign rfl rfl rfl ?_
  refine WL.done ?_
  refine EW.on ?_
  refine EW.seq ?_
  refine EW.block ?_
  refine EW.seq ?_
  refine EW.region ?_
  first | refine WL.move rfl rfl rfl ?_
  first | refine WL.bin rfl rfl rfl rfl (int_ne_f rfl _ _ _) ?_ | refine WL.bin rfl rfl rfl rfl (int_ne_t ‹_› _ _ _) ?_ | refine WL.bin rfl rfl rfl rfl (int_ne_f ‹_› _ _ _) ?_ | refine WL.bin rfl rfl rfl rfl (int_ne_t (by decide) _ _ _) ?_ | refine WL.bin rfl rfl rfl rfl (int_ne_d _ _ _ _ _) ?_
  first | refine WL.assign rfl rfl rfl ?_
  refine WL.done ?_
  refine EW.on ?_
  refine EW.cond_f rfl ?_
  refine EW.seq ?_
  refine EW.region ?_
  first | refine WL.move rfl rfl rfl ?_
  refine WL.len rfl rfl rfl (hb.len _ _) ?_
  first | refine WL.bin rfl rfl rfl rfl (int_lt_t ‹_› _ _ _) ?_ | refine WL.bin rfl rfl rfl rfl (int_lt_f ‹_› _ _ _) ?_ | refine WL.bin rfl rfl rfl rfl (int_lt_d _ _ _ _ _) ?_
  first | refine WL.assign rfl rfl rfl ?_
  refine WL.done ?_
  refine EW.on ?_
  refine EW.cond_f rfl ?_
  refine EW.seq ?_
  refine EW.region ?_
  first | refine WL.move rfl rfl rfl ?_
  refine WL.len rfl rfl rfl (hb.len _ _) ?_
  first | refine WL.bin rfl rfl rfl rfl (int_gt_t ‹_› _ _ _) ?_ | refine WL.bin rfl rfl rfl rfl (int_gt_f ‹_› _ _ _) ?_ | refine WL.bin rfl rfl rfl rfl (int_gt_d _ _ _ _ _) ?_
  first | refine WL.assign rfl rfl rfl ?_
  refine WL.done ?_
  refine EW.on ?_
  refine EW.cond_f rfl ?_
  refine EW.skip ?_
  refine pn_block ?_
  refine EW.on ?_
  refine EW.seq ?_
  refine EW.az (SQ (fun W => Below w1.heap.size w1 W)) (levZ [(1, 1, 1), (4, 1, 1), (6, 1, 1), (8, 1, 1), (9, 1, 0)]) (fun W => Below w1.heap.size w1 W) 10 (by kernel_rfl) rfl (below_drawn w1) ?_
  refine AZ.seg [(0, 0, 0), (2, 0, 0), (3, 0, 0), (5, 0, 0)] 6 rfl (by kernel_rfl) (sq_anti _) (by kernel_rfl) ?_
  simp only [opsZ, List.getD_cons_zero, List.getD_cons_succ]
  refine ZE.move rfl rfl rfl rfl sq0 ?_
  refine ZE.move rfl rfl rfl rfl sq0 ?_
  refine ZE.slice2 rfl rfl rfl rfl rfl rfl sq0 (fun W => by rw [sl22]; exact hb.cutLH 34 38 (by decide) (by omega) W) ?_
  refine ZE.move rfl rfl rfl rfl sq0 ?_
  refine AZ.two 5 1 1 8 1 rfl (by kernel_rfl) ?_ ?_
  · simp only [List.getD_cons_zero, List.getD_cons_succ]
    refine ZE.callV [vb, .int .i64 2] (kv (cutB c 2 32)) (fun W => Below w1.heap.size w1 W) enter59 rfl rfl rfl (fun _ h => .inr h) (fun W hW => (keyr_any vb c 2 W ((hb.below e1).below hW) (by omega) hl).mono fun e w' ⟨h1, h2⟩ => ⟨h1, hW.trans (h2.mono hW.size)⟩) ?_
    refine AZ.two 4 4 1 8 1 rfl (by kernel_rfl) ?_ ?_
    · simp only [List.getD_cons_zero, List.getD_cons_succ]
      refine ZE.callV [cutV vb 34 38] (u32v (numB (cutB c 34 4))) (fun W => Below w1.heap.size w1 W) enter60 rfl rfl rfl (fun _ h => .inr h) (fun W hW => (value_any _ (cutB c 34 4) W (((hb.below e1).below hW).cut 34 38 (by decide) (by omega)) (by rw [cutB_len (by omega)]; exact Nat.le_refl _)).mono fun e w' ⟨h1, h2⟩ => ⟨h1, by rw [h2]; exact hW⟩) ?_
      refine AZ.two 3 6 1 8 1 rfl (by kernel_rfl) ?_ ?_
      · simp only [List.getD_cons_zero, List.getD_cons_succ]
        refine ZE.callV [vb, .int .i64 38] (kv (cutB c 38 32)) (fun W => Below w1.heap.size w1 W) enter59 rfl rfl rfl (fun _ h => .inr h) (fun W hW => (keyr_any vb c 38 W ((hb.below e1).below hW) (by omega) hl).mono fun e w' ⟨h1, h2⟩ => ⟨h1, hW.trans (h2.mono hW.size)⟩) ?_
        refine AZ.seg [(7, 0, 0), (8, 1, 1), (9, 1, 0)] 0 rfl (by kernel_rfl) (sq_anti _) (by kernel_rfl) ?_
        simp only [opsZ, List.getD_cons_zero, List.getD_cons_succ]
        refine ZE.buildN [(0, kv (cutB c 2 32)), (1, u32v (numB (cutB c 34 4))), (2, kv (cutB c 38 32))] rfl rfl rfl rfl sq0 (fun W => bdOf (cutB_len (by omega)) (cutB_len (by omega)) W) ?_
        refine ZE.new (fun v W => (∃ q, v = .pointer (some ⟨q, 0, none⟩) ∧ w1.heap.size ≤ q ∧ Blk W q Of.z.cs 42) ∧ Below w1.heap.size w1 W) rfl rfl (fun _ _ h => .inr h.2) (fun W hW => by
          obtain ⟨w', q, a1, a2, a3, a4⟩ := new_any (t := 42) (cs := Of.z.cs) zv42 W
          exact ⟨_, w', a1, ⟨q, rfl, by have := hW.size; omega, a2⟩, hW.trans (a3.mono hW.size)⟩) ?_
        rintro va ⟨_, ⟨q5, hva, hq5, _⟩, _⟩
        subst hva
        refine ZE.store (fun W => Blk W q5 (ofD c).cs 42 ∧ Blk W q1 Of.z.cs 42 ∧ Below w.heap.size w W) rfl rfl rfl (fun _ _ => .inl rfl) (fun W hW => by
          obtain ⟨w', a1, a2, a3⟩ := stOf (blkOf hW.1) Of.z_ok (ofD c) odk
          exact ⟨w', a1, a2, (bp1.on hW.2).fx a3 (fun e => by have := bp1.lt; omega), (e1.trans (hW.2.mono e1.size)).trans (a3.low (by have := e1.size; omega) (by have := hW.2.size; have := e1.size; omega))⟩) ?_
        refine AZ.done (by kernel_rfl) ?_
        rintro w5 ⟨bd5, bp5, sb5⟩
        refine EW.on ?_
        refine EW.seq ?_
        refine EW.seq ?_
        refine EW.region ?_
        first | refine WL.field rfl rfl rfl (f42_0 q5 0 _) ?_ | refine WL.skip _ rfl rfl rfl ?_
        first | refine WL.load rfl rfl rfl (ldOfI bd5 odk) ?_ | refine WL.skip _ rfl rfl rfl ?_
        refine WL.call [kv (ofD c).id] enter62 rfl rfl rfl (zero_any _ odk.i _) ?_
        rintro _ w6 ⟨rfl, be6⟩
        rw [di]
        have bd6 := bd5.on be6
        have bp6 := bp5.on be6
        have sb6 := sb5.trans (be6.mono sb5.size)
        refine ⟨_, rfl, ?_⟩
        first | refine WL.move rfl rfl rfl ?_
        first | refine WL.field rfl rfl rfl (f42_2 q5 0 _) ?_ | refine WL.skip _ rfl rfl rfl ?_
        first | refine WL.load rfl rfl rfl (ldOfK bd6 odk) ?_ | refine WL.skip _ rfl rfl rfl ?_
        refine WL.call [kv (ofD c).key] enter62 rfl rfl rfl (zero_any _ odk.k _) ?_
        rintro _ w7 ⟨rfl, be7⟩
        rw [dk]
        have bd7 := bd6.on be7
        have bp7 := bp6.on be7
        have sb7 := sb6.trans (be7.mono sb6.size)
        refine ⟨_, rfl, ?_⟩
        first | refine WL.pick rfl rfl rfl rfl ?_
        first | refine WL.move rfl rfl rfl ?_
        first | refine WL.field rfl rfl rfl (f42_1 q5 0 _) ?_ | refine WL.skip _ rfl rfl rfl ?_
        first | refine WL.load rfl rfl rfl (ldOfP bd7 odk) ?_ | refine WL.skip _ rfl rfl rfl ?_
        first | refine WL.bin rfl rfl rfl rfl (eqlU _ 0 _ _ _) ?_ | refine WL.skip _ rfl rfl rfl ?_
        try rw [dp]
        first | refine WL.pick rfl rfl rfl rfl ?_
        refine WL.done ?_
        refine EW.on ?_
        refine EW.cond_f rfl ?_
        refine EW.skip ?_
        refine EW.on ?_
        refine EW.seq ?_
        refine EW.region ?_
        refine WL.load rfl rfl rfl (ldOf bd7 odk) ?_
        obtain ⟨we, se, bpe, fe⟩ := stOf bp7 Of.z_ok (ofD c) odk
        refine WL.store rfl rfl rfl se ?_
        have sbe := sb7.trans (fe.low (by omega) sb7.size)
        first | refine WL.assign rfl rfl rfl ?_
        refine WL.done ?_
        refine EW.on ?_
        refine EW.ret ?_
        exact EW.returnsCT Try.results42 rfl rfl bpe Try.underlying42 rfl (i42 odk) ⟨rfl, sbe⟩
      · simp only [List.getD_cons_zero, List.getD_cons_succ]
        refine ZE.new (fun v W => (∃ q, v = .pointer (some ⟨q, 0, none⟩) ∧ w1.heap.size ≤ q ∧ Blk W q Of.z.cs 42) ∧ Below w1.heap.size w1 W) rfl rfl (fun _ _ h => .inr h.2) (fun W hW => by
          obtain ⟨w', q, a1, a2, a3, a4⟩ := new_any (t := 42) (cs := Of.z.cs) zv42 W
          exact ⟨_, w', a1, ⟨q, rfl, by have := hW.size; omega, a2⟩, hW.trans (a3.mono hW.size)⟩) ?_
        rintro va ⟨_, ⟨q5, hva, hq5, _⟩, _⟩
        subst hva
        refine AZ.seg [(6, 1, 1), (7, 0, 0), (9, 1, 0)] 0 rfl (by kernel_rfl) (sq_anti _) (by kernel_rfl) ?_
        simp only [opsZ, List.getD_cons_zero, List.getD_cons_succ]
        refine ZE.callV [vb, .int .i64 38] (kv (cutB c 38 32)) (fun W => Blk W q5 Of.z.cs 42 ∧ Below w1.heap.size w1 W) enter59 rfl rfl rfl (fun _ h => .inr h.2) (fun W hW => (keyr_any vb c 38 W ((hb.below e1).below hW.2) (by omega) hl).mono fun e w' ⟨h1, h2⟩ => ⟨h1, (blkOf hW.1).on h2, hW.2.trans (h2.mono hW.2.size)⟩) ?_
        refine ZE.buildN [(0, kv (cutB c 2 32)), (1, u32v (numB (cutB c 34 4))), (2, kv (cutB c 38 32))] rfl rfl rfl rfl sq0 (fun W => bdOf (cutB_len (by omega)) (cutB_len (by omega)) W) ?_
        refine ZE.store (fun W => Blk W q5 (ofD c).cs 42 ∧ Blk W q1 Of.z.cs 42 ∧ Below w.heap.size w W) rfl rfl rfl (fun _ _ => .inl rfl) (fun W hW => by
          obtain ⟨w', a1, a2, a3⟩ := stOf hW.1 Of.z_ok (ofD c) odk
          exact ⟨w', a1, a2, (bp1.on hW.2).fx a3 (fun e => by have := bp1.lt; omega), (e1.trans (hW.2.mono e1.size)).trans (a3.low (by have := e1.size; omega) (by have := hW.2.size; have := e1.size; omega))⟩) ?_
        refine AZ.done (by kernel_rfl) ?_
        rintro w5 ⟨bd5, bp5, sb5⟩
        refine EW.on ?_
        refine EW.seq ?_
        refine EW.seq ?_
        refine EW.region ?_
        first | refine WL.field rfl rfl rfl (f42_0 q5 0 _) ?_ | refine WL.skip _ rfl rfl rfl ?_
        first | refine WL.load rfl rfl rfl (ldOfI bd5 odk) ?_ | refine WL.skip _ rfl rfl rfl ?_
        refine WL.call [kv (ofD c).id] enter62 rfl rfl rfl (zero_any _ odk.i _) ?_
        rintro _ w6 ⟨rfl, be6⟩
        rw [di]
        have bd6 := bd5.on be6
        have bp6 := bp5.on be6
        have sb6 := sb5.trans (be6.mono sb5.size)
        refine ⟨_, rfl, ?_⟩
        first | refine WL.move rfl rfl rfl ?_
        first | refine WL.field rfl rfl rfl (f42_2 q5 0 _) ?_ | refine WL.skip _ rfl rfl rfl ?_
        first | refine WL.load rfl rfl rfl (ldOfK bd6 odk) ?_ | refine WL.skip _ rfl rfl rfl ?_
        refine WL.call [kv (ofD c).key] enter62 rfl rfl rfl (zero_any _ odk.k _) ?_
        rintro _ w7 ⟨rfl, be7⟩
        rw [dk]
        have bd7 := bd6.on be7
        have bp7 := bp6.on be7
        have sb7 := sb6.trans (be7.mono sb6.size)
        refine ⟨_, rfl, ?_⟩
        first | refine WL.pick rfl rfl rfl rfl ?_
        first | refine WL.move rfl rfl rfl ?_
        first | refine WL.field rfl rfl rfl (f42_1 q5 0 _) ?_ | refine WL.skip _ rfl rfl rfl ?_
        first | refine WL.load rfl rfl rfl (ldOfP bd7 odk) ?_ | refine WL.skip _ rfl rfl rfl ?_
        first | refine WL.bin rfl rfl rfl rfl (eqlU _ 0 _ _ _) ?_ | refine WL.skip _ rfl rfl rfl ?_
        try rw [dp]
        first | refine WL.pick rfl rfl rfl rfl ?_
        refine WL.done ?_
        refine EW.on ?_
        refine EW.cond_f rfl ?_
        refine EW.skip ?_
        refine EW.on ?_
        refine EW.seq ?_
        refine EW.region ?_
        refine WL.load rfl rfl rfl (ldOf bd7 odk) ?_
        obtain ⟨we, se, bpe, fe⟩ := stOf bp7 Of.z_ok (ofD c) odk
        refine WL.store rfl rfl rfl se ?_
        have sbe := sb7.trans (fe.low (by omega) sb7.size)
        first | refine WL.assign rfl rfl rfl ?_
        refine WL.done ?_
        refine EW.on ?_
        refine EW.ret ?_
        exact EW.returnsCT Try.results42 rfl rfl bpe Try.underlying42 rfl (i42 odk) ⟨rfl, sbe⟩
    · simp only [List.getD_cons_zero, List.getD_cons_succ]
      refine ZE.new (fun v W => (∃ q, v = .pointer (some ⟨q, 0, none⟩) ∧ w1.heap.size ≤ q ∧ Blk W q Of.z.cs 42) ∧ Below w1.heap.size w1 W) rfl rfl (fun _ _ h => .inr h.2) (fun W hW => by
        obtain ⟨w', q, a1, a2, a3, a4⟩ := new_any (t := 42) (cs := Of.z.cs) zv42 W
        exact ⟨_, w', a1, ⟨q, rfl, by have := hW.size; omega, a2⟩, hW.trans (a3.mono hW.size)⟩) ?_
      rintro va ⟨_, ⟨q5, hva, hq5, _⟩, _⟩
      subst hva
      refine AZ.seg [(4, 1, 1), (6, 1, 1), (7, 0, 0), (9, 1, 0)] 0 rfl (by kernel_rfl) (sq_anti _) (by kernel_rfl) ?_
      simp only [opsZ, List.getD_cons_zero, List.getD_cons_succ]
      refine ZE.callV [cutV vb 34 38] (u32v (numB (cutB c 34 4))) (fun W => Blk W q5 Of.z.cs 42 ∧ Below w1.heap.size w1 W) enter60 rfl rfl rfl (fun _ h => .inr h.2) (fun W hW => (value_any _ (cutB c 34 4) W (((hb.below e1).below hW.2).cut 34 38 (by decide) (by omega)) (by rw [cutB_len (by omega)]; exact Nat.le_refl _)).mono fun e w' ⟨h1, h2⟩ => ⟨h1, by rw [h2]; exact ⟨(blkOf hW.1), hW.2⟩⟩) ?_
      refine ZE.callV [vb, .int .i64 38] (kv (cutB c 38 32)) (fun W => Blk W q5 Of.z.cs 42 ∧ Below w1.heap.size w1 W) enter59 rfl rfl rfl (fun _ h => .inr h.2) (fun W hW => (keyr_any vb c 38 W ((hb.below e1).below hW.2) (by omega) hl).mono fun e w' ⟨h1, h2⟩ => ⟨h1, hW.1.on h2, hW.2.trans (h2.mono hW.2.size)⟩) ?_
      refine ZE.buildN [(0, kv (cutB c 2 32)), (1, u32v (numB (cutB c 34 4))), (2, kv (cutB c 38 32))] rfl rfl rfl rfl sq0 (fun W => bdOf (cutB_len (by omega)) (cutB_len (by omega)) W) ?_
      refine ZE.store (fun W => Blk W q5 (ofD c).cs 42 ∧ Blk W q1 Of.z.cs 42 ∧ Below w.heap.size w W) rfl rfl rfl (fun _ _ => .inl rfl) (fun W hW => by
        obtain ⟨w', a1, a2, a3⟩ := stOf hW.1 Of.z_ok (ofD c) odk
        exact ⟨w', a1, a2, (bp1.on hW.2).fx a3 (fun e => by have := bp1.lt; omega), (e1.trans (hW.2.mono e1.size)).trans (a3.low (by have := e1.size; omega) (by have := hW.2.size; have := e1.size; omega))⟩) ?_
      refine AZ.done (by kernel_rfl) ?_
      rintro w5 ⟨bd5, bp5, sb5⟩
      refine EW.on ?_
      refine EW.seq ?_
      refine EW.seq ?_
      refine EW.region ?_
      first | refine WL.field rfl rfl rfl (f42_0 q5 0 _) ?_ | refine WL.skip _ rfl rfl rfl ?_
      first | refine WL.load rfl rfl rfl (ldOfI bd5 odk) ?_ | refine WL.skip _ rfl rfl rfl ?_
      refine WL.call [kv (ofD c).id] enter62 rfl rfl rfl (zero_any _ odk.i _) ?_
      rintro _ w6 ⟨rfl, be6⟩
      rw [di]
      have bd6 := bd5.on be6
      have bp6 := bp5.on be6
      have sb6 := sb5.trans (be6.mono sb5.size)
      refine ⟨_, rfl, ?_⟩
      first | refine WL.move rfl rfl rfl ?_
      first | refine WL.field rfl rfl rfl (f42_2 q5 0 _) ?_ | refine WL.skip _ rfl rfl rfl ?_
      first | refine WL.load rfl rfl rfl (ldOfK bd6 odk) ?_ | refine WL.skip _ rfl rfl rfl ?_
      refine WL.call [kv (ofD c).key] enter62 rfl rfl rfl (zero_any _ odk.k _) ?_
      rintro _ w7 ⟨rfl, be7⟩
      rw [dk]
      have bd7 := bd6.on be7
      have bp7 := bp6.on be7
      have sb7 := sb6.trans (be7.mono sb6.size)
      refine ⟨_, rfl, ?_⟩
      first | refine WL.pick rfl rfl rfl rfl ?_
      first | refine WL.move rfl rfl rfl ?_
      first | refine WL.field rfl rfl rfl (f42_1 q5 0 _) ?_ | refine WL.skip _ rfl rfl rfl ?_
      first | refine WL.load rfl rfl rfl (ldOfP bd7 odk) ?_ | refine WL.skip _ rfl rfl rfl ?_
      first | refine WL.bin rfl rfl rfl rfl (eqlU _ 0 _ _ _) ?_ | refine WL.skip _ rfl rfl rfl ?_
      try rw [dp]
      first | refine WL.pick rfl rfl rfl rfl ?_
      refine WL.done ?_
      refine EW.on ?_
      refine EW.cond_f rfl ?_
      refine EW.skip ?_
      refine EW.on ?_
      refine EW.seq ?_
      refine EW.region ?_
      refine WL.load rfl rfl rfl (ldOf bd7 odk) ?_
      obtain ⟨we, se, bpe, fe⟩ := stOf bp7 Of.z_ok (ofD c) odk
      refine WL.store rfl rfl rfl se ?_
      have sbe := sb7.trans (fe.low (by omega) sb7.size)
      first | refine WL.assign rfl rfl rfl ?_
      refine WL.done ?_
      refine EW.on ?_
      refine EW.ret ?_
      exact EW.returnsCT Try.results42 rfl rfl bpe Try.underlying42 rfl (i42 odk) ⟨rfl, sbe⟩
  · simp only [List.getD_cons_zero, List.getD_cons_succ]
    refine ZE.new (fun v W => (∃ q, v = .pointer (some ⟨q, 0, none⟩) ∧ w1.heap.size ≤ q ∧ Blk W q Of.z.cs 42) ∧ Below w1.heap.size w1 W) rfl rfl (fun _ _ h => .inr h.2) (fun W hW => by
      obtain ⟨w', q, a1, a2, a3, a4⟩ := new_any (t := 42) (cs := Of.z.cs) zv42 W
      exact ⟨_, w', a1, ⟨q, rfl, by have := hW.size; omega, a2⟩, hW.trans (a3.mono hW.size)⟩) ?_
    rintro va ⟨_, ⟨q5, hva, hq5, _⟩, _⟩
    subst hva
    refine AZ.seg [(1, 1, 1), (4, 1, 1), (6, 1, 1), (7, 0, 0), (9, 1, 0)] 0 rfl (by kernel_rfl) (sq_anti _) (by kernel_rfl) ?_
    simp only [opsZ, List.getD_cons_zero, List.getD_cons_succ]
    refine ZE.callV [vb, .int .i64 2] (kv (cutB c 2 32)) (fun W => Blk W q5 Of.z.cs 42 ∧ Below w1.heap.size w1 W) enter59 rfl rfl rfl (fun _ h => .inr h.2) (fun W hW => (keyr_any vb c 2 W ((hb.below e1).below hW.2) (by omega) hl).mono fun e w' ⟨h1, h2⟩ => ⟨h1, (blkOf hW.1).on h2, hW.2.trans (h2.mono hW.2.size)⟩) ?_
    refine ZE.callV [cutV vb 34 38] (u32v (numB (cutB c 34 4))) (fun W => Blk W q5 Of.z.cs 42 ∧ Below w1.heap.size w1 W) enter60 rfl rfl rfl (fun _ h => .inr h.2) (fun W hW => (value_any _ (cutB c 34 4) W (((hb.below e1).below hW.2).cut 34 38 (by decide) (by omega)) (by rw [cutB_len (by omega)]; exact Nat.le_refl _)).mono fun e w' ⟨h1, h2⟩ => ⟨h1, by rw [h2]; exact ⟨hW.1, hW.2⟩⟩) ?_
    refine ZE.callV [vb, .int .i64 38] (kv (cutB c 38 32)) (fun W => Blk W q5 Of.z.cs 42 ∧ Below w1.heap.size w1 W) enter59 rfl rfl rfl (fun _ h => .inr h.2) (fun W hW => (keyr_any vb c 38 W ((hb.below e1).below hW.2) (by omega) hl).mono fun e w' ⟨h1, h2⟩ => ⟨h1, hW.1.on h2, hW.2.trans (h2.mono hW.2.size)⟩) ?_
    refine ZE.buildN [(0, kv (cutB c 2 32)), (1, u32v (numB (cutB c 34 4))), (2, kv (cutB c 38 32))] rfl rfl rfl rfl sq0 (fun W => bdOf (cutB_len (by omega)) (cutB_len (by omega)) W) ?_
    refine ZE.store (fun W => Blk W q5 (ofD c).cs 42 ∧ Blk W q1 Of.z.cs 42 ∧ Below w.heap.size w W) rfl rfl rfl (fun _ _ => .inl rfl) (fun W hW => by
      obtain ⟨w', a1, a2, a3⟩ := stOf hW.1 Of.z_ok (ofD c) odk
      exact ⟨w', a1, a2, (bp1.on hW.2).fx a3 (fun e => by have := bp1.lt; omega), (e1.trans (hW.2.mono e1.size)).trans (a3.low (by have := e1.size; omega) (by have := hW.2.size; have := e1.size; omega))⟩) ?_
    refine AZ.done (by kernel_rfl) ?_
    rintro w5 ⟨bd5, bp5, sb5⟩
    refine EW.on ?_
    refine EW.seq ?_
    refine EW.seq ?_
    refine EW.region ?_
    first | refine WL.field rfl rfl rfl (f42_0 q5 0 _) ?_ | refine WL.skip _ rfl rfl rfl ?_
    first | refine WL.load rfl rfl rfl (ldOfI bd5 odk) ?_ | refine WL.skip _ rfl rfl rfl ?_
    refine WL.call [kv (ofD c).id] enter62 rfl rfl rfl (zero_any _ odk.i _) ?_
    rintro _ w6 ⟨rfl, be6⟩
    rw [di]
    have bd6 := bd5.on be6
    have bp6 := bp5.on be6
    have sb6 := sb5.trans (be6.mono sb5.size)
    refine ⟨_, rfl, ?_⟩
    first | refine WL.move rfl rfl rfl ?_
    first | refine WL.field rfl rfl rfl (f42_2 q5 0 _) ?_ | refine WL.skip _ rfl rfl rfl ?_
    first | refine WL.load rfl rfl rfl (ldOfK bd6 odk) ?_ | refine WL.skip _ rfl rfl rfl ?_
    refine WL.call [kv (ofD c).key] enter62 rfl rfl rfl (zero_any _ odk.k _) ?_
    rintro _ w7 ⟨rfl, be7⟩
    rw [dk]
    have bd7 := bd6.on be7
    have bp7 := bp6.on be7
    have sb7 := sb6.trans (be7.mono sb6.size)
    refine ⟨_, rfl, ?_⟩
    first | refine WL.pick rfl rfl rfl rfl ?_
    first | refine WL.move rfl rfl rfl ?_
    first | refine WL.field rfl rfl rfl (f42_1 q5 0 _) ?_ | refine WL.skip _ rfl rfl rfl ?_
    first | refine WL.load rfl rfl rfl (ldOfP bd7 odk) ?_ | refine WL.skip _ rfl rfl rfl ?_
    first | refine WL.bin rfl rfl rfl rfl (eqlU _ 0 _ _ _) ?_ | refine WL.skip _ rfl rfl rfl ?_
    try rw [dp]
    first | refine WL.pick rfl rfl rfl rfl ?_
    refine WL.done ?_
    refine EW.on ?_
    refine EW.cond_f rfl ?_
    refine EW.skip ?_
    refine EW.on ?_
    refine EW.seq ?_
    refine EW.region ?_
    refine WL.load rfl rfl rfl (ldOf bd7 odk) ?_
    obtain ⟨we, se, bpe, fe⟩ := stOf bp7 Of.z_ok (ofD c) odk
    refine WL.store rfl rfl rfl se ?_
    have sbe := sb7.trans (fe.low (by omega) sb7.size)
    first | refine WL.assign rfl rfl rfl ?_
    refine WL.done ?_
    refine EW.on ?_
    refine EW.ret ?_
    exact EW.returnsCT Try.results42 rfl rfl bpe Try.underlying42 rfl (i42 odk) ⟨rfl, sbe⟩
theorem rofferr_any (vb : Value) (c : List UInt8) (w : World) (hb : Has w vb c) (hl : c.length ≤ 140737488355328) : Calls Try.prog 42 #[vb] w fun e w' => e = .returned (.tuple #[(ofV c).v, .int .i64 (ofE c)]) ∧ Below w.heap.size w w' := by
  unfold ofV
  by_cases hE : begE c = 0
  · by_cases hk : kdD c = 3
    · have hB : bgD c 3 3 = 0 := bg_0 hE (by omega)
      by_cases h1 : c.length < 70
      · have hu : ofE c = 10 := by unfold ofE; rw [if_pos hE, if_pos hk, if_pos h1]
        rw [hu, if_neg (by decide)]
        exact ror_S vb c w hb hl hB (by omega)
      · by_cases h2 : 70 < c.length
        · have hu : ofE c = 11 := by unfold ofE; rw [if_pos hE, if_pos hk, if_neg h1, if_pos h2]
          rw [hu, if_neg (by decide)]
          exact ror_L vb c w hb hl hB (by omega) (by omega)
        · by_cases hR : rightO (ofD c)
          · have hu : ofE c = 0 := by unfold ofE; rw [if_pos hE, if_pos hk, if_neg h1, if_neg h2, if_pos hR]
            rw [hu, if_pos rfl]
            exact ror_o vb c w hb hl hB (by omega) (by omega) (decide_eq_false hR.1) (decide_eq_false hR.2.1) (decide_eq_false hR.2.2)
          · have hu : ofE c = 170 := by unfold ofE; rw [if_pos hE, if_pos hk, if_neg h1, if_neg h2, if_neg hR]
            rw [hu, if_neg (by decide)]
            by_cases hi : (ofD c).id = z32
            · exact ror_z1 vb c w hb hl hB (by omega) (by omega) (decide_eq_true hi)
            · by_cases hky : (ofD c).key = z32
              · exact ror_z2 vb c w hb hl hB (by omega) (by omega) (decide_eq_false hi) (decide_eq_true hky)
              · by_cases hp : (ofD c).pre = 0
                · exact ror_z3 vb c w hb hl hB (by omega) (by omega) (decide_eq_false hi) (decide_eq_false hky) (decide_eq_true hp)
                · exact absurd ⟨hi, hky, hp⟩ hR
    · have hB : bgD c 3 3 = 103 := bg_k hE (by omega)
      have hu : ofE c = 103 := by unfold ofE; rw [if_pos hE, if_neg hk]
      have h := ror_A vb c w hb hl (by rw [hB]; decide)
      rw [hB] at h
      rw [hu, if_neg (by decide)]
      exact h
  · have hB : bgD c 3 3 = begE c := bg_E hE
    have hu : ofE c = begE c := by unfold ofE; rw [if_neg hE]
    have h := ror_A vb c w hb hl (by rw [hB]; exact hE)
    rw [hB] at h
    rw [hu, if_neg hE]
    exact h
end Go.Proofs.Ytobfebpinkikdaa
