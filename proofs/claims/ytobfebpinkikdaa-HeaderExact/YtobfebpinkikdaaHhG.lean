import Derived.Test.YtobfebpinkikdaaHf
set_option linter.unusedVariables false
set_option linter.unusedSimpArgs false
namespace Go.Proofs.Ytobfebpinkikdaa
open Go.RowKit

theorem ldHl {w : World} {q : Nat} {h : Hl} {t : TypeId} (hb : Blk w q h.cs t) (k : h.ok) : (Instr.loadAt 26 (.pointer (some ⟨q, 0, none⟩))).run Try.prog w = .ok h.v w := run_loadR hb Try.underlying26 rfl (i26 k)
theorem ldHd {w : World} {q : Nat} {h : Hd} {t : TypeId} (hb : Blk w q h.cs t) (k : h.ok) : (Instr.loadAt 30 (.pointer (some ⟨q, 0, none⟩))).run Try.prog w = .ok h.v w := run_loadR hb Try.underlying30 rfl (i30 k)
theorem ldPk {w : World} {q : Nat} {p : Pk} {t : TypeId} (hb : Blk w q p.cs t) (k : p.ok) : (Instr.loadAt 33 (.pointer (some ⟨q, 0, none⟩))).run Try.prog w = .ok p.v w := run_loadR hb Try.underlying33 rfl (i33 k)
theorem ldOf {w : World} {q : Nat} {o : Of} {t : TypeId} (hb : Blk w q o.cs t) (k : o.ok) : (Instr.loadAt 42 (.pointer (some ⟨q, 0, none⟩))).run Try.prog w = .ok o.v w := run_loadR hb Try.underlying42 rfl (i42 k)
theorem ldHlId {w : World} {q : Nat} {h : Hl} {t : TypeId} (hb : Blk w q h.cs t) (k : h.ok) : (Instr.loadAt 23 (.pointer (some ⟨q, 0, none⟩))).run Try.prog w = .ok (kv h.id) w := hb.ldA (a := []) (m := h.id.map byt) u23 rfl (i23 k.i) rfl rfl
theorem ldHlPre {w : World} {q : Nat} {h : Hl} {t : TypeId} (hb : Blk w q h.cs t) (k : h.ok) : (Instr.loadAt 24 (.pointer (some ⟨q, 64, none⟩))).run Try.prog w = .ok (u32v h.pre) w := hb.ldU (a := h.id.map byt ++ h.once.map byt) (b := []) (by simp [Hl.cs]) (by simp [k.i, k.o])
def suitD (k : Int) (h : Hl) : Prop := (k = 2 → h = Hl.z) ∧ (k ≠ 2 → ¬ h.id = z32 ∧ ¬ h.pre = 0)
instance (k : Int) (h : Hl) : Decidable (suitD k h) := by unfold suitD; exact inferInstance
def fltD (k : Int) (h : Hl) (n : Int) : Int := if k = 1 ∨ k = 2 then (if suitD k h then (if n < 32 then 10 else if 544 < n then 5 else 0) else 141) else 103
set_option maxRecDepth 100000 in
set_option maxHeartbeats 1000000 in
theorem isp_any (k : Int) (w : World) : Calls Try.prog 44 #[.int .i64 k] w fun e w' => e = .returned (.bool (decide (k = 1 ∨ k = 2))) ∧ w' = w := by
  by_cases h1 : k = 1
  · refine calls_of_args [.int .i64 k] Try.func44 rfl 9 Try.ntmps44 (by show 1 ≤ 9; decide) ?_
    refine EW.seq ?_
    refine EW.region ?_
    first | refine WL.assign rfl rfl rfl ?_
    refine WL.done ?_
    refine EW.on ?_
    refine EW.seq ?_
    refine EW.region ?_
    first | refine WL.move rfl rfl rfl ?_
    first | refine WL.bin rfl rfl rfl rfl (int_eq_t rfl _ _ _) ?_ | refine WL.bin rfl rfl rfl rfl (int_eq_t ‹_› _ _ _) ?_ | refine WL.bin rfl rfl rfl rfl (int_eq_f ‹_› _ _ _) ?_ | refine WL.bin rfl rfl rfl rfl (int_eq_d _ _ _ _ _) ?_
    first | refine WL.move rfl rfl rfl ?_
    first | refine WL.move rfl rfl rfl ?_ | refine WL.skip _ rfl rfl rfl ?_
    first | refine WL.bin rfl rfl rfl rfl (int_eq_t rfl _ _ _) ?_ | refine WL.bin rfl rfl rfl rfl (int_eq_t ‹_› _ _ _) ?_ | refine WL.bin rfl rfl rfl rfl (int_eq_f ‹_› _ _ _) ?_ | refine WL.bin rfl rfl rfl rfl (int_eq_d _ _ _ _ _) ?_ | refine WL.skip _ rfl rfl rfl ?_
    first | refine WL.pick rfl rfl rfl rfl ?_
    first | refine WL.assign rfl rfl rfl ?_
    refine WL.done ?_
    refine EW.on ?_
    refine EW.ret ?_
    exact EW.returns Try.results44 rfl ⟨by simp [h1], rfl⟩
  · refine calls_of_args [.int .i64 k] Try.func44 rfl 9 Try.ntmps44 (by show 1 ≤ 9; decide) ?_
    refine EW.seq ?_
    refine EW.region ?_
    first | refine WL.assign rfl rfl rfl ?_
    refine WL.done ?_
    refine EW.on ?_
    refine EW.seq ?_
    refine EW.region ?_
    first | refine WL.move rfl rfl rfl ?_
    first | refine WL.bin rfl rfl rfl rfl (int_eq_t rfl _ _ _) ?_ | refine WL.bin rfl rfl rfl rfl (int_eq_t ‹_› _ _ _) ?_ | refine WL.bin rfl rfl rfl rfl (int_eq_f ‹_› _ _ _) ?_ | refine WL.bin rfl rfl rfl rfl (int_eq_d _ _ _ _ _) ?_
    first | refine WL.move rfl rfl rfl ?_
    first | refine WL.move rfl rfl rfl ?_ | refine WL.skip _ rfl rfl rfl ?_
    first | refine WL.bin rfl rfl rfl rfl (int_eq_t rfl _ _ _) ?_ | refine WL.bin rfl rfl rfl rfl (int_eq_t ‹_› _ _ _) ?_ | refine WL.bin rfl rfl rfl rfl (int_eq_f ‹_› _ _ _) ?_ | refine WL.bin rfl rfl rfl rfl (int_eq_d _ _ _ _ _) ?_ | refine WL.skip _ rfl rfl rfl ?_
    first | refine WL.pick rfl rfl rfl rfl ?_
    first | refine WL.assign rfl rfl rfl ?_
    refine WL.done ?_
    refine EW.on ?_
    refine EW.ret ?_
    exact EW.returns Try.results44 rfl ⟨by simp [h1], rfl⟩
set_option maxRecDepth 100000 in
set_option maxHeartbeats 1000000 in
theorem suits_any (k : Int) (h : Hl) (kh : h.ok) (w : World) : Calls Try.prog 45 #[.int .i64 k, h.v] w fun e w' => e = .returned (.bool (decide (suitD k h))) ∧ Below w.heap.size w w' := by
  obtain ⟨w1, q1, r1, bx1, e1, hq1⟩ := box_any 26 h.cs w
  by_cases h1 : k = 2
  · refine calls_of_args [.int .i64 k, h.v] Try.func45 rfl 19 Try.ntmps45 (by show 2 ≤ 19; decide) ?_
    refine EW.seq ?_
    refine EW.region ?_
    refine WL.box rfl rfl rfl r1 ?_
    first | refine WL.assign rfl rfl rfl ?_
    refine WL.done ?_
    refine EW.on ?_
    refine EW.seq ?_
    refine EW.seq ?_
    refine EW.region ?_
    first | refine WL.move rfl rfl rfl ?_
    first | refine WL.bin rfl rfl rfl rfl (int_eq_t rfl _ _ _) ?_ | refine WL.bin rfl rfl rfl rfl (int_eq_t ‹_› _ _ _) ?_ | refine WL.bin rfl rfl rfl rfl (int_eq_f ‹_› _ _ _) ?_ | refine WL.bin rfl rfl rfl rfl (int_eq_d _ _ _ _ _) ?_
    refine WL.done ?_
    refine EW.on ?_
    refine EW.cond_t rfl ?_
    refine EW.seq ?_
    refine EW.region ?_
    refine WL.load rfl rfl rfl (ldHl bx1 kh) ?_
    refine WL.buildN [] rfl rfl rfl (bd26 _) ?_
    refine WL.bin rfl rfl rfl rfl (eql26 _ _ kh Hl.z_ok _ _ _) ?_
    first | refine WL.assign rfl rfl rfl ?_
    refine WL.done ?_
    refine EW.on ?_
    refine EW.ret ?_
    refine pr_then ?_
    exact EW.returns Try.results45 rfl ⟨by simp [suitD, h1], e1⟩
  · by_cases h2 : h.id = z32
    · have hd : decide (¬ h.id = z32) = false := by simp [h2]
      refine calls_of_args [.int .i64 k, h.v] Try.func45 rfl 19 Try.ntmps45 (by show 2 ≤ 19; decide) ?_
      refine EW.seq ?_
      refine EW.region ?_
      refine WL.box rfl rfl rfl r1 ?_
      first | refine WL.assign rfl rfl rfl ?_
      refine WL.done ?_
      refine EW.on ?_
      refine EW.seq ?_
      refine EW.seq ?_
      refine EW.region ?_
      first | refine WL.move rfl rfl rfl ?_
      first | refine WL.bin rfl rfl rfl rfl (int_eq_t rfl _ _ _) ?_ | refine WL.bin rfl rfl rfl rfl (int_eq_t ‹_› _ _ _) ?_ | refine WL.bin rfl rfl rfl rfl (int_eq_f ‹_› _ _ _) ?_ | refine WL.bin rfl rfl rfl rfl (int_eq_d _ _ _ _ _) ?_
      refine WL.done ?_
      refine EW.on ?_
      refine EW.cond_f rfl ?_
      refine EW.skip ?_
      refine EW.on ?_
      refine EW.seq ?_
      refine EW.region ?_
      first | refine WL.field rfl rfl rfl (f26_0 q1 0 _) ?_ | refine WL.skip _ rfl rfl rfl ?_
      refine WL.load rfl rfl rfl (ldHlId bx1 kh) ?_
      refine WL.buildN [] rfl rfl rfl (bd23 _) ?_
      refine WL.bin rfl rfl rfl rfl (neq23 _ _ kh.i rfl _ _ _) ?_
      rw [hd]
      first | refine WL.move rfl rfl rfl ?_
      first | refine WL.field rfl rfl rfl (f26_2 q1 0 _) ?_ | refine WL.skip _ rfl rfl rfl ?_
      first | refine WL.load rfl rfl rfl (ldHlPre bx1 kh) ?_ | refine WL.skip _ rfl rfl rfl ?_
      first | refine WL.bin rfl rfl rfl rfl (neqU _ 0 _ _ _) ?_ | refine WL.skip _ rfl rfl rfl ?_
      first | refine WL.pick rfl rfl rfl rfl ?_
      first | refine WL.assign rfl rfl rfl ?_
      refine WL.done ?_
      refine EW.on ?_
      refine EW.ret ?_
      exact EW.returns Try.results45 rfl ⟨by simp [suitD, h1, h2], e1⟩
    · have hd : decide (¬ h.id = z32) = true := by simp [h2]
      refine calls_of_args [.int .i64 k, h.v] Try.func45 rfl 19 Try.ntmps45 (by show 2 ≤ 19; decide) ?_
      refine EW.seq ?_
      refine EW.region ?_
      refine WL.box rfl rfl rfl r1 ?_
      first | refine WL.assign rfl rfl rfl ?_
      refine WL.done ?_
      refine EW.on ?_
      refine EW.seq ?_
      refine EW.seq ?_
      refine EW.region ?_
      first | refine WL.move rfl rfl rfl ?_
      first | refine WL.bin rfl rfl rfl rfl (int_eq_t rfl _ _ _) ?_ | refine WL.bin rfl rfl rfl rfl (int_eq_t ‹_› _ _ _) ?_ | refine WL.bin rfl rfl rfl rfl (int_eq_f ‹_› _ _ _) ?_ | refine WL.bin rfl rfl rfl rfl (int_eq_d _ _ _ _ _) ?_
      refine WL.done ?_
      refine EW.on ?_
      refine EW.cond_f rfl ?_
      refine EW.skip ?_
      refine EW.on ?_
      refine EW.seq ?_
      refine EW.region ?_
      first | refine WL.field rfl rfl rfl (f26_0 q1 0 _) ?_ | refine WL.skip _ rfl rfl rfl ?_
      refine WL.load rfl rfl rfl (ldHlId bx1 kh) ?_
      refine WL.buildN [] rfl rfl rfl (bd23 _) ?_
      refine WL.bin rfl rfl rfl rfl (neq23 _ _ kh.i rfl _ _ _) ?_
      rw [hd]
      first | refine WL.move rfl rfl rfl ?_
      first | refine WL.field rfl rfl rfl (f26_2 q1 0 _) ?_ | refine WL.skip _ rfl rfl rfl ?_
      first | refine WL.load rfl rfl rfl (ldHlPre bx1 kh) ?_ | refine WL.skip _ rfl rfl rfl ?_
      first | refine WL.bin rfl rfl rfl rfl (neqU _ 0 _ _ _) ?_ | refine WL.skip _ rfl rfl rfl ?_
      first | refine WL.pick rfl rfl rfl rfl ?_
      first | refine WL.assign rfl rfl rfl ?_
      refine WL.done ?_
      refine EW.on ?_
      refine EW.ret ?_
      exact EW.returns Try.results45 rfl ⟨by simp [suitD, h1, h2], e1⟩
set_option maxRecDepth 100000 in
set_option maxHeartbeats 1000000 in
theorem flt_any (k : Int) (h : Hl) (n : Int) (kh : h.ok) (w : World) : Calls Try.prog 19 #[.int .i64 k, h.v, .int .i64 n] w fun e w' => e = .returned (.int .i64 (fltD k h n)) ∧ Below w.heap.size w w' := by
  obtain ⟨w1, q1, r1, bx1, e1, hq1⟩ := box_any 26 h.cs w
  refine calls_of_args [.int .i64 k, h.v, .int .i64 n] Try.func19 rfl 22 Try.ntmps19 (by show 3 ≤ 22; decide) ?_
  refine EW.seq ?_
  refine EW.region ?_
  refine WL.box rfl rfl rfl r1 ?_
  first | refine WL.assign rfl rfl rfl ?_
  refine WL.done ?_
  refine EW.on ?_
  refine EW.seq ?_
  refine EW.block ?_
  refine EW.seq ?_
  refine EW.region ?_
  first | refine WL.move rfl rfl rfl ?_
  refine WL.call [.int .i64 k] enter44 rfl rfl rfl (isp_any k _) ?_
  rintro _ w2 ⟨rfl, hz⟩
  rw [hz]
  clear hz
  refine ⟨_, rfl, ?_⟩
  refine WL.un rfl rfl rfl (not_d _) ?_
  first | refine WL.assign rfl rfl rfl ?_
  refine WL.done ?_
  refine EW.on ?_
  refine EW.cond_d rfl (fun h7 => ?_) (fun h7 => ?_)
  · refine EW.seq ?_
    refine EW.region ?_
    first | refine WL.assign rfl rfl rfl ?_
    refine WL.done ?_
    refine EW.on ?_
    refine EW.ret ?_
    refine pr_block ?_
    refine pr_then ?_
    refine (by first | exact EW.returns Try.results19 rfl ⟨by rw [show fltD k h n = 103 from by unfold fltD; rw [if_neg h7]], e1⟩ | exact EW.returns Try.results19 rfl ⟨by rw [show fltD k h n = 141 from by unfold fltD; rw [if_pos (Classical.not_not.1 h7), if_neg h11]], e1.trans (be3.mono e1.size)⟩ | exact EW.returns Try.results19 rfl ⟨by rw [show fltD k h n = 10 from by unfold fltD; rw [if_pos (Classical.not_not.1 h7), if_pos (Classical.not_not.1 h11), if_pos h16]], e1.trans (be3.mono e1.size)⟩ | exact EW.returns Try.results19 rfl ⟨by rw [show fltD k h n = 5 from by unfold fltD; rw [if_pos (Classical.not_not.1 h7), if_pos (Classical.not_not.1 h11), if_neg h16, if_pos h19]], e1.trans (be3.mono e1.size)⟩ | exact EW.returns Try.results19 rfl ⟨by rw [show fltD k h n = 0 from by unfold fltD; rw [if_pos (Classical.not_not.1 h7), if_pos (Classical.not_not.1 h11), if_neg h16, if_neg h19]], e1.trans (be3.mono e1.size)⟩)
  · refine EW.seq ?_
    refine EW.region ?_
    first | refine WL.move rfl rfl rfl ?_
    refine WL.load rfl rfl rfl (ldHl bx1 kh) ?_
    refine WL.call [.int .i64 k, h.v] enter45 rfl rfl rfl (suits_any k h kh _) ?_
    rintro _ w3 ⟨rfl, be3⟩
    refine ⟨_, rfl, ?_⟩
    refine WL.un rfl rfl rfl (not_d _) ?_
    first | refine WL.assign rfl rfl rfl ?_
    refine WL.done ?_
    refine EW.on ?_
    refine EW.cond_d rfl (fun h11 => ?_) (fun h11 => ?_)
    · refine EW.seq ?_
      refine EW.region ?_
      first | refine WL.assign rfl rfl rfl ?_
      refine WL.done ?_
      refine EW.on ?_
      refine EW.ret ?_
      refine pr_block ?_
      refine pr_then ?_
      refine (by first | exact EW.returns Try.results19 rfl ⟨by rw [show fltD k h n = 103 from by unfold fltD; rw [if_neg h7]], e1⟩ | exact EW.returns Try.results19 rfl ⟨by rw [show fltD k h n = 141 from by unfold fltD; rw [if_pos (Classical.not_not.1 h7), if_neg h11]], e1.trans (be3.mono e1.size)⟩ | exact EW.returns Try.results19 rfl ⟨by rw [show fltD k h n = 10 from by unfold fltD; rw [if_pos (Classical.not_not.1 h7), if_pos (Classical.not_not.1 h11), if_pos h16]], e1.trans (be3.mono e1.size)⟩ | exact EW.returns Try.results19 rfl ⟨by rw [show fltD k h n = 5 from by unfold fltD; rw [if_pos (Classical.not_not.1 h7), if_pos (Classical.not_not.1 h11), if_neg h16, if_pos h19]], e1.trans (be3.mono e1.size)⟩ | exact EW.returns Try.results19 rfl ⟨by rw [show fltD k h n = 0 from by unfold fltD; rw [if_pos (Classical.not_not.1 h7), if_pos (Classical.not_not.1 h11), if_neg h16, if_neg h19]], e1.trans (be3.mono e1.size)⟩)
    · refine EW.seq ?_
      refine EW.region ?_
      first | refine WL.move rfl rfl rfl ?_
      first | refine WL.bin rfl rfl rfl rfl (int_lt_t ‹_› _ _ _) ?_ | refine WL.bin rfl rfl rfl rfl (int_lt_f ‹_› _ _ _) ?_ | refine WL.bin rfl rfl rfl rfl (int_lt_d _ _ _ _ _) ?_
      first | refine WL.assign rfl rfl rfl ?_
      refine WL.done ?_
      refine EW.on ?_
      refine EW.cond_d rfl (fun h16 => ?_) (fun h16 => ?_)
      · refine EW.seq ?_
        refine EW.region ?_
        first | refine WL.assign rfl rfl rfl ?_
        refine WL.done ?_
        refine EW.on ?_
        refine EW.ret ?_
        refine pr_block ?_
        refine pr_then ?_
        refine (by first | exact EW.returns Try.results19 rfl ⟨by rw [show fltD k h n = 103 from by unfold fltD; rw [if_neg h7]], e1⟩ | exact EW.returns Try.results19 rfl ⟨by rw [show fltD k h n = 141 from by unfold fltD; rw [if_pos (Classical.not_not.1 h7), if_neg h11]], e1.trans (be3.mono e1.size)⟩ | exact EW.returns Try.results19 rfl ⟨by rw [show fltD k h n = 10 from by unfold fltD; rw [if_pos (Classical.not_not.1 h7), if_pos (Classical.not_not.1 h11), if_pos h16]], e1.trans (be3.mono e1.size)⟩ | exact EW.returns Try.results19 rfl ⟨by rw [show fltD k h n = 5 from by unfold fltD; rw [if_pos (Classical.not_not.1 h7), if_pos (Classical.not_not.1 h11), if_neg h16, if_pos h19]], e1.trans (be3.mono e1.size)⟩ | exact EW.returns Try.results19 rfl ⟨by rw [show fltD k h n = 0 from by unfold fltD; rw [if_pos (Classical.not_not.1 h7), if_pos (Classical.not_not.1 h11), if_neg h16, if_neg h19]], e1.trans (be3.mono e1.size)⟩)
      · refine EW.seq ?_
        refine EW.region ?_
        first | refine WL.move rfl rfl rfl ?_
        first | refine WL.bin rfl rfl rfl rfl (int_gt_t ‹_› _ _ _) ?_ | refine WL.bin rfl rfl rfl rfl (int_gt_f ‹_› _ _ _) ?_ | refine WL.bin rfl rfl rfl rfl (int_gt_d _ _ _ _ _) ?_
        first | refine WL.assign rfl rfl rfl ?_
        refine WL.done ?_
        refine EW.on ?_
        refine EW.cond_d rfl (fun h19 => ?_) (fun h19 => ?_)
        · refine EW.seq ?_
          refine EW.region ?_
          first | refine WL.assign rfl rfl rfl ?_
          refine WL.done ?_
          refine EW.on ?_
          refine EW.ret ?_
          refine pr_block ?_
          refine pr_then ?_
          refine (by first | exact EW.returns Try.results19 rfl ⟨by rw [show fltD k h n = 103 from by unfold fltD; rw [if_neg h7]], e1⟩ | exact EW.returns Try.results19 rfl ⟨by rw [show fltD k h n = 141 from by unfold fltD; rw [if_pos (Classical.not_not.1 h7), if_neg h11]], e1.trans (be3.mono e1.size)⟩ | exact EW.returns Try.results19 rfl ⟨by rw [show fltD k h n = 10 from by unfold fltD; rw [if_pos (Classical.not_not.1 h7), if_pos (Classical.not_not.1 h11), if_pos h16]], e1.trans (be3.mono e1.size)⟩ | exact EW.returns Try.results19 rfl ⟨by rw [show fltD k h n = 5 from by unfold fltD; rw [if_pos (Classical.not_not.1 h7), if_pos (Classical.not_not.1 h11), if_neg h16, if_pos h19]], e1.trans (be3.mono e1.size)⟩ | exact EW.returns Try.results19 rfl ⟨by rw [show fltD k h n = 0 from by unfold fltD; rw [if_pos (Classical.not_not.1 h7), if_pos (Classical.not_not.1 h11), if_neg h16, if_neg h19]], e1.trans (be3.mono e1.size)⟩)
        · refine EW.skip ?_
          refine pn_block ?_
          refine EW.on ?_
          refine EW.seq ?_
          refine EW.region ?_
          first | refine WL.assign rfl rfl rfl ?_
          refine WL.done ?_
          refine EW.on ?_
          refine EW.ret ?_
          refine (by first | exact EW.returns Try.results19 rfl ⟨by rw [show fltD k h n = 103 from by unfold fltD; rw [if_neg h7]], e1⟩ | exact EW.returns Try.results19 rfl ⟨by rw [show fltD k h n = 141 from by unfold fltD; rw [if_pos (Classical.not_not.1 h7), if_neg h11]], e1.trans (be3.mono e1.size)⟩ | exact EW.returns Try.results19 rfl ⟨by rw [show fltD k h n = 10 from by unfold fltD; rw [if_pos (Classical.not_not.1 h7), if_pos (Classical.not_not.1 h11), if_pos h16]], e1.trans (be3.mono e1.size)⟩ | exact EW.returns Try.results19 rfl ⟨by rw [show fltD k h n = 5 from by unfold fltD; rw [if_pos (Classical.not_not.1 h7), if_pos (Classical.not_not.1 h11), if_neg h16, if_pos h19]], e1.trans (be3.mono e1.size)⟩ | exact EW.returns Try.results19 rfl ⟨by rw [show fltD k h n = 0 from by unfold fltD; rw [if_pos (Classical.not_not.1 h7), if_pos (Classical.not_not.1 h11), if_neg h16, if_neg h19]], e1.trans (be3.mono e1.size)⟩)
end Go.Proofs.Ytobfebpinkikdaa

set_option linter.unusedVariables false
set_option linter.unusedSimpArgs false
namespace Go.Proofs.Ytobfebpinkikdaa
open Go.RowKit

theorem hlHas {w : World} {q1 : Nat} {h : Hl} {t : TypeId} (bx : Blk w q1 h.cs t) (kh : h.ok) : Has w (.slice (some ⟨q1, 0, none⟩) 32 32) h.id ∧ Has w (.slice (some ⟨q1, 32, none⟩) 32 32) h.once := by
  constructor
  · have := bx.has (a := []) (K := h.id) (b := h.once.map byt ++ [u32v h.pre]) (o := 0) rfl rfl 32 (by rw [kh.i]; exact Nat.le_refl _)
    rw [kh.i] at this
    exact this
  · have := bx.has (a := h.id.map byt) (K := h.once) (b := [u32v h.pre]) (o := 32) rfl (by simp [kh.i]) 32 (by rw [kh.o]; exact Nat.le_refl _)
    rw [kh.o] at this
    exact this
set_option maxRecDepth 100000 in
set_option maxHeartbeats 1000000 in
theorem start_any (M : Nat) (hM : M ≤ 1048576) (b q : Nat) (v : Value) (bs : List UInt8) (x : Nat) (hx : x < 256) (w : World) (hw : Wr M w b q v bs) (hbw : b ≤ w.heap.size) (hl : bs.length + 2 ≤ M) : Calls Try.prog 21 #[.pointer (some ⟨q, 0, none⟩), .int .i64 (x : Int)] w (WrS M w b q v (bs ++ [1, UInt8.ofNat x])) := by
  refine calls_of_args [.pointer (some ⟨q, 0, none⟩), .int .i64 (x : Int)] Try.func21 rfl 9 Try.ntmps21 (by show 2 ≤ 9; decide) ?_
  refine EW.seq ?_
  refine EW.region ?_
  first | refine WL.move rfl rfl rfl ?_
  refine WL.call [.pointer (some ⟨q, 0, none⟩), .int .i64 1] enter46 rfl rfl rfl (u8_any M hM b q v _ 1 (by decide) _ hw (by omega) (by first | omega | (simp; omega))) ?_
  rintro _ w2 ⟨rfl, v2, wr2, f2, n2⟩
  refine ⟨_, rfl, ?_⟩
  refine WL.done ?_
  refine EW.on ?_
  refine EW.region ?_
  first | refine WL.move rfl rfl rfl ?_
  first | refine WL.move rfl rfl rfl ?_
  refine WL.call [.pointer (some ⟨q, 0, none⟩), .int .i64 (x : Int)] enter46 rfl rfl rfl (u8_any M hM b q v2 _ x hx _ wr2 (by have := f2.size; omega) (by first | omega | (simp; omega))) ?_
  rintro _ w3 ⟨rfl, v3, wr3, f3, n3⟩
  refine ⟨_, rfl, ?_⟩
  refine WL.done ?_
  exact EW.falls Try.results21 ⟨rfl, v3, by rw [show bs ++ [1, UInt8.ofNat x] = bs ++ [UInt8.ofNat 1] ++ [UInt8.ofNat x] from by simp]; exact wr3, wr_trans f2 n2 f3 n3⟩
set_option maxRecDepth 100000 in
set_option maxHeartbeats 1000000 in
theorem wrHello_any (M : Nat) (hM : M ≤ 1048576) (b q : Nat) (v : Value) (bs : List UInt8) (h : Hl) (kh : h.ok) (w : World) (hw : Wr M w b q v bs) (hbw : b ≤ w.heap.size) (hl : bs.length + 68 ≤ M) : Calls Try.prog 22 #[.pointer (some ⟨q, 0, none⟩), h.v] w (WrS M w b q v (bs ++ encL h)) := by
  obtain ⟨w1, q1, r1, bx1, e1, hq1⟩ := box_any 26 h.cs w
  have l1 := e1.size
  have wr1 := hw.below e1
  have off_x : ∀ o n c ys k, v.ownBlock = some k → Off (.slice (some ⟨q1, o, none⟩) n c) ys k := fun o n c ys k hk => .inr fun e => by
    have := (hw.ob.lt hk).1
    simp only [Value.ownBlock, Option.some.injEq] at e
    omega
  refine calls_of_args [.pointer (some ⟨q, 0, none⟩), h.v] Try.func22 rfl 15 Try.ntmps22 (by show 2 ≤ 15; decide) ?_
  refine EW.seq ?_
  refine EW.region ?_
  refine WL.box rfl rfl rfl r1 ?_
  refine WL.done ?_
  refine EW.on ?_
  refine EW.seq ?_
  refine EW.ordB [(0, 0, 0), (1, 0, 0), (2, 0, 0), (3, 0, 0), (4, 0, 0), (5, 1, 1), (6, 1, 0)] (by kernel_rfl) rfl (by kernel_rfl) ?_
  simp only [opsZ, List.getD_cons_zero, List.getD_cons_succ]
  first | refine ZE.move rfl rfl rfl rfl sz0 ?_
  refine ZE.field rfl rfl rfl rfl sz0 (fun W => f26_0 q1 0 W) ?_
  refine ZE.slice0 rfl rfl rfl rfl sz0 (fun W => sl23 q1 _ W) ?_
  refine ZE.field rfl rfl rfl rfl sz0 (fun W => f26_1 q1 0 W) ?_
  refine ZE.slice0 rfl rfl rfl rfl sz0 (fun W => sl23 q1 _ W) ?_
  refine ZE.bsl [(0, .slice (some ⟨q1, 0, none⟩) 32 32), (1, .slice (some ⟨q1, 32, none⟩) 32 32)] (fun v W' => ∃ W, Below w1.heap.size w1 W ∧ v = .slice (some ⟨W.heap.size, 0, none⟩) 2 2 ∧ W' = W.alloc (.cells [.slice (some ⟨q1, 0, none⟩) 32 32, .slice (some ⟨q1, 32, none⟩) 32 32].toArray 31)) rfl rfl rfl (fun v W' ⟨W, h, _, e⟩ => .inr (by rw [e]; exact h.trans ((below_new _ _).mono h.size))) (fun W hW => ⟨_, _, bsl74_2 _ _ ⟨_, _, _, rfl⟩ ⟨_, _, _, rfl⟩ W, W, hW, rfl, rfl⟩) ?_
  rintro vb ⟨_, Wq, hWq, rfl, _⟩
  refine ZE.callR [.pointer (some ⟨q, 0, none⟩), .slice (some ⟨Wq.heap.size, 0, none⟩) 2 2] (fun u W => u = .tuple #[] ∧ ∃ v', Wr M W b q v' (bs ++ (h.id ++ h.once)) ∧ Fx (fun k => k = q ∨ v.ownBlock = some k) w1 W ∧ Nw w1 v v') enter23 rfl rfl rfl (fun _ _ _ => .inl rfl) ?_ ?_
  · rintro _ ⟨W, hW, hv, rfl⟩
    have hs : W.heap.size = Wq.heap.size := by
      simp only [Value.slice.injEq, Option.some.injEq, Addr.mk.injEq, and_true, true_and] at hv
      exact hv.symm
    have hbW := bx1.on hW
    rw [← hs]
    refine (fixed2 M hM b q v bs _ _ h.id h.once W (wr1.below hW) (by have := hW.size; omega) (hlHas hbW kh).1 (hlHas hbW kh).2 (off_x _ _ _ _) (off_x _ _ _ _) (by rw [kh.i, kh.o]; omega) _ rfl).mono ?_
    rintro e W2 ⟨rfl, v', g1, g2, g3⟩
    exact ⟨_, rfl, rfl, v', g1, wr_after (b := b) hW g2 g3⟩
  rintro vr ⟨Wr2, rfl, _⟩
  rintro w2 ⟨_, v2, wr2, f2, n2⟩
  have bx2 := bx1.fx f2 (wr1.apart bx1 (by decide) (by decide))
  refine EW.on ?_
  refine EW.region ?_
  first | refine WL.move rfl rfl rfl ?_
  refine WL.field rfl rfl rfl (f26_2 q1 0 _) ?_
  refine WL.load rfl rfl rfl (ldHlPre bx2 kh) ?_
  refine WL.call [.pointer (some ⟨q, 0, none⟩), u32v h.pre] enter35 rfl rfl rfl (u32_any M hM b q v2 _ h.pre _ wr2 (by have := f2.size; omega) (by simp [kh.i, kh.o]; omega)) ?_
  rintro _ w3 ⟨rfl, v3, wr3, f3, n3⟩
  refine ⟨_, rfl, ?_⟩
  refine WL.done ?_
  obtain ⟨fa, na⟩ := wr_trans f2 n2 f3 n3
  exact EW.falls Try.results22 ⟨rfl, v3, by simpa [encL] using wr3, wr_after (b := b) e1 fa na⟩
end Go.Proofs.Ytobfebpinkikdaa
