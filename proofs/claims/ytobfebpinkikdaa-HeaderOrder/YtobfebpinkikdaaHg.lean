import Derived.Test.YtobfebpinkikdaaHf
set_option linter.unusedVariables false
set_option linter.unusedSimpArgs false
namespace Go.Proofs.Ytobfebpinkikdaa
open Go.RowKit

theorem ldHl {w : World} {q : Nat} {h : Hl} {t : TypeId} (hb : Blk w q h.cs t) (k : h.ok) : (Instr.loadAt 26 (.pointer (some ⟨q, 0, none⟩))).run Try.prog w = .ok h.v w := run_loadR hb Try.underlying26 rfl (i26 k)
theorem ldHd {w : World} {q : Nat} {h : Hd} {t : TypeId} (hb : Blk w q h.cs t) (k : h.ok) : (Instr.loadAt 30 (.pointer (some ⟨q, 0, none⟩))).run Try.prog w = .ok h.v w := run_loadR hb Try.underlying30 rfl (i30 k)
theorem ldPk {w : World} {q : Nat} {p : Pk} {t : TypeId} (hb : Blk w q p.cs t) (k : p.ok) : (Instr.loadAt 33 (.pointer (some ⟨q, 0, none⟩))).run Try.prog w = .ok p.v w := run_loadR hb Try.underlying33 rfl (i33 k)
theorem ldOf {w : World} {q : Nat} {o : Of} {t : TypeId} (hb : Blk w q o.cs t) (k : o.ok) : (Instr.loadAt 42 (.pointer (some ⟨q, 0, none⟩))).run Try.prog w = .ok o.v w := run_loadR hb Try.underlying42 rfl (i42 k)
theorem ldHlId {w : World} {q : Nat} {h : Hl} {t : TypeId} (hb : Blk w q h.cs t) (k : h.ok) : (Instr.loadAt 23 (.pointer (some ⟨q, 0, none⟩))).run Try.prog w = .ok (kv h.id) w := hb.ldA (a := []) (m := h.id.map byt) u23 rfl (i23 k.i) rfl rfl
theorem ldHlPre {w : World} {q : Nat} {h : Hl} {t : TypeId} (hb : Blk w q h.cs t) (k : h.ok) : (Instr.loadAt 24 (.pointer (some ⟨q, 64, none⟩))).run Try.prog w = .ok (u32v h.pre) w := hb.ldU (a := h.id.map byt ++ h.once.map byt) (b := []) (by simp [Hl.cs]) (by simp [k.i, k.o])
def suitD (k : Int) (h : Hl) : Prop := (k = 2 → h = Hl.z) ∧ (k ≠ 2 → ¬ h.id = z32 ∧ ¬ h.pre = 0)
instance (k : Int) (h : Hl) : Decidable (suitD k h) := by unfold suitD; exact inferInstance
def fltD (k : Int) (h : Hl) (n : Int) : Int := if k = 1 ∨ k = 2 then (if suitD k h then (if n < 32 then 10 else if 544 < n then 5 else 0) else 141) else 103
set_option maxRecDepth 100000 in
set_option maxHeartbeats 1000000 in
theorem isp_any (k : Int) (w : World) : Calls Try.prog 44 #[.int .i64 k] w fun e w' => e = .returned (.bool (decide (k = 1 ∨ k = 2))) ∧ w' = w := by
  by_cases h1 : k = 1
  · refine calls_of_args [.int .i64 k] Try.func44 rfl 9 Try.ntmps44 (by show 1 ≤ 9; decide) ?_
    refine EW.seq ?_
    refine EW.region ?_
    first | refine WL.assign rfl rfl rfl ?_
    refine WL.done ?_
    refine EW.on ?_
    refine EW.seq ?_
    refine EW.region ?_
    first | refine WL.move rfl rfl rfl ?_
    first | refine WL.bin rfl rfl rfl rfl (int_eq_t rfl _ _ _) ?_ | refine WL.bin rfl rfl rfl rfl (int_eq_t ‹_› _ _ _) ?_ | refine WL.bin rfl rfl rfl rfl (int_eq_f ‹_› _ _ _) ?_ | refine WL.bin rfl rfl rfl rfl (int_eq_d _ _ _ _ _) ?_
    first | refine WL.move rfl rfl rfl ?_
    first | refine WL.move rfl rfl rfl ?_ | refine WL.skip _ rfl rfl rfl ?_
    first | refine WL.bin rfl rfl rfl rfl (int_eq_t rfl _ _ _) ?_ | refine WL.bin rfl rfl rfl rfl (int_eq_t ‹_› _ _ _) ?_ | refine WL.bin rfl rfl rfl rfl (int_eq_f ‹_› _ _ _) ?_ | refine WL.bin rfl rfl rfl rfl (int_eq_d _ _ _ _ _) ?_ | refine WL.skip _ rfl rfl rfl ?_
    first | refine WL.pick rfl rfl rfl rfl ?_
    first | refine WL.assign rfl rfl rfl ?_
    refine WL.done ?_
    refine EW.on ?_
    refine EW.ret ?_
    exact EW.returns Try.results44 rfl ⟨by simp [h1], rfl⟩
  · refine calls_of_args [.int .i64 k] Try.func44 rfl 9 Try.ntmps44 (by show 1 ≤ 9; decide) ?_
    refine EW.seq ?_
    refine EW.region ?_
    first | refine WL.assign rfl rfl rfl ?_
    refine WL.done ?_
    refine EW.on ?_
    refine EW.seq ?_
    refine EW.region ?_
    first | refine WL.move rfl rfl rfl ?_
    first | refine WL.bin rfl rfl rfl rfl (int_eq_t rfl _ _ _) ?_ | refine WL.bin rfl rfl rfl rfl (int_eq_t ‹_› _ _ _) ?_ | refine WL.bin rfl rfl rfl rfl (int_eq_f ‹_› _ _ _) ?_ | refine WL.bin rfl rfl rfl rfl (int_eq_d _ _ _ _ _) ?_
    first | refine WL.move rfl rfl rfl ?_
    first | refine WL.move rfl rfl rfl ?_ | refine WL.skip _ rfl rfl rfl ?_
    first | refine WL.bin rfl rfl rfl rfl (int_eq_t rfl _ _ _) ?_ | refine WL.bin rfl rfl rfl rfl (int_eq_t ‹_› _ _ _) ?_ | refine WL.bin rfl rfl rfl rfl (int_eq_f ‹_› _ _ _) ?_ | refine WL.bin rfl rfl rfl rfl (int_eq_d _ _ _ _ _) ?_ | refine WL.skip _ rfl rfl rfl ?_
    first | refine WL.pick rfl rfl rfl rfl ?_
    first | refine WL.assign rfl rfl rfl ?_
    refine WL.done ?_
    refine EW.on ?_
    refine EW.ret ?_
    exact EW.returns Try.results44 rfl ⟨by simp [h1], rfl⟩
set_option maxRecDepth 100000 in
set_option maxHeartbeats 1000000 in
theorem suits_any (k : Int) (h : Hl) (kh : h.ok) (w : World) : Calls Try.prog 45 #[.int .i64 k, h.v] w fun e w' => e = .returned (.bool (decide (suitD k h))) ∧ Below w.heap.size w w' := by
  obtain ⟨w1, q1, r1, bx1, e1, hq1⟩ := box_any 26 h.cs w
  by_cases h1 : k = 2
  · refine calls_of_args [.int .i64 k, h.v] Try.func45 rfl 19 Try.ntmps45 (by show 2 ≤ 19; decide) ?_
    refine EW.seq ?_
    refine EW.region ?_
    refine WL.box rfl rfl rfl r1 ?_
    first | refine WL.assign rfl rfl rfl ?_
    refine WL.done ?_
    refine EW.on ?_
    refine EW.seq ?_
    refine EW.seq ?_
    refine EW.region ?_
    first | refine WL.move rfl rfl rfl ?_
    first | refine WL.bin rfl rfl rfl rfl (int_eq_t rfl _ _ _) ?_ | refine WL.bin rfl rfl rfl rfl (int_eq_t ‹_› _ _ _) ?_ | refine WL.bin rfl rfl rfl rfl (int_eq_f ‹_› _ _ _) ?_ | refine WL.bin rfl rfl rfl rfl (int_eq_d _ _ _ _ _) ?_
    refine WL.done ?_
    refine EW.on ?_
    refine EW.cond_t rfl ?_
    refine EW.seq ?_
    refine EW.region ?_
    refine WL.load rfl rfl rfl (ldHl bx1 kh) ?_
    refine WL.buildN [] rfl rfl rfl (bd26 _) ?_
    refine WL.bin rfl rfl rfl rfl (eql26 _ _ kh Hl.z_ok _ _ _) ?_
    first | refine WL.assign rfl rfl rfl ?_
    refine WL.done ?_
    refine EW.on ?_
    refine EW.ret ?_
    refine pr_then ?_
    exact EW.returns Try.results45 rfl ⟨by simp [suitD, h1], e1⟩
  · by_cases h2 : h.id = z32
    · have hd : decide (¬ h.id = z32) = false := by simp [h2]
      refine calls_of_args [.int .i64 k, h.v] Try.func45 rfl 19 Try.ntmps45 (by show 2 ≤ 19; decide) ?_
      refine EW.seq ?_
      refine EW.region ?_
      refine WL.box rfl rfl rfl r1 ?_
      first | refine WL.assign rfl rfl rfl ?_
      refine WL.done ?_
      refine EW.on ?_
      refine EW.seq ?_
      refine EW.seq ?_
      refine EW.region ?_
      first | refine WL.move rfl rfl rfl ?_
      first | refine WL.bin rfl rfl rfl rfl (int_eq_t rfl _ _ _) ?_ | refine WL.bin rfl rfl rfl rfl (int_eq_t ‹_› _ _ _) ?_ | refine WL.bin rfl rfl rfl rfl (int_eq_f ‹_› _ _ _) ?_ | refine WL.bin rfl rfl rfl rfl (int_eq_d _ _ _ _ _) ?_
      refine WL.done ?_
      refine EW.on ?_
      refine EW.cond_f rfl ?_
      refine EW.skip ?_
      refine EW.on ?_
      refine EW.seq ?_
      refine EW.region ?_
      first | refine WL.field rfl rfl rfl (f26_0 q1 0 _) ?_ | refine WL.skip _ rfl rfl rfl ?_
      refine WL.load rfl rfl rfl (ldHlId bx1 kh) ?_
      refine WL.buildN [] rfl rfl rfl (bd23 _) ?_
      refine WL.bin rfl rfl rfl rfl (neq23 _ _ kh.i rfl _ _ _) ?_
      rw [hd]
      first | refine WL.move rfl rfl rfl ?_
      first | refine WL.field rfl rfl rfl (f26_2 q1 0 _) ?_ | refine WL.skip _ rfl rfl rfl ?_
      first | refine WL.load rfl rfl rfl (ldHlPre bx1 kh) ?_ | refine WL.skip _ rfl rfl rfl ?_
      first | refine WL.bin rfl rfl rfl rfl (neqU _ 0 _ _ _) ?_ | refine WL.skip _ rfl rfl rfl ?_
      first | refine WL.pick rfl rfl rfl rfl ?_
      first | refine WL.assign rfl rfl rfl ?_
      refine WL.done ?_
      refine EW.on ?_
      refine EW.ret ?_
      exact EW.returns Try.results45 rfl ⟨by simp [suitD, h1, h2], e1⟩
    · have hd : decide (¬ h.id = z32) = true := by simp [h2]
      refine calls_of_args [.int .i64 k, h.v] Try.func45 rfl 19 Try.ntmps45 (by show 2 ≤ 19; decide) ?_
      refine EW.seq ?_
      refine EW.region ?_
      refine WL.box rfl rfl rfl r1 ?_
      first | refine WL.assign rfl rfl rfl ?_
      refine WL.done ?_
      refine EW.on ?_
      refine EW.seq ?_
      refine EW.seq ?_
      refine EW.region ?_
      first | refine WL.move rfl rfl rfl ?_
      first | refine WL.bin rfl rfl rfl rfl (int_eq_t rfl _ _ _) ?_ | refine WL.bin rfl rfl rfl rfl (int_eq_t ‹_› _ _ _) ?_ | refine WL.bin rfl rfl rfl rfl (int_eq_f ‹_› _ _ _) ?_ | refine WL.bin rfl rfl rfl rfl (int_eq_d _ _ _ _ _) ?_
      refine WL.done ?_
      refine EW.on ?_
      refine EW.cond_f rfl ?_
      refine EW.skip ?_
      refine EW.on ?_
      refine EW.seq ?_
      refine EW.region ?_
      first | refine WL.field rfl rfl rfl (f26_0 q1 0 _) ?_ | refine WL.skip _ rfl rfl rfl ?_
      refine WL.load rfl rfl rfl (ldHlId bx1 kh) ?_
      refine WL.buildN [] rfl rfl rfl (bd23 _) ?_
      refine WL.bin rfl rfl rfl rfl (neq23 _ _ kh.i rfl _ _ _) ?_
      rw [hd]
      first | refine WL.move rfl rfl rfl ?_
      first | refine WL.field rfl rfl rfl (f26_2 q1 0 _) ?_ | refine WL.skip _ rfl rfl rfl ?_
      first | refine WL.load rfl rfl rfl (ldHlPre bx1 kh) ?_ | refine WL.skip _ rfl rfl rfl ?_
      first | refine WL.bin rfl rfl rfl rfl (neqU _ 0 _ _ _) ?_ | refine WL.skip _ rfl rfl rfl ?_
      first | refine WL.pick rfl rfl rfl rfl ?_
      first | refine WL.assign rfl rfl rfl ?_
      refine WL.done ?_
      refine EW.on ?_
      refine EW.ret ?_
      exact EW.returns Try.results45 rfl ⟨by simp [suitD, h1, h2], e1⟩
set_option maxRecDepth 100000 in
set_option maxHeartbeats 1000000 in
theorem flt_any (k : Int) (h : Hl) (n : Int) (kh : h.ok) (w : World) : Calls Try.prog 19 #[.int .i64 k, h.v, .int .i64 n] w fun e w' => e = .returned (.int .i64 (fltD k h n)) ∧ Below w.heap.size w w' := by
  obtain ⟨w1, q1, r1, bx1, e1, hq1⟩ := box_any 26 h.cs w
  refine calls_of_args [.int .i64 k, h.v, .int .i64 n] Try.func19 rfl 22 Try.ntmps19 (by show 3 ≤ 22; decide) ?_
  refine EW.seq ?_
  refine EW.region ?_
  refine WL.box rfl rfl rfl r1 ?_
  first | refine WL.assign rfl rfl rfl ?_
  refine WL.done ?_
  refine EW.on ?_
  refine EW.seq ?_
  refine EW.block ?_
  refine EW.seq ?_
  refine EW.region ?_
  first | refine WL.move rfl rfl rfl ?_
  refine WL.call [.int .i64 k] enter44 rfl rfl rfl (isp_any k _) ?_
  rintro _ w2 ⟨rfl, hz⟩
  rw [hz]
  clear hz
  refine ⟨_, rfl, ?_⟩
  refine WL.un rfl rfl rfl (not_d _) ?_
  first | refine WL.assign rfl rfl rfl ?_
  refine WL.done ?_
  refine EW.on ?_
  refine EW.cond_d rfl (fun h7 => ?_) (fun h7 => ?_)
  · refine EW.seq ?_
    refine EW.region ?_
    first | refine WL.assign rfl rfl rfl ?_
    refine WL.done ?_
    refine EW.on ?_
    refine EW.ret ?_
    refine pr_block ?_
    refine pr_then ?_
    refine (by first | exact EW.returns Try.results19 rfl ⟨by rw [show fltD k h n = 103 from by unfold fltD; rw [if_neg h7]], e1⟩ | exact EW.returns Try.results19 rfl ⟨by rw [show fltD k h n = 141 from by unfold fltD; rw [if_pos (Classical.not_not.1 h7), if_neg h11]], e1.trans (be3.mono e1.size)⟩ | exact EW.returns Try.results19 rfl ⟨by rw [show fltD k h n = 10 from by unfold fltD; rw [if_pos (Classical.not_not.1 h7), if_pos (Classical.not_not.1 h11), if_pos h16]], e1.trans (be3.mono e1.size)⟩ | exact EW.returns Try.results19 rfl ⟨by rw [show fltD k h n = 5 from by unfold fltD; rw [if_pos (Classical.not_not.1 h7), if_pos (Classical.not_not.1 h11), if_neg h16, if_pos h19]], e1.trans (be3.mono e1.size)⟩ | exact EW.returns Try.results19 rfl ⟨by rw [show fltD k h n = 0 from by unfold fltD; rw [if_pos (Classical.not_not.1 h7), if_pos (Classical.not_not.1 h11), if_neg h16, if_neg h19]], e1.trans (be3.mono e1.size)⟩)
  · refine EW.seq ?_
    refine EW.region ?_
    first | refine WL.move rfl rfl rfl ?_
    refine WL.load rfl rfl rfl (ldHl bx1 kh) ?_
    refine WL.call [.int .i64 k, h.v] enter45 rfl rfl rfl (suits_any k h kh _) ?_
    rintro _ w3 ⟨rfl, be3⟩
    refine ⟨_, rfl, ?_⟩
    refine WL.un rfl rfl rfl (not_d _) ?_
    first | refine WL.assign rfl rfl rfl ?_
    refine WL.done ?_
    refine EW.on ?_
    refine EW.cond_d rfl (fun h11 => ?_) (fun h11 => ?_)
    · refine EW.seq ?_
      refine EW.region ?_
      first | refine WL.assign rfl rfl rfl ?_
      refine WL.done ?_
      refine EW.on ?_
      refine EW.ret ?_
      refine pr_block ?_
      refine pr_then ?_
      refine (by first | exact EW.returns Try.results19 rfl ⟨by rw [show fltD k h n = 103 from by unfold fltD; rw [if_neg h7]], e1⟩ | exact EW.returns Try.results19 rfl ⟨by rw [show fltD k h n = 141 from by unfold fltD; rw [if_pos (Classical.not_not.1 h7), if_neg h11]], e1.trans (be3.mono e1.size)⟩ | exact EW.returns Try.results19 rfl ⟨by rw [show fltD k h n = 10 from by unfold fltD; rw [if_pos (Classical.not_not.1 h7), if_pos (Classical.not_not.1 h11), if_pos h16]], e1.trans (be3.mono e1.size)⟩ | exact EW.returns Try.results19 rfl ⟨by rw [show fltD k h n = 5 from by unfold fltD; rw [if_pos (Classical.not_not.1 h7), if_pos (Classical.not_not.1 h11), if_neg h16, if_pos h19]], e1.trans (be3.mono e1.size)⟩ | exact EW.returns Try.results19 rfl ⟨by rw [show fltD k h n = 0 from by unfold fltD; rw [if_pos (Classical.not_not.1 h7), if_pos (Classical.not_not.1 h11), if_neg h16, if_neg h19]], e1.trans (be3.mono e1.size)⟩)
    · refine EW.seq ?_
      refine EW.region ?_
      first | refine WL.move rfl rfl rfl ?_
      first | refine WL.bin rfl rfl rfl rfl (int_lt_t ‹_› _ _ _) ?_ | refine WL.bin rfl rfl rfl rfl (int_lt_f ‹_› _ _ _) ?_ | refine WL.bin rfl rfl rfl rfl (int_lt_d _ _ _ _ _) ?_
      first | refine WL.assign rfl rfl rfl ?_
      refine WL.done ?_
      refine EW.on ?_
      refine EW.cond_d rfl (fun h16 => ?_) (fun h16 => ?_)
      · refine EW.seq ?_
        refine EW.region ?_
        first | refine WL.assign rfl rfl rfl ?_
        refine WL.done ?_
        refine EW.on ?_
        refine EW.ret ?_
        refine pr_block ?_
        refine pr_then ?_
        refine (by first | exact EW.returns Try.results19 rfl ⟨by rw [show fltD k h n = 103 from by unfold fltD; rw [if_neg h7]], e1⟩ | exact EW.returns Try.results19 rfl ⟨by rw [show fltD k h n = 141 from by unfold fltD; rw [if_pos (Classical.not_not.1 h7), if_neg h11]], e1.trans (be3.mono e1.size)⟩ | exact EW.returns Try.results19 rfl ⟨by rw [show fltD k h n = 10 from by unfold fltD; rw [if_pos (Classical.not_not.1 h7), if_pos (Classical.not_not.1 h11), if_pos h16]], e1.trans (be3.mono e1.size)⟩ | exact EW.returns Try.results19 rfl ⟨by rw [show fltD k h n = 5 from by unfold fltD; rw [if_pos (Classical.not_not.1 h7), if_pos (Classical.not_not.1 h11), if_neg h16, if_pos h19]], e1.trans (be3.mono e1.size)⟩ | exact EW.returns Try.results19 rfl ⟨by rw [show fltD k h n = 0 from by unfold fltD; rw [if_pos (Classical.not_not.1 h7), if_pos (Classical.not_not.1 h11), if_neg h16, if_neg h19]], e1.trans (be3.mono e1.size)⟩)
      · refine EW.seq ?_
        refine EW.region ?_
        first | refine WL.move rfl rfl rfl ?_
        first | refine WL.bin rfl rfl rfl rfl (int_gt_t ‹_› _ _ _) ?_ | refine WL.bin rfl rfl rfl rfl (int_gt_f ‹_› _ _ _) ?_ | refine WL.bin rfl rfl rfl rfl (int_gt_d _ _ _ _ _) ?_
        first | refine WL.assign rfl rfl rfl ?_
        refine WL.done ?_
        refine EW.on ?_
        refine EW.cond_d rfl (fun h19 => ?_) (fun h19 => ?_)
        · refine EW.seq ?_
          refine EW.region ?_
          first | refine WL.assign rfl rfl rfl ?_
          refine WL.done ?_
          refine EW.on ?_
          refine EW.ret ?_
          refine pr_block ?_
          refine pr_then ?_
          refine (by first | exact EW.returns Try.results19 rfl ⟨by rw [show fltD k h n = 103 from by unfold fltD; rw [if_neg h7]], e1⟩ | exact EW.returns Try.results19 rfl ⟨by rw [show fltD k h n = 141 from by unfold fltD; rw [if_pos (Classical.not_not.1 h7), if_neg h11]], e1.trans (be3.mono e1.size)⟩ | exact EW.returns Try.results19 rfl ⟨by rw [show fltD k h n = 10 from by unfold fltD; rw [if_pos (Classical.not_not.1 h7), if_pos (Classical.not_not.1 h11), if_pos h16]], e1.trans (be3.mono e1.size)⟩ | exact EW.returns Try.results19 rfl ⟨by rw [show fltD k h n = 5 from by unfold fltD; rw [if_pos (Classical.not_not.1 h7), if_pos (Classical.not_not.1 h11), if_neg h16, if_pos h19]], e1.trans (be3.mono e1.size)⟩ | exact EW.returns Try.results19 rfl ⟨by rw [show fltD k h n = 0 from by unfold fltD; rw [if_pos (Classical.not_not.1 h7), if_pos (Classical.not_not.1 h11), if_neg h16, if_neg h19]], e1.trans (be3.mono e1.size)⟩)
        · refine EW.skip ?_
          refine pn_block ?_
          refine EW.on ?_
          refine EW.seq ?_
          refine EW.region ?_
          first | refine WL.assign rfl rfl rfl ?_
          refine WL.done ?_
          refine EW.on ?_
          refine EW.ret ?_
          refine (by first | exact EW.returns Try.results19 rfl ⟨by rw [show fltD k h n = 103 from by unfold fltD; rw [if_neg h7]], e1⟩ | exact EW.returns Try.results19 rfl ⟨by rw [show fltD k h n = 141 from by unfold fltD; rw [if_pos (Classical.not_not.1 h7), if_neg h11]], e1.trans (be3.mono e1.size)⟩ | exact EW.returns Try.results19 rfl ⟨by rw [show fltD k h n = 10 from by unfold fltD; rw [if_pos (Classical.not_not.1 h7), if_pos (Classical.not_not.1 h11), if_pos h16]], e1.trans (be3.mono e1.size)⟩ | exact EW.returns Try.results19 rfl ⟨by rw [show fltD k h n = 5 from by unfold fltD; rw [if_pos (Classical.not_not.1 h7), if_pos (Classical.not_not.1 h11), if_neg h16, if_pos h19]], e1.trans (be3.mono e1.size)⟩ | exact EW.returns Try.results19 rfl ⟨by rw [show fltD k h n = 0 from by unfold fltD; rw [if_pos (Classical.not_not.1 h7), if_pos (Classical.not_not.1 h11), if_neg h16, if_neg h19]], e1.trans (be3.mono e1.size)⟩)
end Go.Proofs.Ytobfebpinkikdaa
