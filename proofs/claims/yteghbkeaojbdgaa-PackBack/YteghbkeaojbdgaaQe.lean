import Derived.Test.YteghbkeaojbdgaaQd
set_option linter.unusedVariables false
set_option linter.unusedSimpArgs false
namespace Go.Proofs.Yteghbkeaojbdgaa
open Go.RowKit

set_option maxRecDepth 100000 in
set_option maxHeartbeats 1000000 in
theorem rrun_bad (q : Nat) (v : Value) (c : List UInt8) (at_ : Nat) (f : Int) (hf : ¬ f = 0) (w : World) (hr : Rd w q v c at_ f) : Calls Try.prog 51 #[.pointer (some ⟨q, 0, none⟩), .int .i64 900] w fun e w' => e = .returned (.slice none 0 0) ∧ w' = w := by
  refine calls_of_args [.pointer (some ⟨q, 0, none⟩), .int .i64 900] Try.func51 rfl 68 Try.ntmps51 (by show 2 ≤ 68; decide) ?_
  refine EW.seq ?_
  refine EW.region ?_
  first | refine WL.assign rfl rfl rfl ?_
  refine WL.done ?_
  refine EW.on ?_
  refine EW.scopeS ?_
  refine EW.seq ?_
  refine EW.region ?_
  first | refine WL.assign rfl rfl rfl ?_
  refine WL.done ?_
  refine EW.on ?_
  refine EW.seq ?_
  refine EW.region ?_
  first | refine WL.assign rfl rfl rfl ?_
  refine WL.done ?_
  refine EW.on ?_
  refine EW.seq ?_
  refine EW.seq ?_
  refine EW.region ?_
  first | refine WL.move rfl rfl rfl ?_
  first | refine WL.nilc rfl rfl rfl ?_
  refine WL.field rfl rfl rfl (f78_2 q _) ?_
  refine WL.load rfl rfl rfl (ldE hr.bl rfl) ?_
  first | refine WL.bin rfl rfl rfl rfl (int_ne_f rfl _ _ _) ?_ | refine WL.bin rfl rfl rfl rfl (int_ne_t ‹_› _ _ _) ?_ | refine WL.bin rfl rfl rfl rfl (int_ne_f ‹_› _ _ _) ?_ | refine WL.bin rfl rfl rfl rfl (int_ne_t (by decide) _ _ _) ?_ | refine WL.bin rfl rfl rfl rfl (int_ne_d _ _ _ _ _) ?_
  refine WL.done ?_
  refine EW.on ?_
  refine EW.cond_t rfl ?_
  refine EW.seq ?_
  refine EW.region ?_
  first | refine WL.assign rfl rfl rfl ?_
  refine WL.done ?_
  refine EW.on ?_
  refine EW.ret ?_
  refine pr_then ?_
  refine pr_ng ?_
  exact EW.returns Try.results51 rfl ⟨rfl, rfl⟩
set_option maxRecDepth 100000 in
set_option maxHeartbeats 1000000 in
theorem rrun_s1 (q : Nat) (v : Value) (c : List UInt8) (at_ : Nat) (w : World) (hr : Rd w q v c at_ 0) (hl : c.length ≤ 100000) (h2 : c.length < at_ + 2) : Calls Try.prog 51 #[.pointer (some ⟨q, 0, none⟩), .int .i64 900] w fun e w' => e = .returned (.slice none 0 0) ∧ Rd w' q v c at_ 10 ∧ Fx (fun k => k = q) w w' := by
  have z14 : ((c.length - at_ : Nat) : Int) < 2 := by have := hr.le; omega
  refine calls_of_args [.pointer (some ⟨q, 0, none⟩), .int .i64 900] Try.func51 rfl 68 Try.ntmps51 (by show 2 ≤ 68; decide) ?_
  refine EW.seq ?_
  refine EW.region ?_
  first | refine WL.assign rfl rfl rfl ?_
  refine WL.done ?_
  refine EW.on ?_
  refine EW.scope 0 [(0, .pointer (some ⟨q, 0, none⟩)), (5, .int .i64 10)] (fun W => Below w.heap.size w W) rfl ?_ ?_
  · refine EW.seq ?_
    refine EW.region ?_
    first | refine WL.assign rfl rfl rfl ?_
    refine WL.done ?_
    refine EW.on ?_
    refine EW.seq ?_
    refine EW.region ?_
    first | refine WL.assign rfl rfl rfl ?_
    refine WL.done ?_
    refine EW.on ?_
    refine EW.seq ?_
    refine EW.seq ?_
    refine EW.region ?_
    first | refine WL.move rfl rfl rfl ?_
    first | refine WL.nilc rfl rfl rfl ?_
    refine WL.field rfl rfl rfl (f78_2 q _) ?_
    refine WL.load rfl rfl rfl (ldE hr.bl rfl) ?_
    first | refine WL.bin rfl rfl rfl rfl (int_ne_f rfl _ _ _) ?_ | refine WL.bin rfl rfl rfl rfl (int_ne_t ‹_› _ _ _) ?_ | refine WL.bin rfl rfl rfl rfl (int_ne_f ‹_› _ _ _) ?_ | refine WL.bin rfl rfl rfl rfl (int_ne_t (by decide) _ _ _) ?_ | refine WL.bin rfl rfl rfl rfl (int_ne_d _ _ _ _ _) ?_
    refine WL.done ?_
    refine EW.on ?_
    refine EW.cond_f rfl ?_
    refine EW.skip ?_
    refine EW.on ?_
    refine EW.seq ?_
    refine EW.seq ?_
    refine EW.region ?_
    first | refine WL.move rfl rfl rfl ?_
    refine WL.call [.pointer (some ⟨q, 0, none⟩)] enter32 rfl rfl rfl (left_any q v c at_ 0 _ hr hl) ?_
    rintro _ w1 ⟨rfl, be1⟩
    have r1 := hr.below be1
    refine ⟨_, rfl, ?_⟩
    refine WL.bin rfl rfl rfl rfl (int_lt_t z14 _ _ _) ?_
    refine WL.done ?_
    refine EW.on ?_
    refine EW.cond_t rfl ?_
    refine EW.seq ?_
    refine EW.region ?_
    first | refine WL.assign rfl rfl rfl ?_
    refine WL.done ?_
    refine EW.on ?_
    refine EW.goto ?_
    refine pg_then ?_
    exact EW.jumps [0, 5] rfl be1
  · intro wj hj
    have rj := hr.below hj
    show EW _ _ _ _ [(0, .pointer (some ⟨q, 0, none⟩)), (5, .int .i64 10)] _
    refine EW.seq ?_
    refine EW.skip ?_
    refine EW.on ?_
    refine EW.seq ?_
    refine EW.region ?_
    first | refine WL.move rfl rfl rfl ?_
    first | refine WL.move rfl rfl rfl ?_
    first | refine WL.nilc rfl rfl rfl ?_
    refine WL.field rfl rfl rfl (f78_2 q _) ?_
    obtain ⟨w8, s8, r8, x8⟩ := rj.fail 10
    refine WL.store rfl rfl rfl s8 ?_
    refine WL.done ?_
    refine EW.on ?_
    refine EW.seq ?_
    refine EW.region ?_
    first | refine WL.assign rfl rfl rfl ?_
    refine WL.done ?_
    refine EW.on ?_
    refine EW.ret ?_
    refine pr_jump ?_
    exact EW.returns Try.results51 rfl ⟨rfl, r8, (Fx.of_below hj).and x8⟩
set_option maxRecDepth 100000 in
set_option maxHeartbeats 1000000 in
theorem rrun_ov (q : Nat) (v : Value) (c : List UInt8) (at_ : Nat) (w : World) (hr : Rd w q v c at_ 0) (hl : c.length ≤ 100000) (h2 : at_ + 2 ≤ c.length) (N : Nat) (hN : numB ((c.drop at_).take 2) = N) (h9 : 900 < N) : Calls Try.prog 51 #[.pointer (some ⟨q, 0, none⟩), .int .i64 900] w fun e w' => e = .returned (.slice none 0 0) ∧ Rd w' q v c at_ 12 ∧ Fx (fun k => k = q) w w' := by
  have z14 : ¬ ((c.length - at_ : Nat) : Int) < 2 := by omega
  have a2 : IntKind.i64.wrap ((at_ : Int) + 2) = ((at_ + 2 : Nat) : Int) := by rw [IntKind.wrap_i64]; omega
  have hN6 : N < 65536 := by rw [← hN]; exact numB_lt _ (by simp; omega)
  have z33 : (900 : Int) < (N : Int) := by omega
  refine calls_of_args [.pointer (some ⟨q, 0, none⟩), .int .i64 900] Try.func51 rfl 68 Try.ntmps51 (by show 2 ≤ 68; decide) ?_
  refine EW.seq ?_
  refine EW.region ?_
  first | refine WL.assign rfl rfl rfl ?_
  refine WL.done ?_
  refine EW.on ?_
  refine EW.scope 0 [(0, .pointer (some ⟨q, 0, none⟩)), (5, .int .i64 12)] (fun W => Below w.heap.size w W) rfl ?_ ?_
  · refine EW.seq ?_
    refine EW.region ?_
    first | refine WL.assign rfl rfl rfl ?_
    refine WL.done ?_
    refine EW.on ?_
    refine EW.seq ?_
    refine EW.region ?_
    first | refine WL.assign rfl rfl rfl ?_
    refine WL.done ?_
    refine EW.on ?_
    refine EW.seq ?_
    refine EW.seq ?_
    refine EW.region ?_
    first | refine WL.move rfl rfl rfl ?_
    first | refine WL.nilc rfl rfl rfl ?_
    refine WL.field rfl rfl rfl (f78_2 q _) ?_
    refine WL.load rfl rfl rfl (ldE hr.bl rfl) ?_
    first | refine WL.bin rfl rfl rfl rfl (int_ne_f rfl _ _ _) ?_ | refine WL.bin rfl rfl rfl rfl (int_ne_t ‹_› _ _ _) ?_ | refine WL.bin rfl rfl rfl rfl (int_ne_f ‹_› _ _ _) ?_ | refine WL.bin rfl rfl rfl rfl (int_ne_t (by decide) _ _ _) ?_ | refine WL.bin rfl rfl rfl rfl (int_ne_d _ _ _ _ _) ?_
    refine WL.done ?_
    refine EW.on ?_
    refine EW.cond_f rfl ?_
    refine EW.skip ?_
    refine EW.on ?_
    refine EW.seq ?_
    refine EW.seq ?_
    refine EW.region ?_
    first | refine WL.move rfl rfl rfl ?_
    refine WL.call [.pointer (some ⟨q, 0, none⟩)] enter32 rfl rfl rfl (left_any q v c at_ 0 _ hr hl) ?_
    rintro _ w1 ⟨rfl, be1⟩
    have r1 := hr.below be1
    refine ⟨_, rfl, ?_⟩
    refine WL.bin rfl rfl rfl rfl (int_lt_f z14 _ _ _) ?_
    refine WL.done ?_
    refine EW.on ?_
    refine EW.cond_f rfl ?_
    refine EW.skip ?_
    refine EW.on ?_
    refine EW.seq ?_
    refine EW.ordB [(0, 0, 0), (1, 0, 0), (2, 0, 0), (3, 0, 1), (4, 0, 0), (5, 0, 0), (6, 0, 0), (7, 0, 1), (8, 0, 0), (9, 0, 0), (10, 0, 0), (11, 0, 1), (12, 0, 0), (13, 0, 0), (14, 1, 1), (15, 0, 1), (16, 0, 0)] (by kernel_rfl) rfl (by kernel_rfl) ?_
    simp only [opsZ, List.getD_cons_zero, List.getD_cons_succ]
    first | refine ZE.move rfl rfl rfl rfl sz0 ?_
    first | refine ZE.nilc rfl rfl rfl rfl sz0 ?_
    refine ZE.field rfl rfl rfl rfl sz0 (fun W => f78_0 q W) ?_
    refine ZE.load rfl rfl rfl rfl sz1 (fun W hW => ldS (r1.bl.on (sb_of hW)) rfl) ?_
    first | refine ZE.move rfl rfl rfl rfl sz0 ?_
    first | refine ZE.nilc rfl rfl rfl rfl sz0 ?_
    refine ZE.field rfl rfl rfl rfl sz0 (fun W => f78_1 q W) ?_
    refine ZE.load rfl rfl rfl rfl sz1 (fun W hW => ldI (r1.bl.on (sb_of hW)) rfl) ?_
    first | refine ZE.move rfl rfl rfl rfl sz0 ?_
    first | refine ZE.nilc rfl rfl rfl rfl sz0 ?_
    refine ZE.field rfl rfl rfl rfl sz0 (fun W => f78_1 q W) ?_
    refine ZE.load rfl rfl rfl rfl sz1 (fun W hW => ldI (r1.bl.on (sb_of hW)) rfl) ?_
    refine ZE.bin rfl rfl rfl rfl rfl sz0 (fun W => int_add a2 W _ _) ?_
    refine ZE.slice2 rfl rfl rfl rfl rfl rfl sz0 (fun W => by rw [sl22]; exact r1.hs.cutLH at_ (at_ + 2) (by omega) h2 W) ?_
    refine ZE.callB (v := .int .u32 (N : Int)) [cutV v at_ (at_ + 2)] enter53 rfl rfl rfl (fun W h => .inr h) (fun W hW => (number_any _ ((c.drop at_).take 2) W (by have := (r1.hs.below hW).cut at_ (at_ + 2) (by omega) h2; rw [show at_ + 2 - at_ = 2 by omega] at this; exact this) (by simp; omega)).mono fun e w' h => ⟨by rw [h.1, hN], by rw [h.2]; exact Below.refl _ _⟩) ?_
    refine ZE.conv rfl rfl rfl rfl sz1 (fun W _ => conv_n hN6 W) ?_
    first | refine ZE.assign rfl rfl rfl rfl sz0 ?_
    intro w2 be2
    refine EW.on ?_
    refine EW.seq ?_
    refine EW.seq ?_
    refine EW.region ?_
    first | refine WL.move rfl rfl rfl ?_
    first | refine WL.move rfl rfl rfl ?_
    refine WL.bin rfl rfl rfl rfl (int_gt_t z33 _ _ _) ?_
    refine WL.done ?_
    refine EW.on ?_
    refine EW.cond_t rfl ?_
    refine EW.seq ?_
    refine EW.region ?_
    first | refine WL.assign rfl rfl rfl ?_
    refine WL.done ?_
    refine EW.on ?_
    refine EW.goto ?_
    refine pg_then ?_
    exact EW.jumps [0, 5] rfl (be1.trans (be2.mono be1.size))
  · intro wj hj
    have rj := hr.below hj
    show EW _ _ _ _ [(0, .pointer (some ⟨q, 0, none⟩)), (5, .int .i64 12)] _
    refine EW.seq ?_
    refine EW.skip ?_
    refine EW.on ?_
    refine EW.seq ?_
    refine EW.region ?_
    first | refine WL.move rfl rfl rfl ?_
    first | refine WL.move rfl rfl rfl ?_
    first | refine WL.nilc rfl rfl rfl ?_
    refine WL.field rfl rfl rfl (f78_2 q _) ?_
    obtain ⟨w8, s8, r8, x8⟩ := rj.fail 12
    refine WL.store rfl rfl rfl s8 ?_
    refine WL.done ?_
    refine EW.on ?_
    refine EW.seq ?_
    refine EW.region ?_
    first | refine WL.assign rfl rfl rfl ?_
    refine WL.done ?_
    refine EW.on ?_
    refine EW.ret ?_
    refine pr_jump ?_
    exact EW.returns Try.results51 rfl ⟨rfl, r8, (Fx.of_below hj).and x8⟩
set_option maxRecDepth 100000 in
set_option maxHeartbeats 1000000 in
theorem rrun_s2 (q : Nat) (v : Value) (c : List UInt8) (at_ : Nat) (w : World) (hr : Rd w q v c at_ 0) (hl : c.length ≤ 100000) (h2 : at_ + 2 ≤ c.length) (N : Nat) (hN : numB ((c.drop at_).take 2) = N) (h9 : N ≤ 900) (h3 : c.length < at_ + 2 + N) : Calls Try.prog 51 #[.pointer (some ⟨q, 0, none⟩), .int .i64 900] w fun e w' => e = .returned (.slice none 0 0) ∧ Rd w' q v c at_ 10 ∧ Fx (fun k => k = q) w w' := by
  have z14 : ¬ ((c.length - at_ : Nat) : Int) < 2 := by omega
  have a2 : IntKind.i64.wrap ((at_ : Int) + 2) = ((at_ + 2 : Nat) : Int) := by rw [IntKind.wrap_i64]; omega
  have hN6 : N < 65536 := by rw [← hN]; exact numB_lt _ (by simp; omega)
  have z33 : ¬ (900 : Int) < (N : Int) := by omega
  have s10 : IntKind.i64.wrap (((c.length - at_ : Nat) : Int) - 2) = ((c.length - at_ - 2 : Nat) : Int) := by rw [IntKind.wrap_i64]; omega
  have z38 : ((c.length - at_ - 2 : Nat) : Int) < (N : Int) := by omega
  refine calls_of_args [.pointer (some ⟨q, 0, none⟩), .int .i64 900] Try.func51 rfl 68 Try.ntmps51 (by show 2 ≤ 68; decide) ?_
  refine EW.seq ?_
  refine EW.region ?_
  first | refine WL.assign rfl rfl rfl ?_
  refine WL.done ?_
  refine EW.on ?_
  refine EW.scope 0 [(0, .pointer (some ⟨q, 0, none⟩)), (5, .int .i64 10)] (fun W => Below w.heap.size w W) rfl ?_ ?_
  · refine EW.seq ?_
    refine EW.region ?_
    first | refine WL.assign rfl rfl rfl ?_
    refine WL.done ?_
    refine EW.on ?_
    refine EW.seq ?_
    refine EW.region ?_
    first | refine WL.assign rfl rfl rfl ?_
    refine WL.done ?_
    refine EW.on ?_
    refine EW.seq ?_
    refine EW.seq ?_
    refine EW.region ?_
    first | refine WL.move rfl rfl rfl ?_
    first | refine WL.nilc rfl rfl rfl ?_
    refine WL.field rfl rfl rfl (f78_2 q _) ?_
    refine WL.load rfl rfl rfl (ldE hr.bl rfl) ?_
    first | refine WL.bin rfl rfl rfl rfl (int_ne_f rfl _ _ _) ?_ | refine WL.bin rfl rfl rfl rfl (int_ne_t ‹_› _ _ _) ?_ | refine WL.bin rfl rfl rfl rfl (int_ne_f ‹_› _ _ _) ?_ | refine WL.bin rfl rfl rfl rfl (int_ne_t (by decide) _ _ _) ?_ | refine WL.bin rfl rfl rfl rfl (int_ne_d _ _ _ _ _) ?_
    refine WL.done ?_
    refine EW.on ?_
    refine EW.cond_f rfl ?_
    refine EW.skip ?_
    refine EW.on ?_
    refine EW.seq ?_
    refine EW.seq ?_
    refine EW.region ?_
    first | refine WL.move rfl rfl rfl ?_
    refine WL.call [.pointer (some ⟨q, 0, none⟩)] enter32 rfl rfl rfl (left_any q v c at_ 0 _ hr hl) ?_
    rintro _ w1 ⟨rfl, be1⟩
    have r1 := hr.below be1
    refine ⟨_, rfl, ?_⟩
    refine WL.bin rfl rfl rfl rfl (int_lt_f z14 _ _ _) ?_
    refine WL.done ?_
    refine EW.on ?_
    refine EW.cond_f rfl ?_
    refine EW.skip ?_
    refine EW.on ?_
    refine EW.seq ?_
    refine EW.ordB [(0, 0, 0), (1, 0, 0), (2, 0, 0), (3, 0, 1), (4, 0, 0), (5, 0, 0), (6, 0, 0), (7, 0, 1), (8, 0, 0), (9, 0, 0), (10, 0, 0), (11, 0, 1), (12, 0, 0), (13, 0, 0), (14, 1, 1), (15, 0, 1), (16, 0, 0)] (by kernel_rfl) rfl (by kernel_rfl) ?_
    simp only [opsZ, List.getD_cons_zero, List.getD_cons_succ]
    first | refine ZE.move rfl rfl rfl rfl sz0 ?_
    first | refine ZE.nilc rfl rfl rfl rfl sz0 ?_
    refine ZE.field rfl rfl rfl rfl sz0 (fun W => f78_0 q W) ?_
    refine ZE.load rfl rfl rfl rfl sz1 (fun W hW => ldS (r1.bl.on (sb_of hW)) rfl) ?_
    first | refine ZE.move rfl rfl rfl rfl sz0 ?_
    first | refine ZE.nilc rfl rfl rfl rfl sz0 ?_
    refine ZE.field rfl rfl rfl rfl sz0 (fun W => f78_1 q W) ?_
    refine ZE.load rfl rfl rfl rfl sz1 (fun W hW => ldI (r1.bl.on (sb_of hW)) rfl) ?_
    first | refine ZE.move rfl rfl rfl rfl sz0 ?_
    first | refine ZE.nilc rfl rfl rfl rfl sz0 ?_
    refine ZE.field rfl rfl rfl rfl sz0 (fun W => f78_1 q W) ?_
    refine ZE.load rfl rfl rfl rfl sz1 (fun W hW => ldI (r1.bl.on (sb_of hW)) rfl) ?_
    refine ZE.bin rfl rfl rfl rfl rfl sz0 (fun W => int_add a2 W _ _) ?_
    refine ZE.slice2 rfl rfl rfl rfl rfl rfl sz0 (fun W => by rw [sl22]; exact r1.hs.cutLH at_ (at_ + 2) (by omega) h2 W) ?_
    refine ZE.callB (v := .int .u32 (N : Int)) [cutV v at_ (at_ + 2)] enter53 rfl rfl rfl (fun W h => .inr h) (fun W hW => (number_any _ ((c.drop at_).take 2) W (by have := (r1.hs.below hW).cut at_ (at_ + 2) (by omega) h2; rw [show at_ + 2 - at_ = 2 by omega] at this; exact this) (by simp; omega)).mono fun e w' h => ⟨by rw [h.1, hN], by rw [h.2]; exact Below.refl _ _⟩) ?_
    refine ZE.conv rfl rfl rfl rfl sz1 (fun W _ => conv_n hN6 W) ?_
    first | refine ZE.assign rfl rfl rfl rfl sz0 ?_
    intro w2 be2
    refine EW.on ?_
    refine EW.seq ?_
    refine EW.seq ?_
    refine EW.region ?_
    first | refine WL.move rfl rfl rfl ?_
    first | refine WL.move rfl rfl rfl ?_
    refine WL.bin rfl rfl rfl rfl (int_gt_f z33 _ _ _) ?_
    refine WL.done ?_
    refine EW.on ?_
    refine EW.cond_f rfl ?_
    refine EW.skip ?_
    refine EW.on ?_
    refine EW.seq ?_
    refine EW.seq ?_
    refine EW.region ?_
    first | refine WL.move rfl rfl rfl ?_
    first | refine WL.move rfl rfl rfl ?_
    refine WL.call [.pointer (some ⟨q, 0, none⟩)] enter32 rfl rfl rfl (left_any q v c at_ 0 _ (r1.below be2) hl) ?_
    rintro _ w3 ⟨rfl, be3⟩
    have r3 := (r1.below be2).below be3
    have be03 : Below w.heap.size w w3 := (be1.trans (be2.mono be1.size)).trans (be3.mono (Nat.le_trans be1.size be2.size))
    refine ⟨_, rfl, ?_⟩
    refine WL.bin rfl rfl rfl rfl (int_sub s10 _ _ _) ?_
    refine WL.bin rfl rfl rfl rfl (int_gt_t z38 _ _ _) ?_
    refine WL.done ?_
    refine EW.on ?_
    refine EW.cond_t rfl ?_
    refine EW.seq ?_
    refine EW.region ?_
    first | refine WL.assign rfl rfl rfl ?_
    refine WL.done ?_
    refine EW.on ?_
    refine EW.goto ?_
    refine pg_then ?_
    exact EW.jumps [0, 5] rfl be03
  · intro wj hj
    have rj := hr.below hj
    show EW _ _ _ _ [(0, .pointer (some ⟨q, 0, none⟩)), (5, .int .i64 10)] _
    refine EW.seq ?_
    refine EW.skip ?_
    refine EW.on ?_
    refine EW.seq ?_
    refine EW.region ?_
    first | refine WL.move rfl rfl rfl ?_
    first | refine WL.move rfl rfl rfl ?_
    first | refine WL.nilc rfl rfl rfl ?_
    refine WL.field rfl rfl rfl (f78_2 q _) ?_
    obtain ⟨w8, s8, r8, x8⟩ := rj.fail 10
    refine WL.store rfl rfl rfl s8 ?_
    refine WL.done ?_
    refine EW.on ?_
    refine EW.seq ?_
    refine EW.region ?_
    first | refine WL.assign rfl rfl rfl ?_
    refine WL.done ?_
    refine EW.on ?_
    refine EW.ret ?_
    refine pr_jump ?_
    exact EW.returns Try.results51 rfl ⟨rfl, r8, (Fx.of_below hj).and x8⟩
set_option maxRecDepth 100000 in
set_option maxHeartbeats 1000000 in
theorem rrun_ok (q : Nat) (v : Value) (c : List UInt8) (at_ : Nat) (w : World) (hr : Rd w q v c at_ 0) (hl : c.length ≤ 100000) (h2 : at_ + 2 ≤ c.length) (N : Nat) (hN : numB ((c.drop at_).take 2) = N) (h9 : N ≤ 900) (h3 : at_ + 2 + N ≤ c.length) : Calls Try.prog 51 #[.pointer (some ⟨q, 0, none⟩), .int .i64 900] w fun e w' => ∃ u, e = .returned u ∧ Has w' u ((c.drop (at_ + 2)).take N) ∧ Fresh w u ∧ Rd w' q v c (at_ + (2 + N)) 0 ∧ Fx (fun k => k = q) w w' := by
  have z14 : ¬ ((c.length - at_ : Nat) : Int) < 2 := by omega
  have a2 : IntKind.i64.wrap ((at_ : Int) + 2) = ((at_ + 2 : Nat) : Int) := by rw [IntKind.wrap_i64]; omega
  have hN6 : N < 65536 := by rw [← hN]; exact numB_lt _ (by simp; omega)
  have z33 : ¬ (900 : Int) < (N : Int) := by omega
  have s10 : IntKind.i64.wrap (((c.length - at_ : Nat) : Int) - 2) = ((c.length - at_ - 2 : Nat) : Int) := by rw [IntKind.wrap_i64]; omega
  have z38 : ¬ ((c.length - at_ - 2 : Nat) : Int) < (N : Int) := by omega
  have hle : at_ + (2 + N) ≤ c.length := by omega
  have a44 : IntKind.i64.wrap ((2 : Int) + (N : Int)) = ((2 + N : Nat) : Int) := by rw [IntKind.wrap_i64]; omega
  have a45 : IntKind.i64.wrap ((at_ : Int) + ((2 + N : Nat) : Int)) = ((at_ + (2 + N) : Nat) : Int) := by rw [IntKind.wrap_i64]; omega
  have s13 : IntKind.i64.wrap (((at_ + (2 + N) : Nat) : Int) - (N : Int)) = ((at_ + 2 : Nat) : Int) := by rw [IntKind.wrap_i64]; omega
  refine calls_of_args [.pointer (some ⟨q, 0, none⟩), .int .i64 900] Try.func51 rfl 68 Try.ntmps51 (by show 2 ≤ 68; decide) ?_
  refine EW.seq ?_
  refine EW.region ?_
  first | refine WL.assign rfl rfl rfl ?_
  refine WL.done ?_
  refine EW.on ?_
  refine EW.scopeS ?_
  refine EW.seq ?_
  refine EW.region ?_
  first | refine WL.assign rfl rfl rfl ?_
  refine WL.done ?_
  refine EW.on ?_
  refine EW.seq ?_
  refine EW.region ?_
  first | refine WL.assign rfl rfl rfl ?_
  refine WL.done ?_
  refine EW.on ?_
  refine EW.seq ?_
  refine EW.seq ?_
  refine EW.region ?_
  first | refine WL.move rfl rfl rfl ?_
  first | refine WL.nilc rfl rfl rfl ?_
  refine WL.field rfl rfl rfl (f78_2 q _) ?_
  refine WL.load rfl rfl rfl (ldE hr.bl rfl) ?_
  first | refine WL.bin rfl rfl rfl rfl (int_ne_f rfl _ _ _) ?_ | refine WL.bin rfl rfl rfl rfl (int_ne_t ‹_› _ _ _) ?_ | refine WL.bin rfl rfl rfl rfl (int_ne_f ‹_› _ _ _) ?_ | refine WL.bin rfl rfl rfl rfl (int_ne_t (by decide) _ _ _) ?_ | refine WL.bin rfl rfl rfl rfl (int_ne_d _ _ _ _ _) ?_
  refine WL.done ?_
  refine EW.on ?_
  refine EW.cond_f rfl ?_
  refine EW.skip ?_
  refine EW.on ?_
  refine EW.seq ?_
  refine EW.seq ?_
  refine EW.region ?_
  first | refine WL.move rfl rfl rfl ?_
  refine WL.call [.pointer (some ⟨q, 0, none⟩)] enter32 rfl rfl rfl (left_any q v c at_ 0 _ hr hl) ?_
  rintro _ w1 ⟨rfl, be1⟩
  have r1 := hr.below be1
  refine ⟨_, rfl, ?_⟩
  refine WL.bin rfl rfl rfl rfl (int_lt_f z14 _ _ _) ?_
  refine WL.done ?_
  refine EW.on ?_
  refine EW.cond_f rfl ?_
  refine EW.skip ?_
  refine EW.on ?_
  refine EW.seq ?_
  refine EW.ordB [(0, 0, 0), (1, 0, 0), (2, 0, 0), (3, 0, 1), (4, 0, 0), (5, 0, 0), (6, 0, 0), (7, 0, 1), (8, 0, 0), (9, 0, 0), (10, 0, 0), (11, 0, 1), (12, 0, 0), (13, 0, 0), (14, 1, 1), (15, 0, 1), (16, 0, 0)] (by kernel_rfl) rfl (by kernel_rfl) ?_
  simp only [opsZ, List.getD_cons_zero, List.getD_cons_succ]
  first | refine ZE.move rfl rfl rfl rfl sz0 ?_
  first | refine ZE.nilc rfl rfl rfl rfl sz0 ?_
  refine ZE.field rfl rfl rfl rfl sz0 (fun W => f78_0 q W) ?_
  refine ZE.load rfl rfl rfl rfl sz1 (fun W hW => ldS (r1.bl.on (sb_of hW)) rfl) ?_
  first | refine ZE.move rfl rfl rfl rfl sz0 ?_
  first | refine ZE.nilc rfl rfl rfl rfl sz0 ?_
  refine ZE.field rfl rfl rfl rfl sz0 (fun W => f78_1 q W) ?_
  refine ZE.load rfl rfl rfl rfl sz1 (fun W hW => ldI (r1.bl.on (sb_of hW)) rfl) ?_
  first | refine ZE.move rfl rfl rfl rfl sz0 ?_
  first | refine ZE.nilc rfl rfl rfl rfl sz0 ?_
  refine ZE.field rfl rfl rfl rfl sz0 (fun W => f78_1 q W) ?_
  refine ZE.load rfl rfl rfl rfl sz1 (fun W hW => ldI (r1.bl.on (sb_of hW)) rfl) ?_
  refine ZE.bin rfl rfl rfl rfl rfl sz0 (fun W => int_add a2 W _ _) ?_
  refine ZE.slice2 rfl rfl rfl rfl rfl rfl sz0 (fun W => by rw [sl22]; exact r1.hs.cutLH at_ (at_ + 2) (by omega) h2 W) ?_
  refine ZE.callB (v := .int .u32 (N : Int)) [cutV v at_ (at_ + 2)] enter53 rfl rfl rfl (fun W h => .inr h) (fun W hW => (number_any _ ((c.drop at_).take 2) W (by have := (r1.hs.below hW).cut at_ (at_ + 2) (by omega) h2; rw [show at_ + 2 - at_ = 2 by omega] at this; exact this) (by simp; omega)).mono fun e w' h => ⟨by rw [h.1, hN], by rw [h.2]; exact Below.refl _ _⟩) ?_
  refine ZE.conv rfl rfl rfl rfl sz1 (fun W _ => conv_n hN6 W) ?_
  first | refine ZE.assign rfl rfl rfl rfl sz0 ?_
  intro w2 be2
  refine EW.on ?_
  refine EW.seq ?_
  refine EW.seq ?_
  refine EW.region ?_
  first | refine WL.move rfl rfl rfl ?_
  first | refine WL.move rfl rfl rfl ?_
  refine WL.bin rfl rfl rfl rfl (int_gt_f z33 _ _ _) ?_
  refine WL.done ?_
  refine EW.on ?_
  refine EW.cond_f rfl ?_
  refine EW.skip ?_
  refine EW.on ?_
  refine EW.seq ?_
  refine EW.seq ?_
  refine EW.region ?_
  first | refine WL.move rfl rfl rfl ?_
  first | refine WL.move rfl rfl rfl ?_
  refine WL.call [.pointer (some ⟨q, 0, none⟩)] enter32 rfl rfl rfl (left_any q v c at_ 0 _ (r1.below be2) hl) ?_
  rintro _ w3 ⟨rfl, be3⟩
  have r3 := (r1.below be2).below be3
  have be03 : Below w.heap.size w w3 := (be1.trans (be2.mono be1.size)).trans (be3.mono (Nat.le_trans be1.size be2.size))
  refine ⟨_, rfl, ?_⟩
  refine WL.bin rfl rfl rfl rfl (int_sub s10 _ _ _) ?_
  refine WL.bin rfl rfl rfl rfl (int_gt_f z38 _ _ _) ?_
  refine WL.done ?_
  refine EW.on ?_
  refine EW.cond_f rfl ?_
  refine EW.skip ?_
  refine EW.on ?_
  refine EW.seq ?_
  refine EW.region ?_
  first | refine WL.move rfl rfl rfl ?_
  first | refine WL.nilc rfl rfl rfl ?_
  refine WL.field rfl rfl rfl (f78_1 q _) ?_
  refine WL.load rfl rfl rfl (ldI r3.bl rfl) ?_
  first | refine WL.move rfl rfl rfl ?_
  refine WL.bin rfl rfl rfl rfl (int_add a44 _ _ _) ?_
  refine WL.bin rfl rfl rfl rfl (int_add a45 _ _ _) ?_
  first | refine WL.nilc rfl rfl rfl ?_
  refine WL.field rfl rfl rfl (f78_1 q _) ?_
  obtain ⟨w8, s8, r8, x8⟩ := r3.move (at_ + (2 + N)) hle
  refine WL.store rfl rfl rfl s8 ?_
  refine WL.done ?_
  refine EW.on ?_
  refine EW.seq ?_
  refine EW.seq ?_
  refine EW.ordB [(0, 0, 0), (1, 0, 0), (2, 0, 0), (3, 0, 1), (4, 0, 0), (5, 0, 0), (6, 0, 0), (7, 0, 1), (8, 0, 0), (9, 0, 0), (10, 0, 0), (11, 0, 0), (12, 0, 0), (13, 0, 1), (14, 0, 0), (15, 1, 1), (16, 0, 0)] (by kernel_rfl) rfl (by kernel_rfl) ?_
  simp only [opsZ, List.getD_cons_zero, List.getD_cons_succ]
  first | refine ZE.move rfl rfl rfl rfl sz0 ?_
  first | refine ZE.nilc rfl rfl rfl rfl sz0 ?_
  refine ZE.field rfl rfl rfl rfl sz0 (fun W => f78_0 q W) ?_
  refine ZE.load rfl rfl rfl rfl sz1 (fun W hW => ldS (r8.bl.on (sb_of hW)) rfl) ?_
  first | refine ZE.move rfl rfl rfl rfl sz0 ?_
  first | refine ZE.nilc rfl rfl rfl rfl sz0 ?_
  refine ZE.field rfl rfl rfl rfl sz0 (fun W => f78_1 q W) ?_
  refine ZE.load rfl rfl rfl rfl sz1 (fun W hW => ldI (r8.bl.on (sb_of hW)) rfl) ?_
  first | refine ZE.move rfl rfl rfl rfl sz0 ?_
  refine ZE.bin rfl rfl rfl rfl rfl sz0 (fun W => int_sub s13 W _ _) ?_
  first | refine ZE.move rfl rfl rfl rfl sz0 ?_
  first | refine ZE.nilc rfl rfl rfl rfl sz0 ?_
  refine ZE.field rfl rfl rfl rfl sz0 (fun W => f78_1 q W) ?_
  refine ZE.load rfl rfl rfl rfl sz1 (fun W hW => ldI (r8.bl.on (sb_of hW)) rfl) ?_
  refine ZE.slice2 rfl rfl rfl rfl rfl rfl sz0 (fun W => by rw [sl22]; exact r8.hs.cutLH (at_ + 2) (at_ + (2 + N)) (by omega) hle W) ?_
  refine ZE.callR [cutV v (at_ + 2) (at_ + (2 + N))] (fun u W => Has W u ((c.drop (at_ + 2)).take N) ∧ Fresh w8 u ∧ Below w8.heap.size w8 W) enter43 rfl rfl rfl (fun _ _ h => .inr h.2.2) (fun W hW => (clone_any _ _ W (by have := (r8.hs.below hW).cut (at_ + 2) (at_ + (2 + N)) (by omega) hle; rw [show at_ + (2 + N) - (at_ + 2) = N by omega] at this; exact this) (by simp; omega)).mono fun e w' ⟨u, g1, g2, g3, g4⟩ => ⟨u, g1, g2, fun k hk => by have := g3 k hk; have := hW.size; omega, hW.trans (g4.mono hW.size)⟩) ?_
  rintro vr ⟨_, gr1, gr2, _⟩
  first | refine ZE.assign rfl rfl rfl rfl sz0 ?_
  rintro w9 ⟨g1, g2, g3⟩
  refine EW.on ?_
  refine EW.ret ?_
  refine pr_then ?_
  refine pr_ng ?_
  exact EW.returns Try.results51 rfl ⟨vr, rfl, g1, fun k hk => by have := g2 k hk; have := x8.size; have := be03.size; omega, r8.below g3, ((Fx.of_below be03).and x8).then_below g3⟩
/-- What a reader reads, as functions of the bytes, the place and the fault. -/
def r8D (c : List UInt8) (at_ : Nat) (f : Int) : Nat × Nat × Int := if f = 0 then (match c[at_]? with | some x => (x.toNat, at_ + 1, 0) | none => (0, at_, 10)) else (0, at_, f)
def rfD (c : List UInt8) (m at_ : Nat) (f : Int) : List UInt8 × Nat × Int := if f = 0 then (if at_ + m ≤ c.length then ((c.drop at_).take m, at_ + m, 0) else ([], at_, 10)) else ([], at_, f)
def rrD (c : List UInt8) (at_ : Nat) (f : Int) : List UInt8 × Nat × Int := if f = 0 then (if at_ + 2 ≤ c.length then (if 900 < numB ((c.drop at_).take 2) then ([], at_, 12) else if at_ + 2 + numB ((c.drop at_).take 2) ≤ c.length then ((c.drop (at_ + 2)).take (numB ((c.drop at_).take 2)), at_ + (2 + numB ((c.drop at_).take 2)), 0) else ([], at_, 10)) else ([], at_, 10)) else ([], at_, f)
theorem fresh_nil (w : World) : Fresh w (.slice none 0 0) := fun k hk => by cases hk
theorem ru8_any (q : Nat) (v : Value) (c : List UInt8) (at_ : Nat) (f : Int) (w : World) (hr : Rd w q v c at_ f) (hl : c.length ≤ 100000) : Calls Try.prog 50 #[.pointer (some ⟨q, 0, none⟩)] w fun e w' => e = .returned (.int .i64 ((r8D c at_ f).1 : Int)) ∧ Rd w' q v c (r8D c at_ f).2.1 (r8D c at_ f).2.2 ∧ Fx (fun k => k = q) w w' := by
  by_cases hf : f = 0
  · subst hf
    unfold r8D
    rw [if_pos rfl]
    match hx : c[at_]? with
    | some x => exact ru8_ok q v c at_ x w hr hl hx
    | none => exact ru8_short q v c at_ w hr hl (List.getElem?_eq_none_iff.1 hx)
  · unfold r8D
    rw [if_neg hf]
    exact (ru8_bad q v c at_ f hf w hr).mono fun e w' h => ⟨h.1, by rw [h.2]; exact hr, by rw [h.2]; exact Fx.of_below (Below.refl _ _)⟩
theorem rfix_any (q m : Nat) (v : Value) (c : List UInt8) (at_ : Nat) (f : Int) (w : World) (hr : Rd w q v c at_ f) (hl : c.length ≤ 100000) (hm : m ≤ 1000000) : Calls Try.prog 31 #[.pointer (some ⟨q, 0, none⟩), .int .i64 (m : Int)] w fun e w' => ∃ u, e = .returned u ∧ Has w' u (rfD c m at_ f).1 ∧ Fresh w u ∧ Rd w' q v c (rfD c m at_ f).2.1 (rfD c m at_ f).2.2 ∧ Fx (fun k => k = q) w w' := by
  by_cases hf : f = 0
  · subst hf
    unfold rfD
    rw [if_pos rfl]
    by_cases h : at_ + m ≤ c.length
    · rw [if_pos h]; exact rfix_ok q m v c at_ w hr hl h
    · rw [if_neg h]; exact (rfix_short q m v c at_ w hr hl (by omega) hm).mono fun e w' h => ⟨_, h.1, Has.nil _, fresh_nil _, h.2⟩
  · unfold rfD
    rw [if_neg hf]
    exact (rfix_bad q m v c at_ f hf w hr).mono fun e w' h => ⟨_, h.1, Has.nil _, fresh_nil _, by rw [h.2]; exact hr, by rw [h.2]; exact Fx.of_below (Below.refl _ _)⟩
theorem rrun_any (q : Nat) (v : Value) (c : List UInt8) (at_ : Nat) (f : Int) (w : World) (hr : Rd w q v c at_ f) (hl : c.length ≤ 100000) : Calls Try.prog 51 #[.pointer (some ⟨q, 0, none⟩), .int .i64 900] w fun e w' => ∃ u, e = .returned u ∧ Has w' u (rrD c at_ f).1 ∧ Fresh w u ∧ Rd w' q v c (rrD c at_ f).2.1 (rrD c at_ f).2.2 ∧ Fx (fun k => k = q) w w' := by
  by_cases hf : f = 0
  · subst hf
    unfold rrD
    rw [if_pos rfl]
    by_cases h2 : at_ + 2 ≤ c.length
    · rw [if_pos h2]
      by_cases h9 : 900 < numB ((c.drop at_).take 2)
      · rw [if_pos h9]; exact (rrun_ov q v c at_ w hr hl h2 _ rfl h9).mono fun e w' h => ⟨_, h.1, Has.nil _, fresh_nil _, h.2⟩
      · rw [if_neg h9]
        by_cases h3 : at_ + 2 + numB ((c.drop at_).take 2) ≤ c.length
        · rw [if_pos h3]; exact rrun_ok q v c at_ w hr hl h2 _ rfl (by omega) h3
        · rw [if_neg h3]; exact (rrun_s2 q v c at_ w hr hl h2 _ rfl (by omega) (by omega)).mono fun e w' h => ⟨_, h.1, Has.nil _, fresh_nil _, h.2⟩
    · rw [if_neg h2]; exact (rrun_s1 q v c at_ w hr hl (by omega)).mono fun e w' h => ⟨_, h.1, Has.nil _, fresh_nil _, h.2⟩
  · unfold rrD
    rw [if_neg hf]
    exact (rrun_bad q v c at_ f hf w hr).mono fun e w' h => ⟨_, h.1, Has.nil _, fresh_nil _, by rw [h.2]; exact hr, by rw [h.2]; exact Fx.of_below (Below.refl _ _)⟩
end Go.Proofs.Yteghbkeaojbdgaa
