import Derived.Test.YtacimelcmkhhlaaHk
import Derived.Laws.IdiomCopy
set_option linter.unusedVariables false
set_option linter.unusedSimpArgs false
namespace Go.Proofs.Ytacimelcmkhhlaa
open Go.RowKit

section
variable {P : Program} {n : Fm} {Q : Exit → Act → World → Prop} {e : List (Nat × Value)} {w : World}
theorem pn_jump {l : Nat} {J : Act → World → Prop} (h : ∀ a, Env n a e → Q .normal a w) : ∀ a, Env n a e → Exit.jump l J Q .normal a w := h
theorem EW.returns0 {m : Nat} {fn : Func} {R : Ending → World → Prop} (hres : fn.results = #[]) (h : R (.returned (.tuple #[])) w) : ∀ a, Env ⟨m, []⟩ a e → bodyPost P fn R .ret a w := fun a ha => bodyPost_ret (v := .tuple #[]) (by rw [results_none hres]) ha.df h
end
def rS (c : List UInt8) (m : Nat) (s : Nat × Int) : Nat × Int := if s.2 = 0 then (if s.1 + m ≤ c.length then (s.1 + m, 0) else (s.1, 10)) else s
def rB (c : List UInt8) (m : Nat) (s : Nat × Int) : List UInt8 := if s.2 = 0 ∧ s.1 + m ≤ c.length then (c.drop s.1).take m else []
def eS (c : List UInt8) (s : Nat × Int) : Nat × Int := if s.2 = 0 ∧ s.1 < c.length then (s.1, 11) else s
theorem rB_len (c : List UInt8) (m : Nat) (s : Nat × Int) : (rB c m s).length ≤ m := by
  unfold rB
  split
  · rw [List.length_take]; omega
  · exact Nat.zero_le _
theorem rfix_any (q m : Nat) (v : Value) (c : List UInt8) (s : Nat × Int) (w : World) (hr : Rd w q v c s.1 s.2) (hl : c.length ≤ 140737488355328) (hm : m ≤ 1000000) : Calls Try.prog 61 #[.pointer (some ⟨q, 0, none⟩), .int .i64 (m : Int)] w fun e w' => ∃ u, e = .returned u ∧ Ob w' w.heap.size u (rB c m s) ∧ Rd w' q v c (rS c m s).1 (rS c m s).2 ∧ Fx (fun k => k = q) w w' := by
  obtain ⟨at_, f⟩ := s
  dsimp only at hr
  unfold rB rS
  dsimp only
  by_cases hf : f = 0
  · subst hf
    by_cases h : at_ + m ≤ c.length
    · rw [if_pos rfl, if_pos h, if_pos ⟨rfl, h⟩]; exact rfix_ok q m v c at_ w hr hl h
    · rw [if_pos rfl, if_neg h, if_neg (fun e => h e.2)]
      exact (rfix_short q m v c at_ w hr hl (by omega) hm).mono fun e w' ⟨h1, h2, h3⟩ => ⟨_, h1, Ob.nil _ _, h2, h3⟩
  · rw [if_neg hf, if_neg (fun e => hf e.1)]
    exact (rfix_bad q m v c at_ f hf w hr).mono fun e w' ⟨h1, h2⟩ => ⟨_, h1, Ob.nil _ _, by rw [h2]; exact hr, by rw [h2]; exact Fx.refl _ _⟩
theorem fault_any (q : Nat) (v : Value) (c : List UInt8) (s : Nat × Int) (w : World) (hr : Rd w q v c s.1 s.2) : Calls Try.prog 59 #[.pointer (some ⟨q, 0, none⟩)] w fun e w' => ∃ a : Int, e = .returned (.tuple #[.int .i64 a, .int .i64 s.2]) ∧ Below w.heap.size w w' := by
  obtain ⟨at_, f⟩ := s
  dsimp only at hr ⊢
  by_cases hf : f = 0
  · subst hf
    exact (fault_0 q v c at_ w hr).mono fun e w' ⟨h1, h2⟩ => ⟨0, h1, by rw [h2]; exact Below.refl _ _⟩
  · exact (fault_f q v c at_ f hf w hr).mono fun e w' ⟨h1, h2⟩ => ⟨_, h1, h2⟩
set_option maxRecDepth 100000 in
set_option maxHeartbeats 1000000 in
theorem rn1_any (q : Nat) (v : Value) (c : List UInt8) (s : Nat × Int) (w : World) (hr : Rd w q v c s.1 s.2) (hl : c.length ≤ 140737488355328) : Calls Try.prog 41 #[.pointer (some ⟨q, 0, none⟩)] w fun e w' => e = .returned (.int .i64 (numB (rB c 1 s) : Int)) ∧ Rd w' q v c (rS c 1 s).1 (rS c 1 s).2 ∧ Fx (fun k => k = q) w w' := by
  refine calls_of_args [.pointer (some ⟨q, 0, none⟩)] Try.func41 rfl 7 Try.ntmps41 (by show 1 ≤ 7; decide) ?_
  refine EW.seq ?_
  refine EW.region ?_
  first | refine WL.assign rfl rfl rfl ?_
  refine WL.done ?_
  refine EW.on ?_
  refine EW.seq ?_
  refine EW.region ?_
  first | refine WL.move rfl rfl rfl ?_
  refine WL.call [.pointer (some ⟨q, 0, none⟩), .int .i64 1] enter61 rfl rfl rfl (rfix_any q 1 v c s _ hr hl (by decide)) ?_
  rintro _ w1 ⟨u, rfl, g1, g3, g4⟩
  refine ⟨_, rfl, ?_⟩
  refine WL.call [u] enter60 rfl rfl rfl (number_any u _ _ g1.has (by have := rB_len c 1 s; omega)) ?_
  rintro _ w2 ⟨rfl, hz2⟩
  rw [hz2]
  refine ⟨_, rfl, ?_⟩
  refine WL.conv rfl rfl rfl (conv_n (numB_lt _ (by have := rB_len c 1 s; omega)) _) ?_
  first | refine WL.assign rfl rfl rfl ?_
  refine WL.done ?_
  refine EW.on ?_
  refine EW.ret ?_
  exact EW.returns Try.results41 rfl ⟨rfl, g3, g4⟩
set_option maxRecDepth 100000 in
set_option maxHeartbeats 1000000 in
theorem rn2_any (q : Nat) (v : Value) (c : List UInt8) (s : Nat × Int) (w : World) (hr : Rd w q v c s.1 s.2) (hl : c.length ≤ 140737488355328) : Calls Try.prog 37 #[.pointer (some ⟨q, 0, none⟩)] w fun e w' => e = .returned (.int .i64 (numB (rB c 2 s) : Int)) ∧ Rd w' q v c (rS c 2 s).1 (rS c 2 s).2 ∧ Fx (fun k => k = q) w w' := by
  refine calls_of_args [.pointer (some ⟨q, 0, none⟩)] Try.func37 rfl 7 Try.ntmps37 (by show 1 ≤ 7; decide) ?_
  refine EW.seq ?_
  refine EW.region ?_
  first | refine WL.assign rfl rfl rfl ?_
  refine WL.done ?_
  refine EW.on ?_
  refine EW.seq ?_
  refine EW.region ?_
  first | refine WL.move rfl rfl rfl ?_
  refine WL.call [.pointer (some ⟨q, 0, none⟩), .int .i64 2] enter61 rfl rfl rfl (rfix_any q 2 v c s _ hr hl (by decide)) ?_
  rintro _ w1 ⟨u, rfl, g1, g3, g4⟩
  refine ⟨_, rfl, ?_⟩
  refine WL.call [u] enter60 rfl rfl rfl (number_any u _ _ g1.has (by have := rB_len c 2 s; omega)) ?_
  rintro _ w2 ⟨rfl, hz2⟩
  rw [hz2]
  refine ⟨_, rfl, ?_⟩
  refine WL.conv rfl rfl rfl (conv_n (numB_lt _ (by have := rB_len c 2 s; omega)) _) ?_
  first | refine WL.assign rfl rfl rfl ?_
  refine WL.done ?_
  refine EW.on ?_
  refine EW.ret ?_
  exact EW.returns Try.results37 rfl ⟨rfl, g3, g4⟩
set_option maxRecDepth 100000 in
set_option maxHeartbeats 1000000 in
theorem rn4_any (q : Nat) (v : Value) (c : List UInt8) (s : Nat × Int) (w : World) (hr : Rd w q v c s.1 s.2) (hl : c.length ≤ 140737488355328) : Calls Try.prog 38 #[.pointer (some ⟨q, 0, none⟩)] w fun e w' => e = .returned (u32v (numB (rB c 4 s))) ∧ Rd w' q v c (rS c 4 s).1 (rS c 4 s).2 ∧ Fx (fun k => k = q) w w' := by
  refine calls_of_args [.pointer (some ⟨q, 0, none⟩)] Try.func38 rfl 6 Try.ntmps38 (by show 1 ≤ 6; decide) ?_
  refine EW.seq ?_
  refine EW.region ?_
  first | refine WL.assign rfl rfl rfl ?_
  refine WL.done ?_
  refine EW.on ?_
  refine EW.seq ?_
  refine EW.region ?_
  first | refine WL.move rfl rfl rfl ?_
  refine WL.call [.pointer (some ⟨q, 0, none⟩), .int .i64 4] enter61 rfl rfl rfl (rfix_any q 4 v c s _ hr hl (by decide)) ?_
  rintro _ w1 ⟨u, rfl, g1, g3, g4⟩
  refine ⟨_, rfl, ?_⟩
  refine WL.call [u] enter60 rfl rfl rfl (number_any u _ _ g1.has (by have := rB_len c 4 s; omega)) ?_
  rintro _ w2 ⟨rfl, hz2⟩
  rw [hz2]
  refine ⟨_, rfl, ?_⟩
  first | refine WL.assign rfl rfl rfl ?_
  refine WL.done ?_
  refine EW.on ?_
  refine EW.ret ?_
  exact EW.returns Try.results38 rfl ⟨rfl, g3, g4⟩
set_option maxRecDepth 100000 in
set_option maxHeartbeats 1000000 in
theorem end_ok (q : Nat) (v : Value) (c : List UInt8) (at_ : Nat) (w : World) (hr : Rd w q v c at_ 0) (hl : c.length ≤ 140737488355328) (h : c.length ≤ at_) : Calls Try.prog 39 #[.pointer (some ⟨q, 0, none⟩)] w fun e w' => e = .returned (.tuple #[]) ∧ Below w.heap.size w w' := by
  have z1 : ¬ (0 : Int) < ((c.length - at_ : Nat) : Int) := by omega
  refine calls_of_args [.pointer (some ⟨q, 0, none⟩)] Try.func39 rfl 15 Try.ntmps39 (by show 1 ≤ 15; decide) ?_
  refine EW.scopeS ?_
  refine EW.seq ?_
  refine EW.seq ?_
  refine EW.region ?_
  first | refine WL.move rfl rfl rfl ?_
  first | refine WL.nilc rfl rfl rfl ?_
  refine WL.field rfl rfl rfl (f106_2 q _) ?_
  refine WL.load rfl rfl rfl (ldE hr.bl rfl) ?_
  first | refine WL.bin rfl rfl rfl rfl (int_eq_t rfl _ _ _) ?_ | refine WL.bin rfl rfl rfl rfl (int_eq_t ‹_› _ _ _) ?_ | refine WL.bin rfl rfl rfl rfl (int_eq_f ‹_› _ _ _) ?_ | refine WL.bin rfl rfl rfl rfl (int_eq_d _ _ _ _ _) ?_
  first | refine WL.move rfl rfl rfl ?_
  first | refine WL.move rfl rfl rfl ?_ | refine WL.skip _ rfl rfl rfl ?_
  refine WL.call [.pointer (some ⟨q, 0, none⟩)] enter62 rfl rfl rfl (left_any q v c at_ 0 _ hr hl) ?_
  rintro _ w1 ⟨rfl, be1⟩
  refine ⟨_, rfl, ?_⟩
  first | refine WL.bin rfl rfl rfl rfl (int_gt_t ‹_› _ _ _) ?_ | refine WL.bin rfl rfl rfl rfl (int_gt_f ‹_› _ _ _) ?_ | refine WL.bin rfl rfl rfl rfl (int_gt_d _ _ _ _ _) ?_ | refine WL.skip _ rfl rfl rfl ?_
  first | refine WL.pick rfl rfl rfl rfl ?_
  refine WL.done ?_
  refine EW.on ?_
  refine EW.cond_f rfl ?_
  refine EW.skip ?_
  refine EW.on ?_
  refine EW.seq ?_
  refine EW.ret ?_
  refine pr_then ?_
  refine pr_ng ?_
  exact EW.returns0 Try.results39 ⟨rfl, be1⟩
set_option maxRecDepth 100000 in
set_option maxHeartbeats 1000000 in
theorem end_bad (q : Nat) (v : Value) (c : List UInt8) (at_ : Nat) (f : Int) (hf : ¬ f = 0) (w : World) (hr : Rd w q v c at_ f) : Calls Try.prog 39 #[.pointer (some ⟨q, 0, none⟩)] w fun e w' => e = .returned (.tuple #[]) ∧ w' = w := by
  refine calls_of_args [.pointer (some ⟨q, 0, none⟩)] Try.func39 rfl 15 Try.ntmps39 (by show 1 ≤ 15; decide) ?_
  refine EW.scopeS ?_
  refine EW.seq ?_
  refine EW.seq ?_
  refine EW.region ?_
  first | refine WL.move rfl rfl rfl ?_
  first | refine WL.nilc rfl rfl rfl ?_
  refine WL.field rfl rfl rfl (f106_2 q _) ?_
  refine WL.load rfl rfl rfl (ldE hr.bl rfl) ?_
  first | refine WL.bin rfl rfl rfl rfl (int_eq_t rfl _ _ _) ?_ | refine WL.bin rfl rfl rfl rfl (int_eq_t ‹_› _ _ _) ?_ | refine WL.bin rfl rfl rfl rfl (int_eq_f ‹_› _ _ _) ?_ | refine WL.bin rfl rfl rfl rfl (int_eq_d _ _ _ _ _) ?_
  first | refine WL.move rfl rfl rfl ?_
  first | refine WL.move rfl rfl rfl ?_ | refine WL.skip _ rfl rfl rfl ?_
  refine WL.skip _ rfl rfl rfl ?_
  first | refine WL.bin rfl rfl rfl rfl (int_gt_t ‹_› _ _ _) ?_ | refine WL.bin rfl rfl rfl rfl (int_gt_f ‹_› _ _ _) ?_ | refine WL.bin rfl rfl rfl rfl (int_gt_d _ _ _ _ _) ?_ | refine WL.skip _ rfl rfl rfl ?_
  first | refine WL.pick rfl rfl rfl rfl ?_
  refine WL.done ?_
  refine EW.on ?_
  refine EW.cond_f rfl ?_
  refine EW.skip ?_
  refine EW.on ?_
  refine EW.seq ?_
  refine EW.ret ?_
  refine pr_then ?_
  refine pr_ng ?_
  exact EW.returns0 Try.results39 ⟨rfl, rfl⟩
set_option maxRecDepth 100000 in
set_option maxHeartbeats 1000000 in
theorem end_tail (q : Nat) (v : Value) (c : List UInt8) (at_ : Nat) (w : World) (hr : Rd w q v c at_ 0) (hl : c.length ≤ 140737488355328) (h : at_ < c.length) : Calls Try.prog 39 #[.pointer (some ⟨q, 0, none⟩)] w fun e w' => e = .returned (.tuple #[]) ∧ Rd w' q v c at_ 11 ∧ Fx (fun k => k = q) w w' := by
  have z1 : (0 : Int) < ((c.length - at_ : Nat) : Int) := by omega
  refine calls_of_args [.pointer (some ⟨q, 0, none⟩)] Try.func39 rfl 15 Try.ntmps39 (by show 1 ≤ 15; decide) ?_
  refine EW.scope 0 [(0, .pointer (some ⟨q, 0, none⟩))] (fun W => Below w.heap.size w W) rfl ?_ ?_
  · refine EW.seq ?_
    refine EW.seq ?_
    refine EW.region ?_
    first | refine WL.move rfl rfl rfl ?_
    first | refine WL.nilc rfl rfl rfl ?_
    refine WL.field rfl rfl rfl (f106_2 q _) ?_
    refine WL.load rfl rfl rfl (ldE hr.bl rfl) ?_
    first | refine WL.bin rfl rfl rfl rfl (int_eq_t rfl _ _ _) ?_ | refine WL.bin rfl rfl rfl rfl (int_eq_t ‹_› _ _ _) ?_ | refine WL.bin rfl rfl rfl rfl (int_eq_f ‹_› _ _ _) ?_ | refine WL.bin rfl rfl rfl rfl (int_eq_d _ _ _ _ _) ?_
    first | refine WL.move rfl rfl rfl ?_
    first | refine WL.move rfl rfl rfl ?_ | refine WL.skip _ rfl rfl rfl ?_
    refine WL.call [.pointer (some ⟨q, 0, none⟩)] enter62 rfl rfl rfl (left_any q v c at_ 0 _ hr hl) ?_
    rintro _ w1 ⟨rfl, be1⟩
    refine ⟨_, rfl, ?_⟩
    first | refine WL.bin rfl rfl rfl rfl (int_gt_t ‹_› _ _ _) ?_ | refine WL.bin rfl rfl rfl rfl (int_gt_f ‹_› _ _ _) ?_ | refine WL.bin rfl rfl rfl rfl (int_gt_d _ _ _ _ _) ?_ | refine WL.skip _ rfl rfl rfl ?_
    first | refine WL.pick rfl rfl rfl rfl ?_
    refine WL.done ?_
    refine EW.on ?_
    refine EW.cond_t rfl ?_
    refine EW.goto ?_
    refine pg_then ?_
    exact EW.jumps [0] rfl be1
  · intro wj hj
    have rj := hr.below hj
    show EW _ _ _ _ [(0, .pointer (some ⟨q, 0, none⟩))] _
    refine EW.seq ?_
    refine EW.skip ?_
    refine EW.on ?_
    refine EW.region ?_
    first | refine WL.move rfl rfl rfl ?_
    first | refine WL.nilc rfl rfl rfl ?_
    refine WL.field rfl rfl rfl (f106_2 q _) ?_
    obtain ⟨w8, s8, r8, x8⟩ := rj.fail 11
    refine WL.store rfl rfl rfl s8 ?_
    refine WL.done ?_
    refine pn_jump ?_
    exact EW.falls Try.results39 ⟨rfl, r8, (Fx.of_below hj).and x8⟩
theorem end_any (q : Nat) (v : Value) (c : List UInt8) (s : Nat × Int) (w : World) (hr : Rd w q v c s.1 s.2) (hl : c.length ≤ 140737488355328) : Calls Try.prog 39 #[.pointer (some ⟨q, 0, none⟩)] w fun e w' => e = .returned (.tuple #[]) ∧ Rd w' q v c (eS c s).1 (eS c s).2 ∧ Fx (fun k => k = q) w w' := by
  obtain ⟨at_, f⟩ := s
  dsimp only at hr
  unfold eS
  dsimp only
  by_cases hf : f = 0
  · subst hf
    by_cases h : at_ < c.length
    · rw [if_pos ⟨rfl, h⟩]; exact end_tail q v c at_ w hr hl h
    · rw [if_neg (fun e => h e.2)]
      exact (end_ok q v c at_ w hr hl (by omega)).mono fun e w' ⟨h1, h2⟩ => ⟨h1, hr.below h2, Fx.of_below h2⟩
  · rw [if_neg (fun e => hf e.1)]
    exact (end_bad q v c at_ f hf w hr).mono fun e w' ⟨h1, h2⟩ => ⟨h1, by rw [h2]; exact hr, by rw [h2]; exact Fx.refl _ _⟩
end Go.Proofs.Ytacimelcmkhhlaa
