import Derived.Test.YtiefgmgjlhjjhaaDoorHk
import Derived.Laws.IdiomCopy
set_option linter.unusedVariables false
set_option linter.unusedSimpArgs false
namespace Go.Proofs.YtiefgmgjlhjjhaaDoor
open Go.RowKit

section
variable {P : Program} {n : Nat} {Q : Exit → Act → World → Prop} {e : List (Nat × Value)} {w : World}
end
def rS (c : List UInt8) (m : Nat) (s : Nat × Int) : Nat × Int := if s.2 = 0 then (if s.1 + m ≤ c.length then (s.1 + m, 0) else (s.1, 10)) else s
def rB (c : List UInt8) (m : Nat) (s : Nat × Int) : List UInt8 := if s.2 = 0 ∧ s.1 + m ≤ c.length then (c.drop s.1).take m else []
theorem rB_len (c : List UInt8) (m : Nat) (s : Nat × Int) : (rB c m s).length ≤ m := by
  unfold rB
  split
  · rw [List.length_take]; omega
  · exact Nat.zero_le _
theorem rfix_any (q m : Nat) (v : Value) (c : List UInt8) (s : Nat × Int) (w : World) (hr : Rd w q v c s.1 s.2) (hl : c.length ≤ 140737488355328) (hm : m ≤ 1000000) : Calls Tryd.prog 45 #[.pointer (some ⟨q, 0, none⟩), .int .i64 (m : Int)] w fun e w' => ∃ u, e = .returned u ∧ Ob w' w.heap.size u (rB c m s) ∧ Rd w' q v c (rS c m s).1 (rS c m s).2 ∧ Fx (fun k => k = q) w w' := by
  obtain ⟨at_, f⟩ := s
  dsimp only at hr
  unfold rB rS
  dsimp only
  by_cases hf : f = 0
  · subst hf
    by_cases h : at_ + m ≤ c.length
    · rw [if_pos rfl, if_pos h, if_pos ⟨rfl, h⟩]; exact rfix_ok q m v c at_ w hr hl h
    · rw [if_pos rfl, if_neg h, if_neg (fun e => h e.2)]
      exact (rfix_short q m v c at_ w hr hl (by omega) hm).mono fun e w' ⟨h1, h2, h3⟩ => ⟨_, h1, Ob.nil _ _, h2, h3⟩
  · rw [if_neg hf, if_neg (fun e => hf e.1)]
    exact (rfix_bad q m v c at_ f hf w hr).mono fun e w' ⟨h1, h2⟩ => ⟨_, h1, Ob.nil _ _, by rw [h2]; exact hr, by rw [h2]; exact Fx.refl _ _⟩
set_option maxRecDepth 100000 in
set_option maxHeartbeats 1000000 in
theorem rn1_any (q : Nat) (v : Value) (c : List UInt8) (s : Nat × Int) (w : World) (hr : Rd w q v c s.1 s.2) (hl : c.length ≤ 140737488355328) : Calls Tryd.prog 43 #[.pointer (some ⟨q, 0, none⟩)] w fun e w' => e = .returned (.int .i64 (numB (rB c 1 s) : Int)) ∧ Rd w' q v c (rS c 1 s).1 (rS c 1 s).2 ∧ Fx (fun k => k = q) w w' := by
  refine calls_of_args [.pointer (some ⟨q, 0, none⟩)] Tryd.func43 rfl 7 Tryd.ntmps43 (by show 1 ≤ 7; decide) ?_
  refine EW.seq ?_
  refine EW.region ?_
  first | refine WL.assign rfl rfl rfl ?_
  refine WL.done ?_
  refine EW.on ?_
  refine EW.seq ?_
  refine EW.region ?_
  first | refine WL.move rfl rfl rfl ?_
  refine WL.call [.pointer (some ⟨q, 0, none⟩), .int .i64 1] enter45 rfl rfl rfl (rfix_any q 1 v c s _ hr hl (by decide)) ?_
  rintro _ w1 ⟨u, rfl, g1, g3, g4⟩
  refine ⟨_, rfl, ?_⟩
  refine WL.call [u] enter62 rfl rfl rfl (number_any u _ _ g1.has (by have := rB_len c 1 s; omega)) ?_
  rintro _ w2 ⟨rfl, hz2⟩
  rw [hz2]
  refine ⟨_, rfl, ?_⟩
  refine WL.conv rfl rfl rfl (conv_n (numB_lt _ (by have := rB_len c 1 s; omega)) _) ?_
  first | refine WL.assign rfl rfl rfl ?_
  refine WL.done ?_
  refine EW.on ?_
  refine EW.ret ?_
  exact EW.returns Tryd.results43 rfl ⟨rfl, g3, g4⟩
set_option maxRecDepth 100000 in
set_option maxHeartbeats 1000000 in
theorem rn4_any (q : Nat) (v : Value) (c : List UInt8) (s : Nat × Int) (w : World) (hr : Rd w q v c s.1 s.2) (hl : c.length ≤ 140737488355328) : Calls Tryd.prog 44 #[.pointer (some ⟨q, 0, none⟩)] w fun e w' => e = .returned (u32v (numB (rB c 4 s))) ∧ Rd w' q v c (rS c 4 s).1 (rS c 4 s).2 ∧ Fx (fun k => k = q) w w' := by
  refine calls_of_args [.pointer (some ⟨q, 0, none⟩)] Tryd.func44 rfl 6 Tryd.ntmps44 (by show 1 ≤ 6; decide) ?_
  refine EW.seq ?_
  refine EW.region ?_
  first | refine WL.assign rfl rfl rfl ?_
  refine WL.done ?_
  refine EW.on ?_
  refine EW.seq ?_
  refine EW.region ?_
  first | refine WL.move rfl rfl rfl ?_
  refine WL.call [.pointer (some ⟨q, 0, none⟩), .int .i64 4] enter45 rfl rfl rfl (rfix_any q 4 v c s _ hr hl (by decide)) ?_
  rintro _ w1 ⟨u, rfl, g1, g3, g4⟩
  refine ⟨_, rfl, ?_⟩
  refine WL.call [u] enter62 rfl rfl rfl (number_any u _ _ g1.has (by have := rB_len c 4 s; omega)) ?_
  rintro _ w2 ⟨rfl, hz2⟩
  rw [hz2]
  refine ⟨_, rfl, ?_⟩
  first | refine WL.assign rfl rfl rfl ?_
  refine WL.done ?_
  refine EW.on ?_
  refine EW.ret ?_
  exact EW.returns Tryd.results44 rfl ⟨rfl, g3, g4⟩
theorem bld99 (a : Value) (ha : ∃ ao n c, a = .slice ao n c) (W : World) : (Instr.build 128 [(0, a)].toArray).run Tryd.prog W = .ok (.agg [a, .int .i64 0, .int .i64 0].toArray) W := by
  obtain ⟨_, _, _, rfl⟩ := ha
  kernel_rfl
theorem box99 (a : Value) (ha : ∃ ao n c, a = .slice ao n c) (w : World) : ∃ w1 q, (Instr.box 128 (.agg [a, .int .i64 0, .int .i64 0].toArray)).run Tryd.prog w = .ok (.pointer (some ⟨q, 0, none⟩)) w1 ∧ Blk w1 q [a, .int .i64 0, .int .i64 0] 128 ∧ Below w.heap.size w w1 ∧ q = w.heap.size := by
  obtain ⟨_, _, _, rfl⟩ := ha
  exact ⟨_, _, run_boxR 128 _ w _ rfl, Blk.new _ _ _, below_new _ _, rfl⟩

set_option maxRecDepth 100000 in
set_option maxHeartbeats 1000000 in
theorem newR_any (v : Value) (c : List UInt8) (w : World) (hb : Has w v c) (hl : c.length ≤ 140737488355328) : Calls Tryd.prog 42 #[v] w fun e w' => ∃ u q, e = .returned (.pointer (some ⟨q, 0, none⟩)) ∧ Rd w' q u c 0 0 ∧ w.heap.size ≤ q ∧ Below w.heap.size w w' ∧ (∀ k, u.ownBlock = some k → w.heap.size ≤ k) := by
  refine calls_of_args [v] Tryd.func42 rfl 7 Tryd.ntmps42 (by show 1 ≤ 7; decide) ?_
  refine EW.seq ?_
  refine EW.region ?_
  first | refine WL.assign rfl rfl rfl ?_
  refine WL.done ?_
  refine EW.on ?_
  refine EW.seq ?_
  refine EW.region ?_
  first | refine WL.move rfl rfl rfl ?_
  refine WL.call [v] enter61 rfl rfl rfl (clone_ob v c _ hb hl) ?_
  rintro _ w1 ⟨u, rfl, g1, g3⟩
  obtain ⟨w2, q, r2, b2, e2, hq⟩ := box99 u g1.has.sl w1
  refine ⟨_, rfl, ?_⟩
  refine WL.buildN [(0, u)] rfl rfl rfl (bld99 _ g1.has.sl _) ?_
  refine WL.box rfl rfl rfl r2 ?_
  first | refine WL.assign rfl rfl rfl ?_
  refine WL.done ?_
  refine EW.on ?_
  refine EW.ret ?_
  exact EW.returns Tryd.results42 rfl ⟨u, q, rfl, ⟨b2, g1.has.below e2, Nat.zero_le _⟩, by have := g3.size; omega, g3.trans (e2.mono g3.size), g1.base⟩
theorem ext_3 (a b c : Value) (W : World) : (Instr.extract (.tuple #[a, b, c]) 0).run Tryd.prog W = .ok a W ∧ (Instr.extract (.tuple #[a, b, c]) 1).run Tryd.prog W = .ok b W ∧ (Instr.extract (.tuple #[a, b, c]) 2).run Tryd.prog W = .ok c W := by refine ⟨?_, ?_, ?_⟩ <;> go_simp
end Go.Proofs.YtiefgmgjlhjjhaaDoor
