import Derived.Test.YtobfebpinkikdaaHk
import Derived.Laws.IdiomCopy
set_option linter.unusedVariables false
set_option linter.unusedSimpArgs false
namespace Go.Proofs.Ytobfebpinkikdaa
open Go.RowKit

section
variable {P : Program} {n : Nat} {Q : Exit → Act → World → Prop} {e : List (Nat × Value)} {w : World}
theorem pn_jump {l : Nat} {J : Act → World → Prop} (h : ∀ a, Env n a e → Q .normal a w) : ∀ a, Env n a e → Exit.jump l J Q .normal a w := h
theorem pn_ng (h : ∀ a, Env n a e → Q .normal a w) : ∀ a, Env n a e → Exit.noGoto Q .normal a w := h
theorem EW.returns0 {fn : Func} {R : Ending → World → Prop} (hres : fn.results = #[]) (h : R (.returned (.tuple #[])) w) : ∀ a, Env n a e → bodyPost P fn R .ret a w := fun a ha => bodyPost_ret (v := .tuple #[]) (by rw [results_none hres]) ha.df h
end
def rS (c : List UInt8) (m : Nat) (s : Nat × Int) : Nat × Int := if s.2 = 0 then (if s.1 + m ≤ c.length then (s.1 + m, 0) else (s.1, 10)) else s
def rB (c : List UInt8) (m : Nat) (s : Nat × Int) : List UInt8 := if s.2 = 0 ∧ s.1 + m ≤ c.length then (c.drop s.1).take m else []
def eS (c : List UInt8) (s : Nat × Int) : Nat × Int := if s.2 = 0 ∧ s.1 < c.length then (s.1, 11) else s
theorem rB_len (c : List UInt8) (m : Nat) (s : Nat × Int) : (rB c m s).length ≤ m := by
  unfold rB
  split
  · rw [List.length_take]; omega
  · exact Nat.zero_le _
theorem rfix_any (q m : Nat) (v : Value) (c : List UInt8) (s : Nat × Int) (w : World) (hr : Rd w q v c s.1 s.2) (hl : c.length ≤ 140737488355328) (hm : m ≤ 1000000) : Calls Try.prog 28 #[.pointer (some ⟨q, 0, none⟩), .int .i64 (m : Int)] w fun e w' => ∃ u, e = .returned u ∧ Ob w' w.heap.size u (rB c m s) ∧ Rd w' q v c (rS c m s).1 (rS c m s).2 ∧ Fx (fun k => k = q) w w' := by
  obtain ⟨at_, f⟩ := s
  dsimp only at hr
  unfold rB rS
  dsimp only
  by_cases hf : f = 0
  · subst hf
    by_cases h : at_ + m ≤ c.length
    · rw [if_pos rfl, if_pos h, if_pos ⟨rfl, h⟩]; exact rfix_ok q m v c at_ w hr hl h
    · rw [if_pos rfl, if_neg h, if_neg (fun e => h e.2)]
      exact (rfix_short q m v c at_ w hr hl (by omega) hm).mono fun e w' ⟨h1, h2, h3⟩ => ⟨_, h1, Ob.nil _ _, h2, h3⟩
  · rw [if_neg hf, if_neg (fun e => hf e.1)]
    exact (rfix_bad q m v c at_ f hf w hr).mono fun e w' ⟨h1, h2⟩ => ⟨_, h1, Ob.nil _ _, by rw [h2]; exact hr, by rw [h2]; exact Fx.refl _ _⟩
theorem fault_any (q : Nat) (v : Value) (c : List UInt8) (s : Nat × Int) (w : World) (hr : Rd w q v c s.1 s.2) : Calls Try.prog 30 #[.pointer (some ⟨q, 0, none⟩)] w fun e w' => ∃ a : Int, e = .returned (.tuple #[.int .i64 a, .int .i64 s.2]) ∧ Below w.heap.size w w' := by
  obtain ⟨at_, f⟩ := s
  dsimp only at hr ⊢
  by_cases hf : f = 0
  · subst hf
    exact (fault_0 q v c at_ w hr).mono fun e w' ⟨h1, h2⟩ => ⟨0, h1, by rw [h2]; exact Below.refl _ _⟩
  · exact (fault_f q v c at_ f hf w hr).mono fun e w' ⟨h1, h2⟩ => ⟨_, h1, h2⟩
set_option maxRecDepth 100000 in
set_option maxHeartbeats 1000000 in
theorem rn1_any (q : Nat) (v : Value) (c : List UInt8) (s : Nat × Int) (w : World) (hr : Rd w q v c s.1 s.2) (hl : c.length ≤ 140737488355328) : Calls Try.prog 53 #[.pointer (some ⟨q, 0, none⟩)] w fun e w' => e = .returned (.int .i64 (numB (rB c 1 s) : Int)) ∧ Rd w' q v c (rS c 1 s).1 (rS c 1 s).2 ∧ Fx (fun k => k = q) w w' := by
  refine calls_of_args [.pointer (some ⟨q, 0, none⟩)] Try.func53 rfl 7 Try.ntmps53 (by show 1 ≤ 7; decide) ?_
  refine EW.seq ?_
  refine EW.region ?_
  first | refine WL.assign rfl rfl rfl ?_
  refine WL.done ?_
  refine EW.on ?_
  refine EW.seq ?_
  refine EW.region ?_
  first | refine WL.move rfl rfl rfl ?_
  refine WL.call [.pointer (some ⟨q, 0, none⟩), .int .i64 1] enter28 rfl rfl rfl (rfix_any q 1 v c s _ hr hl (by decide)) ?_
  rintro _ w1 ⟨u, rfl, g1, g3, g4⟩
  refine ⟨_, rfl, ?_⟩
  refine WL.call [u] enter54 rfl rfl rfl (number_any u _ _ g1.has (by have := rB_len c 1 s; omega)) ?_
  rintro _ w2 ⟨rfl, hz2⟩
  rw [hz2]
  refine ⟨_, rfl, ?_⟩
  refine WL.conv rfl rfl rfl (conv_n (numB_lt _ (by have := rB_len c 1 s; omega)) _) ?_
  first | refine WL.assign rfl rfl rfl ?_
  refine WL.done ?_
  refine EW.on ?_
  refine EW.ret ?_
  exact EW.returns Try.results53 rfl ⟨rfl, g3, g4⟩
set_option maxRecDepth 100000 in
set_option maxHeartbeats 1000000 in
theorem rn2_any (q : Nat) (v : Value) (c : List UInt8) (s : Nat × Int) (w : World) (hr : Rd w q v c s.1 s.2) (hl : c.length ≤ 140737488355328) : Calls Try.prog 51 #[.pointer (some ⟨q, 0, none⟩)] w fun e w' => e = .returned (.int .i64 (numB (rB c 2 s) : Int)) ∧ Rd w' q v c (rS c 2 s).1 (rS c 2 s).2 ∧ Fx (fun k => k = q) w w' := by
  refine calls_of_args [.pointer (some ⟨q, 0, none⟩)] Try.func51 rfl 7 Try.ntmps51 (by show 1 ≤ 7; decide) ?_
  refine EW.seq ?_
  refine EW.region ?_
  first | refine WL.assign rfl rfl rfl ?_
  refine WL.done ?_
  refine EW.on ?_
  refine EW.seq ?_
  refine EW.region ?_
  first | refine WL.move rfl rfl rfl ?_
  refine WL.call [.pointer (some ⟨q, 0, none⟩), .int .i64 2] enter28 rfl rfl rfl (rfix_any q 2 v c s _ hr hl (by decide)) ?_
  rintro _ w1 ⟨u, rfl, g1, g3, g4⟩
  refine ⟨_, rfl, ?_⟩
  refine WL.call [u] enter54 rfl rfl rfl (number_any u _ _ g1.has (by have := rB_len c 2 s; omega)) ?_
  rintro _ w2 ⟨rfl, hz2⟩
  rw [hz2]
  refine ⟨_, rfl, ?_⟩
  refine WL.conv rfl rfl rfl (conv_n (numB_lt _ (by have := rB_len c 2 s; omega)) _) ?_
  first | refine WL.assign rfl rfl rfl ?_
  refine WL.done ?_
  refine EW.on ?_
  refine EW.ret ?_
  exact EW.returns Try.results51 rfl ⟨rfl, g3, g4⟩
set_option maxRecDepth 100000 in
set_option maxHeartbeats 1000000 in
theorem rn4_any (q : Nat) (v : Value) (c : List UInt8) (s : Nat × Int) (w : World) (hr : Rd w q v c s.1 s.2) (hl : c.length ≤ 140737488355328) : Calls Try.prog 33 #[.pointer (some ⟨q, 0, none⟩)] w fun e w' => e = .returned (u32v (numB (rB c 4 s))) ∧ Rd w' q v c (rS c 4 s).1 (rS c 4 s).2 ∧ Fx (fun k => k = q) w w' := by
  refine calls_of_args [.pointer (some ⟨q, 0, none⟩)] Try.func33 rfl 6 Try.ntmps33 (by show 1 ≤ 6; decide) ?_
  refine EW.seq ?_
  refine EW.region ?_
  first | refine WL.assign rfl rfl rfl ?_
  refine WL.done ?_
  refine EW.on ?_
  refine EW.seq ?_
  refine EW.region ?_
  first | refine WL.move rfl rfl rfl ?_
  refine WL.call [.pointer (some ⟨q, 0, none⟩), .int .i64 4] enter28 rfl rfl rfl (rfix_any q 4 v c s _ hr hl (by decide)) ?_
  rintro _ w1 ⟨u, rfl, g1, g3, g4⟩
  refine ⟨_, rfl, ?_⟩
  refine WL.call [u] enter54 rfl rfl rfl (number_any u _ _ g1.has (by have := rB_len c 4 s; omega)) ?_
  rintro _ w2 ⟨rfl, hz2⟩
  rw [hz2]
  refine ⟨_, rfl, ?_⟩
  first | refine WL.assign rfl rfl rfl ?_
  refine WL.done ?_
  refine EW.on ?_
  refine EW.ret ?_
  exact EW.returns Try.results33 rfl ⟨rfl, g3, g4⟩
set_option maxRecDepth 100000 in
set_option maxHeartbeats 1000000 in
theorem end_ok (q : Nat) (v : Value) (c : List UInt8) (at_ : Nat) (w : World) (hr : Rd w q v c at_ 0) (hl : c.length ≤ 140737488355328) (h : c.length ≤ at_) : Calls Try.prog 29 #[.pointer (some ⟨q, 0, none⟩)] w fun e w' => e = .returned (.tuple #[]) ∧ Below w.heap.size w w' := by
  have z1 : ¬ (0 : Int) < ((c.length - at_ : Nat) : Int) := by omega
  refine calls_of_args [.pointer (some ⟨q, 0, none⟩)] Try.func29 rfl 15 Try.ntmps29 (by show 1 ≤ 15; decide) ?_
  refine EW.scopeS ?_
  refine EW.seq ?_
  refine EW.seq ?_
  refine EW.region ?_
  first | refine WL.move rfl rfl rfl ?_
  first | refine WL.nilc rfl rfl rfl ?_
  refine WL.field rfl rfl rfl (f99_2 q _) ?_
  refine WL.load rfl rfl rfl (ldE hr.bl rfl) ?_
  first | refine WL.bin rfl rfl rfl rfl (int_eq_t rfl _ _ _) ?_ | refine WL.bin rfl rfl rfl rfl (int_eq_t ‹_› _ _ _) ?_ | refine WL.bin rfl rfl rfl rfl (int_eq_f ‹_› _ _ _) ?_ | refine WL.bin rfl rfl rfl rfl (int_eq_d _ _ _ _ _) ?_
  first | refine WL.move rfl rfl rfl ?_
  first | refine WL.move rfl rfl rfl ?_ | refine WL.skip _ rfl rfl rfl ?_
  refine WL.call [.pointer (some ⟨q, 0, none⟩)] enter52 rfl rfl rfl (left_any q v c at_ 0 _ hr hl) ?_
  rintro _ w1 ⟨rfl, be1⟩
  refine ⟨_, rfl, ?_⟩
  first | refine WL.bin rfl rfl rfl rfl (int_gt_t ‹_› _ _ _) ?_ | refine WL.bin rfl rfl rfl rfl (int_gt_f ‹_› _ _ _) ?_ | refine WL.bin rfl rfl rfl rfl (int_gt_d _ _ _ _ _) ?_ | refine WL.skip _ rfl rfl rfl ?_
  first | refine WL.pick rfl rfl rfl rfl ?_
  refine WL.done ?_
  refine EW.on ?_
  refine EW.cond_f rfl ?_
  refine EW.skip ?_
  refine EW.on ?_
  refine EW.seq ?_
  refine EW.ret ?_
  refine pr_then ?_
  refine pr_ng ?_
  exact EW.returns0 Try.results29 ⟨rfl, be1⟩
set_option maxRecDepth 100000 in
set_option maxHeartbeats 1000000 in
theorem end_bad (q : Nat) (v : Value) (c : List UInt8) (at_ : Nat) (f : Int) (hf : ¬ f = 0) (w : World) (hr : Rd w q v c at_ f) : Calls Try.prog 29 #[.pointer (some ⟨q, 0, none⟩)] w fun e w' => e = .returned (.tuple #[]) ∧ w' = w := by
  refine calls_of_args [.pointer (some ⟨q, 0, none⟩)] Try.func29 rfl 15 Try.ntmps29 (by show 1 ≤ 15; decide) ?_
  refine EW.scopeS ?_
  refine EW.seq ?_
  refine EW.seq ?_
  refine EW.region ?_
  first | refine WL.move rfl rfl rfl ?_
  first | refine WL.nilc rfl rfl rfl ?_
  refine WL.field rfl rfl rfl (f99_2 q _) ?_
  refine WL.load rfl rfl rfl (ldE hr.bl rfl) ?_
  first | refine WL.bin rfl rfl rfl rfl (int_eq_t rfl _ _ _) ?_ | refine WL.bin rfl rfl rfl rfl (int_eq_t ‹_› _ _ _) ?_ | refine WL.bin rfl rfl rfl rfl (int_eq_f ‹_› _ _ _) ?_ | refine WL.bin rfl rfl rfl rfl (int_eq_d _ _ _ _ _) ?_
  first | refine WL.move rfl rfl rfl ?_
  first | refine WL.move rfl rfl rfl ?_ | refine WL.skip _ rfl rfl rfl ?_
  refine WL.skip _ rfl rfl rfl ?_
  first | refine WL.bin rfl rfl rfl rfl (int_gt_t ‹_› _ _ _) ?_ | refine WL.bin rfl rfl rfl rfl (int_gt_f ‹_› _ _ _) ?_ | refine WL.bin rfl rfl rfl rfl (int_gt_d _ _ _ _ _) ?_ | refine WL.skip _ rfl rfl rfl ?_
  first | refine WL.pick rfl rfl rfl rfl ?_
  refine WL.done ?_
  refine EW.on ?_
  refine EW.cond_f rfl ?_
  refine EW.skip ?_
  refine EW.on ?_
  refine EW.seq ?_
  refine EW.ret ?_
  refine pr_then ?_
  refine pr_ng ?_
  exact EW.returns0 Try.results29 ⟨rfl, rfl⟩
set_option maxRecDepth 100000 in
set_option maxHeartbeats 1000000 in
theorem end_tail (q : Nat) (v : Value) (c : List UInt8) (at_ : Nat) (w : World) (hr : Rd w q v c at_ 0) (hl : c.length ≤ 140737488355328) (h : at_ < c.length) : Calls Try.prog 29 #[.pointer (some ⟨q, 0, none⟩)] w fun e w' => e = .returned (.tuple #[]) ∧ Rd w' q v c at_ 11 ∧ Fx (fun k => k = q) w w' := by
  have z1 : (0 : Int) < ((c.length - at_ : Nat) : Int) := by omega
  refine calls_of_args [.pointer (some ⟨q, 0, none⟩)] Try.func29 rfl 15 Try.ntmps29 (by show 1 ≤ 15; decide) ?_
  refine EW.scope 0 [(0, .pointer (some ⟨q, 0, none⟩))] (fun W => Below w.heap.size w W) rfl ?_ ?_
  · refine EW.seq ?_
    refine EW.seq ?_
    refine EW.region ?_
    first | refine WL.move rfl rfl rfl ?_
    first | refine WL.nilc rfl rfl rfl ?_
    refine WL.field rfl rfl rfl (f99_2 q _) ?_
    refine WL.load rfl rfl rfl (ldE hr.bl rfl) ?_
    first | refine WL.bin rfl rfl rfl rfl (int_eq_t rfl _ _ _) ?_ | refine WL.bin rfl rfl rfl rfl (int_eq_t ‹_› _ _ _) ?_ | refine WL.bin rfl rfl rfl rfl (int_eq_f ‹_› _ _ _) ?_ | refine WL.bin rfl rfl rfl rfl (int_eq_d _ _ _ _ _) ?_
    first | refine WL.move rfl rfl rfl ?_
    first | refine WL.move rfl rfl rfl ?_ | refine WL.skip _ rfl rfl rfl ?_
    refine WL.call [.pointer (some ⟨q, 0, none⟩)] enter52 rfl rfl rfl (left_any q v c at_ 0 _ hr hl) ?_
    rintro _ w1 ⟨rfl, be1⟩
    refine ⟨_, rfl, ?_⟩
    first | refine WL.bin rfl rfl rfl rfl (int_gt_t ‹_› _ _ _) ?_ | refine WL.bin rfl rfl rfl rfl (int_gt_f ‹_› _ _ _) ?_ | refine WL.bin rfl rfl rfl rfl (int_gt_d _ _ _ _ _) ?_ | refine WL.skip _ rfl rfl rfl ?_
    first | refine WL.pick rfl rfl rfl rfl ?_
    refine WL.done ?_
    refine EW.on ?_
    refine EW.cond_t rfl ?_
    refine EW.goto ?_
    refine pg_then ?_
    exact EW.jumps [0] rfl be1
  · intro wj hj
    have rj := hr.below hj
    show EW _ _ _ _ [(0, .pointer (some ⟨q, 0, none⟩))] _
    refine EW.seq ?_
    refine EW.skip ?_
    refine EW.on ?_
    refine EW.region ?_
    first | refine WL.move rfl rfl rfl ?_
    first | refine WL.nilc rfl rfl rfl ?_
    refine WL.field rfl rfl rfl (f99_2 q _) ?_
    obtain ⟨w8, s8, r8, x8⟩ := rj.fail 11
    refine WL.store rfl rfl rfl s8 ?_
    refine WL.done ?_
    refine pn_jump ?_
    exact EW.falls Try.results29 ⟨rfl, r8, (Fx.of_below hj).and x8⟩
theorem end_any (q : Nat) (v : Value) (c : List UInt8) (s : Nat × Int) (w : World) (hr : Rd w q v c s.1 s.2) (hl : c.length ≤ 140737488355328) : Calls Try.prog 29 #[.pointer (some ⟨q, 0, none⟩)] w fun e w' => e = .returned (.tuple #[]) ∧ Rd w' q v c (eS c s).1 (eS c s).2 ∧ Fx (fun k => k = q) w w' := by
  obtain ⟨at_, f⟩ := s
  dsimp only at hr
  unfold eS
  dsimp only
  by_cases hf : f = 0
  · subst hf
    by_cases h : at_ < c.length
    · rw [if_pos ⟨rfl, h⟩]; exact end_tail q v c at_ w hr hl h
    · rw [if_neg (fun e => h e.2)]
      exact (end_ok q v c at_ w hr hl (by omega)).mono fun e w' ⟨h1, h2⟩ => ⟨h1, hr.below h2, Fx.of_below h2⟩
  · rw [if_neg (fun e => hf e.1)]
    exact (end_bad q v c at_ f hf w hr).mono fun e w' ⟨h1, h2⟩ => ⟨h1, by rw [h2]; exact hr, by rw [h2]; exact Fx.refl _ _⟩
end Go.Proofs.Ytobfebpinkikdaa

set_option linter.unusedVariables false
set_option linter.unusedSimpArgs false
namespace Go.Proofs.Ytobfebpinkikdaa
open Go.RowKit

theorem info5s : (Try.prog.info? 5).map (·.size) = some 1 := by kernel_rfl
/-- Bytes laid over zeros. -/
def padR (Z bs : List UInt8) : List UInt8 := bs.take Z.length ++ Z.drop (bs.take Z.length).length
theorem padR_len (Z bs : List UInt8) : (padR Z bs).length = Z.length := by
  unfold padR
  rw [List.length_append, List.length_drop]
  have : (bs.take Z.length).length ≤ Z.length := by rw [List.length_take]; omega
  omega
theorem padR_full {Z bs : List UInt8} (h : bs.length = Z.length) : padR Z bs = bs := by
  unfold padR
  rw [List.take_of_length_le (by omega), List.drop_of_length_le (by omega), List.append_nil]
theorem cpB {w : World} {p off : Nat} {cs a b : List Value} {t : TypeId} {Z : List UInt8} (hb : Blk w p cs t) (hc : cs = a ++ (Z.map byt ++ b)) (ho : a.length = off) (cc : Nat) {v : Value} {bs : List UInt8} (hv : Has w v bs) (ty : TypeId) : ∃ (x : Int) (w' : World), (Builtin.copy_ #[31, 31] ty #[.slice (some ⟨p, off, none⟩) Z.length cc, v]).run Try.prog w = .ok (.int .i64 x) w' ∧ Blk w' p (a ++ ((padR Z bs).map byt ++ b)) t ∧ Fx (fun k => k = p) w w' := by
  have hl : (bs.take Z.length).length = min Z.length bs.length := List.length_take
  have hcl : off + Z.length ≤ cs.length := by rw [hc, List.length_append, List.length_append, List.length_map]; omega
  rcases hv with ⟨rfl, rfl⟩ | ⟨ad, cap, rfl, h2, h3⟩
  · have hrun := run_copy_none (P := Try.prog) w 31 31 ty 5 (some ⟨p, off, none⟩) none Z.length cc 0 0 Try.underlying31 info5s (by simp)
    exact ⟨_, _, hrun, by rw [hc] at hb; simpa [padR] using hb, Fx.refl _ _⟩
  · have hrun := run_copy_cells (P := Try.prog) w 31 31 ty 5 p off Z.length cc ad bs.length cap ((bs.take Z.length).map byt) Try.underlying31 info5s (by rw [List.length_map, hl]; exact Nat.min_comm _ _)
      (fun j v hj => by
        rw [List.getElem?_map, Option.map_eq_some_iff] at hj
        obtain ⟨u, hu, rfl⟩ := hj
        have hjq : j < (bs.take Z.length).length := (List.getElem?_eq_some_iff.1 hu).1
        rw [List.getElem?_take_of_lt (by omega)] at hu
        exact h3 j u hu)
      (fun j hj => by
        rw [List.length_map] at hj
        rw [hb.cell, List.getElem?_eq_getElem (by omega)]; rfl) (fun j _ => hb.frozen _) (byt_one _)
    refine ⟨_, _, hrun, ?_, Fx.setCells (S := fun k => k = p) p rfl _ _ _⟩
    have h := Blk.setCells ((bs.take Z.length).map byt) off w cs hb (by rw [List.length_map]; omega)
    have e : cs.take off ++ (bs.take Z.length).map byt ++ cs.drop (off + ((bs.take Z.length).map byt).length) = a ++ ((padR Z bs).map byt ++ b) := by
      rw [hc, ← ho, List.take_left, ← List.drop_drop, List.drop_left, List.length_map, List.drop_append_of_le_length (by rw [List.length_map]; omega), padR, List.map_append, ← List.map_drop]
      simp
    rw [e] at h
    exact h
section
variable {P : Program} {n : Nat} {ops : Array Oper} {S : Nat → World → Prop} {K : List (Nat × Value) → (World → Prop) → Prop} {i c lv : Nat} {ty : TypeId} {ps : String} {af : Array Edge} {gd : Option (Nat × Bool)} {r : List (Oper × Nat × Nat)} {e : List (Nat × Value)} {C : World → Prop}
theorem ZE.copy {t s : TypeId} {x y : Operand} {u u' : Value} (C' : Value → World → Prop) (hw : wantE ops e ⟨some i, .call { callee := .builtin .copy, args := #[x, y], argTypes := #[t, s] }, ty, ps, af, gd⟩ = some true) (hi : decide (i < n) = true) (hx : evE e x = some u) (hy : evE e y = some u') (h1 : ∀ v w, C' v w → S lv w) (hr : ∀ w, C w → ∃ v w', (Builtin.copy_ #[t, s] ty #[u, u']).run P w = .ok v w' ∧ C' v w') (k : ∀ v, (∃ w, C' v w) → wpZE P n ops S K r ((i, v) :: e) (C' v)) : wpZE P n ops S K ((⟨some i, .call { callee := .builtin .copy, args := #[x, y], argTypes := #[t, s] }, ty, ps, af, gd⟩, 1, lv) :: r) e C :=
  ZE.eff C' hw hi h1 (fun W hW => by
    obtain ⟨v, w', h2, h3⟩ := hr W hW
    exact ⟨v, w', fun a ha => by simp [execOp, resolve, invoke, builtin, ha.ev hx, ha.ev hy, h2, Result.andThen], h3⟩) k
end
/-- The reader apart from a block. -/
theorem Rd.fx {w w' : World} {q : Nat} {v : Value} {c : List UInt8} {at_ : Nat} {f : Int} (h : Rd w q v c at_ f) {g : Nat} (hf : Fx (fun k => k = g) w w') (hq : q ≠ g) (hv : Off v c g) : Rd w' q v c at_ f :=
  ⟨h.bl.fx hf hq, h.hs.fxo hf (fun k hk => by have e : k = g := hk; rw [e]; exact hv), h.le⟩
theorem Rd.off {w : World} {q : Nat} {v : Value} {c : List UInt8} {at_ : Nat} {f : Int} (h : Rd w q v c at_ f) {g : Nat} (hg : w.heap.size ≤ g) : Off v c g := by
  by_cases e2 : v.ownBlock = some g
  · rcases h.hs.blk e2 with e3 | e3
    · exact .inl e3
    · omega
  · exact .inr e2
def keyR (c : List UInt8) (s : Nat × Int) : List UInt8 := padR z32 (rB c 32 s)
theorem keyR_len (c : List UInt8) (s : Nat × Int) : (keyR c s).length = 32 := padR_len _ _
theorem u23r : ∃ d, Try.prog.underlying 23 = some d ∧ d.isRow = true := ⟨_, u23, rfl⟩
set_option maxRecDepth 100000 in
set_option maxHeartbeats 4000000 in
theorem rkey_any (q : Nat) (v : Value) (c : List UInt8) (s : Nat × Int) (w : World) (hr : Rd w q v c s.1 s.2) (hl : c.length ≤ 140737488355328) : Calls Try.prog 32 #[.pointer (some ⟨q, 0, none⟩)] w fun e w' => e = .returned (kv (keyR c s)) ∧ Rd w' q v c (rS c 32 s).1 (rS c 32 s).2 ∧ Fx (fun k => k = q) w w' := by
  obtain ⟨w1, q1, r1, bx1, e1, hq1⟩ := new_any (t := 23) (cs := z32.map byt) zv23 w
  obtain ⟨w2, q2, r2, bx2, e2, hq2⟩ := new_any (t := 23) (cs := z32.map byt) zv23 w1
  have l1 := e1.size
  have l2 := e2.size
  have hq1' := bx1.lt
  have hqw := hr.bl.lt
  have bx1' := bx1.on e2
  have rd2 := (hr.below e1).below e2
  have hoq2 : Off v c q2 := (hr.below e1).off (by omega)
  have hoq1 : Off v c q1 := hr.off (by omega)
  refine calls_of_args [.pointer (some ⟨q, 0, none⟩)] Try.func32 rfl 9 Try.ntmps32 (by show 1 ≤ 9; decide) ?_
  refine EW.seq ?_
  refine EW.region ?_
  refine WL.new rfl rfl r1 ?_
  refine WL.done ?_
  refine EW.on ?_
  refine EW.seq ?_
  refine EW.region ?_
  refine WL.new rfl rfl r2 ?_
  refine WL.done ?_
  refine EW.on ?_
  refine EW.seq ?_
  refine EW.ordB [(0, 0, 0), (1, 0, 0), (2, 1, 0), (3, 1, 0)] (by kernel_rfl) rfl (by kernel_rfl) ?_
  simp only [opsZ, List.getD_cons_zero, List.getD_cons_succ]
  refine ZE.slice0 rfl rfl rfl rfl sz0 (fun W => sl23 q2 0 W) ?_
  first | refine ZE.move rfl rfl rfl rfl sz0 ?_
  refine ZE.callR [.pointer (some ⟨q, 0, none⟩), .int .i64 32] (fun u W => Ob W w2.heap.size u (rB c 32 s) ∧ Rd W q v c (rS c 32 s).1 (rS c 32 s).2 ∧ Fx (fun k => k = q) w2 W) enter28 rfl rfl rfl (fun _ _ _ => .inl rfl) (fun W hW => (rfix_any q 32 v c s W (rd2.below hW) hl (by decide)).mono fun e w' ⟨u, g1, g2, g3, g4⟩ => ⟨u, g1, g2.lower hW.size, g3, (Fx.of_below hW).and g4⟩) ?_
  rintro vr ⟨_, _⟩
  refine ZE.copy (fun x W => Blk W q2 ((keyR c s).map byt) 23 ∧ Blk W q1 (z32.map byt) 23 ∧ Rd W q v c (rS c 32 s).1 (rS c 32 s).2 ∧ Fx (fun k => k = q ∨ k = q2) w2 W) rfl rfl rfl rfl (fun _ _ _ => .inl rfl) ?_ ?_
  · rintro W ⟨g1, g2, g3⟩
    obtain ⟨x, W2, c1, c2, c3⟩ := cpB (a := []) (b := []) (Z := z32) (off := 0) (bx2.fx g3 (fun e => by omega)) (by simp) rfl 32 g1.has 3
    refine ⟨_, W2, c1, by simpa [keyR] using c2, (bx1'.fx g3 (fun e => by omega)).fx c3 (fun e => by omega), g2.fx c3 (by omega) hoq2, (g3.mono (fun k _ e => .inl e)).trans c3 (fun k _ e => .inr e)⟩
  rintro vc ⟨_, _⟩
  rintro w3 ⟨y2, y1, rd3, f3⟩
  refine EW.on ?_
  refine EW.seq ?_
  refine EW.region ?_
  refine WL.load rfl rfl rfl (y2.ldA (a := []) (b := []) (m := (keyR c s).map byt) u23 rfl (i23 (keyR_len c s)) (by simp) rfl) ?_
  obtain ⟨w4, s4, b4, f4⟩ := y1.stA (a := []) (b := []) (m := z32.map byt) (ty := 23) (vs := (keyR c s).map byt) (i23 (keyR_len c s)) (byts_one' _) (by simp) rfl (by simp [keyR_len, z32])
  refine WL.store rfl rfl rfl s4 ?_
  refine WL.done ?_
  refine EW.on ?_
  refine EW.ret ?_
  refine EW.returnsC Try.results32 rfl b4 u23 rfl (by simpa using i23 (keyR_len c s)) ⟨by simp [kv], rd3.fx f4 (by omega) hoq1, ?_⟩
  refine ((Fx.of_below (S := fun k => k = q) (e1.trans (e2.mono l1))).trans f3 (fun k hk e => ?_)).trans f4 (fun k hk e => ?_)
  · rcases e with e | e
    · exact e
    · omega
  · have e : k = q1 := e
    omega
end Go.Proofs.Ytobfebpinkikdaa
