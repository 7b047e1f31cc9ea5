import Derived.Test.YteghbkeaojbdgaaQi
set_option linter.unusedVariables false
set_option linter.unusedSimpArgs false
namespace Go.Proofs.Yteghbkeaojbdgaa
open Go.RowKit

set_option maxRecDepth 100000 in
set_option maxHeartbeats 1000000 in
theorem decode_neg (n : Int) (v : Value) (w : World) (hn : n < 0) : Calls Try.prog 8 #[.int .i64 n, v] w fun e w' => e = .returned (.tuple #[.slice none 0 0, .int .i64 4]) ∧ w' = w := by
  refine calls_of_args [.int .i64 n, v] Try.func8 rfl 38 Try.ntmps8 (by show 2 ≤ 38; decide) ?_
  refine EW.seq ?_
  refine EW.region ?_
  first | refine WL.assign rfl rfl rfl ?_
  first | refine WL.assign rfl rfl rfl ?_
  refine WL.done ?_
  refine EW.on ?_
  refine EW.seq ?_
  refine EW.block ?_
  refine EW.seq ?_
  refine EW.region ?_
  first | refine WL.move rfl rfl rfl ?_
  first | refine WL.bin rfl rfl rfl rfl (int_lt_t ‹_› _ _ _) ?_ | refine WL.bin rfl rfl rfl rfl (int_lt_f ‹_› _ _ _) ?_ | refine WL.bin rfl rfl rfl rfl (int_lt_d _ _ _ _ _) ?_
  first | refine WL.assign rfl rfl rfl ?_
  refine WL.done ?_
  refine EW.on ?_
  refine EW.cond_t rfl ?_
  refine EW.seq ?_
  refine EW.region ?_
  first | refine WL.assign rfl rfl rfl ?_
  first | refine WL.assign rfl rfl rfl ?_
  refine WL.done ?_
  refine EW.on ?_
  refine EW.ret ?_
  refine pr_block ?_
  refine pr_then ?_
  exact EW.returns2 Try.results8 rfl rfl ⟨rfl, rfl⟩
set_option maxRecDepth 100000 in
set_option maxHeartbeats 1000000 in
theorem decode_short (n : Int) (v : Value) (c : List UInt8) (w : World) (hb : Has w v c) (hn : ¬ n < 0) (hc : (c.length : Int) < 1008) : Calls Try.prog 8 #[.int .i64 n, v] w fun e w' => e = .returned (.tuple #[.slice none 0 0, .int .i64 10]) ∧ w' = w := by
  refine calls_of_args [.int .i64 n, v] Try.func8 rfl 38 Try.ntmps8 (by show 2 ≤ 38; decide) ?_
  refine EW.seq ?_
  refine EW.region ?_
  first | refine WL.assign rfl rfl rfl ?_
  first | refine WL.assign rfl rfl rfl ?_
  refine WL.done ?_
  refine EW.on ?_
  refine EW.seq ?_
  refine EW.block ?_
  refine EW.seq ?_
  refine EW.region ?_
  first | refine WL.move rfl rfl rfl ?_
  first | refine WL.bin rfl rfl rfl rfl (int_lt_t ‹_› _ _ _) ?_ | refine WL.bin rfl rfl rfl rfl (int_lt_f ‹_› _ _ _) ?_ | refine WL.bin rfl rfl rfl rfl (int_lt_d _ _ _ _ _) ?_
  first | refine WL.assign rfl rfl rfl ?_
  refine WL.done ?_
  refine EW.on ?_
  refine EW.cond_f rfl ?_
  refine EW.seq ?_
  refine EW.region ?_
  first | refine WL.move rfl rfl rfl ?_
  refine WL.len rfl rfl rfl (hb.len _ _) ?_
  first | refine WL.bin rfl rfl rfl rfl (int_lt_t ‹_› _ _ _) ?_ | refine WL.bin rfl rfl rfl rfl (int_lt_f ‹_› _ _ _) ?_ | refine WL.bin rfl rfl rfl rfl (int_lt_d _ _ _ _ _) ?_
  first | refine WL.assign rfl rfl rfl ?_
  refine WL.done ?_
  refine EW.on ?_
  refine EW.cond_t rfl ?_
  refine EW.seq ?_
  refine EW.region ?_
  first | refine WL.assign rfl rfl rfl ?_
  first | refine WL.assign rfl rfl rfl ?_
  refine WL.done ?_
  refine EW.on ?_
  refine EW.ret ?_
  refine pr_block ?_
  refine pr_then ?_
  exact EW.returns2 Try.results8 rfl rfl ⟨rfl, rfl⟩
set_option maxRecDepth 100000 in
set_option maxHeartbeats 1000000 in
theorem decode_long (n : Int) (v : Value) (c : List UInt8) (w : World) (hb : Has w v c) (hn : ¬ n < 0) (hc : (1008 : Int) < (c.length : Int)) : Calls Try.prog 8 #[.int .i64 n, v] w fun e w' => e = .returned (.tuple #[.slice none 0 0, .int .i64 11]) ∧ w' = w := by
  have hc' : ¬ (c.length : Int) < 1008 := by omega
  refine calls_of_args [.int .i64 n, v] Try.func8 rfl 38 Try.ntmps8 (by show 2 ≤ 38; decide) ?_
  refine EW.seq ?_
  refine EW.region ?_
  first | refine WL.assign rfl rfl rfl ?_
  first | refine WL.assign rfl rfl rfl ?_
  refine WL.done ?_
  refine EW.on ?_
  refine EW.seq ?_
  refine EW.block ?_
  refine EW.seq ?_
  refine EW.region ?_
  first | refine WL.move rfl rfl rfl ?_
  first | refine WL.bin rfl rfl rfl rfl (int_lt_t ‹_› _ _ _) ?_ | refine WL.bin rfl rfl rfl rfl (int_lt_f ‹_› _ _ _) ?_ | refine WL.bin rfl rfl rfl rfl (int_lt_d _ _ _ _ _) ?_
  first | refine WL.assign rfl rfl rfl ?_
  refine WL.done ?_
  refine EW.on ?_
  refine EW.cond_f rfl ?_
  refine EW.seq ?_
  refine EW.region ?_
  first | refine WL.move rfl rfl rfl ?_
  refine WL.len rfl rfl rfl (hb.len _ _) ?_
  first | refine WL.bin rfl rfl rfl rfl (int_lt_t ‹_› _ _ _) ?_ | refine WL.bin rfl rfl rfl rfl (int_lt_f ‹_› _ _ _) ?_ | refine WL.bin rfl rfl rfl rfl (int_lt_d _ _ _ _ _) ?_
  first | refine WL.assign rfl rfl rfl ?_
  refine WL.done ?_
  refine EW.on ?_
  refine EW.cond_f rfl ?_
  refine EW.seq ?_
  refine EW.region ?_
  first | refine WL.move rfl rfl rfl ?_
  refine WL.len rfl rfl rfl (hb.len _ _) ?_
  first | refine WL.bin rfl rfl rfl rfl (int_gt_t ‹_› _ _ _) ?_ | refine WL.bin rfl rfl rfl rfl (int_gt_f ‹_› _ _ _) ?_ | refine WL.bin rfl rfl rfl rfl (int_gt_d _ _ _ _ _) ?_
  first | refine WL.assign rfl rfl rfl ?_
  refine WL.done ?_
  refine EW.on ?_
  refine EW.cond_t rfl ?_
  refine EW.seq ?_
  refine EW.region ?_
  first | refine WL.assign rfl rfl rfl ?_
  first | refine WL.assign rfl rfl rfl ?_
  refine WL.done ?_
  refine EW.on ?_
  refine EW.ret ?_
  refine pr_block ?_
  refine pr_then ?_
  exact EW.returns2 Try.results8 rfl rfl ⟨rfl, rfl⟩
set_option maxRecDepth 100000 in
set_option maxHeartbeats 1000000 in
theorem decode_1008 (n : Nat) (v : Value) (c : List UInt8) (w : World) (hb : Has w v c) (hn : n < 9223372036854775808) (hl : c.length = 1008) : Calls Try.prog 8 #[.int .i64 (n : Int), v] w fun e w' => ∃ (vl : Value) (code : Int), e = .returned (.tuple #[vl, .int .i64 code]) ∧ Below w.heap.size w w' ∧ ((code = 0 ∧ ∃ rs p, Ls w' vl rs ∧ rs.length = n ∧ Pz c (rs.map RV.d) p ∧ orB (c.drop p) = 0 ∧ Fresh w vl) ∨ (vl = .slice none 0 0 ∧ ¬ code = 0 ∧ ((code = 104 ∧ ∃ ds p, Pz c ds p ∧ ds.length = n ∧ ¬ orB (c.drop p) = 0) ∨ ∀ ds p, Pz c ds p → ds.length ≠ n))) := by
  have z1 : ¬ (n : Int) < 0 := by omega
  have z2 : ¬ (c.length : Int) < 1008 := by omega
  have z3 : ¬ (1008 : Int) < (c.length : Int) := by omega
  refine calls_of_args [.int .i64 (n : Int), v] Try.func8 rfl 38 Try.ntmps8 (by show 2 ≤ 38; decide) ?_
  refine EW.seq ?_
  refine EW.region ?_
  first | refine WL.assign rfl rfl rfl ?_
  first | refine WL.assign rfl rfl rfl ?_
  refine WL.done ?_
  refine EW.on ?_
  refine EW.seq ?_
  refine EW.block ?_
  refine EW.seq ?_
  refine EW.region ?_
  first | refine WL.move rfl rfl rfl ?_
  first | refine WL.bin rfl rfl rfl rfl (int_lt_t ‹_› _ _ _) ?_ | refine WL.bin rfl rfl rfl rfl (int_lt_f ‹_› _ _ _) ?_ | refine WL.bin rfl rfl rfl rfl (int_lt_d _ _ _ _ _) ?_
  first | refine WL.assign rfl rfl rfl ?_
  refine WL.done ?_
  refine EW.on ?_
  refine EW.cond_f rfl ?_
  refine EW.seq ?_
  refine EW.region ?_
  first | refine WL.move rfl rfl rfl ?_
  refine WL.len rfl rfl rfl (hb.len _ _) ?_
  first | refine WL.bin rfl rfl rfl rfl (int_lt_t ‹_› _ _ _) ?_ | refine WL.bin rfl rfl rfl rfl (int_lt_f ‹_› _ _ _) ?_ | refine WL.bin rfl rfl rfl rfl (int_lt_d _ _ _ _ _) ?_
  first | refine WL.assign rfl rfl rfl ?_
  refine WL.done ?_
  refine EW.on ?_
  refine EW.cond_f rfl ?_
  refine EW.seq ?_
  refine EW.region ?_
  first | refine WL.move rfl rfl rfl ?_
  refine WL.len rfl rfl rfl (hb.len _ _) ?_
  first | refine WL.bin rfl rfl rfl rfl (int_gt_t ‹_› _ _ _) ?_ | refine WL.bin rfl rfl rfl rfl (int_gt_f ‹_› _ _ _) ?_ | refine WL.bin rfl rfl rfl rfl (int_gt_d _ _ _ _ _) ?_
  first | refine WL.assign rfl rfl rfl ?_
  refine WL.done ?_
  refine EW.on ?_
  refine EW.cond_f rfl ?_
  refine EW.skip ?_
  refine pn_block ?_
  refine EW.on ?_
  refine EW.seq ?_
  refine EW.region ?_
  first | refine WL.move rfl rfl rfl ?_
  refine WL.call [v] enter28 rfl rfl rfl (newR_any v c _ hb (by omega)) ?_
  rintro _ w1 ⟨u, q, rfl, rd1, hq, be1⟩
  refine ⟨_, rfl, ?_⟩
  first | refine WL.assign rfl rfl rfl ?_
  refine WL.done ?_
  refine EW.on ?_
  refine EW.seq ?_
  refine EW.region ?_
  first | refine WL.move rfl rfl rfl ?_
  first | refine WL.move rfl rfl rfl ?_
  refine WL.call [.pointer (some ⟨q, 0, none⟩), .int .i64 (n : Int)] enter29 rfl rfl rfl (readAll_any q n u c _ rd1 (by omega) hn) ?_
  rintro _ w2 ⟨vl, code, rfl, x2, hcs⟩
  have be2 : Below w.heap.size w w2 := be1.trans (x2.below (fun k hk e => by have e' : k = q := e; omega) be1.size)
  refine ⟨_, rfl, ?_⟩
  first | refine WL.move rfl rfl rfl ?_
  first | refine WL.extract rfl rfl rfl (ext_2 _ _ _).1 ?_
  first | refine WL.extract rfl rfl rfl (ext_2 _ _ _).2 ?_
  first | refine WL.assign rfl rfl rfl ?_
  first | refine WL.assign rfl rfl rfl ?_
  refine WL.done ?_
  refine EW.on ?_
  refine EW.seq ?_
  refine EW.seq ?_
  rcases hcs with ⟨rfl, rs, p, ol, hln, hpz, rd2⟩ | ⟨rfl, hcode, hno⟩
  · refine EW.region ?_
    first | refine WL.move rfl rfl rfl ?_
    first | refine WL.bin rfl rfl rfl rfl (int_ne_f rfl _ _ _) ?_ | refine WL.bin rfl rfl rfl rfl (int_ne_t ‹_› _ _ _) ?_ | refine WL.bin rfl rfl rfl rfl (int_ne_f ‹_› _ _ _) ?_ | refine WL.bin rfl rfl rfl rfl (int_ne_t (by decide) _ _ _) ?_ | refine WL.bin rfl rfl rfl rfl (int_ne_d _ _ _ _ _) ?_
    refine WL.done ?_
    refine EW.on ?_
    refine EW.cond_f rfl ?_
    refine EW.skip ?_
    refine EW.on ?_
    refine EW.seq ?_
    refine EW.seq ?_
    have hp := rd2.le
    have htk : (c.drop p).take (c.length - p) = c.drop p := List.take_of_length_le (by simp)
    by_cases ho : orB (c.drop p) = 0
    · refine EW.region ?_
      first | refine WL.move rfl rfl rfl ?_
      first | refine WL.move rfl rfl rfl ?_
      refine WL.call [.pointer (some ⟨q, 0, none⟩)] enter32 rfl rfl rfl (left_any q u c p 0 _ rd2 (by omega)) ?_
      rintro _ w3 ⟨rfl, be3⟩
      have rd3 := rd2.below be3
      refine ⟨_, rfl, ?_⟩
      refine WL.call [.pointer (some ⟨q, 0, none⟩), .int .i64 ((c.length - p : Nat) : Int)] enter31 rfl rfl rfl (rfix_ok q (c.length - p) u c p _ rd3 (by omega) (by omega)) ?_
      rintro _ w4 ⟨vr, rfl, g1, _, g3, x4⟩
      have be4 : Below w.heap.size w w4 := (be2.trans (be3.mono be2.size)).trans (x4.below (fun k hk e => by have e' : k = q := e; omega) (Nat.le_trans be2.size be3.size))
      have ls4 := (ol.ls.below be3).fxB rd3.bl (nob78 _ _ _ rd3.hs.sl) x4 (fun k hk => by have := ol.base k hk; have := rd1.bl.lt; omega)
      refine ⟨_, rfl, ?_⟩
      refine WL.call [vr] enter30 rfl rfl rfl (blank_any vr _ _ g1 (by simp; omega)) ?_
      rintro e5 w5 ⟨he5, hz5⟩
      rw [htk, decide_eq_true ho] at he5
      rw [hz5]
      refine ⟨_, he5, ?_⟩
      first | refine WL.un rfl rfl rfl (not_t _ _) ?_
      refine WL.done ?_
      refine EW.on ?_
      refine EW.cond_f rfl ?_
      refine EW.skip ?_
      refine EW.on ?_
      refine EW.seq ?_
      refine EW.region ?_
      first | refine WL.move rfl rfl rfl ?_
      first | refine WL.assign rfl rfl rfl ?_
      first | refine WL.assign rfl rfl rfl ?_
      refine WL.done ?_
      refine EW.on ?_
      refine EW.ret ?_
      exact EW.returns2 Try.results8 rfl rfl ⟨_, _, rfl, be4, .inl ⟨rfl, rs, p, ls4, hln, hpz, ho, fun k hk => by have := ol.base k hk; have := be1.size; omega⟩⟩
    · refine EW.region ?_
      first | refine WL.move rfl rfl rfl ?_
      first | refine WL.move rfl rfl rfl ?_
      refine WL.call [.pointer (some ⟨q, 0, none⟩)] enter32 rfl rfl rfl (left_any q u c p 0 _ rd2 (by omega)) ?_
      rintro _ w3 ⟨rfl, be3⟩
      have rd3 := rd2.below be3
      refine ⟨_, rfl, ?_⟩
      refine WL.call [.pointer (some ⟨q, 0, none⟩), .int .i64 ((c.length - p : Nat) : Int)] enter31 rfl rfl rfl (rfix_ok q (c.length - p) u c p _ rd3 (by omega) (by omega)) ?_
      rintro _ w4 ⟨vr, rfl, g1, _, g3, x4⟩
      have be4 : Below w.heap.size w w4 := (be2.trans (be3.mono be2.size)).trans (x4.below (fun k hk e => by have e' : k = q := e; omega) (Nat.le_trans be2.size be3.size))
      have ls4 := (ol.ls.below be3).fxB rd3.bl (nob78 _ _ _ rd3.hs.sl) x4 (fun k hk => by have := ol.base k hk; have := rd1.bl.lt; omega)
      refine ⟨_, rfl, ?_⟩
      refine WL.call [vr] enter30 rfl rfl rfl (blank_any vr _ _ g1 (by simp; omega)) ?_
      rintro e5 w5 ⟨he5, hz5⟩
      rw [htk, decide_eq_false ho] at he5
      rw [hz5]
      refine ⟨_, he5, ?_⟩
      first | refine WL.un rfl rfl rfl (not_t _ _) ?_
      refine WL.done ?_
      refine EW.on ?_
      refine EW.cond_t rfl ?_
      refine EW.seq ?_
      refine EW.region ?_
      first | refine WL.assign rfl rfl rfl ?_
      first | refine WL.assign rfl rfl rfl ?_
      refine WL.done ?_
      refine EW.on ?_
      refine EW.ret ?_
      refine pr_then ?_
      exact EW.returns2 Try.results8 rfl rfl ⟨_, _, rfl, be4, .inr ⟨rfl, by decide, .inl ⟨rfl, rs.map RV.d, p, hpz, by rw [List.length_map]; exact hln, ho⟩⟩⟩
  · refine EW.region ?_
    first | refine WL.move rfl rfl rfl ?_
    first | refine WL.bin rfl rfl rfl rfl (int_ne_f rfl _ _ _) ?_ | refine WL.bin rfl rfl rfl rfl (int_ne_t ‹_› _ _ _) ?_ | refine WL.bin rfl rfl rfl rfl (int_ne_f ‹_› _ _ _) ?_ | refine WL.bin rfl rfl rfl rfl (int_ne_t (by decide) _ _ _) ?_ | refine WL.bin rfl rfl rfl rfl (int_ne_d _ _ _ _ _) ?_
    refine WL.done ?_
    refine EW.on ?_
    refine EW.cond_t rfl ?_
    refine EW.seq ?_
    refine EW.region ?_
    first | refine WL.move rfl rfl rfl ?_
    first | refine WL.assign rfl rfl rfl ?_
    first | refine WL.assign rfl rfl rfl ?_
    refine WL.done ?_
    refine EW.on ?_
    refine EW.ret ?_
    refine pr_then ?_
    exact EW.returns2 Try.results8 rfl rfl ⟨_, _, rfl, be2, .inr ⟨rfl, hcode, .inr hno⟩⟩
end Go.Proofs.Yteghbkeaojbdgaa
