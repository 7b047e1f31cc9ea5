import Derived.Test.YtacimelcmkhhlaaKm
set_option linter.unusedVariables false
set_option linter.unusedSimpArgs false
namespace Go.Proofs.Ytacimelcmkhhlaa
open Go.RowKit

theorem bd59 (W : World) : (Instr.build 59 ([] : List (Nat × Value)).toArray).run Try.prog W = .ok (.agg [Value.slice none 0 0, Value.slice none 0 0].toArray) W := by kernel_rfl
def lm1 : Lm := ⟨1, 1, 0, 0, 1, 1⟩
theorem lm1_ok : lm1.ok := ⟨by decide⟩
theorem bd43_4 (W : World) : (Instr.build 43 [(0, .int .i64 1), (1, .int .i64 1), (4, .int .i64 1), (5, .int .u32 1)].toArray).run Try.prog W = .ok lm1.v W := by kernel_rfl
theorem built62 : (Try.prog.info? 62).map (·.zero) = some (some (.agg (opC 0 Sg.z Lm.z (.slice none 0 0)).toArray)) := by kernel_rfl
theorem bdOp (kd : Int) (W : World) : (Instr.build 62 [(0, .int .i64 kd)].toArray).run Try.prog W = .ok (.agg (opC kd Sg.z Lm.z (.slice none 0 0)).toArray) W := by
  refine run_build W 62 _ _ ?_
  rw [built_of (zs := opC 0 Sg.z Lm.z (.slice none 0 0)) built62 Try.underlying62 (show _ = some [(0, 1), (1, 343), (344, 6), (350, 1)] by kernel_rfl)]
  show Instr.fill _ (opC 0 Sg.z Lm.z (.slice none 0 0)).toArray [(0, .int .i64 kd)] = some (opC kd Sg.z Lm.z (.slice none 0 0)).toArray
  rw [show opC 0 Sg.z Lm.z (.slice none 0 0) = [] ++ ([.int .i64 0] ++ (Sg.z.cs ++ (Lm.z.cs ++ [.slice none 0 0]))) from rfl, fill_one (vs := [.int .i64 kd]) (off := 0) (n := 1) rfl rfl rfl rfl rfl, fill_nil]
  rfl
theorem bdOpL (kd : Int) (l : Lm) (W : World) : (Instr.build 62 [(0, .int .i64 kd), (2, l.v)].toArray).run Try.prog W = .ok (.agg (opC kd Sg.z l (.slice none 0 0)).toArray) W := by
  refine run_build W 62 _ _ ?_
  rw [built_of (zs := opC 0 Sg.z Lm.z (.slice none 0 0)) built62 Try.underlying62 (show _ = some [(0, 1), (1, 343), (344, 6), (350, 1)] by kernel_rfl)]
  show Instr.fill _ (opC 0 Sg.z Lm.z (.slice none 0 0)).toArray [(0, .int .i64 kd), (2, l.v)] = some (opC kd Sg.z l (.slice none 0 0)).toArray
  rw [show opC 0 Sg.z Lm.z (.slice none 0 0) = [] ++ ([.int .i64 0] ++ (Sg.z.cs ++ (Lm.z.cs ++ [.slice none 0 0]))) from rfl, fill_one (vs := [.int .i64 kd]) (off := 0) (n := 1) rfl rfl rfl rfl rfl]
  rw [show ([] : List Value) ++ ([.int .i64 kd] ++ (Sg.z.cs ++ (Lm.z.cs ++ [.slice none 0 0]))) = ([.int .i64 kd] ++ Sg.z.cs) ++ (Lm.z.cs ++ [.slice none 0 0]) from by simp, fill_one (vs := l.cs) (off := 344) (n := 6) rfl rfl rfl rfl (by simp [Sg.len Sg.z_ok]), fill_nil]
  simp [opC]
/-- An operation that is handed in. -/
structure OpX where
  kd : Int
  s : Sg
  l : Lm
  bv : Value
  bs : List UInt8
structure OpX.ok (x : OpX) (w : World) : Prop where
  ks : x.s.ok
  kl : x.l.ok
  hb : Has w x.bv x.bs
  lb : x.bs.length ≤ 140737488355328
def exE (sv : Value) (qb t : Nat) : List (Nat × Value) := [(0, sv), (3, .pointer (some ⟨qb, 0, none⟩)), (4, .int .i64 (t : Int))]
def ExI (w : World) (qb t : Nat) (W : World) : Prop := t ≤ 40 ∧ Below w.heap.size w W ∧ ∃ L V es, Bk W w.heap.size qb L V es ∧ es.length ≤ 2 * t
theorem pl0_nil {w : World} {b qb : Nat} {L V : Value} {es : List En3} (hB : Bk w b qb L V es) (hl : es.length ≤ 900) (l : Lm) (kl : l.ok) : Pl0 w b qb L V es Sg.z l (.slice none 0 0) [] :=
  ⟨Sg.z_ok, kl, hB, .inl ⟨rfl, rfl⟩, fun _ _ => .inl rfl, Nat.zero_le _, hl⟩
set_option maxRecDepth 100000 in
set_option maxHeartbeats 4000000 in
theorem exact_any (w : World) (sv : Value) (n : Nat) (hlen : ∀ (W : World) (ty : TypeId), (Builtin.len_ #[55] ty #[sv]).run Try.prog W = .ok (.int .i64 (n : Int)) W) (hat : ∀ i, i < n → ∃ x : OpX, x.ok w ∧ ∃ ad, (∀ W, (Instr.indexAt 55 sv (.int .i64 (i : Int))).run Try.prog W = .ok (.pointer (some ad)) W) ∧ ∀ W, Below w.heap.size w W → (Instr.loadAt 62 (.pointer (some ad))).run Try.prog W = .ok (.agg (opC x.kd x.s x.l x.bv).toArray) W) : Calls Try.prog 8 #[sv] w fun e w' => e = .returned (.bool true) ∧ Below w.heap.size w w' := by
  obtain ⟨w1, qb, r1, bx1, e1, hqb⟩ := box_any 59 [Value.slice none 0 0, Value.slice none 0 0] w
  have bk1 : Bk w1 w.heap.size qb (.slice none 0 0) (.slice none 0 0) [] := ⟨bx1, ⟨rfl, .inl ⟨rfl, rfl⟩⟩, ⟨rfl, .inl ⟨rfl, rfl⟩⟩, fun e he => by simp at he, by omega, fun k hk => by (cases hk), fun k hk => by (cases hk), fun k hk => by (cases hk), fun e he => by simp at he⟩
  refine calls_of_args [sv] Try.func8 rfl 67 Try.ntmps8 (by show 1 ≤ 67; decide) ?_
  refine EW.seq ?_
  refine EW.region ?_
  first | refine WL.assign rfl rfl rfl ?_
  refine WL.done ?_
  refine EW.on ?_
  refine EW.seq ?_
  refine EW.region ?_
  refine WL.buildN [] rfl rfl rfl (bd59 _) ?_
  refine WL.box rfl rfl rfl r1 ?_
  first | refine WL.assign rfl rfl rfl ?_
  refine WL.done ?_
  refine EW.on ?_
  refine EW.seq ?_
  refine EW.seq ?_
  refine EW.region ?_
  first | refine WL.assign rfl rfl rfl ?_
  refine WL.done ?_
  refine EW.on ?_
  refine EW.block ?_
  refine EW.loop (exE sv qb) (ExI w qb) (fun t => 40 - t) 0 [0, 3, 4] rfl ⟨Nat.zero_le _, e1, _, _, [], bk1, Nat.zero_le _⟩ ?_
  rintro t wi ⟨htl, be, L, V, es, hB, hes⟩
  show EW _ _ _ _ [(0, sv), (3, .pointer (some ⟨qb, 0, none⟩)), (4, .int .i64 (t : Int))] _
  refine EW.seq ?_
  refine EW.seq ?_
  have hcs : (t < n ∧ t < 40) ∨ n ≤ t ∨ (t < n ∧ 40 ≤ t) := by omega
  rcases hcs with ⟨ha, hb⟩ | ha | ⟨ha, hb⟩
  · refine EW.region ?_
    first | refine WL.move rfl rfl rfl ?_
    first | refine WL.move rfl rfl rfl ?_
    refine WL.len rfl rfl rfl (hlen _ _) ?_
    refine WL.bin rfl rfl rfl rfl (int_lt_t (by omega) _ _ _) ?_
    first | refine WL.move rfl rfl rfl ?_
    first | refine WL.move rfl rfl rfl ?_ | refine WL.skip _ rfl rfl rfl ?_
    refine WL.bin rfl rfl rfl rfl (int_lt_t (by omega) _ _ _) ?_
    first | refine WL.pick rfl rfl rfl rfl ?_
    refine WL.done ?_
    refine EW.on ?_
    refine EW.cond_t rfl ?_
    refine EW.skip ?_
    refine EW.on ?_
    refine EW.seq ?_
    refine EW.block ?_
    refine EW.seq ?_
    refine EW.region ?_
    first | refine WL.move rfl rfl rfl ?_
    first | refine WL.move rfl rfl rfl ?_
    first | refine WL.move rfl rfl rfl ?_
    obtain ⟨x, hx, ad, ix, ld⟩ := hat t (by omega)
    refine WL.index rfl rfl rfl rfl (ix _) ?_
    refine WL.load rfl rfl rfl (ld _ be) ?_
    refine WL.call [.pointer (some ⟨qb, 0, none⟩), .agg (opC x.kd x.s x.l x.bv).toArray] enter18 rfl rfl rfl (plays_any wi w.heap.size qb L V es x.kd x.s x.l x.bv x.bs ⟨hx.ks, hx.kl, hB, hx.hb.below be, fun k hk => hx.hb.offB' (hB.lt hk).1, hx.lb, by omega⟩) ?_
    rintro _ w5 ⟨rfl, ⟨L5, V5, es5, hB5, hl5, _, _⟩, fx5⟩
    have be5 : Below w.heap.size w w5 := be.trans (fx5.below (fun k hk hb => by have := (hB.lt hb).1; omega) be.size)
    refine ⟨_, rfl, ?_⟩
    first | refine WL.assign rfl rfl rfl ?_
    refine WL.done ?_
    refine EW.on ?_
    refine EW.seq ?_
    refine EW.region ?_
    first | refine WL.move rfl rfl rfl ?_
    first | refine WL.un rfl rfl rfl (not_t _ _) ?_
    first | refine WL.move rfl rfl rfl ?_
    first | refine WL.move rfl rfl rfl ?_ | refine WL.skip _ rfl rfl rfl ?_
    refine WL.call [.pointer (some ⟨qb, 0, none⟩)] enter19 rfl rfl rfl (holds_any w5 w.heap.size qb L5 V5 es5 hB5 (by omega)) ?_
    rintro _ w6 ⟨rfl, be6⟩
    refine ⟨_, rfl, ?_⟩
    first | refine WL.un rfl rfl rfl (not_t _ _) ?_ | refine WL.skip _ rfl rfl rfl ?_
    first | refine WL.pick rfl rfl rfl rfl ?_
    refine WL.done ?_
    refine EW.on ?_
    refine EW.cond_f rfl ?_
    refine EW.skip ?_
    refine pn_block ?_
    refine EW.on ?_
    refine EW.region ?_
    first | refine WL.move rfl rfl rfl ?_
    refine WL.bin rfl rfl rfl rfl (int_add (c := ((t + 1 : Nat) : Int)) (by rw [IntKind.wrap_i64]; omega) _ _ _) ?_
    first | refine WL.assign rfl rfl rfl ?_
    refine WL.done ?_
    exact EW.again (E := exE sv qb) (R := ExI w qb) (m := fun t => 40 - t) (x := t) (t + 1) [0, 3, 4] rfl ⟨by omega, be5.trans (be6.mono be5.size), L5, V5, es5, hB5.below be6, by omega⟩ (by show 40 - (t + 1) < 40 - t; omega)
  · refine EW.region ?_
    first | refine WL.move rfl rfl rfl ?_
    first | refine WL.move rfl rfl rfl ?_
    refine WL.len rfl rfl rfl (hlen _ _) ?_
    refine WL.bin rfl rfl rfl rfl (int_lt_f (by omega) _ _ _) ?_
    first | refine WL.move rfl rfl rfl ?_
    first | refine WL.move rfl rfl rfl ?_ | refine WL.skip _ rfl rfl rfl ?_
    refine WL.skip _ rfl rfl rfl ?_
    first | refine WL.pick rfl rfl rfl rfl ?_
    refine WL.done ?_
    refine EW.on ?_
    refine EW.cond_f rfl ?_
    refine EW.exit ?_
    refine px_then ?_
    refine px_then ?_
    refine px_block ?_
    refine EW.on ?_
    refine EW.seq ?_
    refine EW.region ?_
    refine WL.buildN [(0, .int .i64 1), (1, .int .i64 1), (4, .int .i64 1), (5, .int .u32 1)] rfl rfl rfl (bd43_4 _) ?_
    obtain ⟨ql, wa, w8, ra, rs, bl8, be8, hql⟩ := putL lm1_ok wi
    refine WL.new rfl rfl ra ?_
    refine WL.store rfl rfl rfl rs ?_
    refine WL.done ?_
    refine EW.on ?_
    refine EW.seq ?_
    refine EW.region ?_
    refine WL.buildN [] rfl rfl rfl (bd33 _) ?_
    refine WL.call [Sg.z.v] enter12 rfl rfl rfl (encode_any Sg.z Sg.z_ok w8) ?_
    rintro _ w9 ⟨v, rfl, ov, be9⟩
    rw [show chkD Sg.z = 0 from if_pos good_z]
    rw [if_pos good_z] at ov
    have be79 : Below wi.heap.size wi w9 := bt be8 be9
    have hB9 := hB.below be79
    have bl9 := bl8.on be9
    have sz79 := be79.size
    have beN : Below w.heap.size w w9 := bt be be79
    refine ⟨_, rfl, ?_⟩
    first | refine WL.move rfl rfl rfl ?_
    first | refine WL.extract rfl rfl rfl (ext_2 _ _ _).1 ?_
    first | refine WL.extract rfl rfl rfl (ext_2 _ _ _).2 ?_
    first | refine WL.assign rfl rfl rfl ?_
    first | refine WL.assign rfl rfl rfl ?_
    refine WL.done ?_
    refine EW.on ?_
    refine EW.seq ?_
    refine EW.region ?_
    first | refine WL.move rfl rfl rfl ?_
    refine WL.bin rfl rfl rfl rfl (int_eq_t rfl _ _ _) ?_
    first | refine WL.move rfl rfl rfl ?_
    first | refine WL.move rfl rfl rfl ?_ | refine WL.skip _ rfl rfl rfl ?_
    refine WL.len rfl rfl rfl (ov.len _ _) ?_
    refine WL.bin rfl rfl rfl rfl (int_eq_t (by rw [enc_z_len]; rfl) _ _ _) ?_
    first | refine WL.pick rfl rfl rfl rfl ?_
    first | refine WL.move rfl rfl rfl ?_
    first | refine WL.move rfl rfl rfl ?_ | refine WL.skip _ rfl rfl rfl ?_
    refine WL.buildN [(0, .int .i64 2)] rfl rfl rfl (bdOp 2 _) ?_
    refine WL.call [.pointer (some ⟨qb, 0, none⟩), .agg (opC 2 Sg.z Lm.z (.slice none 0 0)).toArray] enter18 rfl rfl rfl (plays_any w9 w.heap.size qb L V es 2 Sg.z Lm.z (.slice none 0 0) [] (pl0_nil hB9 (by omega) Lm.z Lm.z_ok)) ?_
    rintro _ wA ⟨rfl, ⟨LA, VA, esA, hBA, hlA, _, _⟩, fxA⟩
    have beA : Below w.heap.size w wA := beN.trans (fxA.below (fun k hk hb => by have := (hB9.lt hb).1; omega) beN.size)
    refine ⟨_, rfl, ?_⟩
    first | refine WL.pick rfl rfl rfl rfl ?_
    first | refine WL.move rfl rfl rfl ?_
    first | refine WL.move rfl rfl rfl ?_ | refine WL.skip _ rfl rfl rfl ?_
    have blA := bl9.fx fxA (fun hb => by have := (hB.lt hb).2; omega)
    refine WL.load rfl rfl rfl (Lm.ld blA lm1_ok) ?_
    refine WL.buildN [(0, .int .i64 5), (2, lm1.v)] rfl rfl rfl (bdOpL 5 lm1 _) ?_
    refine WL.call [.pointer (some ⟨qb, 0, none⟩), .agg (opC 5 Sg.z lm1 (.slice none 0 0)).toArray] enter18 rfl rfl rfl (plays_any wA w.heap.size qb LA VA esA 5 Sg.z lm1 (.slice none 0 0) [] (pl0_nil hBA (by omega) lm1 lm1_ok)) ?_
    rintro _ wB ⟨rfl, ⟨LB, VB, esB, hBB, hlB, _, _⟩, fxB⟩
    have beB : Below w.heap.size w wB := beA.trans (fxB.below (fun k hk hb => by have := (hBA.lt hb).1; omega) beA.size)
    refine ⟨_, rfl, ?_⟩
    first | refine WL.pick rfl rfl rfl rfl ?_
    first | refine WL.move rfl rfl rfl ?_
    first | refine WL.move rfl rfl rfl ?_ | refine WL.skip _ rfl rfl rfl ?_
    refine WL.buildN [(0, .int .i64 2)] rfl rfl rfl (bdOp 2 _) ?_
    refine WL.call [.pointer (some ⟨qb, 0, none⟩), .agg (opC 2 Sg.z Lm.z (.slice none 0 0)).toArray] enter18 rfl rfl rfl (plays_any wB w.heap.size qb LB VB esB 2 Sg.z Lm.z (.slice none 0 0) [] (pl0_nil hBB (by omega) Lm.z Lm.z_ok)) ?_
    rintro _ wC ⟨rfl, ⟨LC, VC, esC, hBC, hlC, _, _⟩, fxC⟩
    have beC : Below w.heap.size w wC := beB.trans (fxC.below (fun k hk hb => by have := (hBB.lt hb).1; omega) beB.size)
    refine ⟨_, rfl, ?_⟩
    first | refine WL.pick rfl rfl rfl rfl ?_
    first | refine WL.move rfl rfl rfl ?_
    first | refine WL.move rfl rfl rfl ?_ | refine WL.skip _ rfl rfl rfl ?_
    refine WL.call [.pointer (some ⟨qb, 0, none⟩)] enter19 rfl rfl rfl (holds_any wC w.heap.size qb LC VC esC hBC (by omega)) ?_
    rintro _ wD ⟨rfl, beD⟩
    refine ⟨_, rfl, ?_⟩
    first | refine WL.pick rfl rfl rfl rfl ?_
    first | refine WL.assign rfl rfl rfl ?_
    refine WL.done ?_
    refine EW.on ?_
    refine EW.ret ?_
    exact EW.returns Try.results8 rfl ⟨rfl, beC.trans (beD.mono beC.size)⟩
  · refine EW.region ?_
    first | refine WL.move rfl rfl rfl ?_
    first | refine WL.move rfl rfl rfl ?_
    refine WL.len rfl rfl rfl (hlen _ _) ?_
    refine WL.bin rfl rfl rfl rfl (int_lt_t (by omega) _ _ _) ?_
    first | refine WL.move rfl rfl rfl ?_
    first | refine WL.move rfl rfl rfl ?_ | refine WL.skip _ rfl rfl rfl ?_
    refine WL.bin rfl rfl rfl rfl (int_lt_f (by omega) _ _ _) ?_
    first | refine WL.pick rfl rfl rfl rfl ?_
    refine WL.done ?_
    refine EW.on ?_
    refine EW.cond_f rfl ?_
    refine EW.exit ?_
    refine px_then ?_
    refine px_then ?_
    refine px_block ?_
    refine EW.on ?_
    refine EW.seq ?_
    refine EW.region ?_
    refine WL.buildN [(0, .int .i64 1), (1, .int .i64 1), (4, .int .i64 1), (5, .int .u32 1)] rfl rfl rfl (bd43_4 _) ?_
    obtain ⟨ql, wa, w8, ra, rs, bl8, be8, hql⟩ := putL lm1_ok wi
    refine WL.new rfl rfl ra ?_
    refine WL.store rfl rfl rfl rs ?_
    refine WL.done ?_
    refine EW.on ?_
    refine EW.seq ?_
    refine EW.region ?_
    refine WL.buildN [] rfl rfl rfl (bd33 _) ?_
    refine WL.call [Sg.z.v] enter12 rfl rfl rfl (encode_any Sg.z Sg.z_ok w8) ?_
    rintro _ w9 ⟨v, rfl, ov, be9⟩
    rw [show chkD Sg.z = 0 from if_pos good_z]
    rw [if_pos good_z] at ov
    have be79 : Below wi.heap.size wi w9 := bt be8 be9
    have hB9 := hB.below be79
    have bl9 := bl8.on be9
    have sz79 := be79.size
    have beN : Below w.heap.size w w9 := bt be be79
    refine ⟨_, rfl, ?_⟩
    first | refine WL.move rfl rfl rfl ?_
    first | refine WL.extract rfl rfl rfl (ext_2 _ _ _).1 ?_
    first | refine WL.extract rfl rfl rfl (ext_2 _ _ _).2 ?_
    first | refine WL.assign rfl rfl rfl ?_
    first | refine WL.assign rfl rfl rfl ?_
    refine WL.done ?_
    refine EW.on ?_
    refine EW.seq ?_
    refine EW.region ?_
    first | refine WL.move rfl rfl rfl ?_
    refine WL.bin rfl rfl rfl rfl (int_eq_t rfl _ _ _) ?_
    first | refine WL.move rfl rfl rfl ?_
    first | refine WL.move rfl rfl rfl ?_ | refine WL.skip _ rfl rfl rfl ?_
    refine WL.len rfl rfl rfl (ov.len _ _) ?_
    refine WL.bin rfl rfl rfl rfl (int_eq_t (by rw [enc_z_len]; rfl) _ _ _) ?_
    first | refine WL.pick rfl rfl rfl rfl ?_
    first | refine WL.move rfl rfl rfl ?_
    first | refine WL.move rfl rfl rfl ?_ | refine WL.skip _ rfl rfl rfl ?_
    refine WL.buildN [(0, .int .i64 2)] rfl rfl rfl (bdOp 2 _) ?_
    refine WL.call [.pointer (some ⟨qb, 0, none⟩), .agg (opC 2 Sg.z Lm.z (.slice none 0 0)).toArray] enter18 rfl rfl rfl (plays_any w9 w.heap.size qb L V es 2 Sg.z Lm.z (.slice none 0 0) [] (pl0_nil hB9 (by omega) Lm.z Lm.z_ok)) ?_
    rintro _ wA ⟨rfl, ⟨LA, VA, esA, hBA, hlA, _, _⟩, fxA⟩
    have beA : Below w.heap.size w wA := beN.trans (fxA.below (fun k hk hb => by have := (hB9.lt hb).1; omega) beN.size)
    refine ⟨_, rfl, ?_⟩
    first | refine WL.pick rfl rfl rfl rfl ?_
    first | refine WL.move rfl rfl rfl ?_
    first | refine WL.move rfl rfl rfl ?_ | refine WL.skip _ rfl rfl rfl ?_
    have blA := bl9.fx fxA (fun hb => by have := (hB.lt hb).2; omega)
    refine WL.load rfl rfl rfl (Lm.ld blA lm1_ok) ?_
    refine WL.buildN [(0, .int .i64 5), (2, lm1.v)] rfl rfl rfl (bdOpL 5 lm1 _) ?_
    refine WL.call [.pointer (some ⟨qb, 0, none⟩), .agg (opC 5 Sg.z lm1 (.slice none 0 0)).toArray] enter18 rfl rfl rfl (plays_any wA w.heap.size qb LA VA esA 5 Sg.z lm1 (.slice none 0 0) [] (pl0_nil hBA (by omega) lm1 lm1_ok)) ?_
    rintro _ wB ⟨rfl, ⟨LB, VB, esB, hBB, hlB, _, _⟩, fxB⟩
    have beB : Below w.heap.size w wB := beA.trans (fxB.below (fun k hk hb => by have := (hBA.lt hb).1; omega) beA.size)
    refine ⟨_, rfl, ?_⟩
    first | refine WL.pick rfl rfl rfl rfl ?_
    first | refine WL.move rfl rfl rfl ?_
    first | refine WL.move rfl rfl rfl ?_ | refine WL.skip _ rfl rfl rfl ?_
    refine WL.buildN [(0, .int .i64 2)] rfl rfl rfl (bdOp 2 _) ?_
    refine WL.call [.pointer (some ⟨qb, 0, none⟩), .agg (opC 2 Sg.z Lm.z (.slice none 0 0)).toArray] enter18 rfl rfl rfl (plays_any wB w.heap.size qb LB VB esB 2 Sg.z Lm.z (.slice none 0 0) [] (pl0_nil hBB (by omega) Lm.z Lm.z_ok)) ?_
    rintro _ wC ⟨rfl, ⟨LC, VC, esC, hBC, hlC, _, _⟩, fxC⟩
    have beC : Below w.heap.size w wC := beB.trans (fxC.below (fun k hk hb => by have := (hBB.lt hb).1; omega) beB.size)
    refine ⟨_, rfl, ?_⟩
    first | refine WL.pick rfl rfl rfl rfl ?_
    first | refine WL.move rfl rfl rfl ?_
    first | refine WL.move rfl rfl rfl ?_ | refine WL.skip _ rfl rfl rfl ?_
    refine WL.call [.pointer (some ⟨qb, 0, none⟩)] enter19 rfl rfl rfl (holds_any wC w.heap.size qb LC VC esC hBC (by omega)) ?_
    rintro _ wD ⟨rfl, beD⟩
    refine ⟨_, rfl, ?_⟩
    first | refine WL.pick rfl rfl rfl rfl ?_
    first | refine WL.assign rfl rfl rfl ?_
    refine WL.done ?_
    refine EW.on ?_
    refine EW.ret ?_
    exact EW.returns Try.results8 rfl ⟨rfl, beC.trans (beD.mono beC.size)⟩
end Go.Proofs.Ytacimelcmkhhlaa
