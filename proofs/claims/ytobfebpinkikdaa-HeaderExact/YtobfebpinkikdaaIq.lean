import Derived.Test.YtobfebpinkikdaaIp
set_option linter.unusedVariables false
set_option linter.unusedSimpArgs false
namespace Go.Proofs.Ytobfebpinkikdaa
open Go.RowKit

theorem bd57 (W : World) : (Instr.build 57 ([] : List (Nat × Value)).toArray).run Try.prog W = .ok (.agg [Value.slice none 0 0, Value.slice none 0 0].toArray) W := by kernel_rfl
theorem bdPk2 (v : Value) (hv : ∃ ao n c, v = .slice ao n c) (W : World) : (Instr.build 33 [(0, .int .i64 2), (3, v)].toArray).run Try.prog W = .ok (Pk.v ⟨2, Hl.z, Hd.z, v⟩) W := by
  obtain ⟨ao, n, c, rfl⟩ := hv
  refine run_build W 33 _ _ ?_
  rw [built_of (zs := Pk.z.cs) (by kernel_rfl) Try.underlying33 (show _ = some [(0, 1), (1, 65), (66, 51), (117, 1)] by kernel_rfl)]
  show Instr.fill _ (Pk.cs Pk.z).toArray [(0, .int .i64 2), (3, .slice ao n c)] = some (Pk.cs ⟨2, Hl.z, Hd.z, .slice ao n c⟩).toArray
  rw [show Pk.cs Pk.z = [] ++ ([.int .i64 0] ++ (Hl.z.cs ++ (Hd.z.cs ++ [.slice none 0 0]))) from rfl, fill_one (vs := [.int .i64 2]) (off := 0) (n := 1) rfl rfl rfl rfl rfl]
  rw [show ([] : List Value) ++ ([.int .i64 2] ++ (Hl.z.cs ++ (Hd.z.cs ++ [.slice none 0 0]))) = ([.int .i64 2] ++ (Hl.z.cs ++ Hd.z.cs)) ++ ([.slice none 0 0] ++ []) from by simp, fill_one (vs := [.slice ao n c]) (off := 117) (n := 1) rfl rfl rfl rfl (by simp [Hl.len Hl.z_ok, Hd.len Hd.z_ok]), fill_nil]
  simp [Pk.cs]
theorem bdOp2 (p : Pk) (kp : p.ok) (W : World) : (Instr.build 60 [(0, .int .i64 2), (1, p.v)].toArray).run Try.prog W = .ok (.agg (opC 2 p Of.z (.slice none 0 0)).toArray) W := by
  refine run_build W 60 _ _ ?_
  rw [built_of (zs := opC 0 Pk.z Of.z (.slice none 0 0)) (by kernel_rfl) Try.underlying60 (show _ = some [(0, 1), (1, 118), (119, 65), (184, 1)] by kernel_rfl)]
  show Instr.fill _ (opC 0 Pk.z Of.z (.slice none 0 0)).toArray [(0, .int .i64 2), (1, p.v)] = some (opC 2 p Of.z (.slice none 0 0)).toArray
  rw [show opC 0 Pk.z Of.z (.slice none 0 0) = [] ++ ([.int .i64 0] ++ (Pk.z.cs ++ (Of.z.cs ++ [.slice none 0 0]))) from rfl, fill_one (vs := [.int .i64 2]) (off := 0) (n := 1) rfl rfl rfl rfl rfl]
  rw [show ([] : List Value) ++ ([.int .i64 2] ++ (Pk.z.cs ++ (Of.z.cs ++ [.slice none 0 0]))) = [.int .i64 2] ++ (Pk.z.cs ++ (Of.z.cs ++ [.slice none 0 0])) from rfl, fill_one (vs := p.cs) (off := 1) (n := 118) rfl rfl (Pk.len kp) (Pk.len Pk.z_ok) rfl, fill_nil]
  rfl
theorem bdOp (kd : Int) (W : World) : (Instr.build 60 [(0, .int .i64 kd)].toArray).run Try.prog W = .ok (.agg (opC kd Pk.z Of.z (.slice none 0 0)).toArray) W := by
  refine run_build W 60 _ _ ?_
  rw [built_of (zs := opC 0 Pk.z Of.z (.slice none 0 0)) (by kernel_rfl) Try.underlying60 (show _ = some [(0, 1), (1, 118), (119, 65), (184, 1)] by kernel_rfl)]
  show Instr.fill _ (opC 0 Pk.z Of.z (.slice none 0 0)).toArray [(0, .int .i64 kd)] = some (opC kd Pk.z Of.z (.slice none 0 0)).toArray
  rw [show opC 0 Pk.z Of.z (.slice none 0 0) = [] ++ ([.int .i64 0] ++ (Pk.z.cs ++ (Of.z.cs ++ [.slice none 0 0]))) from rfl, fill_one (vs := [.int .i64 kd]) (off := 0) (n := 1) rfl rfl rfl rfl rfl, fill_nil]
  rfl
theorem int_eq_t35 (W : World) (x y : Operand) : (do eqGuard .eql 35 x y (.int .i64 0) (.int .i64 0); binOp .eql 35 (.int .i64 0) (.int .i64 0) : Sem Value).run Try.prog W = .ok (.bool true) W := by
  go_simp
/-- An operation that is handed in. -/
structure OpX where
  kd : Int
  p : Pk
  o : Of
  bv : Value
  bs : List UInt8
  body : List UInt8
structure OpX.ok (x : OpX) (w : World) : Prop where
  kp : x.p.ok
  ko : x.o.ok
  hb : Has w x.bv x.bs
  hy : Has w x.p.bv x.body
  lb : x.bs.length ≤ 140737488355328
  ly : x.body.length ≤ 140737488355328
def exE (sv : Value) (qb t : Nat) : List (Nat × Value) := [(0, sv), (3, .pointer (some ⟨qb, 0, none⟩)), (4, .int .i64 (t : Int))]
def ExI (w : World) (qb t : Nat) (W : World) : Prop := t ≤ 40 ∧ Below w.heap.size w W ∧ ∃ L V es, Bk W w.heap.size qb L V es ∧ es.length ≤ 2 * t
theorem pl0_nil {w : World} {b qb : Nat} {L V : Value} {es : List En3} (hB : Bk w b qb L V es) (hl : es.length ≤ 900) : Pl0 w b qb L V es Pk.z Of.z (.slice none 0 0) [] [] :=
  ⟨Pk.z_ok, Of.z_ok, hB, .inl ⟨rfl, rfl⟩, .inl ⟨rfl, rfl⟩, fun _ _ => .inl rfl, fun _ _ => .inl rfl, Nat.zero_le _, Nat.zero_le _, hl⟩
set_option maxRecDepth 100000 in
set_option maxHeartbeats 4000000 in
theorem exact_any (w : World) (sv : Value) (n : Nat) (hlen : ∀ (W : World) (ty : TypeId), (Builtin.len_ #[53] ty #[sv]).run Try.prog W = .ok (.int .i64 (n : Int)) W) (hat : ∀ i, i < n → ∃ x : OpX, x.ok w ∧ ∃ ad, (∀ W, (Instr.indexAt 53 sv (.int .i64 (i : Int))).run Try.prog W = .ok (.pointer (some ad)) W) ∧ ∀ W, Below w.heap.size w W → (Instr.loadAt 60 (.pointer (some ad))).run Try.prog W = .ok (.agg (opC x.kd x.p x.o x.bv).toArray) W) : Calls Try.prog 7 #[sv] w fun e w' => e = .returned (.bool true) ∧ Below w.heap.size w w' := by
  obtain ⟨w1, qb, r1, bx1, e1, hqb⟩ := box_any 57 [Value.slice none 0 0, Value.slice none 0 0] w
  have bk1 : Bk w1 w.heap.size qb (.slice none 0 0) (.slice none 0 0) [] := ⟨bx1, ⟨rfl, .inl ⟨rfl, rfl⟩⟩, ⟨rfl, .inl ⟨rfl, rfl⟩⟩, fun e he => by simp at he, by omega, fun k hk => by (cases hk), fun k hk => by (cases hk), fun k hk => by (cases hk), fun e he => by simp at he⟩
  refine calls_of_args [sv] Try.func7 rfl 68 Try.ntmps7 (by show 1 ≤ 68; decide) ?_
  refine EW.seq ?_
  refine EW.region ?_
  first | refine WL.assign rfl rfl rfl ?_
  refine WL.done ?_
  refine EW.on ?_
  refine EW.seq ?_
  refine EW.region ?_
  refine WL.buildN [] rfl rfl rfl (bd57 _) ?_
  refine WL.box rfl rfl rfl r1 ?_
  first | refine WL.assign rfl rfl rfl ?_
  refine WL.done ?_
  refine EW.on ?_
  refine EW.seq ?_
  refine EW.seq ?_
  refine EW.region ?_
  first | refine WL.assign rfl rfl rfl ?_
  refine WL.done ?_
  refine EW.on ?_
  refine EW.block ?_
  refine EW.loop (exE sv qb) (ExI w qb) (fun t => 40 - t) 0 [0, 3, 4] rfl ⟨Nat.zero_le _, e1, _, _, [], bk1, Nat.zero_le _⟩ ?_
  rintro t wi ⟨htl, be, L, V, es, hB, hes⟩
  show EW _ _ _ _ [(0, sv), (3, .pointer (some ⟨qb, 0, none⟩)), (4, .int .i64 (t : Int))] _
  refine EW.seq ?_
  refine EW.seq ?_
  have hcs : (t < n ∧ t < 40) ∨ n ≤ t ∨ (t < n ∧ 40 ≤ t) := by omega
  rcases hcs with ⟨ha, hb⟩ | ha | ⟨ha, hb⟩
  · refine EW.region ?_
    first | refine WL.move rfl rfl rfl ?_
    first | refine WL.move rfl rfl rfl ?_
    refine WL.len rfl rfl rfl (hlen _ _) ?_
    refine WL.bin rfl rfl rfl rfl (int_lt_t (by omega) _ _ _) ?_
    first | refine WL.move rfl rfl rfl ?_
    first | refine WL.move rfl rfl rfl ?_ | refine WL.skip _ rfl rfl rfl ?_
    refine WL.bin rfl rfl rfl rfl (int_lt_t (by omega) _ _ _) ?_
    first | refine WL.pick rfl rfl rfl rfl ?_
    refine WL.done ?_
    refine EW.on ?_
    refine EW.cond_t rfl ?_
    refine EW.skip ?_
    refine EW.on ?_
    refine EW.seq ?_
    refine EW.block ?_
    refine EW.seq ?_
    refine EW.region ?_
    first | refine WL.move rfl rfl rfl ?_
    first | refine WL.move rfl rfl rfl ?_
    first | refine WL.move rfl rfl rfl ?_
    obtain ⟨x, hx, ad, ix, ld⟩ := hat t (by omega)
    refine WL.index rfl rfl rfl rfl (ix _) ?_
    refine WL.load rfl rfl rfl (ld _ be) ?_
    refine WL.call [.pointer (some ⟨qb, 0, none⟩), .agg (opC x.kd x.p x.o x.bv).toArray] enter17 rfl rfl rfl (plays_any wi w.heap.size qb L V es x.kd x.p x.o x.bv x.bs x.body ⟨hx.kp, hx.ko, hB, hx.hb.below be, hx.hy.below be, fun k hk => hx.hb.offB' (hB.lt hk).1, fun k hk => hx.hy.offB' (hB.lt hk).1, hx.lb, hx.ly, by omega⟩) ?_
    rintro _ w5 ⟨rfl, ⟨L5, V5, es5, hB5, hl5, _, _⟩, fx5⟩
    have be5 : Below w.heap.size w w5 := be.trans (fx5.below (fun k hk hb => by have := (hB.lt hb).1; omega) be.size)
    refine ⟨_, rfl, ?_⟩
    first | refine WL.assign rfl rfl rfl ?_
    refine WL.done ?_
    refine EW.on ?_
    refine EW.seq ?_
    refine EW.region ?_
    first | refine WL.move rfl rfl rfl ?_
    first | refine WL.un rfl rfl rfl (not_t _ _) ?_
    first | refine WL.move rfl rfl rfl ?_
    first | refine WL.move rfl rfl rfl ?_ | refine WL.skip _ rfl rfl rfl ?_
    refine WL.call [.pointer (some ⟨qb, 0, none⟩)] enter18 rfl rfl rfl (holds_any w5 w.heap.size qb L5 V5 es5 hB5 (by omega)) ?_
    rintro _ w6 ⟨rfl, be6⟩
    refine ⟨_, rfl, ?_⟩
    first | refine WL.un rfl rfl rfl (not_t _ _) ?_ | refine WL.skip _ rfl rfl rfl ?_
    first | refine WL.pick rfl rfl rfl rfl ?_
    refine WL.done ?_
    refine EW.on ?_
    refine EW.cond_f rfl ?_
    refine EW.skip ?_
    refine pn_block ?_
    refine EW.on ?_
    refine EW.region ?_
    first | refine WL.move rfl rfl rfl ?_
    refine WL.bin rfl rfl rfl rfl (int_add (c := ((t + 1 : Nat) : Int)) (by rw [IntKind.wrap_i64]; omega) _ _ _) ?_
    first | refine WL.assign rfl rfl rfl ?_
    refine WL.done ?_
    exact EW.again (E := exE sv qb) (R := ExI w qb) (m := fun t => 40 - t) (x := t) (t + 1) [0, 3, 4] rfl ⟨by omega, be5.trans (be6.mono be5.size), L5, V5, es5, hB5.below be6, by omega⟩ (by show 40 - (t + 1) < 40 - t; omega)
  · refine EW.region ?_
    first | refine WL.move rfl rfl rfl ?_
    first | refine WL.move rfl rfl rfl ?_
    refine WL.len rfl rfl rfl (hlen _ _) ?_
    refine WL.bin rfl rfl rfl rfl (int_lt_f (by omega) _ _ _) ?_
    first | refine WL.move rfl rfl rfl ?_
    first | refine WL.move rfl rfl rfl ?_ | refine WL.skip _ rfl rfl rfl ?_
    refine WL.skip _ rfl rfl rfl ?_
    first | refine WL.pick rfl rfl rfl rfl ?_
    refine WL.done ?_
    refine EW.on ?_
    refine EW.cond_f rfl ?_
    refine EW.exit ?_
    refine px_then ?_
    refine px_then ?_
    refine px_block ?_
    refine EW.on ?_
    refine EW.seq ?_
    refine EW.region ?_
    refine WL.mks rfl rfl rfl rfl (run_mk22 _ 32 (by decide)) ?_
    have bm := below_new wi (.cells ((List.replicate 32 (0 : UInt8)).map byt).toArray 5)
    have hm : Has (wi.alloc (.cells ((List.replicate 32 (0 : UInt8)).map byt).toArray 5)) (.slice (some ⟨wi.heap.size, 0, none⟩) 32 32) (List.replicate 32 (0 : UInt8)) := by
      have h := Has.new (bs := (List.replicate 32 (0 : UInt8))) (Blk.new wi _ 5) 32 (by simp)
      simpa using h
    obtain ⟨w7, hw7⟩ : ∃ w', wi.alloc (.cells ((List.replicate 32 (0 : UInt8)).map byt).toArray 5) = w' := ⟨_, rfl⟩
    rw [hw7] at bm hm ⊢
    refine WL.buildN [(0, .int .i64 2), (3, .slice (some ⟨wi.heap.size, 0, none⟩) 32 32)] rfl rfl rfl (bdPk2 _ ⟨_, _, _, rfl⟩ _) ?_
    obtain ⟨wa, w8, qo, ra, rs, bo, be8, hqo⟩ := new33 w7 ⟨2, Hl.z, Hd.z, .slice (some ⟨wi.heap.size, 0, none⟩) 32 32⟩ ⟨Hl.z_ok, Hd.z_ok⟩ ⟨_, _, _, rfl⟩
    have be78 : Below wi.heap.size wi w8 := bm.trans (be8.mono bm.size)
    have hm8 := hm.below be8
    refine WL.new rfl rfl ra ?_
    refine WL.store rfl rfl rfl rs ?_
    refine WL.done ?_
    refine EW.on ?_
    refine EW.seq ?_
    refine EW.region ?_
    refine WL.load rfl rfl rfl (ldPk bo ⟨Hl.z_ok, Hd.z_ok⟩) ?_
    refine WL.call [Pk.v ⟨2, Hl.z, Hd.z, .slice (some ⟨wi.heap.size, 0, none⟩) 32 32⟩] enter9 rfl rfl rfl (pack_any ⟨2, Hl.z, Hd.z, .slice (some ⟨wi.heap.size, 0, none⟩) 32 32⟩ 2 (List.replicate 32 (0 : UInt8)) w8 ⟨rfl, .inr rfl, ⟨Hl.z_ok, Hd.z_ok⟩, show fltD 2 Hl.z 32 = 0 by decide, hm8⟩) ?_
    rintro _ w9 ⟨v, rfl, ov, be9⟩
    have be79 : Below wi.heap.size wi w9 := be78.trans (be9.mono be78.size)
    have hB9 := hB.below be79
    have hm9 := hm8.below be9
    have bo9 := bo.on be9
    have hlv := packB_len (.inr rfl : 2 = 1 ∨ 2 = 2) Hl.z_ok Hd.z_ok (List.replicate 32 (0 : UInt8))
    have sz79 := be79.size
    refine ⟨_, rfl, ?_⟩
    first | refine WL.move rfl rfl rfl ?_
    first | refine WL.extract rfl rfl rfl (ext_2 _ _ _).1 ?_
    first | refine WL.extract rfl rfl rfl (ext_2 _ _ _).2 ?_
    first | refine WL.assign rfl rfl rfl ?_
    first | refine WL.assign rfl rfl rfl ?_
    refine WL.done ?_
    refine EW.on ?_
    refine EW.seq ?_
    refine EW.region ?_
    first | refine WL.move rfl rfl rfl ?_
    refine WL.bin rfl rfl rfl rfl (int_eq_t35 _ _ _) ?_
    first | refine WL.move rfl rfl rfl ?_
    first | refine WL.move rfl rfl rfl ?_ | refine WL.skip _ rfl rfl rfl ?_
    refine WL.len rfl rfl rfl (ov.len _ _) ?_
    refine WL.bin rfl rfl rfl rfl (int_eq_t (by rw [hlv]; rfl) _ _ _) ?_
    first | refine WL.pick rfl rfl rfl rfl ?_
    first | refine WL.move rfl rfl rfl ?_
    first | refine WL.move rfl rfl rfl ?_ | refine WL.skip _ rfl rfl rfl ?_
    refine WL.load rfl rfl rfl (ldPk bo9 ⟨Hl.z_ok, Hd.z_ok⟩) ?_
    refine WL.buildN [(0, .int .i64 2), (1, Pk.v ⟨2, Hl.z, Hd.z, .slice (some ⟨wi.heap.size, 0, none⟩) 32 32⟩)] rfl rfl rfl (bdOp2 ⟨2, Hl.z, Hd.z, .slice (some ⟨wi.heap.size, 0, none⟩) 32 32⟩ ⟨Hl.z_ok, Hd.z_ok⟩ _) ?_
    refine WL.call [.pointer (some ⟨qb, 0, none⟩), .agg (opC 2 ⟨2, Hl.z, Hd.z, .slice (some ⟨wi.heap.size, 0, none⟩) 32 32⟩ Of.z (.slice none 0 0)).toArray] enter17 rfl rfl rfl (plays_any w9 w.heap.size qb L V es 2 ⟨2, Hl.z, Hd.z, .slice (some ⟨wi.heap.size, 0, none⟩) 32 32⟩ Of.z (.slice none 0 0) [] (List.replicate 32 (0 : UInt8)) ⟨⟨Hl.z_ok, Hd.z_ok⟩, Of.z_ok, hB9, .inl ⟨rfl, rfl⟩, hm9, fun _ _ => .inl rfl, fun k hk => .inr fun e => by
      have h1 := (hB.lt hk).2
      simp only [Value.ownBlock, Option.some.injEq] at e
      omega, Nat.zero_le _, by simp, by omega⟩) ?_
    rintro _ wA ⟨rfl, ⟨LA, VA, esA, hBA, hlA, _, _⟩, fxA⟩
    have beA : Below w.heap.size w wA := (be.trans (be79.mono be.size)).trans (fxA.below (fun k hk hb => by have := (hB9.lt hb).1; omega) (by have := be.size; omega))
    refine ⟨_, rfl, ?_⟩
    first | refine WL.pick rfl rfl rfl rfl ?_
    first | refine WL.move rfl rfl rfl ?_
    first | refine WL.move rfl rfl rfl ?_ | refine WL.skip _ rfl rfl rfl ?_
    refine WL.buildN [(0, .int .i64 1)] rfl rfl rfl (bdOp 1 _) ?_
    refine WL.call [.pointer (some ⟨qb, 0, none⟩), .agg (opC 1 Pk.z Of.z (.slice none 0 0)).toArray] enter17 rfl rfl rfl (plays_any wA w.heap.size qb LA VA esA 1 Pk.z Of.z (.slice none 0 0) [] [] (pl0_nil hBA (by omega))) ?_
    rintro _ wB ⟨rfl, ⟨LB, VB, esB, hBB, hlB, _, _⟩, fxB⟩
    have beB : Below w.heap.size w wB := beA.trans (fxB.below (fun k hk hb => by have := (hBA.lt hb).1; omega) beA.size)
    refine ⟨_, rfl, ?_⟩
    first | refine WL.pick rfl rfl rfl rfl ?_
    first | refine WL.move rfl rfl rfl ?_
    first | refine WL.move rfl rfl rfl ?_ | refine WL.skip _ rfl rfl rfl ?_
    refine WL.buildN [(0, .int .i64 4)] rfl rfl rfl (bdOp 4 _) ?_
    refine WL.call [.pointer (some ⟨qb, 0, none⟩), .agg (opC 4 Pk.z Of.z (.slice none 0 0)).toArray] enter17 rfl rfl rfl (plays_any wB w.heap.size qb LB VB esB 4 Pk.z Of.z (.slice none 0 0) [] [] (pl0_nil hBB (by omega))) ?_
    rintro _ wC ⟨rfl, ⟨LC, VC, esC, hBC, hlC, _, _⟩, fxC⟩
    have beC : Below w.heap.size w wC := beB.trans (fxC.below (fun k hk hb => by have := (hBB.lt hb).1; omega) beB.size)
    refine ⟨_, rfl, ?_⟩
    first | refine WL.pick rfl rfl rfl rfl ?_
    first | refine WL.move rfl rfl rfl ?_
    first | refine WL.move rfl rfl rfl ?_ | refine WL.skip _ rfl rfl rfl ?_
    refine WL.call [.pointer (some ⟨qb, 0, none⟩)] enter18 rfl rfl rfl (holds_any wC w.heap.size qb LC VC esC hBC (by omega)) ?_
    rintro _ wD ⟨rfl, beD⟩
    refine ⟨_, rfl, ?_⟩
    first | refine WL.pick rfl rfl rfl rfl ?_
    first | refine WL.assign rfl rfl rfl ?_
    refine WL.done ?_
    refine EW.on ?_
    refine EW.ret ?_
    exact EW.returns Try.results7 rfl ⟨rfl, beC.trans (beD.mono beC.size)⟩
  · refine EW.region ?_
    first | refine WL.move rfl rfl rfl ?_
    first | refine WL.move rfl rfl rfl ?_
    refine WL.len rfl rfl rfl (hlen _ _) ?_
    refine WL.bin rfl rfl rfl rfl (int_lt_t (by omega) _ _ _) ?_
    first | refine WL.move rfl rfl rfl ?_
    first | refine WL.move rfl rfl rfl ?_ | refine WL.skip _ rfl rfl rfl ?_
    refine WL.bin rfl rfl rfl rfl (int_lt_f (by omega) _ _ _) ?_
    first | refine WL.pick rfl rfl rfl rfl ?_
    refine WL.done ?_
    refine EW.on ?_
    refine EW.cond_f rfl ?_
    refine EW.exit ?_
    refine px_then ?_
    refine px_then ?_
    refine px_block ?_
    refine EW.on ?_
    refine EW.seq ?_
    refine EW.region ?_
    refine WL.mks rfl rfl rfl rfl (run_mk22 _ 32 (by decide)) ?_
    have bm := below_new wi (.cells ((List.replicate 32 (0 : UInt8)).map byt).toArray 5)
    have hm : Has (wi.alloc (.cells ((List.replicate 32 (0 : UInt8)).map byt).toArray 5)) (.slice (some ⟨wi.heap.size, 0, none⟩) 32 32) (List.replicate 32 (0 : UInt8)) := by
      have h := Has.new (bs := (List.replicate 32 (0 : UInt8))) (Blk.new wi _ 5) 32 (by simp)
      simpa using h
    obtain ⟨w7, hw7⟩ : ∃ w', wi.alloc (.cells ((List.replicate 32 (0 : UInt8)).map byt).toArray 5) = w' := ⟨_, rfl⟩
    rw [hw7] at bm hm ⊢
    refine WL.buildN [(0, .int .i64 2), (3, .slice (some ⟨wi.heap.size, 0, none⟩) 32 32)] rfl rfl rfl (bdPk2 _ ⟨_, _, _, rfl⟩ _) ?_
    obtain ⟨wa, w8, qo, ra, rs, bo, be8, hqo⟩ := new33 w7 ⟨2, Hl.z, Hd.z, .slice (some ⟨wi.heap.size, 0, none⟩) 32 32⟩ ⟨Hl.z_ok, Hd.z_ok⟩ ⟨_, _, _, rfl⟩
    have be78 : Below wi.heap.size wi w8 := bm.trans (be8.mono bm.size)
    have hm8 := hm.below be8
    refine WL.new rfl rfl ra ?_
    refine WL.store rfl rfl rfl rs ?_
    refine WL.done ?_
    refine EW.on ?_
    refine EW.seq ?_
    refine EW.region ?_
    refine WL.load rfl rfl rfl (ldPk bo ⟨Hl.z_ok, Hd.z_ok⟩) ?_
    refine WL.call [Pk.v ⟨2, Hl.z, Hd.z, .slice (some ⟨wi.heap.size, 0, none⟩) 32 32⟩] enter9 rfl rfl rfl (pack_any ⟨2, Hl.z, Hd.z, .slice (some ⟨wi.heap.size, 0, none⟩) 32 32⟩ 2 (List.replicate 32 (0 : UInt8)) w8 ⟨rfl, .inr rfl, ⟨Hl.z_ok, Hd.z_ok⟩, show fltD 2 Hl.z 32 = 0 by decide, hm8⟩) ?_
    rintro _ w9 ⟨v, rfl, ov, be9⟩
    have be79 : Below wi.heap.size wi w9 := be78.trans (be9.mono be78.size)
    have hB9 := hB.below be79
    have hm9 := hm8.below be9
    have bo9 := bo.on be9
    have hlv := packB_len (.inr rfl : 2 = 1 ∨ 2 = 2) Hl.z_ok Hd.z_ok (List.replicate 32 (0 : UInt8))
    have sz79 := be79.size
    refine ⟨_, rfl, ?_⟩
    first | refine WL.move rfl rfl rfl ?_
    first | refine WL.extract rfl rfl rfl (ext_2 _ _ _).1 ?_
    first | refine WL.extract rfl rfl rfl (ext_2 _ _ _).2 ?_
    first | refine WL.assign rfl rfl rfl ?_
    first | refine WL.assign rfl rfl rfl ?_
    refine WL.done ?_
    refine EW.on ?_
    refine EW.seq ?_
    refine EW.region ?_
    first | refine WL.move rfl rfl rfl ?_
    refine WL.bin rfl rfl rfl rfl (int_eq_t35 _ _ _) ?_
    first | refine WL.move rfl rfl rfl ?_
    first | refine WL.move rfl rfl rfl ?_ | refine WL.skip _ rfl rfl rfl ?_
    refine WL.len rfl rfl rfl (ov.len _ _) ?_
    refine WL.bin rfl rfl rfl rfl (int_eq_t (by rw [hlv]; rfl) _ _ _) ?_
    first | refine WL.pick rfl rfl rfl rfl ?_
    first | refine WL.move rfl rfl rfl ?_
    first | refine WL.move rfl rfl rfl ?_ | refine WL.skip _ rfl rfl rfl ?_
    refine WL.load rfl rfl rfl (ldPk bo9 ⟨Hl.z_ok, Hd.z_ok⟩) ?_
    refine WL.buildN [(0, .int .i64 2), (1, Pk.v ⟨2, Hl.z, Hd.z, .slice (some ⟨wi.heap.size, 0, none⟩) 32 32⟩)] rfl rfl rfl (bdOp2 ⟨2, Hl.z, Hd.z, .slice (some ⟨wi.heap.size, 0, none⟩) 32 32⟩ ⟨Hl.z_ok, Hd.z_ok⟩ _) ?_
    refine WL.call [.pointer (some ⟨qb, 0, none⟩), .agg (opC 2 ⟨2, Hl.z, Hd.z, .slice (some ⟨wi.heap.size, 0, none⟩) 32 32⟩ Of.z (.slice none 0 0)).toArray] enter17 rfl rfl rfl (plays_any w9 w.heap.size qb L V es 2 ⟨2, Hl.z, Hd.z, .slice (some ⟨wi.heap.size, 0, none⟩) 32 32⟩ Of.z (.slice none 0 0) [] (List.replicate 32 (0 : UInt8)) ⟨⟨Hl.z_ok, Hd.z_ok⟩, Of.z_ok, hB9, .inl ⟨rfl, rfl⟩, hm9, fun _ _ => .inl rfl, fun k hk => .inr fun e => by
      have h1 := (hB.lt hk).2
      simp only [Value.ownBlock, Option.some.injEq] at e
      omega, Nat.zero_le _, by simp, by omega⟩) ?_
    rintro _ wA ⟨rfl, ⟨LA, VA, esA, hBA, hlA, _, _⟩, fxA⟩
    have beA : Below w.heap.size w wA := (be.trans (be79.mono be.size)).trans (fxA.below (fun k hk hb => by have := (hB9.lt hb).1; omega) (by have := be.size; omega))
    refine ⟨_, rfl, ?_⟩
    first | refine WL.pick rfl rfl rfl rfl ?_
    first | refine WL.move rfl rfl rfl ?_
    first | refine WL.move rfl rfl rfl ?_ | refine WL.skip _ rfl rfl rfl ?_
    refine WL.buildN [(0, .int .i64 1)] rfl rfl rfl (bdOp 1 _) ?_
    refine WL.call [.pointer (some ⟨qb, 0, none⟩), .agg (opC 1 Pk.z Of.z (.slice none 0 0)).toArray] enter17 rfl rfl rfl (plays_any wA w.heap.size qb LA VA esA 1 Pk.z Of.z (.slice none 0 0) [] [] (pl0_nil hBA (by omega))) ?_
    rintro _ wB ⟨rfl, ⟨LB, VB, esB, hBB, hlB, _, _⟩, fxB⟩
    have beB : Below w.heap.size w wB := beA.trans (fxB.below (fun k hk hb => by have := (hBA.lt hb).1; omega) beA.size)
    refine ⟨_, rfl, ?_⟩
    first | refine WL.pick rfl rfl rfl rfl ?_
    first | refine WL.move rfl rfl rfl ?_
    first | refine WL.move rfl rfl rfl ?_ | refine WL.skip _ rfl rfl rfl ?_
    refine WL.buildN [(0, .int .i64 4)] rfl rfl rfl (bdOp 4 _) ?_
    refine WL.call [.pointer (some ⟨qb, 0, none⟩), .agg (opC 4 Pk.z Of.z (.slice none 0 0)).toArray] enter17 rfl rfl rfl (plays_any wB w.heap.size qb LB VB esB 4 Pk.z Of.z (.slice none 0 0) [] [] (pl0_nil hBB (by omega))) ?_
    rintro _ wC ⟨rfl, ⟨LC, VC, esC, hBC, hlC, _, _⟩, fxC⟩
    have beC : Below w.heap.size w wC := beB.trans (fxC.below (fun k hk hb => by have := (hBB.lt hb).1; omega) beB.size)
    refine ⟨_, rfl, ?_⟩
    first | refine WL.pick rfl rfl rfl rfl ?_
    first | refine WL.move rfl rfl rfl ?_
    first | refine WL.move rfl rfl rfl ?_ | refine WL.skip _ rfl rfl rfl ?_
    refine WL.call [.pointer (some ⟨qb, 0, none⟩)] enter18 rfl rfl rfl (holds_any wC w.heap.size qb LC VC esC hBC (by omega)) ?_
    rintro _ wD ⟨rfl, beD⟩
    refine ⟨_, rfl, ?_⟩
    first | refine WL.pick rfl rfl rfl rfl ?_
    first | refine WL.assign rfl rfl rfl ?_
    refine WL.done ?_
    refine EW.on ?_
    refine EW.ret ?_
    exact EW.returns Try.results7 rfl ⟨rfl, beC.trans (beD.mono beC.size)⟩
end Go.Proofs.Ytobfebpinkikdaa
