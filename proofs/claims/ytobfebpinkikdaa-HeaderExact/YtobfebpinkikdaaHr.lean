import Derived.Test.YtobfebpinkikdaaHq
set_option linter.unusedVariables false
set_option linter.unusedSimpArgs false
namespace Go.Proofs.Ytobfebpinkikdaa
open Go.RowKit

theorem bld99 (a : Value) (ha : ∃ ao n c, a = .slice ao n c) (W : World) : (Instr.build 99 [(0, a)].toArray).run Try.prog W = .ok (.agg [a, .int .i64 0, .int .i64 0].toArray) W := by
  obtain ⟨_, _, _, rfl⟩ := ha
  kernel_rfl
theorem box99 (a : Value) (ha : ∃ ao n c, a = .slice ao n c) (w : World) : ∃ w1 q, (Instr.box 99 (.agg [a, .int .i64 0, .int .i64 0].toArray)).run Try.prog w = .ok (.pointer (some ⟨q, 0, none⟩)) w1 ∧ Blk w1 q [a, .int .i64 0, .int .i64 0] 99 ∧ Below w.heap.size w w1 ∧ q = w.heap.size := by
  obtain ⟨_, _, _, rfl⟩ := ha
  exact ⟨_, _, run_boxR 99 _ w _ rfl, Blk.new _ _ _, below_new _ _, rfl⟩

set_option maxRecDepth 100000 in
set_option maxHeartbeats 1000000 in
theorem newR_any (v : Value) (c : List UInt8) (w : World) (hb : Has w v c) (hl : c.length ≤ 140737488355328) : Calls Try.prog 26 #[v] w fun e w' => ∃ u q, e = .returned (.pointer (some ⟨q, 0, none⟩)) ∧ Rd w' q u c 0 0 ∧ w.heap.size ≤ q ∧ Below w.heap.size w w' := by
  refine calls_of_args [v] Try.func26 rfl 7 Try.ntmps26 (by show 1 ≤ 7; decide) ?_
  refine EW.seq ?_
  refine EW.region ?_
  first | refine WL.assign rfl rfl rfl ?_
  refine WL.done ?_
  refine EW.on ?_
  refine EW.seq ?_
  refine EW.region ?_
  first | refine WL.move rfl rfl rfl ?_
  refine WL.call [v] enter48 rfl rfl rfl (clone_ob v c _ hb hl) ?_
  rintro _ w1 ⟨u, rfl, g1, g3⟩
  obtain ⟨w2, q, r2, b2, e2, hq⟩ := box99 u g1.has.sl w1
  refine ⟨_, rfl, ?_⟩
  refine WL.buildN [(0, u)] rfl rfl rfl (bld99 _ g1.has.sl _) ?_
  refine WL.box rfl rfl rfl r2 ?_
  first | refine WL.assign rfl rfl rfl ?_
  refine WL.done ?_
  refine EW.on ?_
  refine EW.ret ?_
  exact EW.returns Try.results26 rfl ⟨u, q, rfl, ⟨b2, g1.has.below e2, Nat.zero_le _⟩, by have := g3.size; omega, g3.trans (e2.mono g3.size)⟩
theorem ext_3 (a b c : Value) (W : World) : (Instr.extract (.tuple #[a, b, c]) 0).run Try.prog W = .ok a W ∧ (Instr.extract (.tuple #[a, b, c]) 1).run Try.prog W = .ok b W ∧ (Instr.extract (.tuple #[a, b, c]) 2).run Try.prog W = .ok c W := by refine ⟨?_, ?_, ?_⟩ <;> go_simp
/-- The state behind the body, and behind End. -/
def s6R (c : List UInt8) (k : Nat) (s : Nat × Int) : Nat × Int := rS c (nR c k s) (s5R c k s)
def s7R (c : List UInt8) (k : Nat) (s : Nat × Int) : Nat × Int := eS c (s6R c k s)
theorem nR_lt (c : List UInt8) (k : Nat) (s : Nat × Int) : nR c k s < 65536 := numB_lt _ (rB_len _ _ _)
theorem Fx.low {w w' : World} {q B : Nat} (h : Fx (fun k => k = q) w w') (hq : B ≤ q) (hw : B ≤ w.heap.size) : Below B w w' := h.below (fun k hk e => by have e : k = q := e; omega) hw
set_option maxRecDepth 100000 in
set_option maxHeartbeats 4000000 in
theorem unp_err (vb : Value) (c : List UInt8) (w : World) (hb : Has w vb c) (hl : c.length ≤ 140737488355328) (E : Int) (hE : ¬ E = 0) (hA : ∀ w' q u, Rd w' q u c 0 0 → Calls Try.prog 27 #[.pointer (some ⟨q, 0, none⟩)] w' fun e w'' => e = .returned (.tuple #[Pk.z.v, .int .i64 (0), .int .i64 E]) ∧ Fx (fun k => k = q) w' w'') : Calls Try.prog 11 #[vb] w fun e w' => e = .returned (.tuple #[Pk.z.v, .int .i64 (E)]) ∧ Below w.heap.size w w' := by
  obtain ⟨w1, q1, r1, bx1, e1, hq1⟩ := new_any (t := 33) (cs := Pk.z.cs) zv33 w
  have l1 := e1.size
  have hq1' := bx1.lt
  refine calls_of_args [vb] Try.func11 rfl 46 Try.ntmps11 (by show 1 ≤ 46; decide) ?_
  refine EW.seq ?_
  refine EW.region ?_
  refine WL.new rfl rfl r1 ?_
  first | refine WL.assign rfl rfl rfl ?_
  refine WL.done ?_
  refine EW.on ?_
  refine EW.seq ?_
  refine EW.region ?_
  first | refine WL.move rfl rfl rfl ?_
  refine WL.call [vb] enter26 rfl rfl rfl (newR_any vb c _ (hb.below e1) hl) ?_
  rintro _ w2 ⟨u, q, rfl, rd2, hq2, be2⟩
  have bx2 := bx1.on be2
  have l2 := be2.size
  refine ⟨_, rfl, ?_⟩
  first | refine WL.assign rfl rfl rfl ?_
  refine WL.done ?_
  refine EW.on ?_
  refine EW.seq ?_
  refine EW.region ?_
  first | refine WL.move rfl rfl rfl ?_
  refine WL.call [.pointer (some ⟨q, 0, none⟩)] enter27 rfl rfl rfl (hA _ q u rd2) ?_
  rintro _ w3 ⟨rfl, f3⟩
  have l3 := f3.size
  have bx3 := bx2.fx f3 (fun e => by omega)
  have sb3 := f3.low hq2 l2
  refine ⟨_, rfl, ?_⟩
  first | refine WL.move rfl rfl rfl ?_
  refine WL.extract rfl rfl rfl (ext_3 _ _ _ _).1 ?_
  refine WL.extract rfl rfl rfl (ext_3 _ _ _ _).2.1 ?_
  refine WL.extract rfl rfl rfl (ext_3 _ _ _ _).2.2 ?_
  obtain ⟨w4, q5, r4, bx4, e4, hq5⟩ := new_any (t := 33) (cs := Pk.z.cs) zv33 w3
  have l4 := e4.size
  have hq5l := bx4.lt
  refine WL.new rfl rfl r4 ?_
  obtain ⟨w5, st5, by5, f5⟩ := stPk bx4 Pk.z_ok Pk.z Pk.z_ok ⟨_, _, _, rfl⟩
  refine WL.store rfl rfl rfl st5 ?_
  have l5 := f5.size
  have sb5 : Below w3.heap.size w3 w5 := e4.trans (f5.low (by omega) (by omega))
  first | refine WL.assign rfl rfl rfl ?_
  first | refine WL.assign rfl rfl rfl ?_
  refine WL.done ?_
  refine EW.on ?_
  refine EW.seq ?_
  refine EW.seq ?_
  refine EW.region ?_
  first | refine WL.move rfl rfl rfl ?_
  first | refine WL.bin rfl rfl rfl rfl (int_eq_t rfl _ _ _) ?_ | refine WL.bin rfl rfl rfl rfl (int_eq_t ‹_› _ _ _) ?_ | refine WL.bin rfl rfl rfl rfl (int_eq_f ‹_› _ _ _) ?_ | refine WL.bin rfl rfl rfl rfl (int_eq_d _ _ _ _ _) ?_
  refine WL.done ?_
  refine EW.on ?_
  refine EW.cond_f rfl ?_
  refine EW.skip ?_
  refine EW.on ?_
  refine EW.seq ?_
  refine EW.seq ?_
  refine EW.region ?_
  first | refine WL.move rfl rfl rfl ?_
  first | refine WL.bin rfl rfl rfl rfl (int_ne_f rfl _ _ _) ?_ | refine WL.bin rfl rfl rfl rfl (int_ne_t ‹_› _ _ _) ?_ | refine WL.bin rfl rfl rfl rfl (int_ne_f ‹_› _ _ _) ?_ | refine WL.bin rfl rfl rfl rfl (int_ne_t (by decide) _ _ _) ?_ | refine WL.bin rfl rfl rfl rfl (int_ne_d _ _ _ _ _) ?_
  refine WL.done ?_
  refine EW.on ?_
  refine EW.cond_t rfl ?_
  refine EW.seq ?_
  refine EW.region ?_
  refine WL.buildN [] rfl rfl rfl (bd33 _) ?_
  first | refine WL.move rfl rfl rfl ?_
  obtain ⟨we, ste, bxe, fe⟩ := stPk ((bx3.on e4).fx f5 (fun e => by omega)) Pk.z_ok Pk.z Pk.z_ok ⟨_, _, _, rfl⟩
  refine WL.store rfl rfl rfl ste ?_
  first | refine WL.assign rfl rfl rfl ?_
  refine WL.done ?_
  refine EW.on ?_
  refine EW.ret ?_
  refine pr_then ?_
  exact EW.returnsCT Try.results11 rfl rfl bxe Try.underlying33 rfl (i33 Pk.z_ok) ⟨rfl, e1.trans ((be2.mono l1).trans ((sb3.mono (by omega)).trans ((sb5.mono (by omega)).trans (fe.low (by omega) (by omega)))))⟩
set_option maxRecDepth 100000 in
set_option maxHeartbeats 4000000 in
theorem unp_flt (vb : Value) (c : List UInt8) (w : World) (hb : Has w vb c) (hl : c.length ≤ 140737488355328) (K : Nat) (s : Nat × Int) (hA : ∀ w' q u, Rd w' q u c 0 0 → Calls Try.prog 27 #[.pointer (some ⟨q, 0, none⟩)] w' fun e w'' => e = .returned (.tuple #[(pkR c K s (.slice none 0 0)).v, .int .i64 (nR c K s : Int), .int .i64 (0)]) ∧ Rd w'' q u c (s5R c K s).1 0 ∧ Fx (fun k => k = q) w' w'') (hF : ¬ fltD K (hlR c K s) (nR c K s) = 0) : Calls Try.prog 11 #[vb] w fun e w' => e = .returned (.tuple #[Pk.z.v, .int .i64 (fltD K (hlR c K s) (nR c K s))]) ∧ Below w.heap.size w w' := by
  obtain ⟨w1, q1, r1, bx1, e1, hq1⟩ := new_any (t := 33) (cs := Pk.z.cs) zv33 w
  have l1 := e1.size
  have hq1' := bx1.lt
  refine calls_of_args [vb] Try.func11 rfl 46 Try.ntmps11 (by show 1 ≤ 46; decide) ?_
  refine EW.seq ?_
  refine EW.region ?_
  refine WL.new rfl rfl r1 ?_
  first | refine WL.assign rfl rfl rfl ?_
  refine WL.done ?_
  refine EW.on ?_
  refine EW.seq ?_
  refine EW.region ?_
  first | refine WL.move rfl rfl rfl ?_
  refine WL.call [vb] enter26 rfl rfl rfl (newR_any vb c _ (hb.below e1) hl) ?_
  rintro _ w2 ⟨u, q, rfl, rd2, hq2, be2⟩
  have bx2 := bx1.on be2
  have l2 := be2.size
  refine ⟨_, rfl, ?_⟩
  first | refine WL.assign rfl rfl rfl ?_
  refine WL.done ?_
  refine EW.on ?_
  refine EW.seq ?_
  refine EW.region ?_
  first | refine WL.move rfl rfl rfl ?_
  refine WL.call [.pointer (some ⟨q, 0, none⟩)] enter27 rfl rfl rfl (hA _ q u rd2) ?_
  rintro _ w3 ⟨rfl, rd3, f3⟩
  have l3 := f3.size
  have bx3 := bx2.fx f3 (fun e => by omega)
  have sb3 := f3.low hq2 l2
  have hq3 := rd3.bl.lt
  refine ⟨_, rfl, ?_⟩
  first | refine WL.move rfl rfl rfl ?_
  refine WL.extract rfl rfl rfl (ext_3 _ _ _ _).1 ?_
  refine WL.extract rfl rfl rfl (ext_3 _ _ _ _).2.1 ?_
  refine WL.extract rfl rfl rfl (ext_3 _ _ _ _).2.2 ?_
  obtain ⟨w4, q5, r4, bx4, e4, hq5⟩ := new_any (t := 33) (cs := Pk.z.cs) zv33 w3
  have l4 := e4.size
  have hq5l := bx4.lt
  refine WL.new rfl rfl r4 ?_
  obtain ⟨w5, st5, by5, f5⟩ := stPk bx4 Pk.z_ok (pkR c K s (.slice none 0 0)) (pkR_ok c K s _) ⟨_, _, _, rfl⟩
  refine WL.store rfl rfl rfl st5 ?_
  have l5 := f5.size
  have sb5 : Below w3.heap.size w3 w5 := e4.trans (f5.low (by omega) (by omega))
  first | refine WL.assign rfl rfl rfl ?_
  first | refine WL.assign rfl rfl rfl ?_
  refine WL.done ?_
  refine EW.on ?_
  refine EW.seq ?_
  refine EW.seq ?_
  refine EW.region ?_
  first | refine WL.move rfl rfl rfl ?_
  first | refine WL.bin rfl rfl rfl rfl (int_eq_t rfl _ _ _) ?_ | refine WL.bin rfl rfl rfl rfl (int_eq_t ‹_› _ _ _) ?_ | refine WL.bin rfl rfl rfl rfl (int_eq_f ‹_› _ _ _) ?_ | refine WL.bin rfl rfl rfl rfl (int_eq_d _ _ _ _ _) ?_
  refine WL.done ?_
  refine EW.on ?_
  refine EW.cond_t rfl ?_
  refine EW.region ?_
  refine WL.field rfl rfl rfl (f33_0 q5 0 _) ?_
  refine WL.load rfl rfl rfl (ldPkK by5) ?_
  refine WL.field rfl rfl rfl (f33_1 q5 0 _) ?_
  refine WL.load rfl rfl rfl (ldPkL by5 (pkR_ok c K s _)) ?_
  first | refine WL.move rfl rfl rfl ?_
  refine WL.call [.int .i64 (K : Int), (hlR c K s).v, .int .i64 (nR c K s : Int)] enter19 rfl rfl rfl (flt_any _ _ _ (hlR_ok c K s) _) ?_
  rintro _ w6 ⟨rfl, be6⟩
  have l6 := be6.size
  have bx6 := (bx3.on e4).fx f5 (fun e => by omega)
  have bx6 := bx6.on be6
  refine ⟨_, rfl, ?_⟩
  first | refine WL.assign rfl rfl rfl ?_
  refine WL.done ?_
  refine EW.on ?_
  refine EW.seq ?_
  refine EW.seq ?_
  refine EW.region ?_
  first | refine WL.move rfl rfl rfl ?_
  first | refine WL.bin rfl rfl rfl rfl (int_ne_f rfl _ _ _) ?_ | refine WL.bin rfl rfl rfl rfl (int_ne_t ‹_› _ _ _) ?_ | refine WL.bin rfl rfl rfl rfl (int_ne_f ‹_› _ _ _) ?_ | refine WL.bin rfl rfl rfl rfl (int_ne_t (by decide) _ _ _) ?_ | refine WL.bin rfl rfl rfl rfl (int_ne_d _ _ _ _ _) ?_
  refine WL.done ?_
  refine EW.on ?_
  refine EW.cond_t rfl ?_
  refine EW.seq ?_
  refine EW.region ?_
  refine WL.buildN [] rfl rfl rfl (bd33 _) ?_
  first | refine WL.move rfl rfl rfl ?_
  obtain ⟨we, ste, bxe, fe⟩ := stPk bx6 Pk.z_ok Pk.z Pk.z_ok ⟨_, _, _, rfl⟩
  refine WL.store rfl rfl rfl ste ?_
  first | refine WL.assign rfl rfl rfl ?_
  refine WL.done ?_
  refine EW.on ?_
  refine EW.ret ?_
  refine pr_then ?_
  exact EW.returnsCT Try.results11 rfl rfl bxe Try.underlying33 rfl (i33 Pk.z_ok) ⟨rfl, e1.trans ((be2.mono l1).trans ((sb3.mono (by omega)).trans ((sb5.mono (by omega)).trans ((be6.mono (by omega)).trans (fe.low (by omega) (by omega))))))⟩
set_option maxRecDepth 100000 in
set_option maxHeartbeats 4000000 in
theorem unp_end (vb : Value) (c : List UInt8) (w : World) (hb : Has w vb c) (hl : c.length ≤ 140737488355328) (K : Nat) (s : Nat × Int) (hA : ∀ w' q u, Rd w' q u c 0 0 → Calls Try.prog 27 #[.pointer (some ⟨q, 0, none⟩)] w' fun e w'' => e = .returned (.tuple #[(pkR c K s (.slice none 0 0)).v, .int .i64 (nR c K s : Int), .int .i64 (0)]) ∧ Rd w'' q u c (s5R c K s).1 0 ∧ Fx (fun k => k = q) w' w'') (hS : (s5R c K s).2 = 0) (hF : fltD K (hlR c K s) (nR c K s) = 0) (hf : ¬ (s7R c K s).2 = 0) : Calls Try.prog 11 #[vb] w fun e w' => e = .returned (.tuple #[Pk.z.v, .int .i64 ((s7R c K s).2)]) ∧ Below w.heap.size w w' := by
  obtain ⟨w1, q1, r1, bx1, e1, hq1⟩ := new_any (t := 33) (cs := Pk.z.cs) zv33 w
  have l1 := e1.size
  have hq1' := bx1.lt
  refine calls_of_args [vb] Try.func11 rfl 46 Try.ntmps11 (by show 1 ≤ 46; decide) ?_
  refine EW.seq ?_
  refine EW.region ?_
  refine WL.new rfl rfl r1 ?_
  first | refine WL.assign rfl rfl rfl ?_
  refine WL.done ?_
  refine EW.on ?_
  refine EW.seq ?_
  refine EW.region ?_
  first | refine WL.move rfl rfl rfl ?_
  refine WL.call [vb] enter26 rfl rfl rfl (newR_any vb c _ (hb.below e1) hl) ?_
  rintro _ w2 ⟨u, q, rfl, rd2, hq2, be2⟩
  have bx2 := bx1.on be2
  have l2 := be2.size
  refine ⟨_, rfl, ?_⟩
  first | refine WL.assign rfl rfl rfl ?_
  refine WL.done ?_
  refine EW.on ?_
  refine EW.seq ?_
  refine EW.region ?_
  first | refine WL.move rfl rfl rfl ?_
  refine WL.call [.pointer (some ⟨q, 0, none⟩)] enter27 rfl rfl rfl (hA _ q u rd2) ?_
  rintro _ w3 ⟨rfl, rd3, f3⟩
  have l3 := f3.size
  have bx3 := bx2.fx f3 (fun e => by omega)
  have sb3 := f3.low hq2 l2
  have hq3 := rd3.bl.lt
  refine ⟨_, rfl, ?_⟩
  first | refine WL.move rfl rfl rfl ?_
  refine WL.extract rfl rfl rfl (ext_3 _ _ _ _).1 ?_
  refine WL.extract rfl rfl rfl (ext_3 _ _ _ _).2.1 ?_
  refine WL.extract rfl rfl rfl (ext_3 _ _ _ _).2.2 ?_
  obtain ⟨w4, q5, r4, bx4, e4, hq5⟩ := new_any (t := 33) (cs := Pk.z.cs) zv33 w3
  have l4 := e4.size
  have hq5l := bx4.lt
  refine WL.new rfl rfl r4 ?_
  obtain ⟨w5, st5, by5, f5⟩ := stPk bx4 Pk.z_ok (pkR c K s (.slice none 0 0)) (pkR_ok c K s _) ⟨_, _, _, rfl⟩
  refine WL.store rfl rfl rfl st5 ?_
  have l5 := f5.size
  have sb5 : Below w3.heap.size w3 w5 := e4.trans (f5.low (by omega) (by omega))
  first | refine WL.assign rfl rfl rfl ?_
  first | refine WL.assign rfl rfl rfl ?_
  refine WL.done ?_
  refine EW.on ?_
  refine EW.seq ?_
  refine EW.seq ?_
  refine EW.region ?_
  first | refine WL.move rfl rfl rfl ?_
  first | refine WL.bin rfl rfl rfl rfl (int_eq_t rfl _ _ _) ?_ | refine WL.bin rfl rfl rfl rfl (int_eq_t ‹_› _ _ _) ?_ | refine WL.bin rfl rfl rfl rfl (int_eq_f ‹_› _ _ _) ?_ | refine WL.bin rfl rfl rfl rfl (int_eq_d _ _ _ _ _) ?_
  refine WL.done ?_
  refine EW.on ?_
  refine EW.cond_t rfl ?_
  refine EW.region ?_
  refine WL.field rfl rfl rfl (f33_0 q5 0 _) ?_
  refine WL.load rfl rfl rfl (ldPkK by5) ?_
  refine WL.field rfl rfl rfl (f33_1 q5 0 _) ?_
  refine WL.load rfl rfl rfl (ldPkL by5 (pkR_ok c K s _)) ?_
  first | refine WL.move rfl rfl rfl ?_
  refine WL.call [.int .i64 (K : Int), (hlR c K s).v, .int .i64 (nR c K s : Int)] enter19 rfl rfl rfl (flt_any _ _ _ (hlR_ok c K s) _) ?_
  rintro _ w6 ⟨rfl, be6⟩
  have l6 := be6.size
  have bx6 := (bx3.on e4).fx f5 (fun e => by omega)
  have bx6 := bx6.on be6
  rw [hF]
  refine ⟨_, rfl, ?_⟩
  first | refine WL.assign rfl rfl rfl ?_
  refine WL.done ?_
  refine EW.on ?_
  refine EW.seq ?_
  refine EW.seq ?_
  have rd6 : Rd w6 q u c (s5R c K s).1 (s5R c K s).2 := by
    rw [hS]
    exact ((rd3.below e4).fx f5 (by omega) (rd2.off (by omega))).below be6
  have by6 := by5.on be6
  refine EW.region ?_
  first | refine WL.move rfl rfl rfl ?_
  first | refine WL.bin rfl rfl rfl rfl (int_ne_f rfl _ _ _) ?_ | refine WL.bin rfl rfl rfl rfl (int_ne_t ‹_› _ _ _) ?_ | refine WL.bin rfl rfl rfl rfl (int_ne_f ‹_› _ _ _) ?_ | refine WL.bin rfl rfl rfl rfl (int_ne_t (by decide) _ _ _) ?_ | refine WL.bin rfl rfl rfl rfl (int_ne_d _ _ _ _ _) ?_
  refine WL.done ?_
  refine EW.on ?_
  refine EW.cond_f rfl ?_
  refine EW.skip ?_
  refine EW.on ?_
  refine EW.seq ?_
  refine EW.region ?_
  first | refine WL.move rfl rfl rfl ?_
  first | refine WL.move rfl rfl rfl ?_
  refine WL.call [.pointer (some ⟨q, 0, none⟩), .int .i64 (nR c K s : Int)] enter28 rfl rfl rfl (rfix_any q (nR c K s) u c (s5R c K s) _ rd6 hl (by have := nR_lt c K s; omega)) ?_
  rintro _ w7 ⟨vy, rfl, oy7, rd7, f7⟩
  have l7 := f7.size
  have by7 := by6.fx f7 (fun e => by omega)
  have bx7 := bx6.fx f7 (fun e => by omega)
  refine ⟨_, rfl, ?_⟩
  refine WL.field rfl rfl rfl (f33_3 q5 0 _) ?_
  obtain ⟨w8, st8, by8, f8⟩ := stPkB by7 (pkR_ok c K s _) vy oy7.has.sl
  refine WL.store rfl rfl rfl st8 ?_
  have l8 := f8.size
  have rd8 := rd7.fx f8 (by omega) (rd2.off (by omega))
  have bx8 := bx7.fx f8 (fun e => by omega)
  have oy8 := oy7.fx f8 (fun k hk e => by have hk : k = q5 := hk; have := oy7.base k e; omega)
  refine WL.done ?_
  refine EW.on ?_
  refine EW.seq ?_
  refine EW.region ?_
  first | refine WL.move rfl rfl rfl ?_
  refine WL.call [.pointer (some ⟨q, 0, none⟩)] enter29 rfl rfl rfl (end_any q u c (s6R c K s) _ rd8 hl) ?_
  rintro _ w9 ⟨rfl, rd9, f9⟩
  have l9 := f9.size
  have by9 := by8.fx f9 (fun e => by omega)
  have bx9 := bx8.fx f9 (fun e => by omega)
  have oy9 := oy8.fx f9 (fun k hk e => by have hk : k = q := hk; have := oy8.base k e; omega)
  refine ⟨_, rfl, ?_⟩
  refine WL.done ?_
  refine EW.on ?_
  refine EW.seq ?_
  refine EW.seq ?_
  refine EW.region ?_
  first | refine WL.move rfl rfl rfl ?_
  refine WL.call [.pointer (some ⟨q, 0, none⟩)] enter30 rfl rfl rfl (fault_any q u c (s7R c K s) _ rd9) ?_
  rintro _ wa ⟨fa, rfl, bea⟩
  have la := bea.size
  have bya := by9.on bea
  have bxa := bx9.on bea
  have oya := oy9.below bea
  refine ⟨_, rfl, ?_⟩
  first | refine WL.move rfl rfl rfl ?_
  first | refine WL.extract rfl rfl rfl (ext_2 _ _ _).1 ?_
  first | refine WL.extract rfl rfl rfl (ext_2 _ _ _).2 ?_
  first | refine WL.assign rfl rfl rfl ?_
  first | refine WL.assign rfl rfl rfl ?_
  refine WL.done ?_
  refine EW.on ?_
  refine EW.seq ?_
  refine EW.region ?_
  first | refine WL.move rfl rfl rfl ?_
  first | refine WL.bin rfl rfl rfl rfl (int_ne_f rfl _ _ _) ?_ | refine WL.bin rfl rfl rfl rfl (int_ne_t ‹_› _ _ _) ?_ | refine WL.bin rfl rfl rfl rfl (int_ne_f ‹_› _ _ _) ?_ | refine WL.bin rfl rfl rfl rfl (int_ne_t (by decide) _ _ _) ?_ | refine WL.bin rfl rfl rfl rfl (int_ne_d _ _ _ _ _) ?_
  refine WL.done ?_
  refine EW.on ?_
  refine EW.cond_t rfl ?_
  refine EW.seq ?_
  refine EW.region ?_
  refine WL.buildN [] rfl rfl rfl (bd33 _) ?_
  first | refine WL.move rfl rfl rfl ?_
  obtain ⟨we, ste, bxe, fe⟩ := stPk bxa Pk.z_ok Pk.z Pk.z_ok ⟨_, _, _, rfl⟩
  refine WL.store rfl rfl rfl ste ?_
  first | refine WL.assign rfl rfl rfl ?_
  refine WL.done ?_
  refine EW.on ?_
  refine EW.ret ?_
  refine pr_then ?_
  exact EW.returnsCT Try.results11 rfl rfl bxe Try.underlying33 rfl (i33 Pk.z_ok) ⟨rfl, e1.trans ((be2.mono l1).trans ((sb3.mono (by omega)).trans ((sb5.mono (by omega)).trans ((be6.mono (by omega)).trans ((f7.low (by omega) (by omega)).trans ((f8.low (by omega) (by omega)).trans ((f9.low (by omega) (by omega)).trans ((bea.mono (by omega)).trans (fe.low (by omega) (by omega))))))))))⟩
set_option maxRecDepth 100000 in
set_option maxHeartbeats 4000000 in
theorem unp_ok (vb : Value) (c : List UInt8) (w : World) (hb : Has w vb c) (hl : c.length ≤ 140737488355328) (K : Nat) (s : Nat × Int) (hA : ∀ w' q u, Rd w' q u c 0 0 → Calls Try.prog 27 #[.pointer (some ⟨q, 0, none⟩)] w' fun e w'' => e = .returned (.tuple #[(pkR c K s (.slice none 0 0)).v, .int .i64 (nR c K s : Int), .int .i64 (0)]) ∧ Rd w'' q u c (s5R c K s).1 0 ∧ Fx (fun k => k = q) w' w'') (hS : (s5R c K s).2 = 0) (hF : fltD K (hlR c K s) (nR c K s) = 0) (hf : (s7R c K s).2 = 0) : Calls Try.prog 11 #[vb] w fun e w' => ∃ vy, e = .returned (.tuple #[(pkR c K s vy).v, .int .i64 (0)]) ∧ Ob w' w.heap.size vy (rB c (nR c K s) (s5R c K s)) ∧ Below w.heap.size w w' := by
  obtain ⟨w1, q1, r1, bx1, e1, hq1⟩ := new_any (t := 33) (cs := Pk.z.cs) zv33 w
  have l1 := e1.size
  have hq1' := bx1.lt
  refine calls_of_args [vb] Try.func11 rfl 46 Try.ntmps11 (by show 1 ≤ 46; decide) ?_
  refine EW.seq ?_
  refine EW.region ?_
  refine WL.new rfl rfl r1 ?_
  first | refine WL.assign rfl rfl rfl ?_
  refine WL.done ?_
  refine EW.on ?_
  refine EW.seq ?_
  refine EW.region ?_
  first | refine WL.move rfl rfl rfl ?_
  refine WL.call [vb] enter26 rfl rfl rfl (newR_any vb c _ (hb.below e1) hl) ?_
  rintro _ w2 ⟨u, q, rfl, rd2, hq2, be2⟩
  have bx2 := bx1.on be2
  have l2 := be2.size
  refine ⟨_, rfl, ?_⟩
  first | refine WL.assign rfl rfl rfl ?_
  refine WL.done ?_
  refine EW.on ?_
  refine EW.seq ?_
  refine EW.region ?_
  first | refine WL.move rfl rfl rfl ?_
  refine WL.call [.pointer (some ⟨q, 0, none⟩)] enter27 rfl rfl rfl (hA _ q u rd2) ?_
  rintro _ w3 ⟨rfl, rd3, f3⟩
  have l3 := f3.size
  have bx3 := bx2.fx f3 (fun e => by omega)
  have sb3 := f3.low hq2 l2
  have hq3 := rd3.bl.lt
  refine ⟨_, rfl, ?_⟩
  first | refine WL.move rfl rfl rfl ?_
  refine WL.extract rfl rfl rfl (ext_3 _ _ _ _).1 ?_
  refine WL.extract rfl rfl rfl (ext_3 _ _ _ _).2.1 ?_
  refine WL.extract rfl rfl rfl (ext_3 _ _ _ _).2.2 ?_
  obtain ⟨w4, q5, r4, bx4, e4, hq5⟩ := new_any (t := 33) (cs := Pk.z.cs) zv33 w3
  have l4 := e4.size
  have hq5l := bx4.lt
  refine WL.new rfl rfl r4 ?_
  obtain ⟨w5, st5, by5, f5⟩ := stPk bx4 Pk.z_ok (pkR c K s (.slice none 0 0)) (pkR_ok c K s _) ⟨_, _, _, rfl⟩
  refine WL.store rfl rfl rfl st5 ?_
  have l5 := f5.size
  have sb5 : Below w3.heap.size w3 w5 := e4.trans (f5.low (by omega) (by omega))
  first | refine WL.assign rfl rfl rfl ?_
  first | refine WL.assign rfl rfl rfl ?_
  refine WL.done ?_
  refine EW.on ?_
  refine EW.seq ?_
  refine EW.seq ?_
  refine EW.region ?_
  first | refine WL.move rfl rfl rfl ?_
  first | refine WL.bin rfl rfl rfl rfl (int_eq_t rfl _ _ _) ?_ | refine WL.bin rfl rfl rfl rfl (int_eq_t ‹_› _ _ _) ?_ | refine WL.bin rfl rfl rfl rfl (int_eq_f ‹_› _ _ _) ?_ | refine WL.bin rfl rfl rfl rfl (int_eq_d _ _ _ _ _) ?_
  refine WL.done ?_
  refine EW.on ?_
  refine EW.cond_t rfl ?_
  refine EW.region ?_
  refine WL.field rfl rfl rfl (f33_0 q5 0 _) ?_
  refine WL.load rfl rfl rfl (ldPkK by5) ?_
  refine WL.field rfl rfl rfl (f33_1 q5 0 _) ?_
  refine WL.load rfl rfl rfl (ldPkL by5 (pkR_ok c K s _)) ?_
  first | refine WL.move rfl rfl rfl ?_
  refine WL.call [.int .i64 (K : Int), (hlR c K s).v, .int .i64 (nR c K s : Int)] enter19 rfl rfl rfl (flt_any _ _ _ (hlR_ok c K s) _) ?_
  rintro _ w6 ⟨rfl, be6⟩
  have l6 := be6.size
  have bx6 := (bx3.on e4).fx f5 (fun e => by omega)
  have bx6 := bx6.on be6
  rw [hF]
  refine ⟨_, rfl, ?_⟩
  first | refine WL.assign rfl rfl rfl ?_
  refine WL.done ?_
  refine EW.on ?_
  refine EW.seq ?_
  refine EW.seq ?_
  have rd6 : Rd w6 q u c (s5R c K s).1 (s5R c K s).2 := by
    rw [hS]
    exact ((rd3.below e4).fx f5 (by omega) (rd2.off (by omega))).below be6
  have by6 := by5.on be6
  refine EW.region ?_
  first | refine WL.move rfl rfl rfl ?_
  first | refine WL.bin rfl rfl rfl rfl (int_ne_f rfl _ _ _) ?_ | refine WL.bin rfl rfl rfl rfl (int_ne_t ‹_› _ _ _) ?_ | refine WL.bin rfl rfl rfl rfl (int_ne_f ‹_› _ _ _) ?_ | refine WL.bin rfl rfl rfl rfl (int_ne_t (by decide) _ _ _) ?_ | refine WL.bin rfl rfl rfl rfl (int_ne_d _ _ _ _ _) ?_
  refine WL.done ?_
  refine EW.on ?_
  refine EW.cond_f rfl ?_
  refine EW.skip ?_
  refine EW.on ?_
  refine EW.seq ?_
  refine EW.region ?_
  first | refine WL.move rfl rfl rfl ?_
  first | refine WL.move rfl rfl rfl ?_
  refine WL.call [.pointer (some ⟨q, 0, none⟩), .int .i64 (nR c K s : Int)] enter28 rfl rfl rfl (rfix_any q (nR c K s) u c (s5R c K s) _ rd6 hl (by have := nR_lt c K s; omega)) ?_
  rintro _ w7 ⟨vy, rfl, oy7, rd7, f7⟩
  have l7 := f7.size
  have by7 := by6.fx f7 (fun e => by omega)
  have bx7 := bx6.fx f7 (fun e => by omega)
  refine ⟨_, rfl, ?_⟩
  refine WL.field rfl rfl rfl (f33_3 q5 0 _) ?_
  obtain ⟨w8, st8, by8, f8⟩ := stPkB by7 (pkR_ok c K s _) vy oy7.has.sl
  refine WL.store rfl rfl rfl st8 ?_
  have l8 := f8.size
  have rd8 := rd7.fx f8 (by omega) (rd2.off (by omega))
  have bx8 := bx7.fx f8 (fun e => by omega)
  have oy8 := oy7.fx f8 (fun k hk e => by have hk : k = q5 := hk; have := oy7.base k e; omega)
  refine WL.done ?_
  refine EW.on ?_
  refine EW.seq ?_
  refine EW.region ?_
  first | refine WL.move rfl rfl rfl ?_
  refine WL.call [.pointer (some ⟨q, 0, none⟩)] enter29 rfl rfl rfl (end_any q u c (s6R c K s) _ rd8 hl) ?_
  rintro _ w9 ⟨rfl, rd9, f9⟩
  have l9 := f9.size
  have by9 := by8.fx f9 (fun e => by omega)
  have bx9 := bx8.fx f9 (fun e => by omega)
  have oy9 := oy8.fx f9 (fun k hk e => by have hk : k = q := hk; have := oy8.base k e; omega)
  refine ⟨_, rfl, ?_⟩
  refine WL.done ?_
  refine EW.on ?_
  refine EW.seq ?_
  refine EW.seq ?_
  refine EW.region ?_
  first | refine WL.move rfl rfl rfl ?_
  refine WL.call [.pointer (some ⟨q, 0, none⟩)] enter30 rfl rfl rfl (fault_any q u c (s7R c K s) _ rd9) ?_
  rintro _ wa ⟨fa, rfl, bea⟩
  have la := bea.size
  have bya := by9.on bea
  have bxa := bx9.on bea
  have oya := oy9.below bea
  rw [hf]
  refine ⟨_, rfl, ?_⟩
  first | refine WL.move rfl rfl rfl ?_
  first | refine WL.extract rfl rfl rfl (ext_2 _ _ _).1 ?_
  first | refine WL.extract rfl rfl rfl (ext_2 _ _ _).2 ?_
  first | refine WL.assign rfl rfl rfl ?_
  first | refine WL.assign rfl rfl rfl ?_
  refine WL.done ?_
  refine EW.on ?_
  refine EW.seq ?_
  refine EW.region ?_
  first | refine WL.move rfl rfl rfl ?_
  first | refine WL.bin rfl rfl rfl rfl (int_ne_f rfl _ _ _) ?_ | refine WL.bin rfl rfl rfl rfl (int_ne_t ‹_› _ _ _) ?_ | refine WL.bin rfl rfl rfl rfl (int_ne_f ‹_› _ _ _) ?_ | refine WL.bin rfl rfl rfl rfl (int_ne_t (by decide) _ _ _) ?_ | refine WL.bin rfl rfl rfl rfl (int_ne_d _ _ _ _ _) ?_
  refine WL.done ?_
  refine EW.on ?_
  refine EW.cond_f rfl ?_
  refine EW.skip ?_
  refine EW.on ?_
  refine EW.seq ?_
  refine EW.region ?_
  refine WL.load rfl rfl rfl (ldPk bya (pkR_ok c K s vy)) ?_
  obtain ⟨we, ste, bxe, fe⟩ := stPk bxa Pk.z_ok (pkR c K s vy) (pkR_ok c K s vy) oya.has.sl
  refine WL.store rfl rfl rfl ste ?_
  first | refine WL.assign rfl rfl rfl ?_
  refine WL.done ?_
  refine EW.on ?_
  refine EW.ret ?_
  exact EW.returnsCT Try.results11 rfl rfl bxe Try.underlying33 rfl (i33 (pkR_ok c K s vy)) ⟨vy, rfl, (oya.fx fe (fun k hk e => by have hk : k = q1 := hk; have := oya.base k e; omega)).lower (by omega), e1.trans ((be2.mono l1).trans ((sb3.mono (by omega)).trans ((sb5.mono (by omega)).trans ((be6.mono (by omega)).trans ((f7.low (by omega) (by omega)).trans ((f8.low (by omega) (by omega)).trans ((f9.low (by omega) (by omega)).trans ((bea.mono (by omega)).trans (fe.low (by omega) (by omega))))))))))⟩
end Go.Proofs.Ytobfebpinkikdaa
