import Derived.Test.YtobfebpinkikdaaHs
set_option linter.unusedVariables false
set_option linter.unusedSimpArgs false
namespace Go.Proofs.Ytobfebpinkikdaa
open Go.RowKit

def rightO (o : Of) : Prop := ¬ o.id = z32 ∧ ¬ o.key = z32 ∧ ¬ o.pre = 0
instance (o : Of) : Decidable (rightO o) := by unfold rightO; exact inferInstance
set_option maxRecDepth 100000 in
set_option maxHeartbeats 1000000 in
theorem right_any (o : Of) (ko : o.ok) (w : World) : Calls Try.prog 34 #[o.v] w fun e w' => e = .returned (.bool (decide (rightO o))) ∧ Below w.heap.size w w' := by
  obtain ⟨w1, q1, r1, bx1, e1, hq1⟩ := box_any 42 o.cs w
  by_cases h1 : o.id = z32
  · have hd : decide (¬ o.id = z32) = false := by simp [h1]
    refine calls_of_args [o.v] Try.func34 rfl 18 Try.ntmps34 (by show 1 ≤ 18; decide) ?_
    refine EW.seq ?_
    refine EW.region ?_
    refine WL.box rfl rfl rfl r1 ?_
    first | refine WL.assign rfl rfl rfl ?_
    refine WL.done ?_
    refine EW.on ?_
    refine EW.seq ?_
    refine EW.region ?_
    first | refine WL.field rfl rfl rfl (f42_0 q1 0 _) ?_ | refine WL.skip _ rfl rfl rfl ?_
    first | refine WL.load rfl rfl rfl (ldOfI bx1 ko) ?_ | refine WL.skip _ rfl rfl rfl ?_
    first | refine WL.buildN [] rfl rfl rfl (bd23 _) ?_ | refine WL.skip _ rfl rfl rfl ?_
    first | refine WL.bin rfl rfl rfl rfl (neq23 _ _ ko.i rfl _ _ _) ?_ | refine WL.skip _ rfl rfl rfl ?_
    try rw [hd]
    first | refine WL.move rfl rfl rfl ?_
    first | refine WL.field rfl rfl rfl (f42_2 q1 0 _) ?_ | refine WL.skip _ rfl rfl rfl ?_
    first | refine WL.load rfl rfl rfl (ldOfK bx1 ko) ?_ | refine WL.skip _ rfl rfl rfl ?_
    first | refine WL.buildN [] rfl rfl rfl (bd23 _) ?_ | refine WL.skip _ rfl rfl rfl ?_
    first | refine WL.bin rfl rfl rfl rfl (neq23 _ _ ko.k rfl _ _ _) ?_ | refine WL.skip _ rfl rfl rfl ?_
    try rw [hk]
    first | refine WL.pick rfl rfl rfl rfl ?_
    first | refine WL.move rfl rfl rfl ?_
    first | refine WL.field rfl rfl rfl (f42_1 q1 0 _) ?_ | refine WL.skip _ rfl rfl rfl ?_
    first | refine WL.load rfl rfl rfl (ldOfP bx1 ko) ?_ | refine WL.skip _ rfl rfl rfl ?_
    first | refine WL.bin rfl rfl rfl rfl (neqU _ 0 _ _ _) ?_ | refine WL.skip _ rfl rfl rfl ?_
    first | refine WL.pick rfl rfl rfl rfl ?_
    first | refine WL.assign rfl rfl rfl ?_
    refine WL.done ?_
    refine EW.on ?_
    refine EW.ret ?_
    exact EW.returns Try.results34 rfl ⟨by simp [rightO, h1], e1⟩
  · have hd : decide (¬ o.id = z32) = true := by simp [h1]
    by_cases h2 : o.key = z32
    · have hk : decide (¬ o.key = z32) = false := by simp [h2]
      refine calls_of_args [o.v] Try.func34 rfl 18 Try.ntmps34 (by show 1 ≤ 18; decide) ?_
      refine EW.seq ?_
      refine EW.region ?_
      refine WL.box rfl rfl rfl r1 ?_
      first | refine WL.assign rfl rfl rfl ?_
      refine WL.done ?_
      refine EW.on ?_
      refine EW.seq ?_
      refine EW.region ?_
      first | refine WL.field rfl rfl rfl (f42_0 q1 0 _) ?_ | refine WL.skip _ rfl rfl rfl ?_
      first | refine WL.load rfl rfl rfl (ldOfI bx1 ko) ?_ | refine WL.skip _ rfl rfl rfl ?_
      first | refine WL.buildN [] rfl rfl rfl (bd23 _) ?_ | refine WL.skip _ rfl rfl rfl ?_
      first | refine WL.bin rfl rfl rfl rfl (neq23 _ _ ko.i rfl _ _ _) ?_ | refine WL.skip _ rfl rfl rfl ?_
      try rw [hd]
      first | refine WL.move rfl rfl rfl ?_
      first | refine WL.field rfl rfl rfl (f42_2 q1 0 _) ?_ | refine WL.skip _ rfl rfl rfl ?_
      first | refine WL.load rfl rfl rfl (ldOfK bx1 ko) ?_ | refine WL.skip _ rfl rfl rfl ?_
      first | refine WL.buildN [] rfl rfl rfl (bd23 _) ?_ | refine WL.skip _ rfl rfl rfl ?_
      first | refine WL.bin rfl rfl rfl rfl (neq23 _ _ ko.k rfl _ _ _) ?_ | refine WL.skip _ rfl rfl rfl ?_
      try rw [hk]
      first | refine WL.pick rfl rfl rfl rfl ?_
      first | refine WL.move rfl rfl rfl ?_
      first | refine WL.field rfl rfl rfl (f42_1 q1 0 _) ?_ | refine WL.skip _ rfl rfl rfl ?_
      first | refine WL.load rfl rfl rfl (ldOfP bx1 ko) ?_ | refine WL.skip _ rfl rfl rfl ?_
      first | refine WL.bin rfl rfl rfl rfl (neqU _ 0 _ _ _) ?_ | refine WL.skip _ rfl rfl rfl ?_
      first | refine WL.pick rfl rfl rfl rfl ?_
      first | refine WL.assign rfl rfl rfl ?_
      refine WL.done ?_
      refine EW.on ?_
      refine EW.ret ?_
      exact EW.returns Try.results34 rfl ⟨by simp [rightO, h1, h2], e1⟩
    · have hk : decide (¬ o.key = z32) = true := by simp [h2]
      refine calls_of_args [o.v] Try.func34 rfl 18 Try.ntmps34 (by show 1 ≤ 18; decide) ?_
      refine EW.seq ?_
      refine EW.region ?_
      refine WL.box rfl rfl rfl r1 ?_
      first | refine WL.assign rfl rfl rfl ?_
      refine WL.done ?_
      refine EW.on ?_
      refine EW.seq ?_
      refine EW.region ?_
      first | refine WL.field rfl rfl rfl (f42_0 q1 0 _) ?_ | refine WL.skip _ rfl rfl rfl ?_
      first | refine WL.load rfl rfl rfl (ldOfI bx1 ko) ?_ | refine WL.skip _ rfl rfl rfl ?_
      first | refine WL.buildN [] rfl rfl rfl (bd23 _) ?_ | refine WL.skip _ rfl rfl rfl ?_
      first | refine WL.bin rfl rfl rfl rfl (neq23 _ _ ko.i rfl _ _ _) ?_ | refine WL.skip _ rfl rfl rfl ?_
      try rw [hd]
      first | refine WL.move rfl rfl rfl ?_
      first | refine WL.field rfl rfl rfl (f42_2 q1 0 _) ?_ | refine WL.skip _ rfl rfl rfl ?_
      first | refine WL.load rfl rfl rfl (ldOfK bx1 ko) ?_ | refine WL.skip _ rfl rfl rfl ?_
      first | refine WL.buildN [] rfl rfl rfl (bd23 _) ?_ | refine WL.skip _ rfl rfl rfl ?_
      first | refine WL.bin rfl rfl rfl rfl (neq23 _ _ ko.k rfl _ _ _) ?_ | refine WL.skip _ rfl rfl rfl ?_
      try rw [hk]
      first | refine WL.pick rfl rfl rfl rfl ?_
      first | refine WL.move rfl rfl rfl ?_
      first | refine WL.field rfl rfl rfl (f42_1 q1 0 _) ?_ | refine WL.skip _ rfl rfl rfl ?_
      first | refine WL.load rfl rfl rfl (ldOfP bx1 ko) ?_ | refine WL.skip _ rfl rfl rfl ?_
      first | refine WL.bin rfl rfl rfl rfl (neqU _ 0 _ _ _) ?_ | refine WL.skip _ rfl rfl rfl ?_
      first | refine WL.pick rfl rfl rfl rfl ?_
      first | refine WL.assign rfl rfl rfl ?_
      refine WL.done ?_
      refine EW.on ?_
      refine EW.ret ?_
      exact EW.returns Try.results34 rfl ⟨by simp [rightO, h1, h2], e1⟩
def ofR (c : List UInt8) (s : Nat × Int) : Of := ⟨keyR c s, numB (rB c 4 (rS c 32 s)), keyR c (rS c 4 (rS c 32 s))⟩
theorem ofR_ok (c : List UInt8) (s : Nat × Int) : (ofR c s).ok := ⟨keyR_len _ _, numB_32 _ (rB_len _ _ _), keyR_len _ _⟩
def ofS (c : List UInt8) (s : Nat × Int) : Nat × Int := eS c (rSs c [32, 4, 32] s)
set_option maxRecDepth 100000 in
set_option maxHeartbeats 4000000 in
theorem rof_A (vb : Value) (c : List UInt8) (w : World) (hb : Has w vb c) (hl : c.length ≤ 140737488355328) (hE : ¬ stE c (0, 0) = 0) : Calls Try.prog 12 #[vb] w fun e w' => e = .returned (.tuple #[Of.z.v, .int .i64 (stE c (0, 0))]) ∧ Below w.heap.size w w' := by
  obtain ⟨w1, q1, r1, bx1, e1, hq1⟩ := new_any (t := 42) (cs := Of.z.cs) zv42 w
  have l1 := e1.size
  have hq1' := bx1.lt
  refine calls_of_args [vb] Try.func12 rfl 49 Try.ntmps12 (by show 1 ≤ 49; decide) ?_
  refine EW.seq ?_
  refine EW.region ?_
  refine WL.new rfl rfl r1 ?_
  first | refine WL.assign rfl rfl rfl ?_
  refine WL.done ?_
  refine EW.on ?_
  refine EW.seq ?_
  refine EW.region ?_
  first | refine WL.move rfl rfl rfl ?_
  refine WL.call [vb] enter26 rfl rfl rfl (newR_any vb c _ (hb.below e1) hl) ?_
  rintro _ w2 ⟨u, q, rfl, rd2, hq2, be2⟩
  have bx2 := bx1.on be2
  have l2 := be2.size
  refine ⟨_, rfl, ?_⟩
  first | refine WL.assign rfl rfl rfl ?_
  refine WL.done ?_
  refine EW.on ?_
  refine EW.seq ?_
  refine EW.region ?_
  first | refine WL.move rfl rfl rfl ?_
  refine WL.call [.pointer (some ⟨q, 0, none⟩)] enter31 rfl rfl rfl (rstart_any q u c (0, 0) _ rd2 hl) ?_
  rintro _ w3 ⟨rfl, rd3, f3⟩
  have l3 := f3.size
  have hq3 := rd3.bl.lt
  have bx3 := bx2.fx f3 (fun e => by omega)
  have sb3 := (f3.low hq2 l2).mono l1
  refine ⟨_, rfl, ?_⟩
  first | refine WL.move rfl rfl rfl ?_
  first | refine WL.extract rfl rfl rfl (ext_2 _ _ _).1 ?_
  first | refine WL.extract rfl rfl rfl (ext_2 _ _ _).2 ?_
  first | refine WL.assign rfl rfl rfl ?_
  first | refine WL.assign rfl rfl rfl ?_
  refine WL.done ?_
  refine EW.on ?_
  refine EW.seq ?_
  refine EW.seq ?_
  refine EW.region ?_
  first | refine WL.move rfl rfl rfl ?_
  first | refine WL.bin rfl rfl rfl rfl (int_ne_f rfl _ _ _) ?_ | refine WL.bin rfl rfl rfl rfl (int_ne_t ‹_› _ _ _) ?_ | refine WL.bin rfl rfl rfl rfl (int_ne_f ‹_› _ _ _) ?_ | refine WL.bin rfl rfl rfl rfl (int_ne_t (by decide) _ _ _) ?_ | refine WL.bin rfl rfl rfl rfl (int_ne_d _ _ _ _ _) ?_
  refine WL.done ?_
  refine EW.on ?_
  refine EW.cond_t rfl ?_
  refine EW.seq ?_
  refine EW.region ?_
  refine WL.buildN [] rfl rfl rfl (bd42 _) ?_
  first | refine WL.move rfl rfl rfl ?_
  obtain ⟨we, ste, bxe, fe⟩ := stOf bx3 Of.z_ok Of.z Of.z_ok
  refine WL.store rfl rfl rfl ste ?_
  first | refine WL.assign rfl rfl rfl ?_
  refine WL.done ?_
  refine EW.on ?_
  refine EW.ret ?_
  refine pr_then ?_
  exact EW.returnsCT Try.results12 rfl rfl bxe Try.underlying42 rfl (i42 Of.z_ok) ⟨rfl, e1.trans ((be2.mono l1).trans (sb3.trans (fe.low (by omega) (by omega))))⟩
set_option maxRecDepth 100000 in
set_option maxHeartbeats 4000000 in
theorem rof_B (vb : Value) (c : List UInt8) (w : World) (hb : Has w vb c) (hl : c.length ≤ 140737488355328) (hE : stE c (0, 0) = 0) (hK : ¬ (stK c (0, 0) : Int) = 3) : Calls Try.prog 12 #[vb] w fun e w' => e = .returned (.tuple #[Of.z.v, .int .i64 (103)]) ∧ Below w.heap.size w w' := by
  obtain ⟨w1, q1, r1, bx1, e1, hq1⟩ := new_any (t := 42) (cs := Of.z.cs) zv42 w
  have l1 := e1.size
  have hq1' := bx1.lt
  refine calls_of_args [vb] Try.func12 rfl 49 Try.ntmps12 (by show 1 ≤ 49; decide) ?_
  refine EW.seq ?_
  refine EW.region ?_
  refine WL.new rfl rfl r1 ?_
  first | refine WL.assign rfl rfl rfl ?_
  refine WL.done ?_
  refine EW.on ?_
  refine EW.seq ?_
  refine EW.region ?_
  first | refine WL.move rfl rfl rfl ?_
  refine WL.call [vb] enter26 rfl rfl rfl (newR_any vb c _ (hb.below e1) hl) ?_
  rintro _ w2 ⟨u, q, rfl, rd2, hq2, be2⟩
  have bx2 := bx1.on be2
  have l2 := be2.size
  refine ⟨_, rfl, ?_⟩
  first | refine WL.assign rfl rfl rfl ?_
  refine WL.done ?_
  refine EW.on ?_
  refine EW.seq ?_
  refine EW.region ?_
  first | refine WL.move rfl rfl rfl ?_
  refine WL.call [.pointer (some ⟨q, 0, none⟩)] enter31 rfl rfl rfl (rstart_any q u c (0, 0) _ rd2 hl) ?_
  rintro _ w3 ⟨rfl, rd3, f3⟩
  have l3 := f3.size
  have hq3 := rd3.bl.lt
  have bx3 := bx2.fx f3 (fun e => by omega)
  have sb3 := (f3.low hq2 l2).mono l1
  rw [hE]
  refine ⟨_, rfl, ?_⟩
  first | refine WL.move rfl rfl rfl ?_
  first | refine WL.extract rfl rfl rfl (ext_2 _ _ _).1 ?_
  first | refine WL.extract rfl rfl rfl (ext_2 _ _ _).2 ?_
  first | refine WL.assign rfl rfl rfl ?_
  first | refine WL.assign rfl rfl rfl ?_
  refine WL.done ?_
  refine EW.on ?_
  refine EW.seq ?_
  refine EW.seq ?_
  refine EW.region ?_
  first | refine WL.move rfl rfl rfl ?_
  first | refine WL.bin rfl rfl rfl rfl (int_ne_f rfl _ _ _) ?_ | refine WL.bin rfl rfl rfl rfl (int_ne_t ‹_› _ _ _) ?_ | refine WL.bin rfl rfl rfl rfl (int_ne_f ‹_› _ _ _) ?_ | refine WL.bin rfl rfl rfl rfl (int_ne_t (by decide) _ _ _) ?_ | refine WL.bin rfl rfl rfl rfl (int_ne_d _ _ _ _ _) ?_
  refine WL.done ?_
  refine EW.on ?_
  refine EW.cond_f rfl ?_
  refine EW.skip ?_
  refine EW.on ?_
  refine EW.seq ?_
  refine EW.seq ?_
  refine EW.region ?_
  first | refine WL.move rfl rfl rfl ?_
  first | refine WL.bin rfl rfl rfl rfl (int_ne_f rfl _ _ _) ?_ | refine WL.bin rfl rfl rfl rfl (int_ne_t ‹_› _ _ _) ?_ | refine WL.bin rfl rfl rfl rfl (int_ne_f ‹_› _ _ _) ?_ | refine WL.bin rfl rfl rfl rfl (int_ne_t (by decide) _ _ _) ?_ | refine WL.bin rfl rfl rfl rfl (int_ne_d _ _ _ _ _) ?_
  refine WL.done ?_
  refine EW.on ?_
  refine EW.cond_t rfl ?_
  refine EW.seq ?_
  refine EW.region ?_
  refine WL.buildN [] rfl rfl rfl (bd42 _) ?_
  obtain ⟨we, ste, bxe, fe⟩ := stOf bx3 Of.z_ok Of.z Of.z_ok
  refine WL.store rfl rfl rfl ste ?_
  first | refine WL.assign rfl rfl rfl ?_
  refine WL.done ?_
  refine EW.on ?_
  refine EW.ret ?_
  refine pr_then ?_
  exact EW.returnsCT Try.results12 rfl rfl bxe Try.underlying42 rfl (i42 Of.z_ok) ⟨rfl, e1.trans ((be2.mono l1).trans (sb3.trans (fe.low (by omega) (by omega))))⟩
set_option maxRecDepth 100000 in
set_option maxHeartbeats 4000000 in
theorem rof_E (vb : Value) (c : List UInt8) (w : World) (hb : Has w vb c) (hl : c.length ≤ 140737488355328) (hE : stE c (0, 0) = 0) (hK : stK c (0, 0) = 3) (hf : ¬ (ofS c (s2R c (0, 0))).2 = 0) : Calls Try.prog 12 #[vb] w fun e w' => e = .returned (.tuple #[Of.z.v, .int .i64 ((ofS c (s2R c (0, 0))).2)]) ∧ Below w.heap.size w w' := by
  obtain ⟨w1, q1, r1, bx1, e1, hq1⟩ := new_any (t := 42) (cs := Of.z.cs) zv42 w
  have l1 := e1.size
  have hq1' := bx1.lt
  refine calls_of_args [vb] Try.func12 rfl 49 Try.ntmps12 (by show 1 ≤ 49; decide) ?_
  refine EW.seq ?_
  refine EW.region ?_
  refine WL.new rfl rfl r1 ?_
  first | refine WL.assign rfl rfl rfl ?_
  refine WL.done ?_
  refine EW.on ?_
  refine EW.seq ?_
  refine EW.region ?_
  first | refine WL.move rfl rfl rfl ?_
  refine WL.call [vb] enter26 rfl rfl rfl (newR_any vb c _ (hb.below e1) hl) ?_
  rintro _ w2 ⟨u, q, rfl, rd2, hq2, be2⟩
  have bx2 := bx1.on be2
  have l2 := be2.size
  refine ⟨_, rfl, ?_⟩
  first | refine WL.assign rfl rfl rfl ?_
  refine WL.done ?_
  refine EW.on ?_
  refine EW.seq ?_
  refine EW.region ?_
  first | refine WL.move rfl rfl rfl ?_
  refine WL.call [.pointer (some ⟨q, 0, none⟩)] enter31 rfl rfl rfl (rstart_any q u c (0, 0) _ rd2 hl) ?_
  rintro _ w3 ⟨rfl, rd3, f3⟩
  have l3 := f3.size
  have hq3 := rd3.bl.lt
  have bx3 := bx2.fx f3 (fun e => by omega)
  have sb3 := (f3.low hq2 l2).mono l1
  rw [hE, hK]
  refine ⟨_, rfl, ?_⟩
  first | refine WL.move rfl rfl rfl ?_
  first | refine WL.extract rfl rfl rfl (ext_2 _ _ _).1 ?_
  first | refine WL.extract rfl rfl rfl (ext_2 _ _ _).2 ?_
  first | refine WL.assign rfl rfl rfl ?_
  first | refine WL.assign rfl rfl rfl ?_
  refine WL.done ?_
  refine EW.on ?_
  refine EW.seq ?_
  refine EW.seq ?_
  refine EW.region ?_
  first | refine WL.move rfl rfl rfl ?_
  first | refine WL.bin rfl rfl rfl rfl (int_ne_f rfl _ _ _) ?_ | refine WL.bin rfl rfl rfl rfl (int_ne_t ‹_› _ _ _) ?_ | refine WL.bin rfl rfl rfl rfl (int_ne_f ‹_› _ _ _) ?_ | refine WL.bin rfl rfl rfl rfl (int_ne_t (by decide) _ _ _) ?_ | refine WL.bin rfl rfl rfl rfl (int_ne_d _ _ _ _ _) ?_
  refine WL.done ?_
  refine EW.on ?_
  refine EW.cond_f rfl ?_
  refine EW.skip ?_
  refine EW.on ?_
  refine EW.seq ?_
  refine EW.seq ?_
  refine EW.region ?_
  first | refine WL.move rfl rfl rfl ?_
  first | refine WL.bin rfl rfl rfl rfl (int_ne_f rfl _ _ _) ?_ | refine WL.bin rfl rfl rfl rfl (int_ne_t ‹_› _ _ _) ?_ | refine WL.bin rfl rfl rfl rfl (int_ne_f ‹_› _ _ _) ?_ | refine WL.bin rfl rfl rfl rfl (int_ne_t (by decide) _ _ _) ?_ | refine WL.bin rfl rfl rfl rfl (int_ne_d _ _ _ _ _) ?_
  refine WL.done ?_
  refine EW.on ?_
  refine EW.cond_f rfl ?_
  refine EW.skip ?_
  refine EW.on ?_
  refine EW.seq ?_
  refine EW.region ?_
  obtain ⟨w4, q5, r4, by4, e4, hq5⟩ := new_any (t := 42) (cs := Of.z.cs) zv42 w3
  have l4 := e4.size
  have hq5l := by4.lt
  have bx4 := bx3.on e4
  have rd4 := rd3.below e4
  have hof := rd3.off (g := q5) (by omega)
  have sb4 := e4.mono (show w1.heap.size ≤ w3.heap.size by omega)
  refine WL.new rfl rfl r4 ?_
  refine WL.done ?_
  refine EW.on ?_
  refine EW.seq ?_
  refine EW.region ?_
  first | refine WL.move rfl rfl rfl ?_
  refine WL.call [.pointer (some ⟨q, 0, none⟩)] enter32 rfl rfl rfl (rkey_any q u c (s2R c (0, 0)) _ rd4 hl) ?_
  rintro _ w5 ⟨rfl, rd5, f5⟩
  have l5 := f5.size
  have bx5 := bx4.fx f5 (fun e => by omega)
  have by5 := by4.fx f5 (fun e => by omega)
  have sb5 := f5.low (B := w1.heap.size) hq2 (by omega)
  refine ⟨_, rfl, ?_⟩
  refine WL.field rfl rfl rfl (f42_0 q5 0 _) ?_
  obtain ⟨w6, st6, by6, f6⟩ := stOfI by5 Of.z_ok (keyR c (s2R c (0, 0))) (keyR_len _ _)
  refine WL.store rfl rfl rfl st6 ?_
  have l6 := f6.size
  have rd6 := rd5.fx f6 (by omega) hof
  have bx6 := bx5.fx f6 (fun e => by omega)
  have sb6 := f6.low (B := w1.heap.size) (by omega) (by omega)
  refine WL.done ?_
  refine EW.on ?_
  refine EW.seq ?_
  refine EW.region ?_
  first | refine WL.move rfl rfl rfl ?_
  refine WL.call [.pointer (some ⟨q, 0, none⟩)] enter33 rfl rfl rfl (rn4_any q u c (rS c 32 (s2R c (0, 0))) _ rd6 hl) ?_
  rintro _ w7 ⟨rfl, rd7, f7⟩
  have l7 := f7.size
  have bx7 := bx6.fx f7 (fun e => by omega)
  have by7 := by6.fx f7 (fun e => by omega)
  have sb7 := f7.low (B := w1.heap.size) hq2 (by omega)
  refine ⟨_, rfl, ?_⟩
  refine WL.field rfl rfl rfl (f42_1 q5 0 _) ?_
  obtain ⟨w8, st8, by8, f8⟩ := stOfP by7 ⟨keyR_len _ _, Of.z_ok.p, rfl⟩ (numB (rB c 4 (rS c 32 (s2R c (0, 0)))))
  refine WL.store rfl rfl rfl st8 ?_
  have l8 := f8.size
  have rd8 := rd7.fx f8 (by omega) hof
  have bx8 := bx7.fx f8 (fun e => by omega)
  have sb8 := f8.low (B := w1.heap.size) (by omega) (by omega)
  refine WL.done ?_
  refine EW.on ?_
  refine EW.seq ?_
  refine EW.region ?_
  first | refine WL.move rfl rfl rfl ?_
  refine WL.call [.pointer (some ⟨q, 0, none⟩)] enter32 rfl rfl rfl (rkey_any q u c (rS c 4 (rS c 32 (s2R c (0, 0)))) _ rd8 hl) ?_
  rintro _ w9 ⟨rfl, rd9, f9⟩
  have l9 := f9.size
  have bx9 := bx8.fx f9 (fun e => by omega)
  have by9 := by8.fx f9 (fun e => by omega)
  have sb9 := f9.low (B := w1.heap.size) hq2 (by omega)
  refine ⟨_, rfl, ?_⟩
  refine WL.field rfl rfl rfl (f42_2 q5 0 _) ?_
  obtain ⟨w10, st10, by10, f10⟩ := stOfK by9 ⟨keyR_len _ _, numB_32 _ (rB_len _ _ _), rfl⟩ (keyR c (rS c 4 (rS c 32 (s2R c (0, 0))))) (keyR_len _ _)
  refine WL.store rfl rfl rfl st10 ?_
  have l10 := f10.size
  have rd10 := rd9.fx f10 (by omega) hof
  have bx10 := bx9.fx f10 (fun e => by omega)
  have sb10 := f10.low (B := w1.heap.size) (by omega) (by omega)
  refine WL.done ?_
  refine EW.on ?_
  refine EW.seq ?_
  refine EW.region ?_
  first | refine WL.move rfl rfl rfl ?_
  refine WL.call [.pointer (some ⟨q, 0, none⟩)] enter29 rfl rfl rfl (end_any q u c (rSs c [32, 4, 32] (s2R c (0, 0))) _ rd10 hl) ?_
  rintro _ w11 ⟨rfl, rd11, f11⟩
  have l11 := f11.size
  have bx11 := bx10.fx f11 (fun e => by omega)
  have by11 := by10.fx f11 (fun e => by omega)
  have sb11 := f11.low (B := w1.heap.size) hq2 (by omega)
  refine ⟨_, rfl, ?_⟩
  refine WL.done ?_
  refine EW.on ?_
  refine EW.seq ?_
  refine EW.seq ?_
  refine EW.region ?_
  first | refine WL.move rfl rfl rfl ?_
  refine WL.call [.pointer (some ⟨q, 0, none⟩)] enter30 rfl rfl rfl (fault_any q u c (ofS c (s2R c (0, 0))) _ rd11) ?_
  rintro _ w12 ⟨fa, rfl, be12⟩
  have l12 := be12.size
  have bx12 := bx11.on be12
  have by12 := by11.on be12
  have sb12 := be12.mono (show w1.heap.size ≤ w11.heap.size by omega)
  refine ⟨_, rfl, ?_⟩
  first | refine WL.move rfl rfl rfl ?_
  first | refine WL.extract rfl rfl rfl (ext_2 _ _ _).1 ?_
  first | refine WL.extract rfl rfl rfl (ext_2 _ _ _).2 ?_
  first | refine WL.assign rfl rfl rfl ?_
  first | refine WL.assign rfl rfl rfl ?_
  refine WL.done ?_
  refine EW.on ?_
  refine EW.seq ?_
  refine EW.region ?_
  first | refine WL.move rfl rfl rfl ?_
  first | refine WL.bin rfl rfl rfl rfl (int_ne_f rfl _ _ _) ?_ | refine WL.bin rfl rfl rfl rfl (int_ne_t ‹_› _ _ _) ?_ | refine WL.bin rfl rfl rfl rfl (int_ne_f ‹_› _ _ _) ?_ | refine WL.bin rfl rfl rfl rfl (int_ne_t (by decide) _ _ _) ?_ | refine WL.bin rfl rfl rfl rfl (int_ne_d _ _ _ _ _) ?_
  refine WL.done ?_
  refine EW.on ?_
  refine EW.cond_t rfl ?_
  refine EW.seq ?_
  refine EW.region ?_
  refine WL.buildN [] rfl rfl rfl (bd42 _) ?_
  first | refine WL.move rfl rfl rfl ?_
  obtain ⟨we, ste, bxe, fe⟩ := stOf bx12 Of.z_ok Of.z Of.z_ok
  refine WL.store rfl rfl rfl ste ?_
  first | refine WL.assign rfl rfl rfl ?_
  refine WL.done ?_
  refine EW.on ?_
  refine EW.ret ?_
  refine pr_then ?_
  exact EW.returnsCT Try.results12 rfl rfl bxe Try.underlying42 rfl (i42 Of.z_ok) ⟨rfl, e1.trans ((be2.mono l1).trans (sb3.trans ((sb4.mono l1).trans ((sb5.mono l1).trans ((sb6.mono l1).trans ((sb7.mono l1).trans ((sb8.mono l1).trans ((sb9.mono l1).trans ((sb10.mono l1).trans ((sb11.mono l1).trans ((sb12.mono l1).trans (fe.low (by omega) (by omega)))))))))))))⟩
set_option maxRecDepth 100000 in
set_option maxHeartbeats 4000000 in
theorem rof_R (vb : Value) (c : List UInt8) (w : World) (hb : Has w vb c) (hl : c.length ≤ 140737488355328) (hE : stE c (0, 0) = 0) (hK : stK c (0, 0) = 3) (hf : (ofS c (s2R c (0, 0))).2 = 0) (hR : decide (rightO (ofR c (s2R c (0, 0)))) = false) : Calls Try.prog 12 #[vb] w fun e w' => e = .returned (.tuple #[Of.z.v, .int .i64 (170)]) ∧ Below w.heap.size w w' := by
  obtain ⟨w1, q1, r1, bx1, e1, hq1⟩ := new_any (t := 42) (cs := Of.z.cs) zv42 w
  have l1 := e1.size
  have hq1' := bx1.lt
  refine calls_of_args [vb] Try.func12 rfl 49 Try.ntmps12 (by show 1 ≤ 49; decide) ?_
  refine EW.seq ?_
  refine EW.region ?_
  refine WL.new rfl rfl r1 ?_
  first | refine WL.assign rfl rfl rfl ?_
  refine WL.done ?_
  refine EW.on ?_
  refine EW.seq ?_
  refine EW.region ?_
  first | refine WL.move rfl rfl rfl ?_
  refine WL.call [vb] enter26 rfl rfl rfl (newR_any vb c _ (hb.below e1) hl) ?_
  rintro _ w2 ⟨u, q, rfl, rd2, hq2, be2⟩
  have bx2 := bx1.on be2
  have l2 := be2.size
  refine ⟨_, rfl, ?_⟩
  first | refine WL.assign rfl rfl rfl ?_
  refine WL.done ?_
  refine EW.on ?_
  refine EW.seq ?_
  refine EW.region ?_
  first | refine WL.move rfl rfl rfl ?_
  refine WL.call [.pointer (some ⟨q, 0, none⟩)] enter31 rfl rfl rfl (rstart_any q u c (0, 0) _ rd2 hl) ?_
  rintro _ w3 ⟨rfl, rd3, f3⟩
  have l3 := f3.size
  have hq3 := rd3.bl.lt
  have bx3 := bx2.fx f3 (fun e => by omega)
  have sb3 := (f3.low hq2 l2).mono l1
  rw [hE, hK]
  refine ⟨_, rfl, ?_⟩
  first | refine WL.move rfl rfl rfl ?_
  first | refine WL.extract rfl rfl rfl (ext_2 _ _ _).1 ?_
  first | refine WL.extract rfl rfl rfl (ext_2 _ _ _).2 ?_
  first | refine WL.assign rfl rfl rfl ?_
  first | refine WL.assign rfl rfl rfl ?_
  refine WL.done ?_
  refine EW.on ?_
  refine EW.seq ?_
  refine EW.seq ?_
  refine EW.region ?_
  first | refine WL.move rfl rfl rfl ?_
  first | refine WL.bin rfl rfl rfl rfl (int_ne_f rfl _ _ _) ?_ | refine WL.bin rfl rfl rfl rfl (int_ne_t ‹_› _ _ _) ?_ | refine WL.bin rfl rfl rfl rfl (int_ne_f ‹_› _ _ _) ?_ | refine WL.bin rfl rfl rfl rfl (int_ne_t (by decide) _ _ _) ?_ | refine WL.bin rfl rfl rfl rfl (int_ne_d _ _ _ _ _) ?_
  refine WL.done ?_
  refine EW.on ?_
  refine EW.cond_f rfl ?_
  refine EW.skip ?_
  refine EW.on ?_
  refine EW.seq ?_
  refine EW.seq ?_
  refine EW.region ?_
  first | refine WL.move rfl rfl rfl ?_
  first | refine WL.bin rfl rfl rfl rfl (int_ne_f rfl _ _ _) ?_ | refine WL.bin rfl rfl rfl rfl (int_ne_t ‹_› _ _ _) ?_ | refine WL.bin rfl rfl rfl rfl (int_ne_f ‹_› _ _ _) ?_ | refine WL.bin rfl rfl rfl rfl (int_ne_t (by decide) _ _ _) ?_ | refine WL.bin rfl rfl rfl rfl (int_ne_d _ _ _ _ _) ?_
  refine WL.done ?_
  refine EW.on ?_
  refine EW.cond_f rfl ?_
  refine EW.skip ?_
  refine EW.on ?_
  refine EW.seq ?_
  refine EW.region ?_
  obtain ⟨w4, q5, r4, by4, e4, hq5⟩ := new_any (t := 42) (cs := Of.z.cs) zv42 w3
  have l4 := e4.size
  have hq5l := by4.lt
  have bx4 := bx3.on e4
  have rd4 := rd3.below e4
  have hof := rd3.off (g := q5) (by omega)
  have sb4 := e4.mono (show w1.heap.size ≤ w3.heap.size by omega)
  refine WL.new rfl rfl r4 ?_
  refine WL.done ?_
  refine EW.on ?_
  refine EW.seq ?_
  refine EW.region ?_
  first | refine WL.move rfl rfl rfl ?_
  refine WL.call [.pointer (some ⟨q, 0, none⟩)] enter32 rfl rfl rfl (rkey_any q u c (s2R c (0, 0)) _ rd4 hl) ?_
  rintro _ w5 ⟨rfl, rd5, f5⟩
  have l5 := f5.size
  have bx5 := bx4.fx f5 (fun e => by omega)
  have by5 := by4.fx f5 (fun e => by omega)
  have sb5 := f5.low (B := w1.heap.size) hq2 (by omega)
  refine ⟨_, rfl, ?_⟩
  refine WL.field rfl rfl rfl (f42_0 q5 0 _) ?_
  obtain ⟨w6, st6, by6, f6⟩ := stOfI by5 Of.z_ok (keyR c (s2R c (0, 0))) (keyR_len _ _)
  refine WL.store rfl rfl rfl st6 ?_
  have l6 := f6.size
  have rd6 := rd5.fx f6 (by omega) hof
  have bx6 := bx5.fx f6 (fun e => by omega)
  have sb6 := f6.low (B := w1.heap.size) (by omega) (by omega)
  refine WL.done ?_
  refine EW.on ?_
  refine EW.seq ?_
  refine EW.region ?_
  first | refine WL.move rfl rfl rfl ?_
  refine WL.call [.pointer (some ⟨q, 0, none⟩)] enter33 rfl rfl rfl (rn4_any q u c (rS c 32 (s2R c (0, 0))) _ rd6 hl) ?_
  rintro _ w7 ⟨rfl, rd7, f7⟩
  have l7 := f7.size
  have bx7 := bx6.fx f7 (fun e => by omega)
  have by7 := by6.fx f7 (fun e => by omega)
  have sb7 := f7.low (B := w1.heap.size) hq2 (by omega)
  refine ⟨_, rfl, ?_⟩
  refine WL.field rfl rfl rfl (f42_1 q5 0 _) ?_
  obtain ⟨w8, st8, by8, f8⟩ := stOfP by7 ⟨keyR_len _ _, Of.z_ok.p, rfl⟩ (numB (rB c 4 (rS c 32 (s2R c (0, 0)))))
  refine WL.store rfl rfl rfl st8 ?_
  have l8 := f8.size
  have rd8 := rd7.fx f8 (by omega) hof
  have bx8 := bx7.fx f8 (fun e => by omega)
  have sb8 := f8.low (B := w1.heap.size) (by omega) (by omega)
  refine WL.done ?_
  refine EW.on ?_
  refine EW.seq ?_
  refine EW.region ?_
  first | refine WL.move rfl rfl rfl ?_
  refine WL.call [.pointer (some ⟨q, 0, none⟩)] enter32 rfl rfl rfl (rkey_any q u c (rS c 4 (rS c 32 (s2R c (0, 0)))) _ rd8 hl) ?_
  rintro _ w9 ⟨rfl, rd9, f9⟩
  have l9 := f9.size
  have bx9 := bx8.fx f9 (fun e => by omega)
  have by9 := by8.fx f9 (fun e => by omega)
  have sb9 := f9.low (B := w1.heap.size) hq2 (by omega)
  refine ⟨_, rfl, ?_⟩
  refine WL.field rfl rfl rfl (f42_2 q5 0 _) ?_
  obtain ⟨w10, st10, by10, f10⟩ := stOfK by9 ⟨keyR_len _ _, numB_32 _ (rB_len _ _ _), rfl⟩ (keyR c (rS c 4 (rS c 32 (s2R c (0, 0))))) (keyR_len _ _)
  refine WL.store rfl rfl rfl st10 ?_
  have l10 := f10.size
  have rd10 := rd9.fx f10 (by omega) hof
  have bx10 := bx9.fx f10 (fun e => by omega)
  have sb10 := f10.low (B := w1.heap.size) (by omega) (by omega)
  refine WL.done ?_
  refine EW.on ?_
  refine EW.seq ?_
  refine EW.region ?_
  first | refine WL.move rfl rfl rfl ?_
  refine WL.call [.pointer (some ⟨q, 0, none⟩)] enter29 rfl rfl rfl (end_any q u c (rSs c [32, 4, 32] (s2R c (0, 0))) _ rd10 hl) ?_
  rintro _ w11 ⟨rfl, rd11, f11⟩
  have l11 := f11.size
  have bx11 := bx10.fx f11 (fun e => by omega)
  have by11 := by10.fx f11 (fun e => by omega)
  have sb11 := f11.low (B := w1.heap.size) hq2 (by omega)
  refine ⟨_, rfl, ?_⟩
  refine WL.done ?_
  refine EW.on ?_
  refine EW.seq ?_
  refine EW.seq ?_
  refine EW.region ?_
  first | refine WL.move rfl rfl rfl ?_
  refine WL.call [.pointer (some ⟨q, 0, none⟩)] enter30 rfl rfl rfl (fault_any q u c (ofS c (s2R c (0, 0))) _ rd11) ?_
  rintro _ w12 ⟨fa, rfl, be12⟩
  have l12 := be12.size
  have bx12 := bx11.on be12
  have by12 := by11.on be12
  have sb12 := be12.mono (show w1.heap.size ≤ w11.heap.size by omega)
  rw [hf]
  refine ⟨_, rfl, ?_⟩
  first | refine WL.move rfl rfl rfl ?_
  first | refine WL.extract rfl rfl rfl (ext_2 _ _ _).1 ?_
  first | refine WL.extract rfl rfl rfl (ext_2 _ _ _).2 ?_
  first | refine WL.assign rfl rfl rfl ?_
  first | refine WL.assign rfl rfl rfl ?_
  refine WL.done ?_
  refine EW.on ?_
  refine EW.seq ?_
  refine EW.region ?_
  first | refine WL.move rfl rfl rfl ?_
  first | refine WL.bin rfl rfl rfl rfl (int_ne_f rfl _ _ _) ?_ | refine WL.bin rfl rfl rfl rfl (int_ne_t ‹_› _ _ _) ?_ | refine WL.bin rfl rfl rfl rfl (int_ne_f ‹_› _ _ _) ?_ | refine WL.bin rfl rfl rfl rfl (int_ne_t (by decide) _ _ _) ?_ | refine WL.bin rfl rfl rfl rfl (int_ne_d _ _ _ _ _) ?_
  refine WL.done ?_
  refine EW.on ?_
  refine EW.cond_f rfl ?_
  refine EW.skip ?_
  refine EW.on ?_
  refine EW.seq ?_
  refine EW.seq ?_
  refine EW.region ?_
  refine WL.load rfl rfl rfl (ldOf (o := ofR c (s2R c (0, 0))) by12 (ofR_ok _ _)) ?_
  refine WL.call [(ofR c (s2R c (0, 0))).v] enter34 rfl rfl rfl (right_any _ (ofR_ok _ _) _) ?_
  rintro _ w13 ⟨rfl, be13⟩
  rw [hR]
  have l13 := be13.size
  have bx13 := bx12.on be13
  have by13 := by12.on be13
  have sb13 := be13.mono (show w1.heap.size ≤ w12.heap.size by omega)
  refine ⟨_, rfl, ?_⟩
  refine WL.un rfl rfl rfl (not_t _ _) ?_
  refine WL.done ?_
  refine EW.on ?_
  refine EW.cond_t rfl ?_
  refine EW.seq ?_
  refine EW.region ?_
  refine WL.buildN [] rfl rfl rfl (bd42 _) ?_
  obtain ⟨we, ste, bxe, fe⟩ := stOf bx13 Of.z_ok Of.z Of.z_ok
  refine WL.store rfl rfl rfl ste ?_
  first | refine WL.assign rfl rfl rfl ?_
  refine WL.done ?_
  refine EW.on ?_
  refine EW.ret ?_
  refine pr_then ?_
  exact EW.returnsCT Try.results12 rfl rfl bxe Try.underlying42 rfl (i42 Of.z_ok) ⟨rfl, e1.trans ((be2.mono l1).trans (sb3.trans ((sb4.mono l1).trans ((sb5.mono l1).trans ((sb6.mono l1).trans ((sb7.mono l1).trans ((sb8.mono l1).trans ((sb9.mono l1).trans ((sb10.mono l1).trans ((sb11.mono l1).trans ((sb12.mono l1).trans ((sb13.mono l1).trans (fe.low (by omega) (by omega))))))))))))))⟩
set_option maxRecDepth 100000 in
set_option maxHeartbeats 4000000 in
theorem rof_ok (vb : Value) (c : List UInt8) (w : World) (hb : Has w vb c) (hl : c.length ≤ 140737488355328) (hE : stE c (0, 0) = 0) (hK : stK c (0, 0) = 3) (hf : (ofS c (s2R c (0, 0))).2 = 0) (hR : decide (rightO (ofR c (s2R c (0, 0)))) = true) : Calls Try.prog 12 #[vb] w fun e w' => e = .returned (.tuple #[(ofR c (s2R c (0, 0))).v, .int .i64 (0)]) ∧ Below w.heap.size w w' := by
  obtain ⟨w1, q1, r1, bx1, e1, hq1⟩ := new_any (t := 42) (cs := Of.z.cs) zv42 w
  have l1 := e1.size
  have hq1' := bx1.lt
  refine calls_of_args [vb] Try.func12 rfl 49 Try.ntmps12 (by show 1 ≤ 49; decide) ?_
  refine EW.seq ?_
  refine EW.region ?_
  refine WL.new rfl rfl r1 ?_
  first | refine WL.assign rfl rfl rfl ?_
  refine WL.done ?_
  refine EW.on ?_
  refine EW.seq ?_
  refine EW.region ?_
  first | refine WL.move rfl rfl rfl ?_
  refine WL.call [vb] enter26 rfl rfl rfl (newR_any vb c _ (hb.below e1) hl) ?_
  rintro _ w2 ⟨u, q, rfl, rd2, hq2, be2⟩
  have bx2 := bx1.on be2
  have l2 := be2.size
  refine ⟨_, rfl, ?_⟩
  first | refine WL.assign rfl rfl rfl ?_
  refine WL.done ?_
  refine EW.on ?_
  refine EW.seq ?_
  refine EW.region ?_
  first | refine WL.move rfl rfl rfl ?_
  refine WL.call [.pointer (some ⟨q, 0, none⟩)] enter31 rfl rfl rfl (rstart_any q u c (0, 0) _ rd2 hl) ?_
  rintro _ w3 ⟨rfl, rd3, f3⟩
  have l3 := f3.size
  have hq3 := rd3.bl.lt
  have bx3 := bx2.fx f3 (fun e => by omega)
  have sb3 := (f3.low hq2 l2).mono l1
  rw [hE, hK]
  refine ⟨_, rfl, ?_⟩
  first | refine WL.move rfl rfl rfl ?_
  first | refine WL.extract rfl rfl rfl (ext_2 _ _ _).1 ?_
  first | refine WL.extract rfl rfl rfl (ext_2 _ _ _).2 ?_
  first | refine WL.assign rfl rfl rfl ?_
  first | refine WL.assign rfl rfl rfl ?_
  refine WL.done ?_
  refine EW.on ?_
  refine EW.seq ?_
  refine EW.seq ?_
  refine EW.region ?_
  first | refine WL.move rfl rfl rfl ?_
  first | refine WL.bin rfl rfl rfl rfl (int_ne_f rfl _ _ _) ?_ | refine WL.bin rfl rfl rfl rfl (int_ne_t ‹_› _ _ _) ?_ | refine WL.bin rfl rfl rfl rfl (int_ne_f ‹_› _ _ _) ?_ | refine WL.bin rfl rfl rfl rfl (int_ne_t (by decide) _ _ _) ?_ | refine WL.bin rfl rfl rfl rfl (int_ne_d _ _ _ _ _) ?_
  refine WL.done ?_
  refine EW.on ?_
  refine EW.cond_f rfl ?_
  refine EW.skip ?_
  refine EW.on ?_
  refine EW.seq ?_
  refine EW.seq ?_
  refine EW.region ?_
  first | refine WL.move rfl rfl rfl ?_
  first | refine WL.bin rfl rfl rfl rfl (int_ne_f rfl _ _ _) ?_ | refine WL.bin rfl rfl rfl rfl (int_ne_t ‹_› _ _ _) ?_ | refine WL.bin rfl rfl rfl rfl (int_ne_f ‹_› _ _ _) ?_ | refine WL.bin rfl rfl rfl rfl (int_ne_t (by decide) _ _ _) ?_ | refine WL.bin rfl rfl rfl rfl (int_ne_d _ _ _ _ _) ?_
  refine WL.done ?_
  refine EW.on ?_
  refine EW.cond_f rfl ?_
  refine EW.skip ?_
  refine EW.on ?_
  refine EW.seq ?_
  refine EW.region ?_
  obtain ⟨w4, q5, r4, by4, e4, hq5⟩ := new_any (t := 42) (cs := Of.z.cs) zv42 w3
  have l4 := e4.size
  have hq5l := by4.lt
  have bx4 := bx3.on e4
  have rd4 := rd3.below e4
  have hof := rd3.off (g := q5) (by omega)
  have sb4 := e4.mono (show w1.heap.size ≤ w3.heap.size by omega)
  refine WL.new rfl rfl r4 ?_
  refine WL.done ?_
  refine EW.on ?_
  refine EW.seq ?_
  refine EW.region ?_
  first | refine WL.move rfl rfl rfl ?_
  refine WL.call [.pointer (some ⟨q, 0, none⟩)] enter32 rfl rfl rfl (rkey_any q u c (s2R c (0, 0)) _ rd4 hl) ?_
  rintro _ w5 ⟨rfl, rd5, f5⟩
  have l5 := f5.size
  have bx5 := bx4.fx f5 (fun e => by omega)
  have by5 := by4.fx f5 (fun e => by omega)
  have sb5 := f5.low (B := w1.heap.size) hq2 (by omega)
  refine ⟨_, rfl, ?_⟩
  refine WL.field rfl rfl rfl (f42_0 q5 0 _) ?_
  obtain ⟨w6, st6, by6, f6⟩ := stOfI by5 Of.z_ok (keyR c (s2R c (0, 0))) (keyR_len _ _)
  refine WL.store rfl rfl rfl st6 ?_
  have l6 := f6.size
  have rd6 := rd5.fx f6 (by omega) hof
  have bx6 := bx5.fx f6 (fun e => by omega)
  have sb6 := f6.low (B := w1.heap.size) (by omega) (by omega)
  refine WL.done ?_
  refine EW.on ?_
  refine EW.seq ?_
  refine EW.region ?_
  first | refine WL.move rfl rfl rfl ?_
  refine WL.call [.pointer (some ⟨q, 0, none⟩)] enter33 rfl rfl rfl (rn4_any q u c (rS c 32 (s2R c (0, 0))) _ rd6 hl) ?_
  rintro _ w7 ⟨rfl, rd7, f7⟩
  have l7 := f7.size
  have bx7 := bx6.fx f7 (fun e => by omega)
  have by7 := by6.fx f7 (fun e => by omega)
  have sb7 := f7.low (B := w1.heap.size) hq2 (by omega)
  refine ⟨_, rfl, ?_⟩
  refine WL.field rfl rfl rfl (f42_1 q5 0 _) ?_
  obtain ⟨w8, st8, by8, f8⟩ := stOfP by7 ⟨keyR_len _ _, Of.z_ok.p, rfl⟩ (numB (rB c 4 (rS c 32 (s2R c (0, 0)))))
  refine WL.store rfl rfl rfl st8 ?_
  have l8 := f8.size
  have rd8 := rd7.fx f8 (by omega) hof
  have bx8 := bx7.fx f8 (fun e => by omega)
  have sb8 := f8.low (B := w1.heap.size) (by omega) (by omega)
  refine WL.done ?_
  refine EW.on ?_
  refine EW.seq ?_
  refine EW.region ?_
  first | refine WL.move rfl rfl rfl ?_
  refine WL.call [.pointer (some ⟨q, 0, none⟩)] enter32 rfl rfl rfl (rkey_any q u c (rS c 4 (rS c 32 (s2R c (0, 0)))) _ rd8 hl) ?_
  rintro _ w9 ⟨rfl, rd9, f9⟩
  have l9 := f9.size
  have bx9 := bx8.fx f9 (fun e => by omega)
  have by9 := by8.fx f9 (fun e => by omega)
  have sb9 := f9.low (B := w1.heap.size) hq2 (by omega)
  refine ⟨_, rfl, ?_⟩
  refine WL.field rfl rfl rfl (f42_2 q5 0 _) ?_
  obtain ⟨w10, st10, by10, f10⟩ := stOfK by9 ⟨keyR_len _ _, numB_32 _ (rB_len _ _ _), rfl⟩ (keyR c (rS c 4 (rS c 32 (s2R c (0, 0))))) (keyR_len _ _)
  refine WL.store rfl rfl rfl st10 ?_
  have l10 := f10.size
  have rd10 := rd9.fx f10 (by omega) hof
  have bx10 := bx9.fx f10 (fun e => by omega)
  have sb10 := f10.low (B := w1.heap.size) (by omega) (by omega)
  refine WL.done ?_
  refine EW.on ?_
  refine EW.seq ?_
  refine EW.region ?_
  first | refine WL.move rfl rfl rfl ?_
  refine WL.call [.pointer (some ⟨q, 0, none⟩)] enter29 rfl rfl rfl (end_any q u c (rSs c [32, 4, 32] (s2R c (0, 0))) _ rd10 hl) ?_
  rintro _ w11 ⟨rfl, rd11, f11⟩
  have l11 := f11.size
  have bx11 := bx10.fx f11 (fun e => by omega)
  have by11 := by10.fx f11 (fun e => by omega)
  have sb11 := f11.low (B := w1.heap.size) hq2 (by omega)
  refine ⟨_, rfl, ?_⟩
  refine WL.done ?_
  refine EW.on ?_
  refine EW.seq ?_
  refine EW.seq ?_
  refine EW.region ?_
  first | refine WL.move rfl rfl rfl ?_
  refine WL.call [.pointer (some ⟨q, 0, none⟩)] enter30 rfl rfl rfl (fault_any q u c (ofS c (s2R c (0, 0))) _ rd11) ?_
  rintro _ w12 ⟨fa, rfl, be12⟩
  have l12 := be12.size
  have bx12 := bx11.on be12
  have by12 := by11.on be12
  have sb12 := be12.mono (show w1.heap.size ≤ w11.heap.size by omega)
  rw [hf]
  refine ⟨_, rfl, ?_⟩
  first | refine WL.move rfl rfl rfl ?_
  first | refine WL.extract rfl rfl rfl (ext_2 _ _ _).1 ?_
  first | refine WL.extract rfl rfl rfl (ext_2 _ _ _).2 ?_
  first | refine WL.assign rfl rfl rfl ?_
  first | refine WL.assign rfl rfl rfl ?_
  refine WL.done ?_
  refine EW.on ?_
  refine EW.seq ?_
  refine EW.region ?_
  first | refine WL.move rfl rfl rfl ?_
  first | refine WL.bin rfl rfl rfl rfl (int_ne_f rfl _ _ _) ?_ | refine WL.bin rfl rfl rfl rfl (int_ne_t ‹_› _ _ _) ?_ | refine WL.bin rfl rfl rfl rfl (int_ne_f ‹_› _ _ _) ?_ | refine WL.bin rfl rfl rfl rfl (int_ne_t (by decide) _ _ _) ?_ | refine WL.bin rfl rfl rfl rfl (int_ne_d _ _ _ _ _) ?_
  refine WL.done ?_
  refine EW.on ?_
  refine EW.cond_f rfl ?_
  refine EW.skip ?_
  refine EW.on ?_
  refine EW.seq ?_
  refine EW.seq ?_
  refine EW.region ?_
  refine WL.load rfl rfl rfl (ldOf (o := ofR c (s2R c (0, 0))) by12 (ofR_ok _ _)) ?_
  refine WL.call [(ofR c (s2R c (0, 0))).v] enter34 rfl rfl rfl (right_any _ (ofR_ok _ _) _) ?_
  rintro _ w13 ⟨rfl, be13⟩
  rw [hR]
  have l13 := be13.size
  have bx13 := bx12.on be13
  have by13 := by12.on be13
  have sb13 := be13.mono (show w1.heap.size ≤ w12.heap.size by omega)
  refine ⟨_, rfl, ?_⟩
  refine WL.un rfl rfl rfl (not_t _ _) ?_
  refine WL.done ?_
  refine EW.on ?_
  refine EW.cond_f rfl ?_
  refine EW.skip ?_
  refine EW.on ?_
  refine EW.seq ?_
  refine EW.region ?_
  refine WL.load rfl rfl rfl (ldOf (o := ofR c (s2R c (0, 0))) by13 (ofR_ok _ _)) ?_
  obtain ⟨we, ste, bxe, fe⟩ := stOf bx13 Of.z_ok (ofR c (s2R c (0, 0))) (ofR_ok _ _)
  refine WL.store rfl rfl rfl ste ?_
  first | refine WL.assign rfl rfl rfl ?_
  refine WL.done ?_
  refine EW.on ?_
  refine EW.ret ?_
  exact EW.returnsCT Try.results12 rfl rfl bxe Try.underlying42 rfl (i42 (ofR_ok _ _)) ⟨rfl, e1.trans ((be2.mono l1).trans (sb3.trans ((sb4.mono l1).trans ((sb5.mono l1).trans ((sb6.mono l1).trans ((sb7.mono l1).trans ((sb8.mono l1).trans ((sb9.mono l1).trans ((sb10.mono l1).trans ((sb11.mono l1).trans ((sb12.mono l1).trans ((sb13.mono l1).trans (fe.low (by omega) (by omega))))))))))))))⟩
end Go.Proofs.Ytobfebpinkikdaa
