import Derived.Test.YtobfebpinkikdaaIiG
set_option linter.unusedVariables false
set_option linter.unusedSimpArgs false
namespace Go.Proofs.Ytobfebpinkikdaa
open Go.RowKit

set_option maxRecDepth 100000 in
set_option maxHeartbeats 4000000 in
theorem unr_A (vb : Value) (c : List UInt8) (w : World) (hb : Has w vb c) (hl : c.length ≤ 140737488355328) (hB : ¬ bgD c 1 2 = 0) : Calls Try.prog 40 #[vb] w fun e w' => e = .returned (.tuple #[Pk.z.v, .int .i64 (bgD c 1 2)]) ∧ Below w.heap.size w w' := by
  obtain ⟨w1, q1, r1, bp1, e1, hq1⟩ := new_any (t := 33) (cs := Pk.z.cs) zv33 w
  obtain ⟨w2, q2, r2, bq2, e2, hq2⟩ := new_any (t := 33) (cs := Pk.z.cs) zv33 w1
  have hs1 := e1.size
  have hq1l := bp1.lt
  have bp2 := bp1.on e2
  have sb2 := e1.trans (e2.mono e1.size)
  refine calls_of_args [vb] Try.func40 rfl 94 Try.ntmps40 (by show 1 ≤ 94; decide) ?_
  refine EW.seq ?_
  refine EW.region ?_
  refine WL.new rfl rfl r1 ?_
  first | refine WL.assign rfl rfl rfl ?_
  refine WL.done ?_
  refine EW.on ?_
  refine EW.seq ?_
  refine EW.region ?_
  refine WL.new rfl rfl r2 ?_
  refine WL.done ?_
  refine EW.on ?_
  refine EW.seq ?_
  refine EW.region ?_
  first | refine WL.move rfl rfl rfl ?_
  refine WL.call [vb, .int .i64 1, .int .i64 2] enter58 rfl rfl rfl (begun_any vb c 1 2 _ (hb.below sb2)) ?_
  rintro _ wz ⟨rfl, hz⟩
  rw [hz]
  clear hz
  refine ⟨_, rfl, ?_⟩
  first | refine WL.assign rfl rfl rfl ?_
  refine WL.done ?_
  refine EW.on ?_
  refine EW.seq ?_
  refine EW.seq ?_
  refine EW.region ?_
  first | refine WL.move rfl rfl rfl ?_
  first | refine WL.bin rfl rfl rfl rfl (int_ne_f rfl _ _ _) ?_ | refine WL.bin rfl rfl rfl rfl (int_ne_t ‹_› _ _ _) ?_ | refine WL.bin rfl rfl rfl rfl (int_ne_f ‹_› _ _ _) ?_ | refine WL.bin rfl rfl rfl rfl (int_ne_t (by decide) _ _ _) ?_ | refine WL.bin rfl rfl rfl rfl (int_ne_d _ _ _ _ _) ?_
  refine WL.done ?_
  refine EW.on ?_
  refine EW.cond_t rfl ?_
  refine EW.seq ?_
  refine EW.region ?_
  refine WL.load rfl rfl rfl (ldPk bq2 Pk.z_ok) ?_
  first | refine WL.move rfl rfl rfl ?_
  obtain ⟨we, se, bpe, fe⟩ := stPk bp2 Pk.z_ok Pk.z Pk.z_ok ⟨_, _, _, rfl⟩
  refine WL.store rfl rfl rfl se ?_
  have sbe := sb2.trans (fe.low (by omega) sb2.size)
  first | refine WL.assign rfl rfl rfl ?_
  refine WL.done ?_
  refine EW.on ?_
  refine EW.ret ?_
  refine pr_then ?_
  exact EW.returnsCT Try.results40 rfl rfl bpe Try.underlying33 rfl (i33 Pk.z_ok) ⟨rfl, sbe⟩
set_option maxRecDepth 100000 in
set_option maxHeartbeats 4000000 in
theorem unr_1S (vb : Value) (c : List UInt8) (w : World) (hb : Has w vb c) (hl : c.length ≤ 140737488355328) (hB : bgD c 1 2 = 0) (u : UInt8) (hu : c[1]? = some u) (hu1 : (u.toNat : Int) = 1) (h62 : (c.length : Int) < 132) : Calls Try.prog 40 #[vb] w fun e w' => e = .returned (.tuple #[Pk.z.v, .int .i64 (10)]) ∧ Below w.heap.size w w' := by
  obtain ⟨w1, q1, r1, bp1, e1, hq1⟩ := new_any (t := 33) (cs := Pk.z.cs) zv33 w
  obtain ⟨w2, q2, r2, bq2, e2, hq2⟩ := new_any (t := 33) (cs := Pk.z.cs) zv33 w1
  have hs1 := e1.size
  have hq1l := bp1.lt
  have bp2 := bp1.on e2
  have sb2 := e1.trans (e2.mono e1.size)
  obtain ⟨adu, iu, lu0⟩ := hb.item hu
  have lu : ∀ W, Below w.heap.size w W → (Instr.loadAt 5 (.pointer (some adu))).run Try.prog W = .ok (byt u) W := fun W hW => by
    obtain ⟨ad2, iu2, lu2⟩ := (hb.below hW).item hu
    have e : ad2 = adu := by
      have h1 := (iu W).symm.trans (iu2 W)
      simp only [Result.ok.injEq, Value.pointer.injEq, Option.some.injEq, and_true] at h1
      exact h1.symm
    rw [e] at lu2
    exact lu2
  refine calls_of_args [vb] Try.func40 rfl 94 Try.ntmps40 (by show 1 ≤ 94; decide) ?_
  refine EW.seq ?_
  refine EW.region ?_
  refine WL.new rfl rfl r1 ?_
  first | refine WL.assign rfl rfl rfl ?_
  refine WL.done ?_
  refine EW.on ?_
  refine EW.seq ?_
  refine EW.region ?_
  refine WL.new rfl rfl r2 ?_
  refine WL.done ?_
  refine EW.on ?_
  refine EW.seq ?_
  refine EW.region ?_
  first | refine WL.move rfl rfl rfl ?_
  refine WL.call [vb, .int .i64 1, .int .i64 2] enter58 rfl rfl rfl (begun_any vb c 1 2 _ (hb.below sb2)) ?_
  rintro _ wz ⟨rfl, hz⟩
  rw [hz]
  clear hz
  rw [hB]
  refine ⟨_, rfl, ?_⟩
  first | refine WL.assign rfl rfl rfl ?_
  refine WL.done ?_
  refine EW.on ?_
  refine EW.seq ?_
  refine EW.seq ?_
  refine EW.region ?_
  first | refine WL.move rfl rfl rfl ?_
  first | refine WL.bin rfl rfl rfl rfl (int_ne_f rfl _ _ _) ?_ | refine WL.bin rfl rfl rfl rfl (int_ne_t ‹_› _ _ _) ?_ | refine WL.bin rfl rfl rfl rfl (int_ne_f ‹_› _ _ _) ?_ | refine WL.bin rfl rfl rfl rfl (int_ne_t (by decide) _ _ _) ?_ | refine WL.bin rfl rfl rfl rfl (int_ne_d _ _ _ _ _) ?_
  refine WL.done ?_
  refine EW.on ?_
  refine EW.cond_f rfl ?_
  refine EW.skip ?_
  refine EW.on ?_
  refine EW.seq ?_
  refine EW.region ?_
  first | refine WL.assign rfl rfl rfl ?_
  refine WL.done ?_
  refine EW.on ?_
  refine EW.seq ?_
  refine EW.seq ?_
  refine EW.region ?_
  first | refine WL.move rfl rfl rfl ?_
  refine WL.index rfl rfl rfl rfl (iu _) ?_
  refine WL.load rfl rfl rfl (lu _ sb2) ?_
  refine WL.conv rfl rfl rfl (conv_53 u _) ?_
  rw [hu1]
  refine WL.bin rfl rfl rfl rfl (int_eq_t rfl _ _ _) ?_
  refine WL.done ?_
  refine EW.on ?_
  refine EW.cond_t rfl ?_
  refine EW.region ?_
  first | refine WL.assign rfl rfl rfl ?_
  refine WL.done ?_
  refine EW.on ?_
  refine EW.seq ?_
  refine EW.seq ?_
  refine EW.region ?_
  first | refine WL.move rfl rfl rfl ?_
  refine WL.len rfl rfl rfl (hb.len _ _) ?_
  first | refine WL.move rfl rfl rfl ?_
  refine WL.bin rfl rfl rfl rfl (int_add (c := 132) (by decide) _ _ _) ?_
  first | refine WL.bin rfl rfl rfl rfl (int_lt_t ‹_› _ _ _) ?_ | refine WL.bin rfl rfl rfl rfl (int_lt_f ‹_› _ _ _) ?_ | refine WL.bin rfl rfl rfl rfl (int_lt_d _ _ _ _ _) ?_
  refine WL.done ?_
  refine EW.on ?_
  refine EW.cond_t rfl ?_
  refine EW.seq ?_
  refine EW.region ?_
  refine WL.load rfl rfl rfl (ldPk bq2 Pk.z_ok) ?_
  obtain ⟨we, se, bpe, fe⟩ := stPk bp2 Pk.z_ok Pk.z Pk.z_ok ⟨_, _, _, rfl⟩
  refine WL.store rfl rfl rfl se ?_
  have sbe := sb2.trans (fe.low (by omega) sb2.size)
  first | refine WL.assign rfl rfl rfl ?_
  refine WL.done ?_
  refine EW.on ?_
  refine EW.ret ?_
  refine pr_then ?_
  exact EW.returnsCT Try.results40 rfl rfl bpe Try.underlying33 rfl (i33 Pk.z_ok) ⟨rfl, sbe⟩
set_option maxRecDepth 100000 in
set_option maxHeartbeats 4000000 in
theorem unr_1a (vb : Value) (c : List UInt8) (w : World) (hb : Has w vb c) (hl : c.length ≤ 140737488355328) (hB : bgD c 1 2 = 0) (u : UInt8) (hu : c[1]? = some u) (hu1 : (u.toNat : Int) = 1) (h62 : ¬ (c.length : Int) < 132) (hs : decide (suitD 1 (hlD c 1)) = false) : Calls Try.prog 40 #[vb] w fun e w' => e = .returned (.tuple #[Pk.z.v, .int .i64 (141)]) ∧ Below w.heap.size w w' := by
  obtain ⟨w1, q1, r1, bp1, e1, hq1⟩ := new_any (t := 33) (cs := Pk.z.cs) zv33 w
  obtain ⟨w2, q2, r2, bq2, e2, hq2⟩ := new_any (t := 33) (cs := Pk.z.cs) zv33 w1
  have hs1 := e1.size
  have hq1l := bp1.lt
  have bp2 := bp1.on e2
  have sb2 := e1.trans (e2.mono e1.size)
  obtain ⟨adu, iu, lu0⟩ := hb.item hu
  have lu : ∀ W, Below w.heap.size w W → (Instr.loadAt 5 (.pointer (some adu))).run Try.prog W = .ok (byt u) W := fun W hW => by
    obtain ⟨ad2, iu2, lu2⟩ := (hb.below hW).item hu
    have e : ad2 = adu := by
      have h1 := (iu W).symm.trans (iu2 W)
      simp only [Result.ok.injEq, Value.pointer.injEq, Option.some.injEq, and_true] at h1
      exact h1.symm
    rw [e] at lu2
    exact lu2
  have hlk : (hlD c 1).ok := ⟨cutB_len (by omega), cutB_len (by omega), numc_lt⟩
  have hdk : (hdD c 70).ok := ⟨cutB_len (by omega), numc_lt, cutB_len (by omega), numc_lt, numc_lt⟩
  have hnl : numB (cutB c (70 + 60) 2) < 65536 := numB_lt _ (by unfold cutB; rw [List.length_take]; omega)
  refine calls_of_args [vb] Try.func40 rfl 94 Try.ntmps40 (by show 1 ≤ 94; decide) ?_
  refine EW.seq ?_
  refine EW.region ?_
  refine WL.new rfl rfl r1 ?_
  first | refine WL.assign rfl rfl rfl ?_
  refine WL.done ?_
  refine EW.on ?_
  refine EW.seq ?_
  refine EW.region ?_
  refine WL.new rfl rfl r2 ?_
  refine WL.done ?_
  refine EW.on ?_
  refine EW.seq ?_
  refine EW.region ?_
  first | refine WL.move rfl rfl rfl ?_
  refine WL.call [vb, .int .i64 1, .int .i64 2] enter58 rfl rfl rfl (begun_any vb c 1 2 _ (hb.below sb2)) ?_
  rintro _ wz ⟨rfl, hz⟩
  rw [hz]
  clear hz
  rw [hB]
  refine ⟨_, rfl, ?_⟩
  first | refine WL.assign rfl rfl rfl ?_
  refine WL.done ?_
  refine EW.on ?_
  refine EW.seq ?_
  refine EW.seq ?_
  refine EW.region ?_
  first | refine WL.move rfl rfl rfl ?_
  first | refine WL.bin rfl rfl rfl rfl (int_ne_f rfl _ _ _) ?_ | refine WL.bin rfl rfl rfl rfl (int_ne_t ‹_› _ _ _) ?_ | refine WL.bin rfl rfl rfl rfl (int_ne_f ‹_› _ _ _) ?_ | refine WL.bin rfl rfl rfl rfl (int_ne_t (by decide) _ _ _) ?_ | refine WL.bin rfl rfl rfl rfl (int_ne_d _ _ _ _ _) ?_
  refine WL.done ?_
  refine EW.on ?_
  refine EW.cond_f rfl ?_
  refine EW.skip ?_
  refine EW.on ?_
  refine EW.seq ?_
  refine EW.region ?_
  first | refine WL.assign rfl rfl rfl ?_
  refine WL.done ?_
  refine EW.on ?_
  refine EW.seq ?_
  refine EW.seq ?_
  refine EW.region ?_
  first | refine WL.move rfl rfl rfl ?_
  refine WL.index rfl rfl rfl rfl (iu _) ?_
  refine WL.load rfl rfl rfl (lu _ sb2) ?_
  refine WL.conv rfl rfl rfl (conv_53 u _) ?_
  rw [hu1]
  refine WL.bin rfl rfl rfl rfl (int_eq_t rfl _ _ _) ?_
  refine WL.done ?_
  refine EW.on ?_
  refine EW.cond_t rfl ?_
  refine EW.region ?_
  first | refine WL.assign rfl rfl rfl ?_
  refine WL.done ?_
  refine EW.on ?_
  refine EW.seq ?_
  refine EW.seq ?_
  refine EW.region ?_
  first | refine WL.move rfl rfl rfl ?_
  refine WL.len rfl rfl rfl (hb.len _ _) ?_
  first | refine WL.move rfl rfl rfl ?_
  refine WL.bin rfl rfl rfl rfl (int_add (c := 132) (by decide) _ _ _) ?_
  first | refine WL.bin rfl rfl rfl rfl (int_lt_t ‹_› _ _ _) ?_ | refine WL.bin rfl rfl rfl rfl (int_lt_f ‹_› _ _ _) ?_ | refine WL.bin rfl rfl rfl rfl (int_lt_d _ _ _ _ _) ?_
  refine WL.done ?_
  refine EW.on ?_
  refine EW.cond_f rfl ?_
  refine EW.skip ?_
  refine EW.on ?_
  refine EW.seq ?_
  refine EW.region ?_
  first | refine WL.move rfl rfl rfl ?_
  refine WL.index rfl rfl rfl rfl (iu _) ?_
  refine WL.load rfl rfl rfl (lu _ sb2) ?_
  refine WL.conv rfl rfl rfl (conv_53 u _) ?_
  rw [hu1]
  refine WL.field rfl rfl rfl (f33_0 q2 0 _) ?_
  obtain ⟨w4, s4, bq4, f4⟩ := stPkK bq2 1
  refine WL.store rfl rfl rfl s4 ?_
  have bp4 := bp2.fx f4 (fun e => by omega)
  have sb4 := sb2.trans (f4.low (by omega) sb2.size)
  refine WL.done ?_
  refine EW.on ?_
  refine EW.seq ?_
  refine EW.seq ?_
  refine EW.region ?_
  refine WL.field rfl rfl rfl (f33_0 q2 0 _) ?_
  refine WL.load rfl rfl rfl (ldPkK bq4) ?_
  refine WL.bin rfl rfl rfl rfl (int_eq_t rfl _ _ _) ?_
  refine WL.done ?_
  refine EW.on ?_
  refine EW.cond_t rfl ?_
  refine EW.ordB [(0, 0, 0), (2, 0, 0), (4, 0, 0), (5, 0, 0), (1, 1, 1), (3, 1, 1), (6, 1, 1), (7, 0, 0), (8, 0, 0), (9, 1, 0)] (by kernel_rfl) rfl (by kernel_rfl) ?_
  simp only [opsZ, List.getD_cons_zero, List.getD_cons_succ]
  first | refine ZE.move rfl rfl rfl rfl sz0 ?_
  first | refine ZE.move rfl rfl rfl rfl sz0 ?_
  first | refine ZE.move rfl rfl rfl rfl sz0 ?_
  refine ZE.slice2 rfl rfl rfl rfl rfl rfl sz0 (fun W => by rw [sl22]; exact hb.cutLH 66 70 (by decide) (by omega) W) ?_
  refine ZE.callV [vb, .int .i64 2] (kv (cutB c 2 32)) (fun W => Below w4.heap.size w4 W) enter59 rfl rfl rfl (fun _ h => .inr h) (fun W hW => (keyr_any vb c 2 W ((hb.below sb4).below hW) (by omega) hl).mono fun e w' ⟨h1, h2⟩ => ⟨h1, hW.trans (h2.mono hW.size)⟩) ?_
  refine ZE.callV [vb, .int .i64 34] (kv (cutB c 34 32)) (fun W => Below w4.heap.size w4 W) enter59 rfl rfl rfl (fun _ h => .inr h) (fun W hW => (keyr_any vb c 34 W ((hb.below sb4).below hW) (by omega) hl).mono fun e w' ⟨h1, h2⟩ => ⟨h1, hW.trans (h2.mono hW.size)⟩) ?_
  refine ZE.callV [cutV vb 66 70] (u32v (numB (cutB c 66 4))) (fun W => Below w4.heap.size w4 W) enter60 rfl rfl rfl (fun _ h => .inr h) (fun W hW => (value_any _ (cutB c 66 4) W (((hb.below sb4).below hW).cut 66 70 (by decide) (by omega)) (by rw [cutB_len (by omega)]; exact Nat.le_refl _)).mono fun e w' ⟨h1, h2⟩ => ⟨h1, by rw [h2]; exact hW⟩) ?_
  refine ZE.buildN [(0, kv (cutB c 2 32)), (1, kv (cutB c 34 32)), (2, u32v (numB (cutB c 66 4)))] rfl rfl rfl rfl sz0 (fun W => bdHl (cutB_len (by omega)) (cutB_len (by omega)) W) ?_
  refine ZE.field rfl rfl rfl rfl sz0 (fun W => f33_1 q2 0 W) ?_
  refine ZE.store (fun W => Blk W q2 (Pk.cs ⟨1, hlD c 1, Hd.z, .slice none 0 0⟩) 33 ∧ Blk W q1 Pk.z.cs 33 ∧ Below w.heap.size w W) rfl rfl rfl (fun _ _ => .inl rfl) (fun W hW => by
    obtain ⟨w', a1, a2, a3⟩ := stPkL (bq4.on hW) ⟨Hl.z_ok, Hd.z_ok⟩ ⟨cutB c 2 32, cutB c 34 32, numB (cutB c 66 4)⟩ ⟨cutB_len (by omega), cutB_len (by omega), numc_lt⟩
    exact ⟨w', a1, a2, (bp4.on hW).fx a3 (fun e => by omega), (sb4.trans (hW.mono sb4.size)).trans (a3.low (by omega) (by have := hW.size; have := sb4.size; omega))⟩) ?_
  rintro w5 ⟨bq5, bp5, sb5⟩
  refine EW.on ?_
  refine EW.seq ?_
  refine EW.region ?_
  first | refine WL.move rfl rfl rfl ?_
  first | refine WL.move rfl rfl rfl ?_
  refine WL.call [vb, .int .i64 70] enter61 rfl rfl rfl (headr_any vb c 70 _ (hb.below sb5) (by omega) hl) ?_
  rintro _ wh ⟨rfl, beh⟩
  have bqh := bq5.on beh
  have bph := bp5.on beh
  have sbh := sb5.trans (beh.mono sb5.size)
  refine ⟨_, rfl, ?_⟩
  refine WL.field rfl rfl rfl (f33_2 q2 0 _) ?_
  obtain ⟨w6, s6, bq6, f6⟩ := stPkH bqh (p := ⟨1, hlD c 1, Hd.z, .slice none 0 0⟩) ⟨hlk, Hd.z_ok⟩ (hdD c 70) hdk
  refine WL.store rfl rfl rfl s6 ?_
  have bp6 := bph.fx f6 (fun e => by omega)
  have sb6 := sbh.trans (f6.low (by omega) sbh.size)
  refine WL.done ?_
  refine EW.on ?_
  refine EW.seq ?_
  refine EW.region ?_
  first | refine WL.move rfl rfl rfl ?_
  first | refine WL.move rfl rfl rfl ?_
  refine WL.bin rfl rfl rfl rfl (int_add (c := ((70 + 60 : Nat) : Int)) (by decide) _ _ _) ?_
  first | refine WL.move rfl rfl rfl ?_
  refine WL.bin rfl rfl rfl rfl (int_add (c := ((70 + 62 : Nat) : Int)) (by decide) _ _ _) ?_
  refine WL.slice2 rfl rfl rfl rfl rfl (by rw [sl22]; exact hb.cutLH (70 + 60) (70 + 62) (by decide) (by omega) _) ?_
  refine WL.call [cutV vb (70 + 60) (70 + 62)] enter60 rfl rfl rfl (value_any _ (cutB c (70 + 60) 2) _ ((hb.below sb6).cut (70 + 60) (70 + 62) (by decide) (by omega)) (by rw [cutB_len (by omega)]; decide)) ?_
  rintro _ wz ⟨rfl, hz⟩
  rw [hz]
  clear hz
  refine ⟨_, rfl, ?_⟩
  refine WL.conv rfl rfl rfl (conv_u3 (numB_32 _ (by unfold cutB; rw [List.length_take]; omega)) _) ?_
  first | refine WL.assign rfl rfl rfl ?_
  refine WL.done ?_
  refine EW.on ?_
  refine EW.seq ?_
  refine EW.block ?_
  refine EW.seq ?_
  refine EW.region ?_
  refine WL.field rfl rfl rfl (f33_0 q2 0 _) ?_
  refine WL.load rfl rfl rfl (ldPkK bq6) ?_
  refine WL.field rfl rfl rfl (f33_1 q2 0 _) ?_
  refine WL.load rfl rfl rfl (ldPkL bq6 ⟨hlk, hdk⟩) ?_
  refine WL.call [.int .i64 1, (hlD c 1).v] enter57 rfl rfl rfl (hellos_any 1 _ hlk _) ?_
  rintro _ w7 ⟨rfl, be7⟩
  rw [hs]
  have bq7 := bq6.on be7
  have bp7 := bp6.on be7
  have sb7 := sb6.trans (be7.mono sb6.size)
  refine ⟨_, rfl, ?_⟩
  refine WL.un rfl rfl rfl (not_t _ _) ?_
  first | refine WL.assign rfl rfl rfl ?_
  refine WL.done ?_
  refine EW.on ?_
  refine EW.cond_t rfl ?_
  refine EW.region ?_
  first | refine WL.assign rfl rfl rfl ?_
  refine WL.done ?_
  refine pn_block ?_
  refine EW.on ?_
  refine EW.seq ?_
  refine EW.seq ?_
  refine EW.region ?_
  first | refine WL.move rfl rfl rfl ?_
  first | refine WL.bin rfl rfl rfl rfl (int_ne_f rfl _ _ _) ?_ | refine WL.bin rfl rfl rfl rfl (int_ne_t ‹_› _ _ _) ?_ | refine WL.bin rfl rfl rfl rfl (int_ne_f ‹_› _ _ _) ?_ | refine WL.bin rfl rfl rfl rfl (int_ne_t (by decide) _ _ _) ?_ | refine WL.bin rfl rfl rfl rfl (int_ne_d _ _ _ _ _) ?_
  refine WL.done ?_
  refine EW.on ?_
  refine EW.cond_t rfl ?_
  refine EW.seq ?_
  refine EW.region ?_
  refine WL.buildN [] rfl rfl rfl (bd33 _) ?_
  first | refine WL.move rfl rfl rfl ?_
  obtain ⟨we, se, bpe, fe⟩ := stPk bp7 Pk.z_ok Pk.z Pk.z_ok ⟨_, _, _, rfl⟩
  refine WL.store rfl rfl rfl se ?_
  have sbe := sb7.trans (fe.low (by omega) sb7.size)
  first | refine WL.assign rfl rfl rfl ?_
  refine WL.done ?_
  refine EW.on ?_
  refine EW.ret ?_
  refine pr_then ?_
  exact EW.returnsCT Try.results40 rfl rfl bpe Try.underlying33 rfl (i33 Pk.z_ok) ⟨rfl, sbe⟩
set_option maxRecDepth 100000 in
set_option maxHeartbeats 4000000 in
theorem unr_1b (vb : Value) (c : List UInt8) (w : World) (hb : Has w vb c) (hl : c.length ≤ 140737488355328) (hB : bgD c 1 2 = 0) (u : UInt8) (hu : c[1]? = some u) (hu1 : (u.toNat : Int) = 1) (h62 : ¬ (c.length : Int) < 132) (hs : decide (suitD 1 (hlD c 1)) = true) (hn : (numB (cutB c (70 + 60) 2) : Int) < 32) : Calls Try.prog 40 #[vb] w fun e w' => e = .returned (.tuple #[Pk.z.v, .int .i64 (10)]) ∧ Below w.heap.size w w' := by
  obtain ⟨w1, q1, r1, bp1, e1, hq1⟩ := new_any (t := 33) (cs := Pk.z.cs) zv33 w
  obtain ⟨w2, q2, r2, bq2, e2, hq2⟩ := new_any (t := 33) (cs := Pk.z.cs) zv33 w1
  have hs1 := e1.size
  have hq1l := bp1.lt
  have bp2 := bp1.on e2
  have sb2 := e1.trans (e2.mono e1.size)
  obtain ⟨adu, iu, lu0⟩ := hb.item hu
  have lu : ∀ W, Below w.heap.size w W → (Instr.loadAt 5 (.pointer (some adu))).run Try.prog W = .ok (byt u) W := fun W hW => by
    obtain ⟨ad2, iu2, lu2⟩ := (hb.below hW).item hu
    have e : ad2 = adu := by
      have h1 := (iu W).symm.trans (iu2 W)
      simp only [Result.ok.injEq, Value.pointer.injEq, Option.some.injEq, and_true] at h1
      exact h1.symm
    rw [e] at lu2
    exact lu2
  have hlk : (hlD c 1).ok := ⟨cutB_len (by omega), cutB_len (by omega), numc_lt⟩
  have hdk : (hdD c 70).ok := ⟨cutB_len (by omega), numc_lt, cutB_len (by omega), numc_lt, numc_lt⟩
  have hnl : numB (cutB c (70 + 60) 2) < 65536 := numB_lt _ (by unfold cutB; rw [List.length_take]; omega)
  refine calls_of_args [vb] Try.func40 rfl 94 Try.ntmps40 (by show 1 ≤ 94; decide) ?_
  refine EW.seq ?_
  refine EW.region ?_
  refine WL.new rfl rfl r1 ?_
  first | refine WL.assign rfl rfl rfl ?_
  refine WL.done ?_
  refine EW.on ?_
  refine EW.seq ?_
  refine EW.region ?_
  refine WL.new rfl rfl r2 ?_
  refine WL.done ?_
  refine EW.on ?_
  refine EW.seq ?_
  refine EW.region ?_
  first | refine WL.move rfl rfl rfl ?_
  refine WL.call [vb, .int .i64 1, .int .i64 2] enter58 rfl rfl rfl (begun_any vb c 1 2 _ (hb.below sb2)) ?_
  rintro _ wz ⟨rfl, hz⟩
  rw [hz]
  clear hz
  rw [hB]
  refine ⟨_, rfl, ?_⟩
  first | refine WL.assign rfl rfl rfl ?_
  refine WL.done ?_
  refine EW.on ?_
  refine EW.seq ?_
  refine EW.seq ?_
  refine EW.region ?_
  first | refine WL.move rfl rfl rfl ?_
  first | refine WL.bin rfl rfl rfl rfl (int_ne_f rfl _ _ _) ?_ | refine WL.bin rfl rfl rfl rfl (int_ne_t ‹_› _ _ _) ?_ | refine WL.bin rfl rfl rfl rfl (int_ne_f ‹_› _ _ _) ?_ | refine WL.bin rfl rfl rfl rfl (int_ne_t (by decide) _ _ _) ?_ | refine WL.bin rfl rfl rfl rfl (int_ne_d _ _ _ _ _) ?_
  refine WL.done ?_
  refine EW.on ?_
  refine EW.cond_f rfl ?_
  refine EW.skip ?_
  refine EW.on ?_
  refine EW.seq ?_
  refine EW.region ?_
  first | refine WL.assign rfl rfl rfl ?_
  refine WL.done ?_
  refine EW.on ?_
  refine EW.seq ?_
  refine EW.seq ?_
  refine EW.region ?_
  first | refine WL.move rfl rfl rfl ?_
  refine WL.index rfl rfl rfl rfl (iu _) ?_
  refine WL.load rfl rfl rfl (lu _ sb2) ?_
  refine WL.conv rfl rfl rfl (conv_53 u _) ?_
  rw [hu1]
  refine WL.bin rfl rfl rfl rfl (int_eq_t rfl _ _ _) ?_
  refine WL.done ?_
  refine EW.on ?_
  refine EW.cond_t rfl ?_
  refine EW.region ?_
  first | refine WL.assign rfl rfl rfl ?_
  refine WL.done ?_
  refine EW.on ?_
  refine EW.seq ?_
  refine EW.seq ?_
  refine EW.region ?_
  first | refine WL.move rfl rfl rfl ?_
  refine WL.len rfl rfl rfl (hb.len _ _) ?_
  first | refine WL.move rfl rfl rfl ?_
  refine WL.bin rfl rfl rfl rfl (int_add (c := 132) (by decide) _ _ _) ?_
  first | refine WL.bin rfl rfl rfl rfl (int_lt_t ‹_› _ _ _) ?_ | refine WL.bin rfl rfl rfl rfl (int_lt_f ‹_› _ _ _) ?_ | refine WL.bin rfl rfl rfl rfl (int_lt_d _ _ _ _ _) ?_
  refine WL.done ?_
  refine EW.on ?_
  refine EW.cond_f rfl ?_
  refine EW.skip ?_
  refine EW.on ?_
  refine EW.seq ?_
  refine EW.region ?_
  first | refine WL.move rfl rfl rfl ?_
  refine WL.index rfl rfl rfl rfl (iu _) ?_
  refine WL.load rfl rfl rfl (lu _ sb2) ?_
  refine WL.conv rfl rfl rfl (conv_53 u _) ?_
  rw [hu1]
  refine WL.field rfl rfl rfl (f33_0 q2 0 _) ?_
  obtain ⟨w4, s4, bq4, f4⟩ := stPkK bq2 1
  refine WL.store rfl rfl rfl s4 ?_
  have bp4 := bp2.fx f4 (fun e => by omega)
  have sb4 := sb2.trans (f4.low (by omega) sb2.size)
  refine WL.done ?_
  refine EW.on ?_
  refine EW.seq ?_
  refine EW.seq ?_
  refine EW.region ?_
  refine WL.field rfl rfl rfl (f33_0 q2 0 _) ?_
  refine WL.load rfl rfl rfl (ldPkK bq4) ?_
  refine WL.bin rfl rfl rfl rfl (int_eq_t rfl _ _ _) ?_
  refine WL.done ?_
  refine EW.on ?_
  refine EW.cond_t rfl ?_
  refine EW.ordB [(0, 0, 0), (2, 0, 0), (4, 0, 0), (5, 0, 0), (1, 1, 1), (3, 1, 1), (6, 1, 1), (7, 0, 0), (8, 0, 0), (9, 1, 0)] (by kernel_rfl) rfl (by kernel_rfl) ?_
  simp only [opsZ, List.getD_cons_zero, List.getD_cons_succ]
  first | refine ZE.move rfl rfl rfl rfl sz0 ?_
  first | refine ZE.move rfl rfl rfl rfl sz0 ?_
  first | refine ZE.move rfl rfl rfl rfl sz0 ?_
  refine ZE.slice2 rfl rfl rfl rfl rfl rfl sz0 (fun W => by rw [sl22]; exact hb.cutLH 66 70 (by decide) (by omega) W) ?_
  refine ZE.callV [vb, .int .i64 2] (kv (cutB c 2 32)) (fun W => Below w4.heap.size w4 W) enter59 rfl rfl rfl (fun _ h => .inr h) (fun W hW => (keyr_any vb c 2 W ((hb.below sb4).below hW) (by omega) hl).mono fun e w' ⟨h1, h2⟩ => ⟨h1, hW.trans (h2.mono hW.size)⟩) ?_
  refine ZE.callV [vb, .int .i64 34] (kv (cutB c 34 32)) (fun W => Below w4.heap.size w4 W) enter59 rfl rfl rfl (fun _ h => .inr h) (fun W hW => (keyr_any vb c 34 W ((hb.below sb4).below hW) (by omega) hl).mono fun e w' ⟨h1, h2⟩ => ⟨h1, hW.trans (h2.mono hW.size)⟩) ?_
  refine ZE.callV [cutV vb 66 70] (u32v (numB (cutB c 66 4))) (fun W => Below w4.heap.size w4 W) enter60 rfl rfl rfl (fun _ h => .inr h) (fun W hW => (value_any _ (cutB c 66 4) W (((hb.below sb4).below hW).cut 66 70 (by decide) (by omega)) (by rw [cutB_len (by omega)]; exact Nat.le_refl _)).mono fun e w' ⟨h1, h2⟩ => ⟨h1, by rw [h2]; exact hW⟩) ?_
  refine ZE.buildN [(0, kv (cutB c 2 32)), (1, kv (cutB c 34 32)), (2, u32v (numB (cutB c 66 4)))] rfl rfl rfl rfl sz0 (fun W => bdHl (cutB_len (by omega)) (cutB_len (by omega)) W) ?_
  refine ZE.field rfl rfl rfl rfl sz0 (fun W => f33_1 q2 0 W) ?_
  refine ZE.store (fun W => Blk W q2 (Pk.cs ⟨1, hlD c 1, Hd.z, .slice none 0 0⟩) 33 ∧ Blk W q1 Pk.z.cs 33 ∧ Below w.heap.size w W) rfl rfl rfl (fun _ _ => .inl rfl) (fun W hW => by
    obtain ⟨w', a1, a2, a3⟩ := stPkL (bq4.on hW) ⟨Hl.z_ok, Hd.z_ok⟩ ⟨cutB c 2 32, cutB c 34 32, numB (cutB c 66 4)⟩ ⟨cutB_len (by omega), cutB_len (by omega), numc_lt⟩
    exact ⟨w', a1, a2, (bp4.on hW).fx a3 (fun e => by omega), (sb4.trans (hW.mono sb4.size)).trans (a3.low (by omega) (by have := hW.size; have := sb4.size; omega))⟩) ?_
  rintro w5 ⟨bq5, bp5, sb5⟩
  refine EW.on ?_
  refine EW.seq ?_
  refine EW.region ?_
  first | refine WL.move rfl rfl rfl ?_
  first | refine WL.move rfl rfl rfl ?_
  refine WL.call [vb, .int .i64 70] enter61 rfl rfl rfl (headr_any vb c 70 _ (hb.below sb5) (by omega) hl) ?_
  rintro _ wh ⟨rfl, beh⟩
  have bqh := bq5.on beh
  have bph := bp5.on beh
  have sbh := sb5.trans (beh.mono sb5.size)
  refine ⟨_, rfl, ?_⟩
  refine WL.field rfl rfl rfl (f33_2 q2 0 _) ?_
  obtain ⟨w6, s6, bq6, f6⟩ := stPkH bqh (p := ⟨1, hlD c 1, Hd.z, .slice none 0 0⟩) ⟨hlk, Hd.z_ok⟩ (hdD c 70) hdk
  refine WL.store rfl rfl rfl s6 ?_
  have bp6 := bph.fx f6 (fun e => by omega)
  have sb6 := sbh.trans (f6.low (by omega) sbh.size)
  refine WL.done ?_
  refine EW.on ?_
  refine EW.seq ?_
  refine EW.region ?_
  first | refine WL.move rfl rfl rfl ?_
  first | refine WL.move rfl rfl rfl ?_
  refine WL.bin rfl rfl rfl rfl (int_add (c := ((70 + 60 : Nat) : Int)) (by decide) _ _ _) ?_
  first | refine WL.move rfl rfl rfl ?_
  refine WL.bin rfl rfl rfl rfl (int_add (c := ((70 + 62 : Nat) : Int)) (by decide) _ _ _) ?_
  refine WL.slice2 rfl rfl rfl rfl rfl (by rw [sl22]; exact hb.cutLH (70 + 60) (70 + 62) (by decide) (by omega) _) ?_
  refine WL.call [cutV vb (70 + 60) (70 + 62)] enter60 rfl rfl rfl (value_any _ (cutB c (70 + 60) 2) _ ((hb.below sb6).cut (70 + 60) (70 + 62) (by decide) (by omega)) (by rw [cutB_len (by omega)]; decide)) ?_
  rintro _ wz ⟨rfl, hz⟩
  rw [hz]
  clear hz
  refine ⟨_, rfl, ?_⟩
  refine WL.conv rfl rfl rfl (conv_u3 (numB_32 _ (by unfold cutB; rw [List.length_take]; omega)) _) ?_
  first | refine WL.assign rfl rfl rfl ?_
  refine WL.done ?_
  refine EW.on ?_
  refine EW.seq ?_
  refine EW.block ?_
  refine EW.seq ?_
  refine EW.region ?_
  refine WL.field rfl rfl rfl (f33_0 q2 0 _) ?_
  refine WL.load rfl rfl rfl (ldPkK bq6) ?_
  refine WL.field rfl rfl rfl (f33_1 q2 0 _) ?_
  refine WL.load rfl rfl rfl (ldPkL bq6 ⟨hlk, hdk⟩) ?_
  refine WL.call [.int .i64 1, (hlD c 1).v] enter57 rfl rfl rfl (hellos_any 1 _ hlk _) ?_
  rintro _ w7 ⟨rfl, be7⟩
  rw [hs]
  have bq7 := bq6.on be7
  have bp7 := bp6.on be7
  have sb7 := sb6.trans (be7.mono sb6.size)
  refine ⟨_, rfl, ?_⟩
  refine WL.un rfl rfl rfl (not_t _ _) ?_
  first | refine WL.assign rfl rfl rfl ?_
  refine WL.done ?_
  refine EW.on ?_
  refine EW.cond_f rfl ?_
  refine EW.seq ?_
  refine EW.region ?_
  first | refine WL.move rfl rfl rfl ?_
  first | refine WL.bin rfl rfl rfl rfl (int_lt_t ‹_› _ _ _) ?_ | refine WL.bin rfl rfl rfl rfl (int_lt_f ‹_› _ _ _) ?_ | refine WL.bin rfl rfl rfl rfl (int_lt_d _ _ _ _ _) ?_
  first | refine WL.assign rfl rfl rfl ?_
  refine WL.done ?_
  refine EW.on ?_
  refine EW.cond_t rfl ?_
  refine EW.region ?_
  first | refine WL.assign rfl rfl rfl ?_
  refine WL.done ?_
  refine pn_block ?_
  refine EW.on ?_
  refine EW.seq ?_
  refine EW.seq ?_
  refine EW.region ?_
  first | refine WL.move rfl rfl rfl ?_
  first | refine WL.bin rfl rfl rfl rfl (int_ne_f rfl _ _ _) ?_ | refine WL.bin rfl rfl rfl rfl (int_ne_t ‹_› _ _ _) ?_ | refine WL.bin rfl rfl rfl rfl (int_ne_f ‹_› _ _ _) ?_ | refine WL.bin rfl rfl rfl rfl (int_ne_t (by decide) _ _ _) ?_ | refine WL.bin rfl rfl rfl rfl (int_ne_d _ _ _ _ _) ?_
  refine WL.done ?_
  refine EW.on ?_
  refine EW.cond_t rfl ?_
  refine EW.seq ?_
  refine EW.region ?_
  refine WL.buildN [] rfl rfl rfl (bd33 _) ?_
  first | refine WL.move rfl rfl rfl ?_
  obtain ⟨we, se, bpe, fe⟩ := stPk bp7 Pk.z_ok Pk.z Pk.z_ok ⟨_, _, _, rfl⟩
  refine WL.store rfl rfl rfl se ?_
  have sbe := sb7.trans (fe.low (by omega) sb7.size)
  first | refine WL.assign rfl rfl rfl ?_
  refine WL.done ?_
  refine EW.on ?_
  refine EW.ret ?_
  refine pr_then ?_
  exact EW.returnsCT Try.results40 rfl rfl bpe Try.underlying33 rfl (i33 Pk.z_ok) ⟨rfl, sbe⟩
set_option maxRecDepth 100000 in
set_option maxHeartbeats 4000000 in
theorem unr_1c (vb : Value) (c : List UInt8) (w : World) (hb : Has w vb c) (hl : c.length ≤ 140737488355328) (hB : bgD c 1 2 = 0) (u : UInt8) (hu : c[1]? = some u) (hu1 : (u.toNat : Int) = 1) (h62 : ¬ (c.length : Int) < 132) (hs : decide (suitD 1 (hlD c 1)) = true) (hn : ¬ (numB (cutB c (70 + 60) 2) : Int) < 32) (hn2 : (544 : Int) < (numB (cutB c (70 + 60) 2) : Int)) : Calls Try.prog 40 #[vb] w fun e w' => e = .returned (.tuple #[Pk.z.v, .int .i64 (5)]) ∧ Below w.heap.size w w' := by
  obtain ⟨w1, q1, r1, bp1, e1, hq1⟩ := new_any (t := 33) (cs := Pk.z.cs) zv33 w
  obtain ⟨w2, q2, r2, bq2, e2, hq2⟩ := new_any (t := 33) (cs := Pk.z.cs) zv33 w1
  have hs1 := e1.size
  have hq1l := bp1.lt
  have bp2 := bp1.on e2
  have sb2 := e1.trans (e2.mono e1.size)
  obtain ⟨adu, iu, lu0⟩ := hb.item hu
  have lu : ∀ W, Below w.heap.size w W → (Instr.loadAt 5 (.pointer (some adu))).run Try.prog W = .ok (byt u) W := fun W hW => by
    obtain ⟨ad2, iu2, lu2⟩ := (hb.below hW).item hu
    have e : ad2 = adu := by
      have h1 := (iu W).symm.trans (iu2 W)
      simp only [Result.ok.injEq, Value.pointer.injEq, Option.some.injEq, and_true] at h1
      exact h1.symm
    rw [e] at lu2
    exact lu2
  have hlk : (hlD c 1).ok := ⟨cutB_len (by omega), cutB_len (by omega), numc_lt⟩
  have hdk : (hdD c 70).ok := ⟨cutB_len (by omega), numc_lt, cutB_len (by omega), numc_lt, numc_lt⟩
  have hnl : numB (cutB c (70 + 60) 2) < 65536 := numB_lt _ (by unfold cutB; rw [List.length_take]; omega)
  refine calls_of_args [vb] Try.func40 rfl 94 Try.ntmps40 (by show 1 ≤ 94; decide) ?_
  refine EW.seq ?_
  refine EW.region ?_
  refine WL.new rfl rfl r1 ?_
  first | refine WL.assign rfl rfl rfl ?_
  refine WL.done ?_
  refine EW.on ?_
  refine EW.seq ?_
  refine EW.region ?_
  refine WL.new rfl rfl r2 ?_
  refine WL.done ?_
  refine EW.on ?_
  refine EW.seq ?_
  refine EW.region ?_
  first | refine WL.move rfl rfl rfl ?_
  refine WL.call [vb, .int .i64 1, .int .i64 2] enter58 rfl rfl rfl (begun_any vb c 1 2 _ (hb.below sb2)) ?_
  rintro _ wz ⟨rfl, hz⟩
  rw [hz]
  clear hz
  rw [hB]
  refine ⟨_, rfl, ?_⟩
  first | refine WL.assign rfl rfl rfl ?_
  refine WL.done ?_
  refine EW.on ?_
  refine EW.seq ?_
  refine EW.seq ?_
  refine EW.region ?_
  first | refine WL.move rfl rfl rfl ?_
  first | refine WL.bin rfl rfl rfl rfl (int_ne_f rfl _ _ _) ?_ | refine WL.bin rfl rfl rfl rfl (int_ne_t ‹_› _ _ _) ?_ | refine WL.bin rfl rfl rfl rfl (int_ne_f ‹_› _ _ _) ?_ | refine WL.bin rfl rfl rfl rfl (int_ne_t (by decide) _ _ _) ?_ | refine WL.bin rfl rfl rfl rfl (int_ne_d _ _ _ _ _) ?_
  refine WL.done ?_
  refine EW.on ?_
  refine EW.cond_f rfl ?_
  refine EW.skip ?_
  refine EW.on ?_
  refine EW.seq ?_
  refine EW.region ?_
  first | refine WL.assign rfl rfl rfl ?_
  refine WL.done ?_
  refine EW.on ?_
  refine EW.seq ?_
  refine EW.seq ?_
  refine EW.region ?_
  first | refine WL.move rfl rfl rfl ?_
  refine WL.index rfl rfl rfl rfl (iu _) ?_
  refine WL.load rfl rfl rfl (lu _ sb2) ?_
  refine WL.conv rfl rfl rfl (conv_53 u _) ?_
  rw [hu1]
  refine WL.bin rfl rfl rfl rfl (int_eq_t rfl _ _ _) ?_
  refine WL.done ?_
  refine EW.on ?_
  refine EW.cond_t rfl ?_
  refine EW.region ?_
  first | refine WL.assign rfl rfl rfl ?_
  refine WL.done ?_
  refine EW.on ?_
  refine EW.seq ?_
  refine EW.seq ?_
  refine EW.region ?_
  first | refine WL.move rfl rfl rfl ?_
  refine WL.len rfl rfl rfl (hb.len _ _) ?_
  first | refine WL.move rfl rfl rfl ?_
  refine WL.bin rfl rfl rfl rfl (int_add (c := 132) (by decide) _ _ _) ?_
  first | refine WL.bin rfl rfl rfl rfl (int_lt_t ‹_› _ _ _) ?_ | refine WL.bin rfl rfl rfl rfl (int_lt_f ‹_› _ _ _) ?_ | refine WL.bin rfl rfl rfl rfl (int_lt_d _ _ _ _ _) ?_
  refine WL.done ?_
  refine EW.on ?_
  refine EW.cond_f rfl ?_
  refine EW.skip ?_
  refine EW.on ?_
  refine EW.seq ?_
  refine EW.region ?_
  first | refine WL.move rfl rfl rfl ?_
  refine WL.index rfl rfl rfl rfl (iu _) ?_
  refine WL.load rfl rfl rfl (lu _ sb2) ?_
  refine WL.conv rfl rfl rfl (conv_53 u _) ?_
  rw [hu1]
  refine WL.field rfl rfl rfl (f33_0 q2 0 _) ?_
  obtain ⟨w4, s4, bq4, f4⟩ := stPkK bq2 1
  refine WL.store rfl rfl rfl s4 ?_
  have bp4 := bp2.fx f4 (fun e => by omega)
  have sb4 := sb2.trans (f4.low (by omega) sb2.size)
  refine WL.done ?_
  refine EW.on ?_
  refine EW.seq ?_
  refine EW.seq ?_
  refine EW.region ?_
  refine WL.field rfl rfl rfl (f33_0 q2 0 _) ?_
  refine WL.load rfl rfl rfl (ldPkK bq4) ?_
  refine WL.bin rfl rfl rfl rfl (int_eq_t rfl _ _ _) ?_
  refine WL.done ?_
  refine EW.on ?_
  refine EW.cond_t rfl ?_
  refine EW.ordB [(0, 0, 0), (2, 0, 0), (4, 0, 0), (5, 0, 0), (1, 1, 1), (3, 1, 1), (6, 1, 1), (7, 0, 0), (8, 0, 0), (9, 1, 0)] (by kernel_rfl) rfl (by kernel_rfl) ?_
  simp only [opsZ, List.getD_cons_zero, List.getD_cons_succ]
  first | refine ZE.move rfl rfl rfl rfl sz0 ?_
  first | refine ZE.move rfl rfl rfl rfl sz0 ?_
  first | refine ZE.move rfl rfl rfl rfl sz0 ?_
  refine ZE.slice2 rfl rfl rfl rfl rfl rfl sz0 (fun W => by rw [sl22]; exact hb.cutLH 66 70 (by decide) (by omega) W) ?_
  refine ZE.callV [vb, .int .i64 2] (kv (cutB c 2 32)) (fun W => Below w4.heap.size w4 W) enter59 rfl rfl rfl (fun _ h => .inr h) (fun W hW => (keyr_any vb c 2 W ((hb.below sb4).below hW) (by omega) hl).mono fun e w' ⟨h1, h2⟩ => ⟨h1, hW.trans (h2.mono hW.size)⟩) ?_
  refine ZE.callV [vb, .int .i64 34] (kv (cutB c 34 32)) (fun W => Below w4.heap.size w4 W) enter59 rfl rfl rfl (fun _ h => .inr h) (fun W hW => (keyr_any vb c 34 W ((hb.below sb4).below hW) (by omega) hl).mono fun e w' ⟨h1, h2⟩ => ⟨h1, hW.trans (h2.mono hW.size)⟩) ?_
  refine ZE.callV [cutV vb 66 70] (u32v (numB (cutB c 66 4))) (fun W => Below w4.heap.size w4 W) enter60 rfl rfl rfl (fun _ h => .inr h) (fun W hW => (value_any _ (cutB c 66 4) W (((hb.below sb4).below hW).cut 66 70 (by decide) (by omega)) (by rw [cutB_len (by omega)]; exact Nat.le_refl _)).mono fun e w' ⟨h1, h2⟩ => ⟨h1, by rw [h2]; exact hW⟩) ?_
  refine ZE.buildN [(0, kv (cutB c 2 32)), (1, kv (cutB c 34 32)), (2, u32v (numB (cutB c 66 4)))] rfl rfl rfl rfl sz0 (fun W => bdHl (cutB_len (by omega)) (cutB_len (by omega)) W) ?_
  refine ZE.field rfl rfl rfl rfl sz0 (fun W => f33_1 q2 0 W) ?_
  refine ZE.store (fun W => Blk W q2 (Pk.cs ⟨1, hlD c 1, Hd.z, .slice none 0 0⟩) 33 ∧ Blk W q1 Pk.z.cs 33 ∧ Below w.heap.size w W) rfl rfl rfl (fun _ _ => .inl rfl) (fun W hW => by
    obtain ⟨w', a1, a2, a3⟩ := stPkL (bq4.on hW) ⟨Hl.z_ok, Hd.z_ok⟩ ⟨cutB c 2 32, cutB c 34 32, numB (cutB c 66 4)⟩ ⟨cutB_len (by omega), cutB_len (by omega), numc_lt⟩
    exact ⟨w', a1, a2, (bp4.on hW).fx a3 (fun e => by omega), (sb4.trans (hW.mono sb4.size)).trans (a3.low (by omega) (by have := hW.size; have := sb4.size; omega))⟩) ?_
  rintro w5 ⟨bq5, bp5, sb5⟩
  refine EW.on ?_
  refine EW.seq ?_
  refine EW.region ?_
  first | refine WL.move rfl rfl rfl ?_
  first | refine WL.move rfl rfl rfl ?_
  refine WL.call [vb, .int .i64 70] enter61 rfl rfl rfl (headr_any vb c 70 _ (hb.below sb5) (by omega) hl) ?_
  rintro _ wh ⟨rfl, beh⟩
  have bqh := bq5.on beh
  have bph := bp5.on beh
  have sbh := sb5.trans (beh.mono sb5.size)
  refine ⟨_, rfl, ?_⟩
  refine WL.field rfl rfl rfl (f33_2 q2 0 _) ?_
  obtain ⟨w6, s6, bq6, f6⟩ := stPkH bqh (p := ⟨1, hlD c 1, Hd.z, .slice none 0 0⟩) ⟨hlk, Hd.z_ok⟩ (hdD c 70) hdk
  refine WL.store rfl rfl rfl s6 ?_
  have bp6 := bph.fx f6 (fun e => by omega)
  have sb6 := sbh.trans (f6.low (by omega) sbh.size)
  refine WL.done ?_
  refine EW.on ?_
  refine EW.seq ?_
  refine EW.region ?_
  first | refine WL.move rfl rfl rfl ?_
  first | refine WL.move rfl rfl rfl ?_
  refine WL.bin rfl rfl rfl rfl (int_add (c := ((70 + 60 : Nat) : Int)) (by decide) _ _ _) ?_
  first | refine WL.move rfl rfl rfl ?_
  refine WL.bin rfl rfl rfl rfl (int_add (c := ((70 + 62 : Nat) : Int)) (by decide) _ _ _) ?_
  refine WL.slice2 rfl rfl rfl rfl rfl (by rw [sl22]; exact hb.cutLH (70 + 60) (70 + 62) (by decide) (by omega) _) ?_
  refine WL.call [cutV vb (70 + 60) (70 + 62)] enter60 rfl rfl rfl (value_any _ (cutB c (70 + 60) 2) _ ((hb.below sb6).cut (70 + 60) (70 + 62) (by decide) (by omega)) (by rw [cutB_len (by omega)]; decide)) ?_
  rintro _ wz ⟨rfl, hz⟩
  rw [hz]
  clear hz
  refine ⟨_, rfl, ?_⟩
  refine WL.conv rfl rfl rfl (conv_u3 (numB_32 _ (by unfold cutB; rw [List.length_take]; omega)) _) ?_
  first | refine WL.assign rfl rfl rfl ?_
  refine WL.done ?_
  refine EW.on ?_
  refine EW.seq ?_
  refine EW.block ?_
  refine EW.seq ?_
  refine EW.region ?_
  refine WL.field rfl rfl rfl (f33_0 q2 0 _) ?_
  refine WL.load rfl rfl rfl (ldPkK bq6) ?_
  refine WL.field rfl rfl rfl (f33_1 q2 0 _) ?_
  refine WL.load rfl rfl rfl (ldPkL bq6 ⟨hlk, hdk⟩) ?_
  refine WL.call [.int .i64 1, (hlD c 1).v] enter57 rfl rfl rfl (hellos_any 1 _ hlk _) ?_
  rintro _ w7 ⟨rfl, be7⟩
  rw [hs]
  have bq7 := bq6.on be7
  have bp7 := bp6.on be7
  have sb7 := sb6.trans (be7.mono sb6.size)
  refine ⟨_, rfl, ?_⟩
  refine WL.un rfl rfl rfl (not_t _ _) ?_
  first | refine WL.assign rfl rfl rfl ?_
  refine WL.done ?_
  refine EW.on ?_
  refine EW.cond_f rfl ?_
  refine EW.seq ?_
  refine EW.region ?_
  first | refine WL.move rfl rfl rfl ?_
  first | refine WL.bin rfl rfl rfl rfl (int_lt_t ‹_› _ _ _) ?_ | refine WL.bin rfl rfl rfl rfl (int_lt_f ‹_› _ _ _) ?_ | refine WL.bin rfl rfl rfl rfl (int_lt_d _ _ _ _ _) ?_
  first | refine WL.assign rfl rfl rfl ?_
  refine WL.done ?_
  refine EW.on ?_
  refine EW.cond_f rfl ?_
  refine EW.seq ?_
  refine EW.region ?_
  first | refine WL.move rfl rfl rfl ?_
  first | refine WL.bin rfl rfl rfl rfl (int_gt_t ‹_› _ _ _) ?_ | refine WL.bin rfl rfl rfl rfl (int_gt_f ‹_› _ _ _) ?_ | refine WL.bin rfl rfl rfl rfl (int_gt_d _ _ _ _ _) ?_
  first | refine WL.assign rfl rfl rfl ?_
  refine WL.done ?_
  refine EW.on ?_
  refine EW.cond_t rfl ?_
  refine EW.region ?_
  first | refine WL.assign rfl rfl rfl ?_
  refine WL.done ?_
  refine pn_block ?_
  refine EW.on ?_
  refine EW.seq ?_
  refine EW.seq ?_
  refine EW.region ?_
  first | refine WL.move rfl rfl rfl ?_
  first | refine WL.bin rfl rfl rfl rfl (int_ne_f rfl _ _ _) ?_ | refine WL.bin rfl rfl rfl rfl (int_ne_t ‹_› _ _ _) ?_ | refine WL.bin rfl rfl rfl rfl (int_ne_f ‹_› _ _ _) ?_ | refine WL.bin rfl rfl rfl rfl (int_ne_t (by decide) _ _ _) ?_ | refine WL.bin rfl rfl rfl rfl (int_ne_d _ _ _ _ _) ?_
  refine WL.done ?_
  refine EW.on ?_
  refine EW.cond_t rfl ?_
  refine EW.seq ?_
  refine EW.region ?_
  refine WL.buildN [] rfl rfl rfl (bd33 _) ?_
  first | refine WL.move rfl rfl rfl ?_
  obtain ⟨we, se, bpe, fe⟩ := stPk bp7 Pk.z_ok Pk.z Pk.z_ok ⟨_, _, _, rfl⟩
  refine WL.store rfl rfl rfl se ?_
  have sbe := sb7.trans (fe.low (by omega) sb7.size)
  first | refine WL.assign rfl rfl rfl ?_
  refine WL.done ?_
  refine EW.on ?_
  refine EW.ret ?_
  refine pr_then ?_
  exact EW.returnsCT Try.results40 rfl rfl bpe Try.underlying33 rfl (i33 Pk.z_ok) ⟨rfl, sbe⟩
set_option maxRecDepth 100000 in
set_option maxHeartbeats 4000000 in
theorem unr_1d (vb : Value) (c : List UInt8) (w : World) (hb : Has w vb c) (hl : c.length ≤ 140737488355328) (hB : bgD c 1 2 = 0) (u : UInt8) (hu : c[1]? = some u) (hu1 : (u.toNat : Int) = 1) (h62 : ¬ (c.length : Int) < 132) (hs : decide (suitD 1 (hlD c 1)) = true) (hn : ¬ (numB (cutB c (70 + 60) 2) : Int) < 32) (hn2 : ¬ (544 : Int) < (numB (cutB c (70 + 60) 2) : Int)) (ht : (c.length : Int) < ((132 + numB (cutB c (70 + 60) 2) : Nat) : Int)) : Calls Try.prog 40 #[vb] w fun e w' => e = .returned (.tuple #[Pk.z.v, .int .i64 (10)]) ∧ Below w.heap.size w w' := by
  obtain ⟨w1, q1, r1, bp1, e1, hq1⟩ := new_any (t := 33) (cs := Pk.z.cs) zv33 w
  obtain ⟨w2, q2, r2, bq2, e2, hq2⟩ := new_any (t := 33) (cs := Pk.z.cs) zv33 w1
  have hs1 := e1.size
  have hq1l := bp1.lt
  have bp2 := bp1.on e2
  have sb2 := e1.trans (e2.mono e1.size)
  obtain ⟨adu, iu, lu0⟩ := hb.item hu
  have lu : ∀ W, Below w.heap.size w W → (Instr.loadAt 5 (.pointer (some adu))).run Try.prog W = .ok (byt u) W := fun W hW => by
    obtain ⟨ad2, iu2, lu2⟩ := (hb.below hW).item hu
    have e : ad2 = adu := by
      have h1 := (iu W).symm.trans (iu2 W)
      simp only [Result.ok.injEq, Value.pointer.injEq, Option.some.injEq, and_true] at h1
      exact h1.symm
    rw [e] at lu2
    exact lu2
  have hlk : (hlD c 1).ok := ⟨cutB_len (by omega), cutB_len (by omega), numc_lt⟩
  have hdk : (hdD c 70).ok := ⟨cutB_len (by omega), numc_lt, cutB_len (by omega), numc_lt, numc_lt⟩
  have hnl : numB (cutB c (70 + 60) 2) < 65536 := numB_lt _ (by unfold cutB; rw [List.length_take]; omega)
  refine calls_of_args [vb] Try.func40 rfl 94 Try.ntmps40 (by show 1 ≤ 94; decide) ?_
  refine EW.seq ?_
  refine EW.region ?_
  refine WL.new rfl rfl r1 ?_
  first | refine WL.assign rfl rfl rfl ?_
  refine WL.done ?_
  refine EW.on ?_
  refine EW.seq ?_
  refine EW.region ?_
  refine WL.new rfl rfl r2 ?_
  refine WL.done ?_
  refine EW.on ?_
  refine EW.seq ?_
  refine EW.region ?_
  first | refine WL.move rfl rfl rfl ?_
  refine WL.call [vb, .int .i64 1, .int .i64 2] enter58 rfl rfl rfl (begun_any vb c 1 2 _ (hb.below sb2)) ?_
  rintro _ wz ⟨rfl, hz⟩
  rw [hz]
  clear hz
  rw [hB]
  refine ⟨_, rfl, ?_⟩
  first | refine WL.assign rfl rfl rfl ?_
  refine WL.done ?_
  refine EW.on ?_
  refine EW.seq ?_
  refine EW.seq ?_
  refine EW.region ?_
  first | refine WL.move rfl rfl rfl ?_
  first | refine WL.bin rfl rfl rfl rfl (int_ne_f rfl _ _ _) ?_ | refine WL.bin rfl rfl rfl rfl (int_ne_t ‹_› _ _ _) ?_ | refine WL.bin rfl rfl rfl rfl (int_ne_f ‹_› _ _ _) ?_ | refine WL.bin rfl rfl rfl rfl (int_ne_t (by decide) _ _ _) ?_ | refine WL.bin rfl rfl rfl rfl (int_ne_d _ _ _ _ _) ?_
  refine WL.done ?_
  refine EW.on ?_
  refine EW.cond_f rfl ?_
  refine EW.skip ?_
  refine EW.on ?_
  refine EW.seq ?_
  refine EW.region ?_
  first | refine WL.assign rfl rfl rfl ?_
  refine WL.done ?_
  refine EW.on ?_
  refine EW.seq ?_
  refine EW.seq ?_
  refine EW.region ?_
  first | refine WL.move rfl rfl rfl ?_
  refine WL.index rfl rfl rfl rfl (iu _) ?_
  refine WL.load rfl rfl rfl (lu _ sb2) ?_
  refine WL.conv rfl rfl rfl (conv_53 u _) ?_
  rw [hu1]
  refine WL.bin rfl rfl rfl rfl (int_eq_t rfl _ _ _) ?_
  refine WL.done ?_
  refine EW.on ?_
  refine EW.cond_t rfl ?_
  refine EW.region ?_
  first | refine WL.assign rfl rfl rfl ?_
  refine WL.done ?_
  refine EW.on ?_
  refine EW.seq ?_
  refine EW.seq ?_
  refine EW.region ?_
  first | refine WL.move rfl rfl rfl ?_
  refine WL.len rfl rfl rfl (hb.len _ _) ?_
  first | refine WL.move rfl rfl rfl ?_
  refine WL.bin rfl rfl rfl rfl (int_add (c := 132) (by decide) _ _ _) ?_
  first | refine WL.bin rfl rfl rfl rfl (int_lt_t ‹_› _ _ _) ?_ | refine WL.bin rfl rfl rfl rfl (int_lt_f ‹_› _ _ _) ?_ | refine WL.bin rfl rfl rfl rfl (int_lt_d _ _ _ _ _) ?_
  refine WL.done ?_
  refine EW.on ?_
  refine EW.cond_f rfl ?_
  refine EW.skip ?_
  refine EW.on ?_
  refine EW.seq ?_
  refine EW.region ?_
  first | refine WL.move rfl rfl rfl ?_
  refine WL.index rfl rfl rfl rfl (iu _) ?_
  refine WL.load rfl rfl rfl (lu _ sb2) ?_
  refine WL.conv rfl rfl rfl (conv_53 u _) ?_
  rw [hu1]
  refine WL.field rfl rfl rfl (f33_0 q2 0 _) ?_
  obtain ⟨w4, s4, bq4, f4⟩ := stPkK bq2 1
  refine WL.store rfl rfl rfl s4 ?_
  have bp4 := bp2.fx f4 (fun e => by omega)
  have sb4 := sb2.trans (f4.low (by omega) sb2.size)
  refine WL.done ?_
  refine EW.on ?_
  refine EW.seq ?_
  refine EW.seq ?_
  refine EW.region ?_
  refine WL.field rfl rfl rfl (f33_0 q2 0 _) ?_
  refine WL.load rfl rfl rfl (ldPkK bq4) ?_
  refine WL.bin rfl rfl rfl rfl (int_eq_t rfl _ _ _) ?_
  refine WL.done ?_
  refine EW.on ?_
  refine EW.cond_t rfl ?_
  refine EW.ordB [(0, 0, 0), (2, 0, 0), (4, 0, 0), (5, 0, 0), (1, 1, 1), (3, 1, 1), (6, 1, 1), (7, 0, 0), (8, 0, 0), (9, 1, 0)] (by kernel_rfl) rfl (by kernel_rfl) ?_
  simp only [opsZ, List.getD_cons_zero, List.getD_cons_succ]
  first | refine ZE.move rfl rfl rfl rfl sz0 ?_
  first | refine ZE.move rfl rfl rfl rfl sz0 ?_
  first | refine ZE.move rfl rfl rfl rfl sz0 ?_
  refine ZE.slice2 rfl rfl rfl rfl rfl rfl sz0 (fun W => by rw [sl22]; exact hb.cutLH 66 70 (by decide) (by omega) W) ?_
  refine ZE.callV [vb, .int .i64 2] (kv (cutB c 2 32)) (fun W => Below w4.heap.size w4 W) enter59 rfl rfl rfl (fun _ h => .inr h) (fun W hW => (keyr_any vb c 2 W ((hb.below sb4).below hW) (by omega) hl).mono fun e w' ⟨h1, h2⟩ => ⟨h1, hW.trans (h2.mono hW.size)⟩) ?_
  refine ZE.callV [vb, .int .i64 34] (kv (cutB c 34 32)) (fun W => Below w4.heap.size w4 W) enter59 rfl rfl rfl (fun _ h => .inr h) (fun W hW => (keyr_any vb c 34 W ((hb.below sb4).below hW) (by omega) hl).mono fun e w' ⟨h1, h2⟩ => ⟨h1, hW.trans (h2.mono hW.size)⟩) ?_
  refine ZE.callV [cutV vb 66 70] (u32v (numB (cutB c 66 4))) (fun W => Below w4.heap.size w4 W) enter60 rfl rfl rfl (fun _ h => .inr h) (fun W hW => (value_any _ (cutB c 66 4) W (((hb.below sb4).below hW).cut 66 70 (by decide) (by omega)) (by rw [cutB_len (by omega)]; exact Nat.le_refl _)).mono fun e w' ⟨h1, h2⟩ => ⟨h1, by rw [h2]; exact hW⟩) ?_
  refine ZE.buildN [(0, kv (cutB c 2 32)), (1, kv (cutB c 34 32)), (2, u32v (numB (cutB c 66 4)))] rfl rfl rfl rfl sz0 (fun W => bdHl (cutB_len (by omega)) (cutB_len (by omega)) W) ?_
  refine ZE.field rfl rfl rfl rfl sz0 (fun W => f33_1 q2 0 W) ?_
  refine ZE.store (fun W => Blk W q2 (Pk.cs ⟨1, hlD c 1, Hd.z, .slice none 0 0⟩) 33 ∧ Blk W q1 Pk.z.cs 33 ∧ Below w.heap.size w W) rfl rfl rfl (fun _ _ => .inl rfl) (fun W hW => by
    obtain ⟨w', a1, a2, a3⟩ := stPkL (bq4.on hW) ⟨Hl.z_ok, Hd.z_ok⟩ ⟨cutB c 2 32, cutB c 34 32, numB (cutB c 66 4)⟩ ⟨cutB_len (by omega), cutB_len (by omega), numc_lt⟩
    exact ⟨w', a1, a2, (bp4.on hW).fx a3 (fun e => by omega), (sb4.trans (hW.mono sb4.size)).trans (a3.low (by omega) (by have := hW.size; have := sb4.size; omega))⟩) ?_
  rintro w5 ⟨bq5, bp5, sb5⟩
  refine EW.on ?_
  refine EW.seq ?_
  refine EW.region ?_
  first | refine WL.move rfl rfl rfl ?_
  first | refine WL.move rfl rfl rfl ?_
  refine WL.call [vb, .int .i64 70] enter61 rfl rfl rfl (headr_any vb c 70 _ (hb.below sb5) (by omega) hl) ?_
  rintro _ wh ⟨rfl, beh⟩
  have bqh := bq5.on beh
  have bph := bp5.on beh
  have sbh := sb5.trans (beh.mono sb5.size)
  refine ⟨_, rfl, ?_⟩
  refine WL.field rfl rfl rfl (f33_2 q2 0 _) ?_
  obtain ⟨w6, s6, bq6, f6⟩ := stPkH bqh (p := ⟨1, hlD c 1, Hd.z, .slice none 0 0⟩) ⟨hlk, Hd.z_ok⟩ (hdD c 70) hdk
  refine WL.store rfl rfl rfl s6 ?_
  have bp6 := bph.fx f6 (fun e => by omega)
  have sb6 := sbh.trans (f6.low (by omega) sbh.size)
  refine WL.done ?_
  refine EW.on ?_
  refine EW.seq ?_
  refine EW.region ?_
  first | refine WL.move rfl rfl rfl ?_
  first | refine WL.move rfl rfl rfl ?_
  refine WL.bin rfl rfl rfl rfl (int_add (c := ((70 + 60 : Nat) : Int)) (by decide) _ _ _) ?_
  first | refine WL.move rfl rfl rfl ?_
  refine WL.bin rfl rfl rfl rfl (int_add (c := ((70 + 62 : Nat) : Int)) (by decide) _ _ _) ?_
  refine WL.slice2 rfl rfl rfl rfl rfl (by rw [sl22]; exact hb.cutLH (70 + 60) (70 + 62) (by decide) (by omega) _) ?_
  refine WL.call [cutV vb (70 + 60) (70 + 62)] enter60 rfl rfl rfl (value_any _ (cutB c (70 + 60) 2) _ ((hb.below sb6).cut (70 + 60) (70 + 62) (by decide) (by omega)) (by rw [cutB_len (by omega)]; decide)) ?_
  rintro _ wz ⟨rfl, hz⟩
  rw [hz]
  clear hz
  refine ⟨_, rfl, ?_⟩
  refine WL.conv rfl rfl rfl (conv_u3 (numB_32 _ (by unfold cutB; rw [List.length_take]; omega)) _) ?_
  first | refine WL.assign rfl rfl rfl ?_
  refine WL.done ?_
  refine EW.on ?_
  refine EW.seq ?_
  refine EW.block ?_
  refine EW.seq ?_
  refine EW.region ?_
  refine WL.field rfl rfl rfl (f33_0 q2 0 _) ?_
  refine WL.load rfl rfl rfl (ldPkK bq6) ?_
  refine WL.field rfl rfl rfl (f33_1 q2 0 _) ?_
  refine WL.load rfl rfl rfl (ldPkL bq6 ⟨hlk, hdk⟩) ?_
  refine WL.call [.int .i64 1, (hlD c 1).v] enter57 rfl rfl rfl (hellos_any 1 _ hlk _) ?_
  rintro _ w7 ⟨rfl, be7⟩
  rw [hs]
  have bq7 := bq6.on be7
  have bp7 := bp6.on be7
  have sb7 := sb6.trans (be7.mono sb6.size)
  refine ⟨_, rfl, ?_⟩
  refine WL.un rfl rfl rfl (not_t _ _) ?_
  first | refine WL.assign rfl rfl rfl ?_
  refine WL.done ?_
  refine EW.on ?_
  refine EW.cond_f rfl ?_
  refine EW.seq ?_
  refine EW.region ?_
  first | refine WL.move rfl rfl rfl ?_
  first | refine WL.bin rfl rfl rfl rfl (int_lt_t ‹_› _ _ _) ?_ | refine WL.bin rfl rfl rfl rfl (int_lt_f ‹_› _ _ _) ?_ | refine WL.bin rfl rfl rfl rfl (int_lt_d _ _ _ _ _) ?_
  first | refine WL.assign rfl rfl rfl ?_
  refine WL.done ?_
  refine EW.on ?_
  refine EW.cond_f rfl ?_
  refine EW.seq ?_
  refine EW.region ?_
  first | refine WL.move rfl rfl rfl ?_
  first | refine WL.bin rfl rfl rfl rfl (int_gt_t ‹_› _ _ _) ?_ | refine WL.bin rfl rfl rfl rfl (int_gt_f ‹_› _ _ _) ?_ | refine WL.bin rfl rfl rfl rfl (int_gt_d _ _ _ _ _) ?_
  first | refine WL.assign rfl rfl rfl ?_
  refine WL.done ?_
  refine EW.on ?_
  refine EW.cond_f rfl ?_
  refine EW.seq ?_
  refine EW.region ?_
  first | refine WL.move rfl rfl rfl ?_
  refine WL.len rfl rfl rfl (hb.len _ _) ?_
  first | refine WL.move rfl rfl rfl ?_
  refine WL.bin rfl rfl rfl rfl (int_add (c := 132) (by decide) _ _ _) ?_
  first | refine WL.move rfl rfl rfl ?_
  refine WL.bin rfl rfl rfl rfl (int_add (c := ((132 + numB (cutB c (70 + 60) 2) : Nat) : Int)) (by rw [IntKind.wrap_i64]; omega) _ _ _) ?_
  first | refine WL.bin rfl rfl rfl rfl (int_lt_t ‹_› _ _ _) ?_ | refine WL.bin rfl rfl rfl rfl (int_lt_f ‹_› _ _ _) ?_ | refine WL.bin rfl rfl rfl rfl (int_lt_d _ _ _ _ _) ?_
  first | refine WL.assign rfl rfl rfl ?_
  refine WL.done ?_
  refine EW.on ?_
  refine EW.cond_t rfl ?_
  refine EW.region ?_
  first | refine WL.assign rfl rfl rfl ?_
  refine WL.done ?_
  refine pn_block ?_
  refine EW.on ?_
  refine EW.seq ?_
  refine EW.seq ?_
  refine EW.region ?_
  first | refine WL.move rfl rfl rfl ?_
  first | refine WL.bin rfl rfl rfl rfl (int_ne_f rfl _ _ _) ?_ | refine WL.bin rfl rfl rfl rfl (int_ne_t ‹_› _ _ _) ?_ | refine WL.bin rfl rfl rfl rfl (int_ne_f ‹_› _ _ _) ?_ | refine WL.bin rfl rfl rfl rfl (int_ne_t (by decide) _ _ _) ?_ | refine WL.bin rfl rfl rfl rfl (int_ne_d _ _ _ _ _) ?_
  refine WL.done ?_
  refine EW.on ?_
  refine EW.cond_t rfl ?_
  refine EW.seq ?_
  refine EW.region ?_
  refine WL.buildN [] rfl rfl rfl (bd33 _) ?_
  first | refine WL.move rfl rfl rfl ?_
  obtain ⟨we, se, bpe, fe⟩ := stPk bp7 Pk.z_ok Pk.z Pk.z_ok ⟨_, _, _, rfl⟩
  refine WL.store rfl rfl rfl se ?_
  have sbe := sb7.trans (fe.low (by omega) sb7.size)
  first | refine WL.assign rfl rfl rfl ?_
  refine WL.done ?_
  refine EW.on ?_
  refine EW.ret ?_
  refine pr_then ?_
  exact EW.returnsCT Try.results40 rfl rfl bpe Try.underlying33 rfl (i33 Pk.z_ok) ⟨rfl, sbe⟩
set_option maxRecDepth 100000 in
set_option maxHeartbeats 4000000 in
theorem unr_1e (vb : Value) (c : List UInt8) (w : World) (hb : Has w vb c) (hl : c.length ≤ 140737488355328) (hB : bgD c 1 2 = 0) (u : UInt8) (hu : c[1]? = some u) (hu1 : (u.toNat : Int) = 1) (h62 : ¬ (c.length : Int) < 132) (hs : decide (suitD 1 (hlD c 1)) = true) (hn : ¬ (numB (cutB c (70 + 60) 2) : Int) < 32) (hn2 : ¬ (544 : Int) < (numB (cutB c (70 + 60) 2) : Int)) (ht : ¬ (c.length : Int) < ((132 + numB (cutB c (70 + 60) 2) : Nat) : Int)) (ht2 : ((132 + numB (cutB c (70 + 60) 2) : Nat) : Int) < (c.length : Int)) : Calls Try.prog 40 #[vb] w fun e w' => e = .returned (.tuple #[Pk.z.v, .int .i64 (11)]) ∧ Below w.heap.size w w' := by
  obtain ⟨w1, q1, r1, bp1, e1, hq1⟩ := new_any (t := 33) (cs := Pk.z.cs) zv33 w
  obtain ⟨w2, q2, r2, bq2, e2, hq2⟩ := new_any (t := 33) (cs := Pk.z.cs) zv33 w1
  have hs1 := e1.size
  have hq1l := bp1.lt
  have bp2 := bp1.on e2
  have sb2 := e1.trans (e2.mono e1.size)
  obtain ⟨adu, iu, lu0⟩ := hb.item hu
  have lu : ∀ W, Below w.heap.size w W → (Instr.loadAt 5 (.pointer (some adu))).run Try.prog W = .ok (byt u) W := fun W hW => by
    obtain ⟨ad2, iu2, lu2⟩ := (hb.below hW).item hu
    have e : ad2 = adu := by
      have h1 := (iu W).symm.trans (iu2 W)
      simp only [Result.ok.injEq, Value.pointer.injEq, Option.some.injEq, and_true] at h1
      exact h1.symm
    rw [e] at lu2
    exact lu2
  have hlk : (hlD c 1).ok := ⟨cutB_len (by omega), cutB_len (by omega), numc_lt⟩
  have hdk : (hdD c 70).ok := ⟨cutB_len (by omega), numc_lt, cutB_len (by omega), numc_lt, numc_lt⟩
  have hnl : numB (cutB c (70 + 60) 2) < 65536 := numB_lt _ (by unfold cutB; rw [List.length_take]; omega)
  refine calls_of_args [vb] Try.func40 rfl 94 Try.ntmps40 (by show 1 ≤ 94; decide) ?_
  refine EW.seq ?_
  refine EW.region ?_
  refine WL.new rfl rfl r1 ?_
  first | refine WL.assign rfl rfl rfl ?_
  refine WL.done ?_
  refine EW.on ?_
  refine EW.seq ?_
  refine EW.region ?_
  refine WL.new rfl rfl r2 ?_
  refine WL.done ?_
  refine EW.on ?_
  refine EW.seq ?_
  refine EW.region ?_
  first | refine WL.move rfl rfl rfl ?_
  refine WL.call [vb, .int .i64 1, .int .i64 2] enter58 rfl rfl rfl (begun_any vb c 1 2 _ (hb.below sb2)) ?_
  rintro _ wz ⟨rfl, hz⟩
  rw [hz]
  clear hz
  rw [hB]
  refine ⟨_, rfl, ?_⟩
  first | refine WL.assign rfl rfl rfl ?_
  refine WL.done ?_
  refine EW.on ?_
  refine EW.seq ?_
  refine EW.seq ?_
  refine EW.region ?_
  first | refine WL.move rfl rfl rfl ?_
  first | refine WL.bin rfl rfl rfl rfl (int_ne_f rfl _ _ _) ?_ | refine WL.bin rfl rfl rfl rfl (int_ne_t ‹_› _ _ _) ?_ | refine WL.bin rfl rfl rfl rfl (int_ne_f ‹_› _ _ _) ?_ | refine WL.bin rfl rfl rfl rfl (int_ne_t (by decide) _ _ _) ?_ | refine WL.bin rfl rfl rfl rfl (int_ne_d _ _ _ _ _) ?_
  refine WL.done ?_
  refine EW.on ?_
  refine EW.cond_f rfl ?_
  refine EW.skip ?_
  refine EW.on ?_
  refine EW.seq ?_
  refine EW.region ?_
  first | refine WL.assign rfl rfl rfl ?_
  refine WL.done ?_
  refine EW.on ?_
  refine EW.seq ?_
  refine EW.seq ?_
  refine EW.region ?_
  first | refine WL.move rfl rfl rfl ?_
  refine WL.index rfl rfl rfl rfl (iu _) ?_
  refine WL.load rfl rfl rfl (lu _ sb2) ?_
  refine WL.conv rfl rfl rfl (conv_53 u _) ?_
  rw [hu1]
  refine WL.bin rfl rfl rfl rfl (int_eq_t rfl _ _ _) ?_
  refine WL.done ?_
  refine EW.on ?_
  refine EW.cond_t rfl ?_
  refine EW.region ?_
  first | refine WL.assign rfl rfl rfl ?_
  refine WL.done ?_
  refine EW.on ?_
  refine EW.seq ?_
  refine EW.seq ?_
  refine EW.region ?_
  first | refine WL.move rfl rfl rfl ?_
  refine WL.len rfl rfl rfl (hb.len _ _) ?_
  first | refine WL.move rfl rfl rfl ?_
  refine WL.bin rfl rfl rfl rfl (int_add (c := 132) (by decide) _ _ _) ?_
  first | refine WL.bin rfl rfl rfl rfl (int_lt_t ‹_› _ _ _) ?_ | refine WL.bin rfl rfl rfl rfl (int_lt_f ‹_› _ _ _) ?_ | refine WL.bin rfl rfl rfl rfl (int_lt_d _ _ _ _ _) ?_
  refine WL.done ?_
  refine EW.on ?_
  refine EW.cond_f rfl ?_
  refine EW.skip ?_
  refine EW.on ?_
  refine EW.seq ?_
  refine EW.region ?_
  first | refine WL.move rfl rfl rfl ?_
  refine WL.index rfl rfl rfl rfl (iu _) ?_
  refine WL.load rfl rfl rfl (lu _ sb2) ?_
  refine WL.conv rfl rfl rfl (conv_53 u _) ?_
  rw [hu1]
  refine WL.field rfl rfl rfl (f33_0 q2 0 _) ?_
  obtain ⟨w4, s4, bq4, f4⟩ := stPkK bq2 1
  refine WL.store rfl rfl rfl s4 ?_
  have bp4 := bp2.fx f4 (fun e => by omega)
  have sb4 := sb2.trans (f4.low (by omega) sb2.size)
  refine WL.done ?_
  refine EW.on ?_
  refine EW.seq ?_
  refine EW.seq ?_
  refine EW.region ?_
  refine WL.field rfl rfl rfl (f33_0 q2 0 _) ?_
  refine WL.load rfl rfl rfl (ldPkK bq4) ?_
  refine WL.bin rfl rfl rfl rfl (int_eq_t rfl _ _ _) ?_
  refine WL.done ?_
  refine EW.on ?_
  refine EW.cond_t rfl ?_
  refine EW.ordB [(0, 0, 0), (2, 0, 0), (4, 0, 0), (5, 0, 0), (1, 1, 1), (3, 1, 1), (6, 1, 1), (7, 0, 0), (8, 0, 0), (9, 1, 0)] (by kernel_rfl) rfl (by kernel_rfl) ?_
  simp only [opsZ, List.getD_cons_zero, List.getD_cons_succ]
  first | refine ZE.move rfl rfl rfl rfl sz0 ?_
  first | refine ZE.move rfl rfl rfl rfl sz0 ?_
  first | refine ZE.move rfl rfl rfl rfl sz0 ?_
  refine ZE.slice2 rfl rfl rfl rfl rfl rfl sz0 (fun W => by rw [sl22]; exact hb.cutLH 66 70 (by decide) (by omega) W) ?_
  refine ZE.callV [vb, .int .i64 2] (kv (cutB c 2 32)) (fun W => Below w4.heap.size w4 W) enter59 rfl rfl rfl (fun _ h => .inr h) (fun W hW => (keyr_any vb c 2 W ((hb.below sb4).below hW) (by omega) hl).mono fun e w' ⟨h1, h2⟩ => ⟨h1, hW.trans (h2.mono hW.size)⟩) ?_
  refine ZE.callV [vb, .int .i64 34] (kv (cutB c 34 32)) (fun W => Below w4.heap.size w4 W) enter59 rfl rfl rfl (fun _ h => .inr h) (fun W hW => (keyr_any vb c 34 W ((hb.below sb4).below hW) (by omega) hl).mono fun e w' ⟨h1, h2⟩ => ⟨h1, hW.trans (h2.mono hW.size)⟩) ?_
  refine ZE.callV [cutV vb 66 70] (u32v (numB (cutB c 66 4))) (fun W => Below w4.heap.size w4 W) enter60 rfl rfl rfl (fun _ h => .inr h) (fun W hW => (value_any _ (cutB c 66 4) W (((hb.below sb4).below hW).cut 66 70 (by decide) (by omega)) (by rw [cutB_len (by omega)]; exact Nat.le_refl _)).mono fun e w' ⟨h1, h2⟩ => ⟨h1, by rw [h2]; exact hW⟩) ?_
  refine ZE.buildN [(0, kv (cutB c 2 32)), (1, kv (cutB c 34 32)), (2, u32v (numB (cutB c 66 4)))] rfl rfl rfl rfl sz0 (fun W => bdHl (cutB_len (by omega)) (cutB_len (by omega)) W) ?_
  refine ZE.field rfl rfl rfl rfl sz0 (fun W => f33_1 q2 0 W) ?_
  refine ZE.store (fun W => Blk W q2 (Pk.cs ⟨1, hlD c 1, Hd.z, .slice none 0 0⟩) 33 ∧ Blk W q1 Pk.z.cs 33 ∧ Below w.heap.size w W) rfl rfl rfl (fun _ _ => .inl rfl) (fun W hW => by
    obtain ⟨w', a1, a2, a3⟩ := stPkL (bq4.on hW) ⟨Hl.z_ok, Hd.z_ok⟩ ⟨cutB c 2 32, cutB c 34 32, numB (cutB c 66 4)⟩ ⟨cutB_len (by omega), cutB_len (by omega), numc_lt⟩
    exact ⟨w', a1, a2, (bp4.on hW).fx a3 (fun e => by omega), (sb4.trans (hW.mono sb4.size)).trans (a3.low (by omega) (by have := hW.size; have := sb4.size; omega))⟩) ?_
  rintro w5 ⟨bq5, bp5, sb5⟩
  refine EW.on ?_
  refine EW.seq ?_
  refine EW.region ?_
  first | refine WL.move rfl rfl rfl ?_
  first | refine WL.move rfl rfl rfl ?_
  refine WL.call [vb, .int .i64 70] enter61 rfl rfl rfl (headr_any vb c 70 _ (hb.below sb5) (by omega) hl) ?_
  rintro _ wh ⟨rfl, beh⟩
  have bqh := bq5.on beh
  have bph := bp5.on beh
  have sbh := sb5.trans (beh.mono sb5.size)
  refine ⟨_, rfl, ?_⟩
  refine WL.field rfl rfl rfl (f33_2 q2 0 _) ?_
  obtain ⟨w6, s6, bq6, f6⟩ := stPkH bqh (p := ⟨1, hlD c 1, Hd.z, .slice none 0 0⟩) ⟨hlk, Hd.z_ok⟩ (hdD c 70) hdk
  refine WL.store rfl rfl rfl s6 ?_
  have bp6 := bph.fx f6 (fun e => by omega)
  have sb6 := sbh.trans (f6.low (by omega) sbh.size)
  refine WL.done ?_
  refine EW.on ?_
  refine EW.seq ?_
  refine EW.region ?_
  first | refine WL.move rfl rfl rfl ?_
  first | refine WL.move rfl rfl rfl ?_
  refine WL.bin rfl rfl rfl rfl (int_add (c := ((70 + 60 : Nat) : Int)) (by decide) _ _ _) ?_
  first | refine WL.move rfl rfl rfl ?_
  refine WL.bin rfl rfl rfl rfl (int_add (c := ((70 + 62 : Nat) : Int)) (by decide) _ _ _) ?_
  refine WL.slice2 rfl rfl rfl rfl rfl (by rw [sl22]; exact hb.cutLH (70 + 60) (70 + 62) (by decide) (by omega) _) ?_
  refine WL.call [cutV vb (70 + 60) (70 + 62)] enter60 rfl rfl rfl (value_any _ (cutB c (70 + 60) 2) _ ((hb.below sb6).cut (70 + 60) (70 + 62) (by decide) (by omega)) (by rw [cutB_len (by omega)]; decide)) ?_
  rintro _ wz ⟨rfl, hz⟩
  rw [hz]
  clear hz
  refine ⟨_, rfl, ?_⟩
  refine WL.conv rfl rfl rfl (conv_u3 (numB_32 _ (by unfold cutB; rw [List.length_take]; omega)) _) ?_
  first | refine WL.assign rfl rfl rfl ?_
  refine WL.done ?_
  refine EW.on ?_
  refine EW.seq ?_
  refine EW.block ?_
  refine EW.seq ?_
  refine EW.region ?_
  refine WL.field rfl rfl rfl (f33_0 q2 0 _) ?_
  refine WL.load rfl rfl rfl (ldPkK bq6) ?_
  refine WL.field rfl rfl rfl (f33_1 q2 0 _) ?_
  refine WL.load rfl rfl rfl (ldPkL bq6 ⟨hlk, hdk⟩) ?_
  refine WL.call [.int .i64 1, (hlD c 1).v] enter57 rfl rfl rfl (hellos_any 1 _ hlk _) ?_
  rintro _ w7 ⟨rfl, be7⟩
  rw [hs]
  have bq7 := bq6.on be7
  have bp7 := bp6.on be7
  have sb7 := sb6.trans (be7.mono sb6.size)
  refine ⟨_, rfl, ?_⟩
  refine WL.un rfl rfl rfl (not_t _ _) ?_
  first | refine WL.assign rfl rfl rfl ?_
  refine WL.done ?_
  refine EW.on ?_
  refine EW.cond_f rfl ?_
  refine EW.seq ?_
  refine EW.region ?_
  first | refine WL.move rfl rfl rfl ?_
  first | refine WL.bin rfl rfl rfl rfl (int_lt_t ‹_› _ _ _) ?_ | refine WL.bin rfl rfl rfl rfl (int_lt_f ‹_› _ _ _) ?_ | refine WL.bin rfl rfl rfl rfl (int_lt_d _ _ _ _ _) ?_
  first | refine WL.assign rfl rfl rfl ?_
  refine WL.done ?_
  refine EW.on ?_
  refine EW.cond_f rfl ?_
  refine EW.seq ?_
  refine EW.region ?_
  first | refine WL.move rfl rfl rfl ?_
  first | refine WL.bin rfl rfl rfl rfl (int_gt_t ‹_› _ _ _) ?_ | refine WL.bin rfl rfl rfl rfl (int_gt_f ‹_› _ _ _) ?_ | refine WL.bin rfl rfl rfl rfl (int_gt_d _ _ _ _ _) ?_
  first | refine WL.assign rfl rfl rfl ?_
  refine WL.done ?_
  refine EW.on ?_
  refine EW.cond_f rfl ?_
  refine EW.seq ?_
  refine EW.region ?_
  first | refine WL.move rfl rfl rfl ?_
  refine WL.len rfl rfl rfl (hb.len _ _) ?_
  first | refine WL.move rfl rfl rfl ?_
  refine WL.bin rfl rfl rfl rfl (int_add (c := 132) (by decide) _ _ _) ?_
  first | refine WL.move rfl rfl rfl ?_
  refine WL.bin rfl rfl rfl rfl (int_add (c := ((132 + numB (cutB c (70 + 60) 2) : Nat) : Int)) (by rw [IntKind.wrap_i64]; omega) _ _ _) ?_
  first | refine WL.bin rfl rfl rfl rfl (int_lt_t ‹_› _ _ _) ?_ | refine WL.bin rfl rfl rfl rfl (int_lt_f ‹_› _ _ _) ?_ | refine WL.bin rfl rfl rfl rfl (int_lt_d _ _ _ _ _) ?_
  first | refine WL.assign rfl rfl rfl ?_
  refine WL.done ?_
  refine EW.on ?_
  refine EW.cond_f rfl ?_
  refine EW.seq ?_
  refine EW.region ?_
  first | refine WL.move rfl rfl rfl ?_
  refine WL.len rfl rfl rfl (hb.len _ _) ?_
  first | refine WL.move rfl rfl rfl ?_
  refine WL.bin rfl rfl rfl rfl (int_add (c := 132) (by decide) _ _ _) ?_
  first | refine WL.move rfl rfl rfl ?_
  refine WL.bin rfl rfl rfl rfl (int_add (c := ((132 + numB (cutB c (70 + 60) 2) : Nat) : Int)) (by rw [IntKind.wrap_i64]; omega) _ _ _) ?_
  first | refine WL.bin rfl rfl rfl rfl (int_gt_t ‹_› _ _ _) ?_ | refine WL.bin rfl rfl rfl rfl (int_gt_f ‹_› _ _ _) ?_ | refine WL.bin rfl rfl rfl rfl (int_gt_d _ _ _ _ _) ?_
  first | refine WL.assign rfl rfl rfl ?_
  refine WL.done ?_
  refine EW.on ?_
  refine EW.cond_t rfl ?_
  refine EW.region ?_
  first | refine WL.assign rfl rfl rfl ?_
  refine WL.done ?_
  refine pn_block ?_
  refine EW.on ?_
  refine EW.seq ?_
  refine EW.seq ?_
  refine EW.region ?_
  first | refine WL.move rfl rfl rfl ?_
  first | refine WL.bin rfl rfl rfl rfl (int_ne_f rfl _ _ _) ?_ | refine WL.bin rfl rfl rfl rfl (int_ne_t ‹_› _ _ _) ?_ | refine WL.bin rfl rfl rfl rfl (int_ne_f ‹_› _ _ _) ?_ | refine WL.bin rfl rfl rfl rfl (int_ne_t (by decide) _ _ _) ?_ | refine WL.bin rfl rfl rfl rfl (int_ne_d _ _ _ _ _) ?_
  refine WL.done ?_
  refine EW.on ?_
  refine EW.cond_t rfl ?_
  refine EW.seq ?_
  refine EW.region ?_
  refine WL.buildN [] rfl rfl rfl (bd33 _) ?_
  first | refine WL.move rfl rfl rfl ?_
  obtain ⟨we, se, bpe, fe⟩ := stPk bp7 Pk.z_ok Pk.z Pk.z_ok ⟨_, _, _, rfl⟩
  refine WL.store rfl rfl rfl se ?_
  have sbe := sb7.trans (fe.low (by omega) sb7.size)
  first | refine WL.assign rfl rfl rfl ?_
  refine WL.done ?_
  refine EW.on ?_
  refine EW.ret ?_
  refine pr_then ?_
  exact EW.returnsCT Try.results40 rfl rfl bpe Try.underlying33 rfl (i33 Pk.z_ok) ⟨rfl, sbe⟩
set_option maxRecDepth 100000 in
set_option maxHeartbeats 4000000 in
theorem unr_1o (vb : Value) (c : List UInt8) (w : World) (hb : Has w vb c) (hl : c.length ≤ 140737488355328) (hB : bgD c 1 2 = 0) (u : UInt8) (hu : c[1]? = some u) (hu1 : (u.toNat : Int) = 1) (h62 : ¬ (c.length : Int) < 132) (hs : decide (suitD 1 (hlD c 1)) = true) (hn : ¬ (numB (cutB c (70 + 60) 2) : Int) < 32) (hn2 : ¬ (544 : Int) < (numB (cutB c (70 + 60) 2) : Int)) (ht : ¬ (c.length : Int) < ((132 + numB (cutB c (70 + 60) 2) : Nat) : Int)) (ht2 : ¬ ((132 + numB (cutB c (70 + 60) 2) : Nat) : Int) < (c.length : Int)) : Calls Try.prog 40 #[vb] w fun e w' => ∃ vy, e = .returned (.tuple #[(Pk.mk 1 (hlD c 1) (hdD c 70) vy).v, .int .i64 (0)]) ∧ Ob w' w.heap.size vy (c.drop 132) ∧ Below w.heap.size w w' := by
  obtain ⟨w1, q1, r1, bp1, e1, hq1⟩ := new_any (t := 33) (cs := Pk.z.cs) zv33 w
  obtain ⟨w2, q2, r2, bq2, e2, hq2⟩ := new_any (t := 33) (cs := Pk.z.cs) zv33 w1
  have hs1 := e1.size
  have hq1l := bp1.lt
  have bp2 := bp1.on e2
  have sb2 := e1.trans (e2.mono e1.size)
  obtain ⟨adu, iu, lu0⟩ := hb.item hu
  have lu : ∀ W, Below w.heap.size w W → (Instr.loadAt 5 (.pointer (some adu))).run Try.prog W = .ok (byt u) W := fun W hW => by
    obtain ⟨ad2, iu2, lu2⟩ := (hb.below hW).item hu
    have e : ad2 = adu := by
      have h1 := (iu W).symm.trans (iu2 W)
      simp only [Result.ok.injEq, Value.pointer.injEq, Option.some.injEq, and_true] at h1
      exact h1.symm
    rw [e] at lu2
    exact lu2
  have hlk : (hlD c 1).ok := ⟨cutB_len (by omega), cutB_len (by omega), numc_lt⟩
  have hdk : (hdD c 70).ok := ⟨cutB_len (by omega), numc_lt, cutB_len (by omega), numc_lt, numc_lt⟩
  have hnl : numB (cutB c (70 + 60) 2) < 65536 := numB_lt _ (by unfold cutB; rw [List.length_take]; omega)
  refine calls_of_args [vb] Try.func40 rfl 94 Try.ntmps40 (by show 1 ≤ 94; decide) ?_
  refine EW.seq ?_
  refine EW.region ?_
  refine WL.new rfl rfl r1 ?_
  first | refine WL.assign rfl rfl rfl ?_
  refine WL.done ?_
  refine EW.on ?_
  refine EW.seq ?_
  refine EW.region ?_
  refine WL.new rfl rfl r2 ?_
  refine WL.done ?_
  refine EW.on ?_
  refine EW.seq ?_
  refine EW.region ?_
  first | refine WL.move rfl rfl rfl ?_
  refine WL.call [vb, .int .i64 1, .int .i64 2] enter58 rfl rfl rfl (begun_any vb c 1 2 _ (hb.below sb2)) ?_
  rintro _ wz ⟨rfl, hz⟩
  rw [hz]
  clear hz
  rw [hB]
  refine ⟨_, rfl, ?_⟩
  first | refine WL.assign rfl rfl rfl ?_
  refine WL.done ?_
  refine EW.on ?_
  refine EW.seq ?_
  refine EW.seq ?_
  refine EW.region ?_
  first | refine WL.move rfl rfl rfl ?_
  first | refine WL.bin rfl rfl rfl rfl (int_ne_f rfl _ _ _) ?_ | refine WL.bin rfl rfl rfl rfl (int_ne_t ‹_› _ _ _) ?_ | refine WL.bin rfl rfl rfl rfl (int_ne_f ‹_› _ _ _) ?_ | refine WL.bin rfl rfl rfl rfl (int_ne_t (by decide) _ _ _) ?_ | refine WL.bin rfl rfl rfl rfl (int_ne_d _ _ _ _ _) ?_
  refine WL.done ?_
  refine EW.on ?_
  refine EW.cond_f rfl ?_
  refine EW.skip ?_
  refine EW.on ?_
  refine EW.seq ?_
  refine EW.region ?_
  first | refine WL.assign rfl rfl rfl ?_
  refine WL.done ?_
  refine EW.on ?_
  refine EW.seq ?_
  refine EW.seq ?_
  refine EW.region ?_
  first | refine WL.move rfl rfl rfl ?_
  refine WL.index rfl rfl rfl rfl (iu _) ?_
  refine WL.load rfl rfl rfl (lu _ sb2) ?_
  refine WL.conv rfl rfl rfl (conv_53 u _) ?_
  rw [hu1]
  refine WL.bin rfl rfl rfl rfl (int_eq_t rfl _ _ _) ?_
  refine WL.done ?_
  refine EW.on ?_
  refine EW.cond_t rfl ?_
  refine EW.region ?_
  first | refine WL.assign rfl rfl rfl ?_
  refine WL.done ?_
  refine EW.on ?_
  refine EW.seq ?_
  refine EW.seq ?_
  refine EW.region ?_
  first | refine WL.move rfl rfl rfl ?_
  refine WL.len rfl rfl rfl (hb.len _ _) ?_
  first | refine WL.move rfl rfl rfl ?_
  refine WL.bin rfl rfl rfl rfl (int_add (c := 132) (by decide) _ _ _) ?_
  first | refine WL.bin rfl rfl rfl rfl (int_lt_t ‹_› _ _ _) ?_ | refine WL.bin rfl rfl rfl rfl (int_lt_f ‹_› _ _ _) ?_ | refine WL.bin rfl rfl rfl rfl (int_lt_d _ _ _ _ _) ?_
  refine WL.done ?_
  refine EW.on ?_
  refine EW.cond_f rfl ?_
  refine EW.skip ?_
  refine EW.on ?_
  refine EW.seq ?_
  refine EW.region ?_
  first | refine WL.move rfl rfl rfl ?_
  refine WL.index rfl rfl rfl rfl (iu _) ?_
  refine WL.load rfl rfl rfl (lu _ sb2) ?_
  refine WL.conv rfl rfl rfl (conv_53 u _) ?_
  rw [hu1]
  refine WL.field rfl rfl rfl (f33_0 q2 0 _) ?_
  obtain ⟨w4, s4, bq4, f4⟩ := stPkK bq2 1
  refine WL.store rfl rfl rfl s4 ?_
  have bp4 := bp2.fx f4 (fun e => by omega)
  have sb4 := sb2.trans (f4.low (by omega) sb2.size)
  refine WL.done ?_
  refine EW.on ?_
  refine EW.seq ?_
  refine EW.seq ?_
  refine EW.region ?_
  refine WL.field rfl rfl rfl (f33_0 q2 0 _) ?_
  refine WL.load rfl rfl rfl (ldPkK bq4) ?_
  refine WL.bin rfl rfl rfl rfl (int_eq_t rfl _ _ _) ?_
  refine WL.done ?_
  refine EW.on ?_
  refine EW.cond_t rfl ?_
  refine EW.ordB [(0, 0, 0), (2, 0, 0), (4, 0, 0), (5, 0, 0), (1, 1, 1), (3, 1, 1), (6, 1, 1), (7, 0, 0), (8, 0, 0), (9, 1, 0)] (by kernel_rfl) rfl (by kernel_rfl) ?_
  simp only [opsZ, List.getD_cons_zero, List.getD_cons_succ]
  first | refine ZE.move rfl rfl rfl rfl sz0 ?_
  first | refine ZE.move rfl rfl rfl rfl sz0 ?_
  first | refine ZE.move rfl rfl rfl rfl sz0 ?_
  refine ZE.slice2 rfl rfl rfl rfl rfl rfl sz0 (fun W => by rw [sl22]; exact hb.cutLH 66 70 (by decide) (by omega) W) ?_
  refine ZE.callV [vb, .int .i64 2] (kv (cutB c 2 32)) (fun W => Below w4.heap.size w4 W) enter59 rfl rfl rfl (fun _ h => .inr h) (fun W hW => (keyr_any vb c 2 W ((hb.below sb4).below hW) (by omega) hl).mono fun e w' ⟨h1, h2⟩ => ⟨h1, hW.trans (h2.mono hW.size)⟩) ?_
  refine ZE.callV [vb, .int .i64 34] (kv (cutB c 34 32)) (fun W => Below w4.heap.size w4 W) enter59 rfl rfl rfl (fun _ h => .inr h) (fun W hW => (keyr_any vb c 34 W ((hb.below sb4).below hW) (by omega) hl).mono fun e w' ⟨h1, h2⟩ => ⟨h1, hW.trans (h2.mono hW.size)⟩) ?_
  refine ZE.callV [cutV vb 66 70] (u32v (numB (cutB c 66 4))) (fun W => Below w4.heap.size w4 W) enter60 rfl rfl rfl (fun _ h => .inr h) (fun W hW => (value_any _ (cutB c 66 4) W (((hb.below sb4).below hW).cut 66 70 (by decide) (by omega)) (by rw [cutB_len (by omega)]; exact Nat.le_refl _)).mono fun e w' ⟨h1, h2⟩ => ⟨h1, by rw [h2]; exact hW⟩) ?_
  refine ZE.buildN [(0, kv (cutB c 2 32)), (1, kv (cutB c 34 32)), (2, u32v (numB (cutB c 66 4)))] rfl rfl rfl rfl sz0 (fun W => bdHl (cutB_len (by omega)) (cutB_len (by omega)) W) ?_
  refine ZE.field rfl rfl rfl rfl sz0 (fun W => f33_1 q2 0 W) ?_
  refine ZE.store (fun W => Blk W q2 (Pk.cs ⟨1, hlD c 1, Hd.z, .slice none 0 0⟩) 33 ∧ Blk W q1 Pk.z.cs 33 ∧ Below w.heap.size w W) rfl rfl rfl (fun _ _ => .inl rfl) (fun W hW => by
    obtain ⟨w', a1, a2, a3⟩ := stPkL (bq4.on hW) ⟨Hl.z_ok, Hd.z_ok⟩ ⟨cutB c 2 32, cutB c 34 32, numB (cutB c 66 4)⟩ ⟨cutB_len (by omega), cutB_len (by omega), numc_lt⟩
    exact ⟨w', a1, a2, (bp4.on hW).fx a3 (fun e => by omega), (sb4.trans (hW.mono sb4.size)).trans (a3.low (by omega) (by have := hW.size; have := sb4.size; omega))⟩) ?_
  rintro w5 ⟨bq5, bp5, sb5⟩
  refine EW.on ?_
  refine EW.seq ?_
  refine EW.region ?_
  first | refine WL.move rfl rfl rfl ?_
  first | refine WL.move rfl rfl rfl ?_
  refine WL.call [vb, .int .i64 70] enter61 rfl rfl rfl (headr_any vb c 70 _ (hb.below sb5) (by omega) hl) ?_
  rintro _ wh ⟨rfl, beh⟩
  have bqh := bq5.on beh
  have bph := bp5.on beh
  have sbh := sb5.trans (beh.mono sb5.size)
  refine ⟨_, rfl, ?_⟩
  refine WL.field rfl rfl rfl (f33_2 q2 0 _) ?_
  obtain ⟨w6, s6, bq6, f6⟩ := stPkH bqh (p := ⟨1, hlD c 1, Hd.z, .slice none 0 0⟩) ⟨hlk, Hd.z_ok⟩ (hdD c 70) hdk
  refine WL.store rfl rfl rfl s6 ?_
  have bp6 := bph.fx f6 (fun e => by omega)
  have sb6 := sbh.trans (f6.low (by omega) sbh.size)
  refine WL.done ?_
  refine EW.on ?_
  refine EW.seq ?_
  refine EW.region ?_
  first | refine WL.move rfl rfl rfl ?_
  first | refine WL.move rfl rfl rfl ?_
  refine WL.bin rfl rfl rfl rfl (int_add (c := ((70 + 60 : Nat) : Int)) (by decide) _ _ _) ?_
  first | refine WL.move rfl rfl rfl ?_
  refine WL.bin rfl rfl rfl rfl (int_add (c := ((70 + 62 : Nat) : Int)) (by decide) _ _ _) ?_
  refine WL.slice2 rfl rfl rfl rfl rfl (by rw [sl22]; exact hb.cutLH (70 + 60) (70 + 62) (by decide) (by omega) _) ?_
  refine WL.call [cutV vb (70 + 60) (70 + 62)] enter60 rfl rfl rfl (value_any _ (cutB c (70 + 60) 2) _ ((hb.below sb6).cut (70 + 60) (70 + 62) (by decide) (by omega)) (by rw [cutB_len (by omega)]; decide)) ?_
  rintro _ wz ⟨rfl, hz⟩
  rw [hz]
  clear hz
  refine ⟨_, rfl, ?_⟩
  refine WL.conv rfl rfl rfl (conv_u3 (numB_32 _ (by unfold cutB; rw [List.length_take]; omega)) _) ?_
  first | refine WL.assign rfl rfl rfl ?_
  refine WL.done ?_
  refine EW.on ?_
  refine EW.seq ?_
  refine EW.block ?_
  refine EW.seq ?_
  refine EW.region ?_
  refine WL.field rfl rfl rfl (f33_0 q2 0 _) ?_
  refine WL.load rfl rfl rfl (ldPkK bq6) ?_
  refine WL.field rfl rfl rfl (f33_1 q2 0 _) ?_
  refine WL.load rfl rfl rfl (ldPkL bq6 ⟨hlk, hdk⟩) ?_
  refine WL.call [.int .i64 1, (hlD c 1).v] enter57 rfl rfl rfl (hellos_any 1 _ hlk _) ?_
  rintro _ w7 ⟨rfl, be7⟩
  rw [hs]
  have bq7 := bq6.on be7
  have bp7 := bp6.on be7
  have sb7 := sb6.trans (be7.mono sb6.size)
  refine ⟨_, rfl, ?_⟩
  refine WL.un rfl rfl rfl (not_t _ _) ?_
  first | refine WL.assign rfl rfl rfl ?_
  refine WL.done ?_
  refine EW.on ?_
  refine EW.cond_f rfl ?_
  refine EW.seq ?_
  refine EW.region ?_
  first | refine WL.move rfl rfl rfl ?_
  first | refine WL.bin rfl rfl rfl rfl (int_lt_t ‹_› _ _ _) ?_ | refine WL.bin rfl rfl rfl rfl (int_lt_f ‹_› _ _ _) ?_ | refine WL.bin rfl rfl rfl rfl (int_lt_d _ _ _ _ _) ?_
  first | refine WL.assign rfl rfl rfl ?_
  refine WL.done ?_
  refine EW.on ?_
  refine EW.cond_f rfl ?_
  refine EW.seq ?_
  refine EW.region ?_
  first | refine WL.move rfl rfl rfl ?_
  first | refine WL.bin rfl rfl rfl rfl (int_gt_t ‹_› _ _ _) ?_ | refine WL.bin rfl rfl rfl rfl (int_gt_f ‹_› _ _ _) ?_ | refine WL.bin rfl rfl rfl rfl (int_gt_d _ _ _ _ _) ?_
  first | refine WL.assign rfl rfl rfl ?_
  refine WL.done ?_
  refine EW.on ?_
  refine EW.cond_f rfl ?_
  refine EW.seq ?_
  refine EW.region ?_
  first | refine WL.move rfl rfl rfl ?_
  refine WL.len rfl rfl rfl (hb.len _ _) ?_
  first | refine WL.move rfl rfl rfl ?_
  refine WL.bin rfl rfl rfl rfl (int_add (c := 132) (by decide) _ _ _) ?_
  first | refine WL.move rfl rfl rfl ?_
  refine WL.bin rfl rfl rfl rfl (int_add (c := ((132 + numB (cutB c (70 + 60) 2) : Nat) : Int)) (by rw [IntKind.wrap_i64]; omega) _ _ _) ?_
  first | refine WL.bin rfl rfl rfl rfl (int_lt_t ‹_› _ _ _) ?_ | refine WL.bin rfl rfl rfl rfl (int_lt_f ‹_› _ _ _) ?_ | refine WL.bin rfl rfl rfl rfl (int_lt_d _ _ _ _ _) ?_
  first | refine WL.assign rfl rfl rfl ?_
  refine WL.done ?_
  refine EW.on ?_
  refine EW.cond_f rfl ?_
  refine EW.seq ?_
  refine EW.region ?_
  first | refine WL.move rfl rfl rfl ?_
  refine WL.len rfl rfl rfl (hb.len _ _) ?_
  first | refine WL.move rfl rfl rfl ?_
  refine WL.bin rfl rfl rfl rfl (int_add (c := 132) (by decide) _ _ _) ?_
  first | refine WL.move rfl rfl rfl ?_
  refine WL.bin rfl rfl rfl rfl (int_add (c := ((132 + numB (cutB c (70 + 60) 2) : Nat) : Int)) (by rw [IntKind.wrap_i64]; omega) _ _ _) ?_
  first | refine WL.bin rfl rfl rfl rfl (int_gt_t ‹_› _ _ _) ?_ | refine WL.bin rfl rfl rfl rfl (int_gt_f ‹_› _ _ _) ?_ | refine WL.bin rfl rfl rfl rfl (int_gt_d _ _ _ _ _) ?_
  first | refine WL.assign rfl rfl rfl ?_
  refine WL.done ?_
  refine EW.on ?_
  refine EW.cond_f rfl ?_
  refine EW.skip ?_
  refine pn_block ?_
  refine EW.on ?_
  refine EW.seq ?_
  refine EW.seq ?_
  refine EW.region ?_
  first | refine WL.move rfl rfl rfl ?_
  first | refine WL.bin rfl rfl rfl rfl (int_ne_f rfl _ _ _) ?_ | refine WL.bin rfl rfl rfl rfl (int_ne_t ‹_› _ _ _) ?_ | refine WL.bin rfl rfl rfl rfl (int_ne_f ‹_› _ _ _) ?_ | refine WL.bin rfl rfl rfl rfl (int_ne_t (by decide) _ _ _) ?_ | refine WL.bin rfl rfl rfl rfl (int_ne_d _ _ _ _ _) ?_
  refine WL.done ?_
  refine EW.on ?_
  refine EW.cond_f rfl ?_
  refine EW.skip ?_
  refine EW.on ?_
  refine EW.seq ?_
  refine EW.region ?_
  first | refine WL.move rfl rfl rfl ?_
  first | refine WL.move rfl rfl rfl ?_
  refine WL.bin rfl rfl rfl rfl (int_add (c := ((70 + 62 : Nat) : Int)) (by decide) _ _ _) ?_
  refine WL.sliceL rfl rfl rfl rfl (by rw [sl22]; exact hb.cutL (70 + 62) (by omega) _) ?_
  obtain ⟨vy, w8, ap, oy8, bep⟩ := app_nil ((hb.below sb7).cut (70 + 62) c.length (by omega) (Nat.le_refl _)) (by simp; omega) 31
  refine WL.app rfl rfl rfl rfl ap ?_
  have bq8 := bq7.on bep
  have bp8 := bp7.on bep
  have sb8 := sb7.trans (bep.mono sb7.size)
  refine WL.field rfl rfl rfl (f33_3 q2 0 _) ?_
  obtain ⟨w9, s9, bq9, f9⟩ := stPkB bq8 ⟨hlk, hdk⟩ vy oy8.has.sl
  refine WL.store rfl rfl rfl s9 ?_
  have bp9 := bp8.fx f9 (fun e => by omega)
  have sb9 := sb8.trans (f9.low (by omega) sb8.size)
  have oy9 := oy8.fx f9 (fun k hk e => by have hk : k = q2 := hk; have := oy8.base k e; have := bq7.lt; omega)
  refine WL.done ?_
  refine EW.on ?_
  refine EW.seq ?_
  refine EW.region ?_
  refine WL.load rfl rfl rfl (ldPk bq9 ⟨hlk, hdk⟩) ?_
  obtain ⟨we, se, bpe, fe⟩ := stPk bp9 Pk.z_ok ⟨1, hlD c 1, hdD c 70, vy⟩ ⟨hlk, hdk⟩ oy9.has.sl
  refine WL.store rfl rfl rfl se ?_
  have sbe := sb9.trans (fe.low (by omega) sb9.size)
  first | refine WL.assign rfl rfl rfl ?_
  refine WL.done ?_
  refine EW.on ?_
  refine EW.ret ?_
  exact EW.returnsCT Try.results40 rfl rfl bpe Try.underlying33 rfl (i33 ⟨hlk, hdk⟩) ⟨vy, rfl, (by have h := (oy9.fx fe (fun k hk e => by have hk : k = q1 := hk; have := oy9.base k e; have := bp7.lt; omega)).lower sb7.size; rw [show (c.drop (70 + 62)).take (c.length - (70 + 62)) = c.drop 132 from List.take_of_length_le (by rw [List.length_drop]; omega)] at h; exact h), sbe⟩
set_option maxRecDepth 100000 in
set_option maxHeartbeats 4000000 in
theorem unr_2S (vb : Value) (c : List UInt8) (w : World) (hb : Has w vb c) (hl : c.length ≤ 140737488355328) (hB : bgD c 1 2 = 0) (u : UInt8) (hu : c[1]? = some u) (hu1 : (u.toNat : Int) = 2) (h62 : (c.length : Int) < 64) : Calls Try.prog 40 #[vb] w fun e w' => e = .returned (.tuple #[Pk.z.v, .int .i64 (10)]) ∧ Below w.heap.size w w' := by
  obtain ⟨w1, q1, r1, bp1, e1, hq1⟩ := new_any (t := 33) (cs := Pk.z.cs) zv33 w
  obtain ⟨w2, q2, r2, bq2, e2, hq2⟩ := new_any (t := 33) (cs := Pk.z.cs) zv33 w1
  have hs1 := e1.size
  have hq1l := bp1.lt
  have bp2 := bp1.on e2
  have sb2 := e1.trans (e2.mono e1.size)
  obtain ⟨adu, iu, lu0⟩ := hb.item hu
  have lu : ∀ W, Below w.heap.size w W → (Instr.loadAt 5 (.pointer (some adu))).run Try.prog W = .ok (byt u) W := fun W hW => by
    obtain ⟨ad2, iu2, lu2⟩ := (hb.below hW).item hu
    have e : ad2 = adu := by
      have h1 := (iu W).symm.trans (iu2 W)
      simp only [Result.ok.injEq, Value.pointer.injEq, Option.some.injEq, and_true] at h1
      exact h1.symm
    rw [e] at lu2
    exact lu2
  refine calls_of_args [vb] Try.func40 rfl 94 Try.ntmps40 (by show 1 ≤ 94; decide) ?_
  refine EW.seq ?_
  refine EW.region ?_
  refine WL.new rfl rfl r1 ?_
  first | refine WL.assign rfl rfl rfl ?_
  refine WL.done ?_
  refine EW.on ?_
  refine EW.seq ?_
  refine EW.region ?_
  refine WL.new rfl rfl r2 ?_
  refine WL.done ?_
  refine EW.on ?_
  refine EW.seq ?_
  refine EW.region ?_
  first | refine WL.move rfl rfl rfl ?_
  refine WL.call [vb, .int .i64 1, .int .i64 2] enter58 rfl rfl rfl (begun_any vb c 1 2 _ (hb.below sb2)) ?_
  rintro _ wz ⟨rfl, hz⟩
  rw [hz]
  clear hz
  rw [hB]
  refine ⟨_, rfl, ?_⟩
  first | refine WL.assign rfl rfl rfl ?_
  refine WL.done ?_
  refine EW.on ?_
  refine EW.seq ?_
  refine EW.seq ?_
  refine EW.region ?_
  first | refine WL.move rfl rfl rfl ?_
  first | refine WL.bin rfl rfl rfl rfl (int_ne_f rfl _ _ _) ?_ | refine WL.bin rfl rfl rfl rfl (int_ne_t ‹_› _ _ _) ?_ | refine WL.bin rfl rfl rfl rfl (int_ne_f ‹_› _ _ _) ?_ | refine WL.bin rfl rfl rfl rfl (int_ne_t (by decide) _ _ _) ?_ | refine WL.bin rfl rfl rfl rfl (int_ne_d _ _ _ _ _) ?_
  refine WL.done ?_
  refine EW.on ?_
  refine EW.cond_f rfl ?_
  refine EW.skip ?_
  refine EW.on ?_
  refine EW.seq ?_
  refine EW.region ?_
  first | refine WL.assign rfl rfl rfl ?_
  refine WL.done ?_
  refine EW.on ?_
  refine EW.seq ?_
  refine EW.seq ?_
  refine EW.region ?_
  first | refine WL.move rfl rfl rfl ?_
  refine WL.index rfl rfl rfl rfl (iu _) ?_
  refine WL.load rfl rfl rfl (lu _ sb2) ?_
  refine WL.conv rfl rfl rfl (conv_53 u _) ?_
  rw [hu1]
  refine WL.bin rfl rfl rfl rfl (int_eq_f (by decide) _ _ _) ?_
  refine WL.done ?_
  refine EW.on ?_
  refine EW.cond_f rfl ?_
  refine EW.skip ?_
  refine EW.on ?_
  refine EW.seq ?_
  refine EW.seq ?_
  refine EW.region ?_
  first | refine WL.move rfl rfl rfl ?_
  refine WL.len rfl rfl rfl (hb.len _ _) ?_
  first | refine WL.move rfl rfl rfl ?_
  refine WL.bin rfl rfl rfl rfl (int_add (c := 64) (by decide) _ _ _) ?_
  first | refine WL.bin rfl rfl rfl rfl (int_lt_t ‹_› _ _ _) ?_ | refine WL.bin rfl rfl rfl rfl (int_lt_f ‹_› _ _ _) ?_ | refine WL.bin rfl rfl rfl rfl (int_lt_d _ _ _ _ _) ?_
  refine WL.done ?_
  refine EW.on ?_
  refine EW.cond_t rfl ?_
  refine EW.seq ?_
  refine EW.region ?_
  refine WL.load rfl rfl rfl (ldPk bq2 Pk.z_ok) ?_
  obtain ⟨we, se, bpe, fe⟩ := stPk bp2 Pk.z_ok Pk.z Pk.z_ok ⟨_, _, _, rfl⟩
  refine WL.store rfl rfl rfl se ?_
  have sbe := sb2.trans (fe.low (by omega) sb2.size)
  first | refine WL.assign rfl rfl rfl ?_
  refine WL.done ?_
  refine EW.on ?_
  refine EW.ret ?_
  refine pr_then ?_
  exact EW.returnsCT Try.results40 rfl rfl bpe Try.underlying33 rfl (i33 Pk.z_ok) ⟨rfl, sbe⟩
set_option maxRecDepth 100000 in
set_option maxHeartbeats 4000000 in
theorem unr_2a (vb : Value) (c : List UInt8) (w : World) (hb : Has w vb c) (hl : c.length ≤ 140737488355328) (hB : bgD c 1 2 = 0) (u : UInt8) (hu : c[1]? = some u) (hu1 : (u.toNat : Int) = 2) (h62 : ¬ (c.length : Int) < 64) (hs : decide (suitD 2 (hlD c 2)) = false) : Calls Try.prog 40 #[vb] w fun e w' => e = .returned (.tuple #[Pk.z.v, .int .i64 (141)]) ∧ Below w.heap.size w w' := by
  obtain ⟨w1, q1, r1, bp1, e1, hq1⟩ := new_any (t := 33) (cs := Pk.z.cs) zv33 w
  obtain ⟨w2, q2, r2, bq2, e2, hq2⟩ := new_any (t := 33) (cs := Pk.z.cs) zv33 w1
  have hs1 := e1.size
  have hq1l := bp1.lt
  have bp2 := bp1.on e2
  have sb2 := e1.trans (e2.mono e1.size)
  obtain ⟨adu, iu, lu0⟩ := hb.item hu
  have lu : ∀ W, Below w.heap.size w W → (Instr.loadAt 5 (.pointer (some adu))).run Try.prog W = .ok (byt u) W := fun W hW => by
    obtain ⟨ad2, iu2, lu2⟩ := (hb.below hW).item hu
    have e : ad2 = adu := by
      have h1 := (iu W).symm.trans (iu2 W)
      simp only [Result.ok.injEq, Value.pointer.injEq, Option.some.injEq, and_true] at h1
      exact h1.symm
    rw [e] at lu2
    exact lu2
  have hlk : (hlD c 2).ok := Hl.z_ok
  have hdk : (hdD c 2).ok := ⟨cutB_len (by omega), numc_lt, cutB_len (by omega), numc_lt, numc_lt⟩
  have hnl : numB (cutB c (2 + 60) 2) < 65536 := numB_lt _ (by unfold cutB; rw [List.length_take]; omega)
  refine calls_of_args [vb] Try.func40 rfl 94 Try.ntmps40 (by show 1 ≤ 94; decide) ?_
  refine EW.seq ?_
  refine EW.region ?_
  refine WL.new rfl rfl r1 ?_
  first | refine WL.assign rfl rfl rfl ?_
  refine WL.done ?_
  refine EW.on ?_
  refine EW.seq ?_
  refine EW.region ?_
  refine WL.new rfl rfl r2 ?_
  refine WL.done ?_
  refine EW.on ?_
  refine EW.seq ?_
  refine EW.region ?_
  first | refine WL.move rfl rfl rfl ?_
  refine WL.call [vb, .int .i64 1, .int .i64 2] enter58 rfl rfl rfl (begun_any vb c 1 2 _ (hb.below sb2)) ?_
  rintro _ wz ⟨rfl, hz⟩
  rw [hz]
  clear hz
  rw [hB]
  refine ⟨_, rfl, ?_⟩
  first | refine WL.assign rfl rfl rfl ?_
  refine WL.done ?_
  refine EW.on ?_
  refine EW.seq ?_
  refine EW.seq ?_
  refine EW.region ?_
  first | refine WL.move rfl rfl rfl ?_
  first | refine WL.bin rfl rfl rfl rfl (int_ne_f rfl _ _ _) ?_ | refine WL.bin rfl rfl rfl rfl (int_ne_t ‹_› _ _ _) ?_ | refine WL.bin rfl rfl rfl rfl (int_ne_f ‹_› _ _ _) ?_ | refine WL.bin rfl rfl rfl rfl (int_ne_t (by decide) _ _ _) ?_ | refine WL.bin rfl rfl rfl rfl (int_ne_d _ _ _ _ _) ?_
  refine WL.done ?_
  refine EW.on ?_
  refine EW.cond_f rfl ?_
  refine EW.skip ?_
  refine EW.on ?_
  refine EW.seq ?_
  refine EW.region ?_
  first | refine WL.assign rfl rfl rfl ?_
  refine WL.done ?_
  refine EW.on ?_
  refine EW.seq ?_
  refine EW.seq ?_
  refine EW.region ?_
  first | refine WL.move rfl rfl rfl ?_
  refine WL.index rfl rfl rfl rfl (iu _) ?_
  refine WL.load rfl rfl rfl (lu _ sb2) ?_
  refine WL.conv rfl rfl rfl (conv_53 u _) ?_
  rw [hu1]
  refine WL.bin rfl rfl rfl rfl (int_eq_f (by decide) _ _ _) ?_
  refine WL.done ?_
  refine EW.on ?_
  refine EW.cond_f rfl ?_
  refine EW.skip ?_
  refine EW.on ?_
  refine EW.seq ?_
  refine EW.seq ?_
  refine EW.region ?_
  first | refine WL.move rfl rfl rfl ?_
  refine WL.len rfl rfl rfl (hb.len _ _) ?_
  first | refine WL.move rfl rfl rfl ?_
  refine WL.bin rfl rfl rfl rfl (int_add (c := 64) (by decide) _ _ _) ?_
  first | refine WL.bin rfl rfl rfl rfl (int_lt_t ‹_› _ _ _) ?_ | refine WL.bin rfl rfl rfl rfl (int_lt_f ‹_› _ _ _) ?_ | refine WL.bin rfl rfl rfl rfl (int_lt_d _ _ _ _ _) ?_
  refine WL.done ?_
  refine EW.on ?_
  refine EW.cond_f rfl ?_
  refine EW.skip ?_
  refine EW.on ?_
  refine EW.seq ?_
  refine EW.region ?_
  first | refine WL.move rfl rfl rfl ?_
  refine WL.index rfl rfl rfl rfl (iu _) ?_
  refine WL.load rfl rfl rfl (lu _ sb2) ?_
  refine WL.conv rfl rfl rfl (conv_53 u _) ?_
  rw [hu1]
  refine WL.field rfl rfl rfl (f33_0 q2 0 _) ?_
  obtain ⟨w4, s4, bq4, f4⟩ := stPkK bq2 2
  refine WL.store rfl rfl rfl s4 ?_
  have bp4 := bp2.fx f4 (fun e => by omega)
  have sb4 := sb2.trans (f4.low (by omega) sb2.size)
  refine WL.done ?_
  refine EW.on ?_
  refine EW.seq ?_
  refine EW.seq ?_
  refine EW.region ?_
  refine WL.field rfl rfl rfl (f33_0 q2 0 _) ?_
  refine WL.load rfl rfl rfl (ldPkK bq4) ?_
  refine WL.bin rfl rfl rfl rfl (int_eq_f (by decide) _ _ _) ?_
  refine WL.done ?_
  refine EW.on ?_
  refine EW.cond_f rfl ?_
  refine EW.skip ?_
  refine EW.on ?_
  refine EW.seq ?_
  refine EW.region ?_
  first | refine WL.move rfl rfl rfl ?_
  first | refine WL.move rfl rfl rfl ?_
  refine WL.call [vb, .int .i64 2] enter61 rfl rfl rfl (headr_any vb c 2 _ (hb.below sb4) (by omega) hl) ?_
  rintro _ wh ⟨rfl, beh⟩
  have bqh := bq4.on beh
  have bph := bp4.on beh
  have sbh := sb4.trans (beh.mono sb4.size)
  refine ⟨_, rfl, ?_⟩
  refine WL.field rfl rfl rfl (f33_2 q2 0 _) ?_
  obtain ⟨w6, s6, bq6, f6⟩ := stPkH bqh (p := ⟨2, hlD c 2, Hd.z, .slice none 0 0⟩) ⟨hlk, Hd.z_ok⟩ (hdD c 2) hdk
  refine WL.store rfl rfl rfl s6 ?_
  have bp6 := bph.fx f6 (fun e => by omega)
  have sb6 := sbh.trans (f6.low (by omega) sbh.size)
  refine WL.done ?_
  refine EW.on ?_
  refine EW.seq ?_
  refine EW.region ?_
  first | refine WL.move rfl rfl rfl ?_
  first | refine WL.move rfl rfl rfl ?_
  refine WL.bin rfl rfl rfl rfl (int_add (c := ((2 + 60 : Nat) : Int)) (by decide) _ _ _) ?_
  first | refine WL.move rfl rfl rfl ?_
  refine WL.bin rfl rfl rfl rfl (int_add (c := ((2 + 62 : Nat) : Int)) (by decide) _ _ _) ?_
  refine WL.slice2 rfl rfl rfl rfl rfl (by rw [sl22]; exact hb.cutLH (2 + 60) (2 + 62) (by decide) (by omega) _) ?_
  refine WL.call [cutV vb (2 + 60) (2 + 62)] enter60 rfl rfl rfl (value_any _ (cutB c (2 + 60) 2) _ ((hb.below sb6).cut (2 + 60) (2 + 62) (by decide) (by omega)) (by rw [cutB_len (by omega)]; decide)) ?_
  rintro _ wz ⟨rfl, hz⟩
  rw [hz]
  clear hz
  refine ⟨_, rfl, ?_⟩
  refine WL.conv rfl rfl rfl (conv_u3 (numB_32 _ (by unfold cutB; rw [List.length_take]; omega)) _) ?_
  first | refine WL.assign rfl rfl rfl ?_
  refine WL.done ?_
  refine EW.on ?_
  refine EW.seq ?_
  refine EW.block ?_
  refine EW.seq ?_
  refine EW.region ?_
  refine WL.field rfl rfl rfl (f33_0 q2 0 _) ?_
  refine WL.load rfl rfl rfl (ldPkK bq6) ?_
  refine WL.field rfl rfl rfl (f33_1 q2 0 _) ?_
  refine WL.load rfl rfl rfl (ldPkL bq6 ⟨hlk, hdk⟩) ?_
  refine WL.call [.int .i64 2, (hlD c 2).v] enter57 rfl rfl rfl (hellos_any 2 _ hlk _) ?_
  rintro _ w7 ⟨rfl, be7⟩
  rw [hs]
  have bq7 := bq6.on be7
  have bp7 := bp6.on be7
  have sb7 := sb6.trans (be7.mono sb6.size)
  refine ⟨_, rfl, ?_⟩
  refine WL.un rfl rfl rfl (not_t _ _) ?_
  first | refine WL.assign rfl rfl rfl ?_
  refine WL.done ?_
  refine EW.on ?_
  refine EW.cond_t rfl ?_
  refine EW.region ?_
  first | refine WL.assign rfl rfl rfl ?_
  refine WL.done ?_
  refine pn_block ?_
  refine EW.on ?_
  refine EW.seq ?_
  refine EW.seq ?_
  refine EW.region ?_
  first | refine WL.move rfl rfl rfl ?_
  first | refine WL.bin rfl rfl rfl rfl (int_ne_f rfl _ _ _) ?_ | refine WL.bin rfl rfl rfl rfl (int_ne_t ‹_› _ _ _) ?_ | refine WL.bin rfl rfl rfl rfl (int_ne_f ‹_› _ _ _) ?_ | refine WL.bin rfl rfl rfl rfl (int_ne_t (by decide) _ _ _) ?_ | refine WL.bin rfl rfl rfl rfl (int_ne_d _ _ _ _ _) ?_
  refine WL.done ?_
  refine EW.on ?_
  refine EW.cond_t rfl ?_
  refine EW.seq ?_
  refine EW.region ?_
  refine WL.buildN [] rfl rfl rfl (bd33 _) ?_
  first | refine WL.move rfl rfl rfl ?_
  obtain ⟨we, se, bpe, fe⟩ := stPk bp7 Pk.z_ok Pk.z Pk.z_ok ⟨_, _, _, rfl⟩
  refine WL.store rfl rfl rfl se ?_
  have sbe := sb7.trans (fe.low (by omega) sb7.size)
  first | refine WL.assign rfl rfl rfl ?_
  refine WL.done ?_
  refine EW.on ?_
  refine EW.ret ?_
  refine pr_then ?_
  exact EW.returnsCT Try.results40 rfl rfl bpe Try.underlying33 rfl (i33 Pk.z_ok) ⟨rfl, sbe⟩
set_option maxRecDepth 100000 in
set_option maxHeartbeats 4000000 in
theorem unr_2b (vb : Value) (c : List UInt8) (w : World) (hb : Has w vb c) (hl : c.length ≤ 140737488355328) (hB : bgD c 1 2 = 0) (u : UInt8) (hu : c[1]? = some u) (hu1 : (u.toNat : Int) = 2) (h62 : ¬ (c.length : Int) < 64) (hs : decide (suitD 2 (hlD c 2)) = true) (hn : (numB (cutB c (2 + 60) 2) : Int) < 32) : Calls Try.prog 40 #[vb] w fun e w' => e = .returned (.tuple #[Pk.z.v, .int .i64 (10)]) ∧ Below w.heap.size w w' := by
  obtain ⟨w1, q1, r1, bp1, e1, hq1⟩ := new_any (t := 33) (cs := Pk.z.cs) zv33 w
  obtain ⟨w2, q2, r2, bq2, e2, hq2⟩ := new_any (t := 33) (cs := Pk.z.cs) zv33 w1
  have hs1 := e1.size
  have hq1l := bp1.lt
  have bp2 := bp1.on e2
  have sb2 := e1.trans (e2.mono e1.size)
  obtain ⟨adu, iu, lu0⟩ := hb.item hu
  have lu : ∀ W, Below w.heap.size w W → (Instr.loadAt 5 (.pointer (some adu))).run Try.prog W = .ok (byt u) W := fun W hW => by
    obtain ⟨ad2, iu2, lu2⟩ := (hb.below hW).item hu
    have e : ad2 = adu := by
      have h1 := (iu W).symm.trans (iu2 W)
      simp only [Result.ok.injEq, Value.pointer.injEq, Option.some.injEq, and_true] at h1
      exact h1.symm
    rw [e] at lu2
    exact lu2
  have hlk : (hlD c 2).ok := Hl.z_ok
  have hdk : (hdD c 2).ok := ⟨cutB_len (by omega), numc_lt, cutB_len (by omega), numc_lt, numc_lt⟩
  have hnl : numB (cutB c (2 + 60) 2) < 65536 := numB_lt _ (by unfold cutB; rw [List.length_take]; omega)
  refine calls_of_args [vb] Try.func40 rfl 94 Try.ntmps40 (by show 1 ≤ 94; decide) ?_
  refine EW.seq ?_
  refine EW.region ?_
  refine WL.new rfl rfl r1 ?_
  first | refine WL.assign rfl rfl rfl ?_
  refine WL.done ?_
  refine EW.on ?_
  refine EW.seq ?_
  refine EW.region ?_
  refine WL.new rfl rfl r2 ?_
  refine WL.done ?_
  refine EW.on ?_
  refine EW.seq ?_
  refine EW.region ?_
  first | refine WL.move rfl rfl rfl ?_
  refine WL.call [vb, .int .i64 1, .int .i64 2] enter58 rfl rfl rfl (begun_any vb c 1 2 _ (hb.below sb2)) ?_
  rintro _ wz ⟨rfl, hz⟩
  rw [hz]
  clear hz
  rw [hB]
  refine ⟨_, rfl, ?_⟩
  first | refine WL.assign rfl rfl rfl ?_
  refine WL.done ?_
  refine EW.on ?_
  refine EW.seq ?_
  refine EW.seq ?_
  refine EW.region ?_
  first | refine WL.move rfl rfl rfl ?_
  first | refine WL.bin rfl rfl rfl rfl (int_ne_f rfl _ _ _) ?_ | refine WL.bin rfl rfl rfl rfl (int_ne_t ‹_› _ _ _) ?_ | refine WL.bin rfl rfl rfl rfl (int_ne_f ‹_› _ _ _) ?_ | refine WL.bin rfl rfl rfl rfl (int_ne_t (by decide) _ _ _) ?_ | refine WL.bin rfl rfl rfl rfl (int_ne_d _ _ _ _ _) ?_
  refine WL.done ?_
  refine EW.on ?_
  refine EW.cond_f rfl ?_
  refine EW.skip ?_
  refine EW.on ?_
  refine EW.seq ?_
  refine EW.region ?_
  first | refine WL.assign rfl rfl rfl ?_
  refine WL.done ?_
  refine EW.on ?_
  refine EW.seq ?_
  refine EW.seq ?_
  refine EW.region ?_
  first | refine WL.move rfl rfl rfl ?_
  refine WL.index rfl rfl rfl rfl (iu _) ?_
  refine WL.load rfl rfl rfl (lu _ sb2) ?_
  refine WL.conv rfl rfl rfl (conv_53 u _) ?_
  rw [hu1]
  refine WL.bin rfl rfl rfl rfl (int_eq_f (by decide) _ _ _) ?_
  refine WL.done ?_
  refine EW.on ?_
  refine EW.cond_f rfl ?_
  refine EW.skip ?_
  refine EW.on ?_
  refine EW.seq ?_
  refine EW.seq ?_
  refine EW.region ?_
  first | refine WL.move rfl rfl rfl ?_
  refine WL.len rfl rfl rfl (hb.len _ _) ?_
  first | refine WL.move rfl rfl rfl ?_
  refine WL.bin rfl rfl rfl rfl (int_add (c := 64) (by decide) _ _ _) ?_
  first | refine WL.bin rfl rfl rfl rfl (int_lt_t ‹_› _ _ _) ?_ | refine WL.bin rfl rfl rfl rfl (int_lt_f ‹_› _ _ _) ?_ | refine WL.bin rfl rfl rfl rfl (int_lt_d _ _ _ _ _) ?_
  refine WL.done ?_
  refine EW.on ?_
  refine EW.cond_f rfl ?_
  refine EW.skip ?_
  refine EW.on ?_
  refine EW.seq ?_
  refine EW.region ?_
  first | refine WL.move rfl rfl rfl ?_
  refine WL.index rfl rfl rfl rfl (iu _) ?_
  refine WL.load rfl rfl rfl (lu _ sb2) ?_
  refine WL.conv rfl rfl rfl (conv_53 u _) ?_
  rw [hu1]
  refine WL.field rfl rfl rfl (f33_0 q2 0 _) ?_
  obtain ⟨w4, s4, bq4, f4⟩ := stPkK bq2 2
  refine WL.store rfl rfl rfl s4 ?_
  have bp4 := bp2.fx f4 (fun e => by omega)
  have sb4 := sb2.trans (f4.low (by omega) sb2.size)
  refine WL.done ?_
  refine EW.on ?_
  refine EW.seq ?_
  refine EW.seq ?_
  refine EW.region ?_
  refine WL.field rfl rfl rfl (f33_0 q2 0 _) ?_
  refine WL.load rfl rfl rfl (ldPkK bq4) ?_
  refine WL.bin rfl rfl rfl rfl (int_eq_f (by decide) _ _ _) ?_
  refine WL.done ?_
  refine EW.on ?_
  refine EW.cond_f rfl ?_
  refine EW.skip ?_
  refine EW.on ?_
  refine EW.seq ?_
  refine EW.region ?_
  first | refine WL.move rfl rfl rfl ?_
  first | refine WL.move rfl rfl rfl ?_
  refine WL.call [vb, .int .i64 2] enter61 rfl rfl rfl (headr_any vb c 2 _ (hb.below sb4) (by omega) hl) ?_
  rintro _ wh ⟨rfl, beh⟩
  have bqh := bq4.on beh
  have bph := bp4.on beh
  have sbh := sb4.trans (beh.mono sb4.size)
  refine ⟨_, rfl, ?_⟩
  refine WL.field rfl rfl rfl (f33_2 q2 0 _) ?_
  obtain ⟨w6, s6, bq6, f6⟩ := stPkH bqh (p := ⟨2, hlD c 2, Hd.z, .slice none 0 0⟩) ⟨hlk, Hd.z_ok⟩ (hdD c 2) hdk
  refine WL.store rfl rfl rfl s6 ?_
  have bp6 := bph.fx f6 (fun e => by omega)
  have sb6 := sbh.trans (f6.low (by omega) sbh.size)
  refine WL.done ?_
  refine EW.on ?_
  refine EW.seq ?_
  refine EW.region ?_
  first | refine WL.move rfl rfl rfl ?_
  first | refine WL.move rfl rfl rfl ?_
  refine WL.bin rfl rfl rfl rfl (int_add (c := ((2 + 60 : Nat) : Int)) (by decide) _ _ _) ?_
  first | refine WL.move rfl rfl rfl ?_
  refine WL.bin rfl rfl rfl rfl (int_add (c := ((2 + 62 : Nat) : Int)) (by decide) _ _ _) ?_
  refine WL.slice2 rfl rfl rfl rfl rfl (by rw [sl22]; exact hb.cutLH (2 + 60) (2 + 62) (by decide) (by omega) _) ?_
  refine WL.call [cutV vb (2 + 60) (2 + 62)] enter60 rfl rfl rfl (value_any _ (cutB c (2 + 60) 2) _ ((hb.below sb6).cut (2 + 60) (2 + 62) (by decide) (by omega)) (by rw [cutB_len (by omega)]; decide)) ?_
  rintro _ wz ⟨rfl, hz⟩
  rw [hz]
  clear hz
  refine ⟨_, rfl, ?_⟩
  refine WL.conv rfl rfl rfl (conv_u3 (numB_32 _ (by unfold cutB; rw [List.length_take]; omega)) _) ?_
  first | refine WL.assign rfl rfl rfl ?_
  refine WL.done ?_
  refine EW.on ?_
  refine EW.seq ?_
  refine EW.block ?_
  refine EW.seq ?_
  refine EW.region ?_
  refine WL.field rfl rfl rfl (f33_0 q2 0 _) ?_
  refine WL.load rfl rfl rfl (ldPkK bq6) ?_
  refine WL.field rfl rfl rfl (f33_1 q2 0 _) ?_
  refine WL.load rfl rfl rfl (ldPkL bq6 ⟨hlk, hdk⟩) ?_
  refine WL.call [.int .i64 2, (hlD c 2).v] enter57 rfl rfl rfl (hellos_any 2 _ hlk _) ?_
  rintro _ w7 ⟨rfl, be7⟩
  rw [hs]
  have bq7 := bq6.on be7
  have bp7 := bp6.on be7
  have sb7 := sb6.trans (be7.mono sb6.size)
  refine ⟨_, rfl, ?_⟩
  refine WL.un rfl rfl rfl (not_t _ _) ?_
  first | refine WL.assign rfl rfl rfl ?_
  refine WL.done ?_
  refine EW.on ?_
  refine EW.cond_f rfl ?_
  refine EW.seq ?_
  refine EW.region ?_
  first | refine WL.move rfl rfl rfl ?_
  first | refine WL.bin rfl rfl rfl rfl (int_lt_t ‹_› _ _ _) ?_ | refine WL.bin rfl rfl rfl rfl (int_lt_f ‹_› _ _ _) ?_ | refine WL.bin rfl rfl rfl rfl (int_lt_d _ _ _ _ _) ?_
  first | refine WL.assign rfl rfl rfl ?_
  refine WL.done ?_
  refine EW.on ?_
  refine EW.cond_t rfl ?_
  refine EW.region ?_
  first | refine WL.assign rfl rfl rfl ?_
  refine WL.done ?_
  refine pn_block ?_
  refine EW.on ?_
  refine EW.seq ?_
  refine EW.seq ?_
  refine EW.region ?_
  first | refine WL.move rfl rfl rfl ?_
  first | refine WL.bin rfl rfl rfl rfl (int_ne_f rfl _ _ _) ?_ | refine WL.bin rfl rfl rfl rfl (int_ne_t ‹_› _ _ _) ?_ | refine WL.bin rfl rfl rfl rfl (int_ne_f ‹_› _ _ _) ?_ | refine WL.bin rfl rfl rfl rfl (int_ne_t (by decide) _ _ _) ?_ | refine WL.bin rfl rfl rfl rfl (int_ne_d _ _ _ _ _) ?_
  refine WL.done ?_
  refine EW.on ?_
  refine EW.cond_t rfl ?_
  refine EW.seq ?_
  refine EW.region ?_
  refine WL.buildN [] rfl rfl rfl (bd33 _) ?_
  first | refine WL.move rfl rfl rfl ?_
  obtain ⟨we, se, bpe, fe⟩ := stPk bp7 Pk.z_ok Pk.z Pk.z_ok ⟨_, _, _, rfl⟩
  refine WL.store rfl rfl rfl se ?_
  have sbe := sb7.trans (fe.low (by omega) sb7.size)
  first | refine WL.assign rfl rfl rfl ?_
  refine WL.done ?_
  refine EW.on ?_
  refine EW.ret ?_
  refine pr_then ?_
  exact EW.returnsCT Try.results40 rfl rfl bpe Try.underlying33 rfl (i33 Pk.z_ok) ⟨rfl, sbe⟩
set_option maxRecDepth 100000 in
set_option maxHeartbeats 4000000 in
theorem unr_2c (vb : Value) (c : List UInt8) (w : World) (hb : Has w vb c) (hl : c.length ≤ 140737488355328) (hB : bgD c 1 2 = 0) (u : UInt8) (hu : c[1]? = some u) (hu1 : (u.toNat : Int) = 2) (h62 : ¬ (c.length : Int) < 64) (hs : decide (suitD 2 (hlD c 2)) = true) (hn : ¬ (numB (cutB c (2 + 60) 2) : Int) < 32) (hn2 : (544 : Int) < (numB (cutB c (2 + 60) 2) : Int)) : Calls Try.prog 40 #[vb] w fun e w' => e = .returned (.tuple #[Pk.z.v, .int .i64 (5)]) ∧ Below w.heap.size w w' := by
  obtain ⟨w1, q1, r1, bp1, e1, hq1⟩ := new_any (t := 33) (cs := Pk.z.cs) zv33 w
  obtain ⟨w2, q2, r2, bq2, e2, hq2⟩ := new_any (t := 33) (cs := Pk.z.cs) zv33 w1
  have hs1 := e1.size
  have hq1l := bp1.lt
  have bp2 := bp1.on e2
  have sb2 := e1.trans (e2.mono e1.size)
  obtain ⟨adu, iu, lu0⟩ := hb.item hu
  have lu : ∀ W, Below w.heap.size w W → (Instr.loadAt 5 (.pointer (some adu))).run Try.prog W = .ok (byt u) W := fun W hW => by
    obtain ⟨ad2, iu2, lu2⟩ := (hb.below hW).item hu
    have e : ad2 = adu := by
      have h1 := (iu W).symm.trans (iu2 W)
      simp only [Result.ok.injEq, Value.pointer.injEq, Option.some.injEq, and_true] at h1
      exact h1.symm
    rw [e] at lu2
    exact lu2
  have hlk : (hlD c 2).ok := Hl.z_ok
  have hdk : (hdD c 2).ok := ⟨cutB_len (by omega), numc_lt, cutB_len (by omega), numc_lt, numc_lt⟩
  have hnl : numB (cutB c (2 + 60) 2) < 65536 := numB_lt _ (by unfold cutB; rw [List.length_take]; omega)
  refine calls_of_args [vb] Try.func40 rfl 94 Try.ntmps40 (by show 1 ≤ 94; decide) ?_
  refine EW.seq ?_
  refine EW.region ?_
  refine WL.new rfl rfl r1 ?_
  first | refine WL.assign rfl rfl rfl ?_
  refine WL.done ?_
  refine EW.on ?_
  refine EW.seq ?_
  refine EW.region ?_
  refine WL.new rfl rfl r2 ?_
  refine WL.done ?_
  refine EW.on ?_
  refine EW.seq ?_
  refine EW.region ?_
  first | refine WL.move rfl rfl rfl ?_
  refine WL.call [vb, .int .i64 1, .int .i64 2] enter58 rfl rfl rfl (begun_any vb c 1 2 _ (hb.below sb2)) ?_
  rintro _ wz ⟨rfl, hz⟩
  rw [hz]
  clear hz
  rw [hB]
  refine ⟨_, rfl, ?_⟩
  first | refine WL.assign rfl rfl rfl ?_
  refine WL.done ?_
  refine EW.on ?_
  refine EW.seq ?_
  refine EW.seq ?_
  refine EW.region ?_
  first | refine WL.move rfl rfl rfl ?_
  first | refine WL.bin rfl rfl rfl rfl (int_ne_f rfl _ _ _) ?_ | refine WL.bin rfl rfl rfl rfl (int_ne_t ‹_› _ _ _) ?_ | refine WL.bin rfl rfl rfl rfl (int_ne_f ‹_› _ _ _) ?_ | refine WL.bin rfl rfl rfl rfl (int_ne_t (by decide) _ _ _) ?_ | refine WL.bin rfl rfl rfl rfl (int_ne_d _ _ _ _ _) ?_
  refine WL.done ?_
  refine EW.on ?_
  refine EW.cond_f rfl ?_
  refine EW.skip ?_
  refine EW.on ?_
  refine EW.seq ?_
  refine EW.region ?_
  first | refine WL.assign rfl rfl rfl ?_
  refine WL.done ?_
  refine EW.on ?_
  refine EW.seq ?_
  refine EW.seq ?_
  refine EW.region ?_
  first | refine WL.move rfl rfl rfl ?_
  refine WL.index rfl rfl rfl rfl (iu _) ?_
  refine WL.load rfl rfl rfl (lu _ sb2) ?_
  refine WL.conv rfl rfl rfl (conv_53 u _) ?_
  rw [hu1]
  refine WL.bin rfl rfl rfl rfl (int_eq_f (by decide) _ _ _) ?_
  refine WL.done ?_
  refine EW.on ?_
  refine EW.cond_f rfl ?_
  refine EW.skip ?_
  refine EW.on ?_
  refine EW.seq ?_
  refine EW.seq ?_
  refine EW.region ?_
  first | refine WL.move rfl rfl rfl ?_
  refine WL.len rfl rfl rfl (hb.len _ _) ?_
  first | refine WL.move rfl rfl rfl ?_
  refine WL.bin rfl rfl rfl rfl (int_add (c := 64) (by decide) _ _ _) ?_
  first | refine WL.bin rfl rfl rfl rfl (int_lt_t ‹_› _ _ _) ?_ | refine WL.bin rfl rfl rfl rfl (int_lt_f ‹_› _ _ _) ?_ | refine WL.bin rfl rfl rfl rfl (int_lt_d _ _ _ _ _) ?_
  refine WL.done ?_
  refine EW.on ?_
  refine EW.cond_f rfl ?_
  refine EW.skip ?_
  refine EW.on ?_
  refine EW.seq ?_
  refine EW.region ?_
  first | refine WL.move rfl rfl rfl ?_
  refine WL.index rfl rfl rfl rfl (iu _) ?_
  refine WL.load rfl rfl rfl (lu _ sb2) ?_
  refine WL.conv rfl rfl rfl (conv_53 u _) ?_
  rw [hu1]
  refine WL.field rfl rfl rfl (f33_0 q2 0 _) ?_
  obtain ⟨w4, s4, bq4, f4⟩ := stPkK bq2 2
  refine WL.store rfl rfl rfl s4 ?_
  have bp4 := bp2.fx f4 (fun e => by omega)
  have sb4 := sb2.trans (f4.low (by omega) sb2.size)
  refine WL.done ?_
  refine EW.on ?_
  refine EW.seq ?_
  refine EW.seq ?_
  refine EW.region ?_
  refine WL.field rfl rfl rfl (f33_0 q2 0 _) ?_
  refine WL.load rfl rfl rfl (ldPkK bq4) ?_
  refine WL.bin rfl rfl rfl rfl (int_eq_f (by decide) _ _ _) ?_
  refine WL.done ?_
  refine EW.on ?_
  refine EW.cond_f rfl ?_
  refine EW.skip ?_
  refine EW.on ?_
  refine EW.seq ?_
  refine EW.region ?_
  first | refine WL.move rfl rfl rfl ?_
  first | refine WL.move rfl rfl rfl ?_
  refine WL.call [vb, .int .i64 2] enter61 rfl rfl rfl (headr_any vb c 2 _ (hb.below sb4) (by omega) hl) ?_
  rintro _ wh ⟨rfl, beh⟩
  have bqh := bq4.on beh
  have bph := bp4.on beh
  have sbh := sb4.trans (beh.mono sb4.size)
  refine ⟨_, rfl, ?_⟩
  refine WL.field rfl rfl rfl (f33_2 q2 0 _) ?_
  obtain ⟨w6, s6, bq6, f6⟩ := stPkH bqh (p := ⟨2, hlD c 2, Hd.z, .slice none 0 0⟩) ⟨hlk, Hd.z_ok⟩ (hdD c 2) hdk
  refine WL.store rfl rfl rfl s6 ?_
  have bp6 := bph.fx f6 (fun e => by omega)
  have sb6 := sbh.trans (f6.low (by omega) sbh.size)
  refine WL.done ?_
  refine EW.on ?_
  refine EW.seq ?_
  refine EW.region ?_
  first | refine WL.move rfl rfl rfl ?_
  first | refine WL.move rfl rfl rfl ?_
  refine WL.bin rfl rfl rfl rfl (int_add (c := ((2 + 60 : Nat) : Int)) (by decide) _ _ _) ?_
  first | refine WL.move rfl rfl rfl ?_
  refine WL.bin rfl rfl rfl rfl (int_add (c := ((2 + 62 : Nat) : Int)) (by decide) _ _ _) ?_
  refine WL.slice2 rfl rfl rfl rfl rfl (by rw [sl22]; exact hb.cutLH (2 + 60) (2 + 62) (by decide) (by omega) _) ?_
  refine WL.call [cutV vb (2 + 60) (2 + 62)] enter60 rfl rfl rfl (value_any _ (cutB c (2 + 60) 2) _ ((hb.below sb6).cut (2 + 60) (2 + 62) (by decide) (by omega)) (by rw [cutB_len (by omega)]; decide)) ?_
  rintro _ wz ⟨rfl, hz⟩
  rw [hz]
  clear hz
  refine ⟨_, rfl, ?_⟩
  refine WL.conv rfl rfl rfl (conv_u3 (numB_32 _ (by unfold cutB; rw [List.length_take]; omega)) _) ?_
  first | refine WL.assign rfl rfl rfl ?_
  refine WL.done ?_
  refine EW.on ?_
  refine EW.seq ?_
  refine EW.block ?_
  refine EW.seq ?_
  refine EW.region ?_
  refine WL.field rfl rfl rfl (f33_0 q2 0 _) ?_
  refine WL.load rfl rfl rfl (ldPkK bq6) ?_
  refine WL.field rfl rfl rfl (f33_1 q2 0 _) ?_
  refine WL.load rfl rfl rfl (ldPkL bq6 ⟨hlk, hdk⟩) ?_
  refine WL.call [.int .i64 2, (hlD c 2).v] enter57 rfl rfl rfl (hellos_any 2 _ hlk _) ?_
  rintro _ w7 ⟨rfl, be7⟩
  rw [hs]
  have bq7 := bq6.on be7
  have bp7 := bp6.on be7
  have sb7 := sb6.trans (be7.mono sb6.size)
  refine ⟨_, rfl, ?_⟩
  refine WL.un rfl rfl rfl (not_t _ _) ?_
  first | refine WL.assign rfl rfl rfl ?_
  refine WL.done ?_
  refine EW.on ?_
  refine EW.cond_f rfl ?_
  refine EW.seq ?_
  refine EW.region ?_
  first | refine WL.move rfl rfl rfl ?_
  first | refine WL.bin rfl rfl rfl rfl (int_lt_t ‹_› _ _ _) ?_ | refine WL.bin rfl rfl rfl rfl (int_lt_f ‹_› _ _ _) ?_ | refine WL.bin rfl rfl rfl rfl (int_lt_d _ _ _ _ _) ?_
  first | refine WL.assign rfl rfl rfl ?_
  refine WL.done ?_
  refine EW.on ?_
  refine EW.cond_f rfl ?_
  refine EW.seq ?_
  refine EW.region ?_
  first | refine WL.move rfl rfl rfl ?_
  first | refine WL.bin rfl rfl rfl rfl (int_gt_t ‹_› _ _ _) ?_ | refine WL.bin rfl rfl rfl rfl (int_gt_f ‹_› _ _ _) ?_ | refine WL.bin rfl rfl rfl rfl (int_gt_d _ _ _ _ _) ?_
  first | refine WL.assign rfl rfl rfl ?_
  refine WL.done ?_
  refine EW.on ?_
  refine EW.cond_t rfl ?_
  refine EW.region ?_
  first | refine WL.assign rfl rfl rfl ?_
  refine WL.done ?_
  refine pn_block ?_
  refine EW.on ?_
  refine EW.seq ?_
  refine EW.seq ?_
  refine EW.region ?_
  first | refine WL.move rfl rfl rfl ?_
  first | refine WL.bin rfl rfl rfl rfl (int_ne_f rfl _ _ _) ?_ | refine WL.bin rfl rfl rfl rfl (int_ne_t ‹_› _ _ _) ?_ | refine WL.bin rfl rfl rfl rfl (int_ne_f ‹_› _ _ _) ?_ | refine WL.bin rfl rfl rfl rfl (int_ne_t (by decide) _ _ _) ?_ | refine WL.bin rfl rfl rfl rfl (int_ne_d _ _ _ _ _) ?_
  refine WL.done ?_
  refine EW.on ?_
  refine EW.cond_t rfl ?_
  refine EW.seq ?_
  refine EW.region ?_
  refine WL.buildN [] rfl rfl rfl (bd33 _) ?_
  first | refine WL.move rfl rfl rfl ?_
  obtain ⟨we, se, bpe, fe⟩ := stPk bp7 Pk.z_ok Pk.z Pk.z_ok ⟨_, _, _, rfl⟩
  refine WL.store rfl rfl rfl se ?_
  have sbe := sb7.trans (fe.low (by omega) sb7.size)
  first | refine WL.assign rfl rfl rfl ?_
  refine WL.done ?_
  refine EW.on ?_
  refine EW.ret ?_
  refine pr_then ?_
  exact EW.returnsCT Try.results40 rfl rfl bpe Try.underlying33 rfl (i33 Pk.z_ok) ⟨rfl, sbe⟩
set_option maxRecDepth 100000 in
set_option maxHeartbeats 4000000 in
theorem unr_2d (vb : Value) (c : List UInt8) (w : World) (hb : Has w vb c) (hl : c.length ≤ 140737488355328) (hB : bgD c 1 2 = 0) (u : UInt8) (hu : c[1]? = some u) (hu1 : (u.toNat : Int) = 2) (h62 : ¬ (c.length : Int) < 64) (hs : decide (suitD 2 (hlD c 2)) = true) (hn : ¬ (numB (cutB c (2 + 60) 2) : Int) < 32) (hn2 : ¬ (544 : Int) < (numB (cutB c (2 + 60) 2) : Int)) (ht : (c.length : Int) < ((64 + numB (cutB c (2 + 60) 2) : Nat) : Int)) : Calls Try.prog 40 #[vb] w fun e w' => e = .returned (.tuple #[Pk.z.v, .int .i64 (10)]) ∧ Below w.heap.size w w' := by
  obtain ⟨w1, q1, r1, bp1, e1, hq1⟩ := new_any (t := 33) (cs := Pk.z.cs) zv33 w
  obtain ⟨w2, q2, r2, bq2, e2, hq2⟩ := new_any (t := 33) (cs := Pk.z.cs) zv33 w1
  have hs1 := e1.size
  have hq1l := bp1.lt
  have bp2 := bp1.on e2
  have sb2 := e1.trans (e2.mono e1.size)
  obtain ⟨adu, iu, lu0⟩ := hb.item hu
  have lu : ∀ W, Below w.heap.size w W → (Instr.loadAt 5 (.pointer (some adu))).run Try.prog W = .ok (byt u) W := fun W hW => by
    obtain ⟨ad2, iu2, lu2⟩ := (hb.below hW).item hu
    have e : ad2 = adu := by
      have h1 := (iu W).symm.trans (iu2 W)
      simp only [Result.ok.injEq, Value.pointer.injEq, Option.some.injEq, and_true] at h1
      exact h1.symm
    rw [e] at lu2
    exact lu2
  have hlk : (hlD c 2).ok := Hl.z_ok
  have hdk : (hdD c 2).ok := ⟨cutB_len (by omega), numc_lt, cutB_len (by omega), numc_lt, numc_lt⟩
  have hnl : numB (cutB c (2 + 60) 2) < 65536 := numB_lt _ (by unfold cutB; rw [List.length_take]; omega)
  refine calls_of_args [vb] Try.func40 rfl 94 Try.ntmps40 (by show 1 ≤ 94; decide) ?_
  refine EW.seq ?_
  refine EW.region ?_
  refine WL.new rfl rfl r1 ?_
  first | refine WL.assign rfl rfl rfl ?_
  refine WL.done ?_
  refine EW.on ?_
  refine EW.seq ?_
  refine EW.region ?_
  refine WL.new rfl rfl r2 ?_
  refine WL.done ?_
  refine EW.on ?_
  refine EW.seq ?_
  refine EW.region ?_
  first | refine WL.move rfl rfl rfl ?_
  refine WL.call [vb, .int .i64 1, .int .i64 2] enter58 rfl rfl rfl (begun_any vb c 1 2 _ (hb.below sb2)) ?_
  rintro _ wz ⟨rfl, hz⟩
  rw [hz]
  clear hz
  rw [hB]
  refine ⟨_, rfl, ?_⟩
  first | refine WL.assign rfl rfl rfl ?_
  refine WL.done ?_
  refine EW.on ?_
  refine EW.seq ?_
  refine EW.seq ?_
  refine EW.region ?_
  first | refine WL.move rfl rfl rfl ?_
  first | refine WL.bin rfl rfl rfl rfl (int_ne_f rfl _ _ _) ?_ | refine WL.bin rfl rfl rfl rfl (int_ne_t ‹_› _ _ _) ?_ | refine WL.bin rfl rfl rfl rfl (int_ne_f ‹_› _ _ _) ?_ | refine WL.bin rfl rfl rfl rfl (int_ne_t (by decide) _ _ _) ?_ | refine WL.bin rfl rfl rfl rfl (int_ne_d _ _ _ _ _) ?_
  refine WL.done ?_
  refine EW.on ?_
  refine EW.cond_f rfl ?_
  refine EW.skip ?_
  refine EW.on ?_
  refine EW.seq ?_
  refine EW.region ?_
  first | refine WL.assign rfl rfl rfl ?_
  refine WL.done ?_
  refine EW.on ?_
  refine EW.seq ?_
  refine EW.seq ?_
  refine EW.region ?_
  first | refine WL.move rfl rfl rfl ?_
  refine WL.index rfl rfl rfl rfl (iu _) ?_
  refine WL.load rfl rfl rfl (lu _ sb2) ?_
  refine WL.conv rfl rfl rfl (conv_53 u _) ?_
  rw [hu1]
  refine WL.bin rfl rfl rfl rfl (int_eq_f (by decide) _ _ _) ?_
  refine WL.done ?_
  refine EW.on ?_
  refine EW.cond_f rfl ?_
  refine EW.skip ?_
  refine EW.on ?_
  refine EW.seq ?_
  refine EW.seq ?_
  refine EW.region ?_
  first | refine WL.move rfl rfl rfl ?_
  refine WL.len rfl rfl rfl (hb.len _ _) ?_
  first | refine WL.move rfl rfl rfl ?_
  refine WL.bin rfl rfl rfl rfl (int_add (c := 64) (by decide) _ _ _) ?_
  first | refine WL.bin rfl rfl rfl rfl (int_lt_t ‹_› _ _ _) ?_ | refine WL.bin rfl rfl rfl rfl (int_lt_f ‹_› _ _ _) ?_ | refine WL.bin rfl rfl rfl rfl (int_lt_d _ _ _ _ _) ?_
  refine WL.done ?_
  refine EW.on ?_
  refine EW.cond_f rfl ?_
  refine EW.skip ?_
  refine EW.on ?_
  refine EW.seq ?_
  refine EW.region ?_
  first | refine WL.move rfl rfl rfl ?_
  refine WL.index rfl rfl rfl rfl (iu _) ?_
  refine WL.load rfl rfl rfl (lu _ sb2) ?_
  refine WL.conv rfl rfl rfl (conv_53 u _) ?_
  rw [hu1]
  refine WL.field rfl rfl rfl (f33_0 q2 0 _) ?_
  obtain ⟨w4, s4, bq4, f4⟩ := stPkK bq2 2
  refine WL.store rfl rfl rfl s4 ?_
  have bp4 := bp2.fx f4 (fun e => by omega)
  have sb4 := sb2.trans (f4.low (by omega) sb2.size)
  refine WL.done ?_
  refine EW.on ?_
  refine EW.seq ?_
  refine EW.seq ?_
  refine EW.region ?_
  refine WL.field rfl rfl rfl (f33_0 q2 0 _) ?_
  refine WL.load rfl rfl rfl (ldPkK bq4) ?_
  refine WL.bin rfl rfl rfl rfl (int_eq_f (by decide) _ _ _) ?_
  refine WL.done ?_
  refine EW.on ?_
  refine EW.cond_f rfl ?_
  refine EW.skip ?_
  refine EW.on ?_
  refine EW.seq ?_
  refine EW.region ?_
  first | refine WL.move rfl rfl rfl ?_
  first | refine WL.move rfl rfl rfl ?_
  refine WL.call [vb, .int .i64 2] enter61 rfl rfl rfl (headr_any vb c 2 _ (hb.below sb4) (by omega) hl) ?_
  rintro _ wh ⟨rfl, beh⟩
  have bqh := bq4.on beh
  have bph := bp4.on beh
  have sbh := sb4.trans (beh.mono sb4.size)
  refine ⟨_, rfl, ?_⟩
  refine WL.field rfl rfl rfl (f33_2 q2 0 _) ?_
  obtain ⟨w6, s6, bq6, f6⟩ := stPkH bqh (p := ⟨2, hlD c 2, Hd.z, .slice none 0 0⟩) ⟨hlk, Hd.z_ok⟩ (hdD c 2) hdk
  refine WL.store rfl rfl rfl s6 ?_
  have bp6 := bph.fx f6 (fun e => by omega)
  have sb6 := sbh.trans (f6.low (by omega) sbh.size)
  refine WL.done ?_
  refine EW.on ?_
  refine EW.seq ?_
  refine EW.region ?_
  first | refine WL.move rfl rfl rfl ?_
  first | refine WL.move rfl rfl rfl ?_
  refine WL.bin rfl rfl rfl rfl (int_add (c := ((2 + 60 : Nat) : Int)) (by decide) _ _ _) ?_
  first | refine WL.move rfl rfl rfl ?_
  refine WL.bin rfl rfl rfl rfl (int_add (c := ((2 + 62 : Nat) : Int)) (by decide) _ _ _) ?_
  refine WL.slice2 rfl rfl rfl rfl rfl (by rw [sl22]; exact hb.cutLH (2 + 60) (2 + 62) (by decide) (by omega) _) ?_
  refine WL.call [cutV vb (2 + 60) (2 + 62)] enter60 rfl rfl rfl (value_any _ (cutB c (2 + 60) 2) _ ((hb.below sb6).cut (2 + 60) (2 + 62) (by decide) (by omega)) (by rw [cutB_len (by omega)]; decide)) ?_
  rintro _ wz ⟨rfl, hz⟩
  rw [hz]
  clear hz
  refine ⟨_, rfl, ?_⟩
  refine WL.conv rfl rfl rfl (conv_u3 (numB_32 _ (by unfold cutB; rw [List.length_take]; omega)) _) ?_
  first | refine WL.assign rfl rfl rfl ?_
  refine WL.done ?_
  refine EW.on ?_
  refine EW.seq ?_
  refine EW.block ?_
  refine EW.seq ?_
  refine EW.region ?_
  refine WL.field rfl rfl rfl (f33_0 q2 0 _) ?_
  refine WL.load rfl rfl rfl (ldPkK bq6) ?_
  refine WL.field rfl rfl rfl (f33_1 q2 0 _) ?_
  refine WL.load rfl rfl rfl (ldPkL bq6 ⟨hlk, hdk⟩) ?_
  refine WL.call [.int .i64 2, (hlD c 2).v] enter57 rfl rfl rfl (hellos_any 2 _ hlk _) ?_
  rintro _ w7 ⟨rfl, be7⟩
  rw [hs]
  have bq7 := bq6.on be7
  have bp7 := bp6.on be7
  have sb7 := sb6.trans (be7.mono sb6.size)
  refine ⟨_, rfl, ?_⟩
  refine WL.un rfl rfl rfl (not_t _ _) ?_
  first | refine WL.assign rfl rfl rfl ?_
  refine WL.done ?_
  refine EW.on ?_
  refine EW.cond_f rfl ?_
  refine EW.seq ?_
  refine EW.region ?_
  first | refine WL.move rfl rfl rfl ?_
  first | refine WL.bin rfl rfl rfl rfl (int_lt_t ‹_› _ _ _) ?_ | refine WL.bin rfl rfl rfl rfl (int_lt_f ‹_› _ _ _) ?_ | refine WL.bin rfl rfl rfl rfl (int_lt_d _ _ _ _ _) ?_
  first | refine WL.assign rfl rfl rfl ?_
  refine WL.done ?_
  refine EW.on ?_
  refine EW.cond_f rfl ?_
  refine EW.seq ?_
  refine EW.region ?_
  first | refine WL.move rfl rfl rfl ?_
  first | refine WL.bin rfl rfl rfl rfl (int_gt_t ‹_› _ _ _) ?_ | refine WL.bin rfl rfl rfl rfl (int_gt_f ‹_› _ _ _) ?_ | refine WL.bin rfl rfl rfl rfl (int_gt_d _ _ _ _ _) ?_
  first | refine WL.assign rfl rfl rfl ?_
  refine WL.done ?_
  refine EW.on ?_
  refine EW.cond_f rfl ?_
  refine EW.seq ?_
  refine EW.region ?_
  first | refine WL.move rfl rfl rfl ?_
  refine WL.len rfl rfl rfl (hb.len _ _) ?_
  first | refine WL.move rfl rfl rfl ?_
  refine WL.bin rfl rfl rfl rfl (int_add (c := 64) (by decide) _ _ _) ?_
  first | refine WL.move rfl rfl rfl ?_
  refine WL.bin rfl rfl rfl rfl (int_add (c := ((64 + numB (cutB c (2 + 60) 2) : Nat) : Int)) (by rw [IntKind.wrap_i64]; omega) _ _ _) ?_
  first | refine WL.bin rfl rfl rfl rfl (int_lt_t ‹_› _ _ _) ?_ | refine WL.bin rfl rfl rfl rfl (int_lt_f ‹_› _ _ _) ?_ | refine WL.bin rfl rfl rfl rfl (int_lt_d _ _ _ _ _) ?_
  first | refine WL.assign rfl rfl rfl ?_
  refine WL.done ?_
  refine EW.on ?_
  refine EW.cond_t rfl ?_
  refine EW.region ?_
  first | refine WL.assign rfl rfl rfl ?_
  refine WL.done ?_
  refine pn_block ?_
  refine EW.on ?_
  refine EW.seq ?_
  refine EW.seq ?_
  refine EW.region ?_
  first | refine WL.move rfl rfl rfl ?_
  first | refine WL.bin rfl rfl rfl rfl (int_ne_f rfl _ _ _) ?_ | refine WL.bin rfl rfl rfl rfl (int_ne_t ‹_› _ _ _) ?_ | refine WL.bin rfl rfl rfl rfl (int_ne_f ‹_› _ _ _) ?_ | refine WL.bin rfl rfl rfl rfl (int_ne_t (by decide) _ _ _) ?_ | refine WL.bin rfl rfl rfl rfl (int_ne_d _ _ _ _ _) ?_
  refine WL.done ?_
  refine EW.on ?_
  refine EW.cond_t rfl ?_
  refine EW.seq ?_
  refine EW.region ?_
  refine WL.buildN [] rfl rfl rfl (bd33 _) ?_
  first | refine WL.move rfl rfl rfl ?_
  obtain ⟨we, se, bpe, fe⟩ := stPk bp7 Pk.z_ok Pk.z Pk.z_ok ⟨_, _, _, rfl⟩
  refine WL.store rfl rfl rfl se ?_
  have sbe := sb7.trans (fe.low (by omega) sb7.size)
  first | refine WL.assign rfl rfl rfl ?_
  refine WL.done ?_
  refine EW.on ?_
  refine EW.ret ?_
  refine pr_then ?_
  exact EW.returnsCT Try.results40 rfl rfl bpe Try.underlying33 rfl (i33 Pk.z_ok) ⟨rfl, sbe⟩
set_option maxRecDepth 100000 in
set_option maxHeartbeats 4000000 in
theorem unr_2e (vb : Value) (c : List UInt8) (w : World) (hb : Has w vb c) (hl : c.length ≤ 140737488355328) (hB : bgD c 1 2 = 0) (u : UInt8) (hu : c[1]? = some u) (hu1 : (u.toNat : Int) = 2) (h62 : ¬ (c.length : Int) < 64) (hs : decide (suitD 2 (hlD c 2)) = true) (hn : ¬ (numB (cutB c (2 + 60) 2) : Int) < 32) (hn2 : ¬ (544 : Int) < (numB (cutB c (2 + 60) 2) : Int)) (ht : ¬ (c.length : Int) < ((64 + numB (cutB c (2 + 60) 2) : Nat) : Int)) (ht2 : ((64 + numB (cutB c (2 + 60) 2) : Nat) : Int) < (c.length : Int)) : Calls Try.prog 40 #[vb] w fun e w' => e = .returned (.tuple #[Pk.z.v, .int .i64 (11)]) ∧ Below w.heap.size w w' := by
  obtain ⟨w1, q1, r1, bp1, e1, hq1⟩ := new_any (t := 33) (cs := Pk.z.cs) zv33 w
  obtain ⟨w2, q2, r2, bq2, e2, hq2⟩ := new_any (t := 33) (cs := Pk.z.cs) zv33 w1
  have hs1 := e1.size
  have hq1l := bp1.lt
  have bp2 := bp1.on e2
  have sb2 := e1.trans (e2.mono e1.size)
  obtain ⟨adu, iu, lu0⟩ := hb.item hu
  have lu : ∀ W, Below w.heap.size w W → (Instr.loadAt 5 (.pointer (some adu))).run Try.prog W = .ok (byt u) W := fun W hW => by
    obtain ⟨ad2, iu2, lu2⟩ := (hb.below hW).item hu
    have e : ad2 = adu := by
      have h1 := (iu W).symm.trans (iu2 W)
      simp only [Result.ok.injEq, Value.pointer.injEq, Option.some.injEq, and_true] at h1
      exact h1.symm
    rw [e] at lu2
    exact lu2
  have hlk : (hlD c 2).ok := Hl.z_ok
  have hdk : (hdD c 2).ok := ⟨cutB_len (by omega), numc_lt, cutB_len (by omega), numc_lt, numc_lt⟩
  have hnl : numB (cutB c (2 + 60) 2) < 65536 := numB_lt _ (by unfold cutB; rw [List.length_take]; omega)
  refine calls_of_args [vb] Try.func40 rfl 94 Try.ntmps40 (by show 1 ≤ 94; decide) ?_
  refine EW.seq ?_
  refine EW.region ?_
  refine WL.new rfl rfl r1 ?_
  first | refine WL.assign rfl rfl rfl ?_
  refine WL.done ?_
  refine EW.on ?_
  refine EW.seq ?_
  refine EW.region ?_
  refine WL.new rfl rfl r2 ?_
  refine WL.done ?_
  refine EW.on ?_
  refine EW.seq ?_
  refine EW.region ?_
  first | refine WL.move rfl rfl rfl ?_
  refine WL.call [vb, .int .i64 1, .int .i64 2] enter58 rfl rfl rfl (begun_any vb c 1 2 _ (hb.below sb2)) ?_
  rintro _ wz ⟨rfl, hz⟩
  rw [hz]
  clear hz
  rw [hB]
  refine ⟨_, rfl, ?_⟩
  first | refine WL.assign rfl rfl rfl ?_
  refine WL.done ?_
  refine EW.on ?_
  refine EW.seq ?_
  refine EW.seq ?_
  refine EW.region ?_
  first | refine WL.move rfl rfl rfl ?_
  first | refine WL.bin rfl rfl rfl rfl (int_ne_f rfl _ _ _) ?_ | refine WL.bin rfl rfl rfl rfl (int_ne_t ‹_› _ _ _) ?_ | refine WL.bin rfl rfl rfl rfl (int_ne_f ‹_› _ _ _) ?_ | refine WL.bin rfl rfl rfl rfl (int_ne_t (by decide) _ _ _) ?_ | refine WL.bin rfl rfl rfl rfl (int_ne_d _ _ _ _ _) ?_
  refine WL.done ?_
  refine EW.on ?_
  refine EW.cond_f rfl ?_
  refine EW.skip ?_
  refine EW.on ?_
  refine EW.seq ?_
  refine EW.region ?_
  first | refine WL.assign rfl rfl rfl ?_
  refine WL.done ?_
  refine EW.on ?_
  refine EW.seq ?_
  refine EW.seq ?_
  refine EW.region ?_
  first | refine WL.move rfl rfl rfl ?_
  refine WL.index rfl rfl rfl rfl (iu _) ?_
  refine WL.load rfl rfl rfl (lu _ sb2) ?_
  refine WL.conv rfl rfl rfl (conv_53 u _) ?_
  rw [hu1]
  refine WL.bin rfl rfl rfl rfl (int_eq_f (by decide) _ _ _) ?_
  refine WL.done ?_
  refine EW.on ?_
  refine EW.cond_f rfl ?_
  refine EW.skip ?_
  refine EW.on ?_
  refine EW.seq ?_
  refine EW.seq ?_
  refine EW.region ?_
  first | refine WL.move rfl rfl rfl ?_
  refine WL.len rfl rfl rfl (hb.len _ _) ?_
  first | refine WL.move rfl rfl rfl ?_
  refine WL.bin rfl rfl rfl rfl (int_add (c := 64) (by decide) _ _ _) ?_
  first | refine WL.bin rfl rfl rfl rfl (int_lt_t ‹_› _ _ _) ?_ | refine WL.bin rfl rfl rfl rfl (int_lt_f ‹_› _ _ _) ?_ | refine WL.bin rfl rfl rfl rfl (int_lt_d _ _ _ _ _) ?_
  refine WL.done ?_
  refine EW.on ?_
  refine EW.cond_f rfl ?_
  refine EW.skip ?_
  refine EW.on ?_
  refine EW.seq ?_
  refine EW.region ?_
  first | refine WL.move rfl rfl rfl ?_
  refine WL.index rfl rfl rfl rfl (iu _) ?_
  refine WL.load rfl rfl rfl (lu _ sb2) ?_
  refine WL.conv rfl rfl rfl (conv_53 u _) ?_
  rw [hu1]
  refine WL.field rfl rfl rfl (f33_0 q2 0 _) ?_
  obtain ⟨w4, s4, bq4, f4⟩ := stPkK bq2 2
  refine WL.store rfl rfl rfl s4 ?_
  have bp4 := bp2.fx f4 (fun e => by omega)
  have sb4 := sb2.trans (f4.low (by omega) sb2.size)
  refine WL.done ?_
  refine EW.on ?_
  refine EW.seq ?_
  refine EW.seq ?_
  refine EW.region ?_
  refine WL.field rfl rfl rfl (f33_0 q2 0 _) ?_
  refine WL.load rfl rfl rfl (ldPkK bq4) ?_
  refine WL.bin rfl rfl rfl rfl (int_eq_f (by decide) _ _ _) ?_
  refine WL.done ?_
  refine EW.on ?_
  refine EW.cond_f rfl ?_
  refine EW.skip ?_
  refine EW.on ?_
  refine EW.seq ?_
  refine EW.region ?_
  first | refine WL.move rfl rfl rfl ?_
  first | refine WL.move rfl rfl rfl ?_
  refine WL.call [vb, .int .i64 2] enter61 rfl rfl rfl (headr_any vb c 2 _ (hb.below sb4) (by omega) hl) ?_
  rintro _ wh ⟨rfl, beh⟩
  have bqh := bq4.on beh
  have bph := bp4.on beh
  have sbh := sb4.trans (beh.mono sb4.size)
  refine ⟨_, rfl, ?_⟩
  refine WL.field rfl rfl rfl (f33_2 q2 0 _) ?_
  obtain ⟨w6, s6, bq6, f6⟩ := stPkH bqh (p := ⟨2, hlD c 2, Hd.z, .slice none 0 0⟩) ⟨hlk, Hd.z_ok⟩ (hdD c 2) hdk
  refine WL.store rfl rfl rfl s6 ?_
  have bp6 := bph.fx f6 (fun e => by omega)
  have sb6 := sbh.trans (f6.low (by omega) sbh.size)
  refine WL.done ?_
  refine EW.on ?_
  refine EW.seq ?_
  refine EW.region ?_
  first | refine WL.move rfl rfl rfl ?_
  first | refine WL.move rfl rfl rfl ?_
  refine WL.bin rfl rfl rfl rfl (int_add (c := ((2 + 60 : Nat) : Int)) (by decide) _ _ _) ?_
  first | refine WL.move rfl rfl rfl ?_
  refine WL.bin rfl rfl rfl rfl (int_add (c := ((2 + 62 : Nat) : Int)) (by decide) _ _ _) ?_
  refine WL.slice2 rfl rfl rfl rfl rfl (by rw [sl22]; exact hb.cutLH (2 + 60) (2 + 62) (by decide) (by omega) _) ?_
  refine WL.call [cutV vb (2 + 60) (2 + 62)] enter60 rfl rfl rfl (value_any _ (cutB c (2 + 60) 2) _ ((hb.below sb6).cut (2 + 60) (2 + 62) (by decide) (by omega)) (by rw [cutB_len (by omega)]; decide)) ?_
  rintro _ wz ⟨rfl, hz⟩
  rw [hz]
  clear hz
  refine ⟨_, rfl, ?_⟩
  refine WL.conv rfl rfl rfl (conv_u3 (numB_32 _ (by unfold cutB; rw [List.length_take]; omega)) _) ?_
  first | refine WL.assign rfl rfl rfl ?_
  refine WL.done ?_
  refine EW.on ?_
  refine EW.seq ?_
  refine EW.block ?_
  refine EW.seq ?_
  refine EW.region ?_
  refine WL.field rfl rfl rfl (f33_0 q2 0 _) ?_
  refine WL.load rfl rfl rfl (ldPkK bq6) ?_
  refine WL.field rfl rfl rfl (f33_1 q2 0 _) ?_
  refine WL.load rfl rfl rfl (ldPkL bq6 ⟨hlk, hdk⟩) ?_
  refine WL.call [.int .i64 2, (hlD c 2).v] enter57 rfl rfl rfl (hellos_any 2 _ hlk _) ?_
  rintro _ w7 ⟨rfl, be7⟩
  rw [hs]
  have bq7 := bq6.on be7
  have bp7 := bp6.on be7
  have sb7 := sb6.trans (be7.mono sb6.size)
  refine ⟨_, rfl, ?_⟩
  refine WL.un rfl rfl rfl (not_t _ _) ?_
  first | refine WL.assign rfl rfl rfl ?_
  refine WL.done ?_
  refine EW.on ?_
  refine EW.cond_f rfl ?_
  refine EW.seq ?_
  refine EW.region ?_
  first | refine WL.move rfl rfl rfl ?_
  first | refine WL.bin rfl rfl rfl rfl (int_lt_t ‹_› _ _ _) ?_ | refine WL.bin rfl rfl rfl rfl (int_lt_f ‹_› _ _ _) ?_ | refine WL.bin rfl rfl rfl rfl (int_lt_d _ _ _ _ _) ?_
  first | refine WL.assign rfl rfl rfl ?_
  refine WL.done ?_
  refine EW.on ?_
  refine EW.cond_f rfl ?_
  refine EW.seq ?_
  refine EW.region ?_
  first | refine WL.move rfl rfl rfl ?_
  first | refine WL.bin rfl rfl rfl rfl (int_gt_t ‹_› _ _ _) ?_ | refine WL.bin rfl rfl rfl rfl (int_gt_f ‹_› _ _ _) ?_ | refine WL.bin rfl rfl rfl rfl (int_gt_d _ _ _ _ _) ?_
  first | refine WL.assign rfl rfl rfl ?_
  refine WL.done ?_
  refine EW.on ?_
  refine EW.cond_f rfl ?_
  refine EW.seq ?_
  refine EW.region ?_
  first | refine WL.move rfl rfl rfl ?_
  refine WL.len rfl rfl rfl (hb.len _ _) ?_
  first | refine WL.move rfl rfl rfl ?_
  refine WL.bin rfl rfl rfl rfl (int_add (c := 64) (by decide) _ _ _) ?_
  first | refine WL.move rfl rfl rfl ?_
  refine WL.bin rfl rfl rfl rfl (int_add (c := ((64 + numB (cutB c (2 + 60) 2) : Nat) : Int)) (by rw [IntKind.wrap_i64]; omega) _ _ _) ?_
  first | refine WL.bin rfl rfl rfl rfl (int_lt_t ‹_› _ _ _) ?_ | refine WL.bin rfl rfl rfl rfl (int_lt_f ‹_› _ _ _) ?_ | refine WL.bin rfl rfl rfl rfl (int_lt_d _ _ _ _ _) ?_
  first | refine WL.assign rfl rfl rfl ?_
  refine WL.done ?_
  refine EW.on ?_
  refine EW.cond_f rfl ?_
  refine EW.seq ?_
  refine EW.region ?_
  first | refine WL.move rfl rfl rfl ?_
  refine WL.len rfl rfl rfl (hb.len _ _) ?_
  first | refine WL.move rfl rfl rfl ?_
  refine WL.bin rfl rfl rfl rfl (int_add (c := 64) (by decide) _ _ _) ?_
  first | refine WL.move rfl rfl rfl ?_
  refine WL.bin rfl rfl rfl rfl (int_add (c := ((64 + numB (cutB c (2 + 60) 2) : Nat) : Int)) (by rw [IntKind.wrap_i64]; omega) _ _ _) ?_
  first | refine WL.bin rfl rfl rfl rfl (int_gt_t ‹_› _ _ _) ?_ | refine WL.bin rfl rfl rfl rfl (int_gt_f ‹_› _ _ _) ?_ | refine WL.bin rfl rfl rfl rfl (int_gt_d _ _ _ _ _) ?_
  first | refine WL.assign rfl rfl rfl ?_
  refine WL.done ?_
  refine EW.on ?_
  refine EW.cond_t rfl ?_
  refine EW.region ?_
  first | refine WL.assign rfl rfl rfl ?_
  refine WL.done ?_
  refine pn_block ?_
  refine EW.on ?_
  refine EW.seq ?_
  refine EW.seq ?_
  refine EW.region ?_
  first | refine WL.move rfl rfl rfl ?_
  first | refine WL.bin rfl rfl rfl rfl (int_ne_f rfl _ _ _) ?_ | refine WL.bin rfl rfl rfl rfl (int_ne_t ‹_› _ _ _) ?_ | refine WL.bin rfl rfl rfl rfl (int_ne_f ‹_› _ _ _) ?_ | refine WL.bin rfl rfl rfl rfl (int_ne_t (by decide) _ _ _) ?_ | refine WL.bin rfl rfl rfl rfl (int_ne_d _ _ _ _ _) ?_
  refine WL.done ?_
  refine EW.on ?_
  refine EW.cond_t rfl ?_
  refine EW.seq ?_
  refine EW.region ?_
  refine WL.buildN [] rfl rfl rfl (bd33 _) ?_
  first | refine WL.move rfl rfl rfl ?_
  obtain ⟨we, se, bpe, fe⟩ := stPk bp7 Pk.z_ok Pk.z Pk.z_ok ⟨_, _, _, rfl⟩
  refine WL.store rfl rfl rfl se ?_
  have sbe := sb7.trans (fe.low (by omega) sb7.size)
  first | refine WL.assign rfl rfl rfl ?_
  refine WL.done ?_
  refine EW.on ?_
  refine EW.ret ?_
  refine pr_then ?_
  exact EW.returnsCT Try.results40 rfl rfl bpe Try.underlying33 rfl (i33 Pk.z_ok) ⟨rfl, sbe⟩
set_option maxRecDepth 100000 in
set_option maxHeartbeats 4000000 in
theorem unr_2o (vb : Value) (c : List UInt8) (w : World) (hb : Has w vb c) (hl : c.length ≤ 140737488355328) (hB : bgD c 1 2 = 0) (u : UInt8) (hu : c[1]? = some u) (hu1 : (u.toNat : Int) = 2) (h62 : ¬ (c.length : Int) < 64) (hs : decide (suitD 2 (hlD c 2)) = true) (hn : ¬ (numB (cutB c (2 + 60) 2) : Int) < 32) (hn2 : ¬ (544 : Int) < (numB (cutB c (2 + 60) 2) : Int)) (ht : ¬ (c.length : Int) < ((64 + numB (cutB c (2 + 60) 2) : Nat) : Int)) (ht2 : ¬ ((64 + numB (cutB c (2 + 60) 2) : Nat) : Int) < (c.length : Int)) : Calls Try.prog 40 #[vb] w fun e w' => ∃ vy, e = .returned (.tuple #[(Pk.mk 2 (hlD c 2) (hdD c 2) vy).v, .int .i64 (0)]) ∧ Ob w' w.heap.size vy (c.drop 64) ∧ Below w.heap.size w w' := by
  obtain ⟨w1, q1, r1, bp1, e1, hq1⟩ := new_any (t := 33) (cs := Pk.z.cs) zv33 w
  obtain ⟨w2, q2, r2, bq2, e2, hq2⟩ := new_any (t := 33) (cs := Pk.z.cs) zv33 w1
  have hs1 := e1.size
  have hq1l := bp1.lt
  have bp2 := bp1.on e2
  have sb2 := e1.trans (e2.mono e1.size)
  obtain ⟨adu, iu, lu0⟩ := hb.item hu
  have lu : ∀ W, Below w.heap.size w W → (Instr.loadAt 5 (.pointer (some adu))).run Try.prog W = .ok (byt u) W := fun W hW => by
    obtain ⟨ad2, iu2, lu2⟩ := (hb.below hW).item hu
    have e : ad2 = adu := by
      have h1 := (iu W).symm.trans (iu2 W)
      simp only [Result.ok.injEq, Value.pointer.injEq, Option.some.injEq, and_true] at h1
      exact h1.symm
    rw [e] at lu2
    exact lu2
  have hlk : (hlD c 2).ok := Hl.z_ok
  have hdk : (hdD c 2).ok := ⟨cutB_len (by omega), numc_lt, cutB_len (by omega), numc_lt, numc_lt⟩
  have hnl : numB (cutB c (2 + 60) 2) < 65536 := numB_lt _ (by unfold cutB; rw [List.length_take]; omega)
  refine calls_of_args [vb] Try.func40 rfl 94 Try.ntmps40 (by show 1 ≤ 94; decide) ?_
  refine EW.seq ?_
  refine EW.region ?_
  refine WL.new rfl rfl r1 ?_
  first | refine WL.assign rfl rfl rfl ?_
  refine WL.done ?_
  refine EW.on ?_
  refine EW.seq ?_
  refine EW.region ?_
  refine WL.new rfl rfl r2 ?_
  refine WL.done ?_
  refine EW.on ?_
  refine EW.seq ?_
  refine EW.region ?_
  first | refine WL.move rfl rfl rfl ?_
  refine WL.call [vb, .int .i64 1, .int .i64 2] enter58 rfl rfl rfl (begun_any vb c 1 2 _ (hb.below sb2)) ?_
  rintro _ wz ⟨rfl, hz⟩
  rw [hz]
  clear hz
  rw [hB]
  refine ⟨_, rfl, ?_⟩
  first | refine WL.assign rfl rfl rfl ?_
  refine WL.done ?_
  refine EW.on ?_
  refine EW.seq ?_
  refine EW.seq ?_
  refine EW.region ?_
  first | refine WL.move rfl rfl rfl ?_
  first | refine WL.bin rfl rfl rfl rfl (int_ne_f rfl _ _ _) ?_ | refine WL.bin rfl rfl rfl rfl (int_ne_t ‹_› _ _ _) ?_ | refine WL.bin rfl rfl rfl rfl (int_ne_f ‹_› _ _ _) ?_ | refine WL.bin rfl rfl rfl rfl (int_ne_t (by decide) _ _ _) ?_ | refine WL.bin rfl rfl rfl rfl (int_ne_d _ _ _ _ _) ?_
  refine WL.done ?_
  refine EW.on ?_
  refine EW.cond_f rfl ?_
  refine EW.skip ?_
  refine EW.on ?_
  refine EW.seq ?_
  refine EW.region ?_
  first | refine WL.assign rfl rfl rfl ?_
  refine WL.done ?_
  refine EW.on ?_
  refine EW.seq ?_
  refine EW.seq ?_
  refine EW.region ?_
  first | refine WL.move rfl rfl rfl ?_
  refine WL.index rfl rfl rfl rfl (iu _) ?_
  refine WL.load rfl rfl rfl (lu _ sb2) ?_
  refine WL.conv rfl rfl rfl (conv_53 u _) ?_
  rw [hu1]
  refine WL.bin rfl rfl rfl rfl (int_eq_f (by decide) _ _ _) ?_
  refine WL.done ?_
  refine EW.on ?_
  refine EW.cond_f rfl ?_
  refine EW.skip ?_
  refine EW.on ?_
  refine EW.seq ?_
  refine EW.seq ?_
  refine EW.region ?_
  first | refine WL.move rfl rfl rfl ?_
  refine WL.len rfl rfl rfl (hb.len _ _) ?_
  first | refine WL.move rfl rfl rfl ?_
  refine WL.bin rfl rfl rfl rfl (int_add (c := 64) (by decide) _ _ _) ?_
  first | refine WL.bin rfl rfl rfl rfl (int_lt_t ‹_› _ _ _) ?_ | refine WL.bin rfl rfl rfl rfl (int_lt_f ‹_› _ _ _) ?_ | refine WL.bin rfl rfl rfl rfl (int_lt_d _ _ _ _ _) ?_
  refine WL.done ?_
  refine EW.on ?_
  refine EW.cond_f rfl ?_
  refine EW.skip ?_
  refine EW.on ?_
  refine EW.seq ?_
  refine EW.region ?_
  first | refine WL.move rfl rfl rfl ?_
  refine WL.index rfl rfl rfl rfl (iu _) ?_
  refine WL.load rfl rfl rfl (lu _ sb2) ?_
  refine WL.conv rfl rfl rfl (conv_53 u _) ?_
  rw [hu1]
  refine WL.field rfl rfl rfl (f33_0 q2 0 _) ?_
  obtain ⟨w4, s4, bq4, f4⟩ := stPkK bq2 2
  refine WL.store rfl rfl rfl s4 ?_
  have bp4 := bp2.fx f4 (fun e => by omega)
  have sb4 := sb2.trans (f4.low (by omega) sb2.size)
  refine WL.done ?_
  refine EW.on ?_
  refine EW.seq ?_
  refine EW.seq ?_
  refine EW.region ?_
  refine WL.field rfl rfl rfl (f33_0 q2 0 _) ?_
  refine WL.load rfl rfl rfl (ldPkK bq4) ?_
  refine WL.bin rfl rfl rfl rfl (int_eq_f (by decide) _ _ _) ?_
  refine WL.done ?_
  refine EW.on ?_
  refine EW.cond_f rfl ?_
  refine EW.skip ?_
  refine EW.on ?_
  refine EW.seq ?_
  refine EW.region ?_
  first | refine WL.move rfl rfl rfl ?_
  first | refine WL.move rfl rfl rfl ?_
  refine WL.call [vb, .int .i64 2] enter61 rfl rfl rfl (headr_any vb c 2 _ (hb.below sb4) (by omega) hl) ?_
  rintro _ wh ⟨rfl, beh⟩
  have bqh := bq4.on beh
  have bph := bp4.on beh
  have sbh := sb4.trans (beh.mono sb4.size)
  refine ⟨_, rfl, ?_⟩
  refine WL.field rfl rfl rfl (f33_2 q2 0 _) ?_
  obtain ⟨w6, s6, bq6, f6⟩ := stPkH bqh (p := ⟨2, hlD c 2, Hd.z, .slice none 0 0⟩) ⟨hlk, Hd.z_ok⟩ (hdD c 2) hdk
  refine WL.store rfl rfl rfl s6 ?_
  have bp6 := bph.fx f6 (fun e => by omega)
  have sb6 := sbh.trans (f6.low (by omega) sbh.size)
  refine WL.done ?_
  refine EW.on ?_
  refine EW.seq ?_
  refine EW.region ?_
  first | refine WL.move rfl rfl rfl ?_
  first | refine WL.move rfl rfl rfl ?_
  refine WL.bin rfl rfl rfl rfl (int_add (c := ((2 + 60 : Nat) : Int)) (by decide) _ _ _) ?_
  first | refine WL.move rfl rfl rfl ?_
  refine WL.bin rfl rfl rfl rfl (int_add (c := ((2 + 62 : Nat) : Int)) (by decide) _ _ _) ?_
  refine WL.slice2 rfl rfl rfl rfl rfl (by rw [sl22]; exact hb.cutLH (2 + 60) (2 + 62) (by decide) (by omega) _) ?_
  refine WL.call [cutV vb (2 + 60) (2 + 62)] enter60 rfl rfl rfl (value_any _ (cutB c (2 + 60) 2) _ ((hb.below sb6).cut (2 + 60) (2 + 62) (by decide) (by omega)) (by rw [cutB_len (by omega)]; decide)) ?_
  rintro _ wz ⟨rfl, hz⟩
  rw [hz]
  clear hz
  refine ⟨_, rfl, ?_⟩
  refine WL.conv rfl rfl rfl (conv_u3 (numB_32 _ (by unfold cutB; rw [List.length_take]; omega)) _) ?_
  first | refine WL.assign rfl rfl rfl ?_
  refine WL.done ?_
  refine EW.on ?_
  refine EW.seq ?_
  refine EW.block ?_
  refine EW.seq ?_
  refine EW.region ?_
  refine WL.field rfl rfl rfl (f33_0 q2 0 _) ?_
  refine WL.load rfl rfl rfl (ldPkK bq6) ?_
  refine WL.field rfl rfl rfl (f33_1 q2 0 _) ?_
  refine WL.load rfl rfl rfl (ldPkL bq6 ⟨hlk, hdk⟩) ?_
  refine WL.call [.int .i64 2, (hlD c 2).v] enter57 rfl rfl rfl (hellos_any 2 _ hlk _) ?_
  rintro _ w7 ⟨rfl, be7⟩
  rw [hs]
  have bq7 := bq6.on be7
  have bp7 := bp6.on be7
  have sb7 := sb6.trans (be7.mono sb6.size)
  refine ⟨_, rfl, ?_⟩
  refine WL.un rfl rfl rfl (not_t _ _) ?_
  first | refine WL.assign rfl rfl rfl ?_
  refine WL.done ?_
  refine EW.on ?_
  refine EW.cond_f rfl ?_
  refine EW.seq ?_
  refine EW.region ?_
  first | refine WL.move rfl rfl rfl ?_
  first | refine WL.bin rfl rfl rfl rfl (int_lt_t ‹_› _ _ _) ?_ | refine WL.bin rfl rfl rfl rfl (int_lt_f ‹_› _ _ _) ?_ | refine WL.bin rfl rfl rfl rfl (int_lt_d _ _ _ _ _) ?_
  first | refine WL.assign rfl rfl rfl ?_
  refine WL.done ?_
  refine EW.on ?_
  refine EW.cond_f rfl ?_
  refine EW.seq ?_
  refine EW.region ?_
  first | refine WL.move rfl rfl rfl ?_
  first | refine WL.bin rfl rfl rfl rfl (int_gt_t ‹_› _ _ _) ?_ | refine WL.bin rfl rfl rfl rfl (int_gt_f ‹_› _ _ _) ?_ | refine WL.bin rfl rfl rfl rfl (int_gt_d _ _ _ _ _) ?_
  first | refine WL.assign rfl rfl rfl ?_
  refine WL.done ?_
  refine EW.on ?_
  refine EW.cond_f rfl ?_
  refine EW.seq ?_
  refine EW.region ?_
  first | refine WL.move rfl rfl rfl ?_
  refine WL.len rfl rfl rfl (hb.len _ _) ?_
  first | refine WL.move rfl rfl rfl ?_
  refine WL.bin rfl rfl rfl rfl (int_add (c := 64) (by decide) _ _ _) ?_
  first | refine WL.move rfl rfl rfl ?_
  refine WL.bin rfl rfl rfl rfl (int_add (c := ((64 + numB (cutB c (2 + 60) 2) : Nat) : Int)) (by rw [IntKind.wrap_i64]; omega) _ _ _) ?_
  first | refine WL.bin rfl rfl rfl rfl (int_lt_t ‹_› _ _ _) ?_ | refine WL.bin rfl rfl rfl rfl (int_lt_f ‹_› _ _ _) ?_ | refine WL.bin rfl rfl rfl rfl (int_lt_d _ _ _ _ _) ?_
  first | refine WL.assign rfl rfl rfl ?_
  refine WL.done ?_
  refine EW.on ?_
  refine EW.cond_f rfl ?_
  refine EW.seq ?_
  refine EW.region ?_
  first | refine WL.move rfl rfl rfl ?_
  refine WL.len rfl rfl rfl (hb.len _ _) ?_
  first | refine WL.move rfl rfl rfl ?_
  refine WL.bin rfl rfl rfl rfl (int_add (c := 64) (by decide) _ _ _) ?_
  first | refine WL.move rfl rfl rfl ?_
  refine WL.bin rfl rfl rfl rfl (int_add (c := ((64 + numB (cutB c (2 + 60) 2) : Nat) : Int)) (by rw [IntKind.wrap_i64]; omega) _ _ _) ?_
  first | refine WL.bin rfl rfl rfl rfl (int_gt_t ‹_› _ _ _) ?_ | refine WL.bin rfl rfl rfl rfl (int_gt_f ‹_› _ _ _) ?_ | refine WL.bin rfl rfl rfl rfl (int_gt_d _ _ _ _ _) ?_
  first | refine WL.assign rfl rfl rfl ?_
  refine WL.done ?_
  refine EW.on ?_
  refine EW.cond_f rfl ?_
  refine EW.skip ?_
  refine pn_block ?_
  refine EW.on ?_
  refine EW.seq ?_
  refine EW.seq ?_
  refine EW.region ?_
  first | refine WL.move rfl rfl rfl ?_
  first | refine WL.bin rfl rfl rfl rfl (int_ne_f rfl _ _ _) ?_ | refine WL.bin rfl rfl rfl rfl (int_ne_t ‹_› _ _ _) ?_ | refine WL.bin rfl rfl rfl rfl (int_ne_f ‹_› _ _ _) ?_ | refine WL.bin rfl rfl rfl rfl (int_ne_t (by decide) _ _ _) ?_ | refine WL.bin rfl rfl rfl rfl (int_ne_d _ _ _ _ _) ?_
  refine WL.done ?_
  refine EW.on ?_
  refine EW.cond_f rfl ?_
  refine EW.skip ?_
  refine EW.on ?_
  refine EW.seq ?_
  refine EW.region ?_
  first | refine WL.move rfl rfl rfl ?_
  first | refine WL.move rfl rfl rfl ?_
  refine WL.bin rfl rfl rfl rfl (int_add (c := ((2 + 62 : Nat) : Int)) (by decide) _ _ _) ?_
  refine WL.sliceL rfl rfl rfl rfl (by rw [sl22]; exact hb.cutL (2 + 62) (by omega) _) ?_
  obtain ⟨vy, w8, ap, oy8, bep⟩ := app_nil ((hb.below sb7).cut (2 + 62) c.length (by omega) (Nat.le_refl _)) (by simp; omega) 31
  refine WL.app rfl rfl rfl rfl ap ?_
  have bq8 := bq7.on bep
  have bp8 := bp7.on bep
  have sb8 := sb7.trans (bep.mono sb7.size)
  refine WL.field rfl rfl rfl (f33_3 q2 0 _) ?_
  obtain ⟨w9, s9, bq9, f9⟩ := stPkB bq8 ⟨hlk, hdk⟩ vy oy8.has.sl
  refine WL.store rfl rfl rfl s9 ?_
  have bp9 := bp8.fx f9 (fun e => by omega)
  have sb9 := sb8.trans (f9.low (by omega) sb8.size)
  have oy9 := oy8.fx f9 (fun k hk e => by have hk : k = q2 := hk; have := oy8.base k e; have := bq7.lt; omega)
  refine WL.done ?_
  refine EW.on ?_
  refine EW.seq ?_
  refine EW.region ?_
  refine WL.load rfl rfl rfl (ldPk bq9 ⟨hlk, hdk⟩) ?_
  obtain ⟨we, se, bpe, fe⟩ := stPk bp9 Pk.z_ok ⟨2, hlD c 2, hdD c 2, vy⟩ ⟨hlk, hdk⟩ oy9.has.sl
  refine WL.store rfl rfl rfl se ?_
  have sbe := sb9.trans (fe.low (by omega) sb9.size)
  first | refine WL.assign rfl rfl rfl ?_
  refine WL.done ?_
  refine EW.on ?_
  refine EW.ret ?_
  exact EW.returnsCT Try.results40 rfl rfl bpe Try.underlying33 rfl (i33 ⟨hlk, hdk⟩) ⟨vy, rfl, (by have h := (oy9.fx fe (fun k hk e => by have hk : k = q1 := hk; have := oy9.base k e; have := bp7.lt; omega)).lower sb7.size; rw [show (c.drop (2 + 62)).take (c.length - (2 + 62)) = c.drop 64 from List.take_of_length_le (by rw [List.length_drop]; omega)] at h; exact h), sbe⟩
end Go.Proofs.Ytobfebpinkikdaa
