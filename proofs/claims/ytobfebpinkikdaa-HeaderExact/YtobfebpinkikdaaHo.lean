import Derived.Test.YtobfebpinkikdaaHnG
set_option linter.unusedVariables false
set_option linter.unusedSimpArgs false
namespace Go.Proofs.Ytobfebpinkikdaa
open Go.RowKit

def helR (c : List UInt8) (s : Nat × Int) : Hl := ⟨keyR c s, keyR c (rS c 32 s), numB (rB c 4 (rS c 32 (rS c 32 s)))⟩
def helS (c : List UInt8) (s : Nat × Int) : Nat × Int := rS c 4 (rS c 32 (rS c 32 s))
theorem helR_ok (c : List UInt8) (s : Nat × Int) : (helR c s).ok := ⟨keyR_len _ _, keyR_len _ _, numB_32 _ (rB_len _ _ _)⟩
def sidR (c : List UInt8) (s : Nat × Int) : List UInt8 := padR z16 (rB c 16 s)
theorem sidR_len (c : List UInt8) (s : Nat × Int) : (sidR c s).length = 16 := padR_len _ _
def hedR (c : List UInt8) (s : Nat × Int) : Hd := ⟨sidR c s, numB (rB c 4 (rS c 16 s)), keyR c (rS c 4 (rS c 16 s)), numB (rB c 4 (rS c 32 (rS c 4 (rS c 16 s)))), numB (rB c 4 (rS c 4 (rS c 32 (rS c 4 (rS c 16 s)))))⟩
def hedS (c : List UInt8) (s : Nat × Int) : Nat × Int := (rS c 4 (rS c 4 (rS c 32 (rS c 4 (rS c 16 s)))))
theorem hedR_ok (c : List UInt8) (s : Nat × Int) : (hedR c s).ok := ⟨sidR_len _ _, numB_32 _ (rB_len _ _ _), keyR_len _ _, numB_32 _ (rB_len _ _ _), numB_32 _ (rB_len _ _ _)⟩
set_option maxRecDepth 100000 in
set_option maxHeartbeats 4000000 in
theorem rhello_any (q : Nat) (v : Value) (c : List UInt8) (s : Nat × Int) (w : World) (hr : Rd w q v c s.1 s.2) (hl : c.length ≤ 140737488355328) : Calls Try.prog 49 #[.pointer (some ⟨q, 0, none⟩)] w fun e w' => e = .returned (helR c s).v ∧ Rd w' q v c (helS c s).1 (helS c s).2 ∧ Fx (fun k => k = q) w w' := by
  obtain ⟨w1, q1, r1, bx1, e1, hq1⟩ := new_any (t := 26) (cs := Hl.z.cs) zv26 w
  obtain ⟨w2, q2, r2, bx2, e2, hq2⟩ := new_any (t := 26) (cs := Hl.z.cs) zv26 w1
  have l1 := e1.size
  have l2 := e2.size
  have hq1' := bx1.lt
  have hqw := hr.bl.lt
  have by2 := bx1.on e2
  have rd2 := (hr.below e1).below e2
  have hoq2 : Off v c q2 := (hr.below e1).off (by omega)
  have hoq1 : Off v c q1 := hr.off (by omega)
  have fx2 : Fx (fun k => k = q ∨ k = q2) w2 w2 := Fx.refl _ _
  refine calls_of_args [.pointer (some ⟨q, 0, none⟩)] Try.func49 rfl 14 Try.ntmps49 (by show 1 ≤ 14; decide) ?_
  refine EW.seq ?_
  refine EW.region ?_
  refine WL.new rfl rfl r1 ?_
  refine WL.done ?_
  refine EW.on ?_
  refine EW.seq ?_
  refine EW.region ?_
  refine WL.new rfl rfl r2 ?_
  refine WL.done ?_
  refine EW.on ?_
  refine EW.seq ?_
  refine EW.region ?_
  first | refine WL.move rfl rfl rfl ?_
  refine WL.call [.pointer (some ⟨q, 0, none⟩)] enter32 rfl rfl rfl (rkey_any q v c s _ rd2 hl) ?_
  rintro _ wc2 ⟨rfl, rc2, fc2⟩
  have bc2 := bx2.fx fc2 (fun e => by omega)
  refine ⟨_, rfl, ?_⟩
  refine WL.field rfl rfl rfl (f26_0 q2 0 _) ?_
  obtain ⟨w3, st3, b3, f3⟩ := bc2.stA (o := 0) (a := []) (b := ((z32.map byt) ++ [u32v (0)])) (m := (z32).map byt) (ty := 23) (vs := (keyR c s).map byt) (i23 (keyR_len _ _)) (byts_one' _) (by simp [Hl.cs, Hl.z]) (by simp [keyR_len, sidR_len]) (by simp [keyR_len, z32])
  refine WL.store rfl rfl rfl st3 ?_
  have bx3 : Blk w3 q2 (Hl.cs ⟨(keyR c s), z32, 0⟩) 26 := by simpa [Hl.cs] using b3
  have rd3 := rc2.fx f3 (by omega) hoq2
  have by3 := (by2.fx fc2 (fun e => by omega)).fx f3 (fun e => by omega)
  have fx3 := (fx2.trans fc2 (fun k _ e => .inl e)).trans f3 (fun k _ e => .inr e)
  refine WL.done ?_
  refine EW.on ?_
  refine EW.seq ?_
  refine EW.region ?_
  first | refine WL.move rfl rfl rfl ?_
  refine WL.call [.pointer (some ⟨q, 0, none⟩)] enter32 rfl rfl rfl (rkey_any q v c (rS c 32 s) _ rd3 hl) ?_
  rintro _ wc3 ⟨rfl, rc3, fc3⟩
  have bc3 := bx3.fx fc3 (fun e => by omega)
  refine ⟨_, rfl, ?_⟩
  refine WL.field rfl rfl rfl (f26_1 q2 0 _) ?_
  obtain ⟨w4, st4, b4, f4⟩ := bc3.stA (o := 32) (a := ((keyR c s).map byt)) (b := [u32v (0)]) (m := (z32).map byt) (ty := 23) (vs := (keyR c (rS c 32 s)).map byt) (i23 (keyR_len _ _)) (byts_one' _) (by simp [Hl.cs, Hl.z]) (by simp [keyR_len, sidR_len]) (by simp [keyR_len, z32])
  refine WL.store rfl rfl rfl st4 ?_
  have bx4 : Blk w4 q2 (Hl.cs ⟨(keyR c s), (keyR c (rS c 32 s)), 0⟩) 26 := by simpa [Hl.cs] using b4
  have rd4 := rc3.fx f4 (by omega) hoq2
  have by4 := (by3.fx fc3 (fun e => by omega)).fx f4 (fun e => by omega)
  have fx4 := (fx3.trans fc3 (fun k _ e => .inl e)).trans f4 (fun k _ e => .inr e)
  refine WL.done ?_
  refine EW.on ?_
  refine EW.seq ?_
  refine EW.region ?_
  first | refine WL.move rfl rfl rfl ?_
  refine WL.call [.pointer (some ⟨q, 0, none⟩)] enter33 rfl rfl rfl (rn4_any q v c (rS c 32 (rS c 32 s)) _ rd4 hl) ?_
  rintro _ wc4 ⟨rfl, rc4, fc4⟩
  have bc4 := bx4.fx fc4 (fun e => by omega)
  refine ⟨_, rfl, ?_⟩
  refine WL.field rfl rfl rfl (f26_2 q2 0 _) ?_
  obtain ⟨w5, st5, b5, f5⟩ := bc4.stU (o := 64) (x := u32v (0)) (a := (((keyR c s).map byt) ++ ((keyR c (rS c 32 s)).map byt))) (b := []) (by simp [Hl.cs, Hl.z]) (by simp [keyR_len, sidR_len]) (numB (rB c 4 (rS c 32 (rS c 32 s))))
  refine WL.store rfl rfl rfl st5 ?_
  have bx5 : Blk w5 q2 (Hl.cs ⟨(keyR c s), (keyR c (rS c 32 s)), (numB (rB c 4 (rS c 32 (rS c 32 s))))⟩) 26 := by simpa [Hl.cs] using b5
  have rd5 := rc4.fx f5 (by omega) hoq2
  have by5 := (by4.fx fc4 (fun e => by omega)).fx f5 (fun e => by omega)
  have fx5 := (fx4.trans fc4 (fun k _ e => .inl e)).trans f5 (fun k _ e => .inr e)
  refine WL.done ?_
  refine EW.on ?_
  refine EW.seq ?_
  refine EW.region ?_
  refine WL.load rfl rfl rfl (ldHl (h := helR c s) bx5 (helR_ok c s)) ?_
  obtain ⟨w9, s9, b9, f9⟩ := by5.stA (o := 0) (a := []) (b := []) (m := Hl.z.cs) (ty := 26) (vs := (helR c s).cs) (i26 (helR_ok c s)) ((helR c s).one) (by simp) rfl (by rw [Hl.len Hl.z_ok, Hl.len (helR_ok c s)])
  refine WL.store rfl rfl rfl s9 ?_
  refine WL.done ?_
  refine EW.on ?_
  refine EW.ret ?_
  refine EW.returnsC Try.results49 rfl b9 Try.underlying26 rfl (by simpa using i26 (helR_ok c s)) ⟨by simp [Hl.v], rd5.fx f9 (by omega) hoq1, ?_⟩
  refine ((Fx.of_below (S := fun k => k = q) (e1.trans (e2.mono l1))).trans fx5 (fun k hk e => ?_)).trans f9 (fun k hk e => ?_)
  · rcases e with e | e
    · exact e
    · omega
  · have e : k = q1 := e
    omega
set_option maxRecDepth 100000 in
set_option maxHeartbeats 4000000 in
theorem rheader_any (q : Nat) (v : Value) (c : List UInt8) (s : Nat × Int) (w : World) (hr : Rd w q v c s.1 s.2) (hl : c.length ≤ 140737488355328) : Calls Try.prog 50 #[.pointer (some ⟨q, 0, none⟩)] w fun e w' => e = .returned (hedR c s).v ∧ Rd w' q v c (hedS c s).1 (hedS c s).2 ∧ Fx (fun k => k = q) w w' := by
  obtain ⟨w1, q1, r1, bx1, e1, hq1⟩ := new_any (t := 30) (cs := Hd.z.cs) zv30 w
  obtain ⟨w2, q2, r2, bx2, e2, hq2⟩ := new_any (t := 30) (cs := Hd.z.cs) zv30 w1
  have l1 := e1.size
  have l2 := e2.size
  have hq1' := bx1.lt
  have hqw := hr.bl.lt
  have by2 := bx1.on e2
  have rd2 := (hr.below e1).below e2
  have hoq2 : Off v c q2 := (hr.below e1).off (by omega)
  have hoq1 : Off v c q1 := hr.off (by omega)
  have fx2 : Fx (fun k => k = q ∨ k = q2) w2 w2 := Fx.refl _ _
  refine calls_of_args [.pointer (some ⟨q, 0, none⟩)] Try.func50 rfl 22 Try.ntmps50 (by show 1 ≤ 22; decide) ?_
  refine EW.seq ?_
  refine EW.region ?_
  refine WL.new rfl rfl r1 ?_
  refine WL.done ?_
  refine EW.on ?_
  refine EW.seq ?_
  refine EW.region ?_
  refine WL.new rfl rfl r2 ?_
  refine WL.done ?_
  refine EW.on ?_
  refine EW.seq ?_
  refine EW.ordB [(0, 0, 0), (1, 0, 0), (2, 0, 0), (3, 1, 0), (4, 1, 0)] (by kernel_rfl) rfl (by kernel_rfl) ?_
  simp only [opsZ, List.getD_cons_zero, List.getD_cons_succ]
  refine ZE.field rfl rfl rfl rfl sz0 (fun W => f30_0 q2 0 W) ?_
  refine ZE.slice0 rfl rfl rfl rfl sz0 (fun W => sl28 q2 0 W) ?_
  first | refine ZE.move rfl rfl rfl rfl sz0 ?_
  refine ZE.callR [.pointer (some ⟨q, 0, none⟩), .int .i64 16] (fun u W => Ob W w2.heap.size u (rB c 16 s) ∧ Rd W q v c (rS c 16 s).1 (rS c 16 s).2 ∧ Fx (fun k => k = q) w2 W) enter28 rfl rfl rfl (fun _ _ _ => .inl rfl) (fun W hW => (rfix_any q 16 v c s W (rd2.below hW) hl (by decide)).mono fun e w' ⟨u, g1, g2, g3, g4⟩ => ⟨u, g1, g2.lower hW.size, g3, (Fx.of_below hW).and g4⟩) ?_
  rintro vr ⟨_, _⟩
  refine ZE.copy (fun x W => Blk W q2 (Hd.cs ⟨(sidR c s), 0, z32, 0, 0⟩) 30 ∧ Blk W q1 Hd.z.cs 30 ∧ Rd W q v c (rS c 16 s).1 (rS c 16 s).2 ∧ Fx (fun k => k = q ∨ k = q2) w2 W) rfl rfl rfl rfl (fun _ _ _ => .inl rfl) ?_ ?_
  · rintro W ⟨g1, g2, g3⟩
    obtain ⟨x, W2, c1, c2, c3⟩ := cpB (a := []) (Z := z16) (off := 0) (bx2.fx g3 (fun e => by omega)) (by simp [Hd.cs, Hd.z]; rfl) rfl 16 g1.has 3
    refine ⟨_, W2, c1, by simpa [Hd.cs, sidR] using c2, (by2.fx g3 (fun e => by omega)).fx c3 (fun e => by omega), g2.fx c3 (by omega) hoq2, (g3.mono (fun k _ e => .inl e)).trans c3 (fun k _ e => .inr e)⟩
  rintro vc ⟨_, _⟩
  rintro w3 ⟨bx3, by3, rd3, fx3⟩
  refine EW.on ?_
  refine EW.seq ?_
  refine EW.region ?_
  first | refine WL.move rfl rfl rfl ?_
  refine WL.call [.pointer (some ⟨q, 0, none⟩)] enter33 rfl rfl rfl (rn4_any q v c (rS c 16 s) _ rd3 hl) ?_
  rintro _ wc3 ⟨rfl, rc3, fc3⟩
  have bc3 := bx3.fx fc3 (fun e => by omega)
  refine ⟨_, rfl, ?_⟩
  refine WL.field rfl rfl rfl (f30_1 q2 0 _) ?_
  obtain ⟨w4, st4, b4, f4⟩ := bc3.stU (o := 16) (x := u32v (0)) (a := ((sidR c s).map byt)) (b := ((z32.map byt) ++ ([u32v (0)] ++ [u32v (0)]))) (by simp [Hd.cs, Hd.z]) (by simp [keyR_len, sidR_len]) (numB (rB c 4 (rS c 16 s)))
  refine WL.store rfl rfl rfl st4 ?_
  have bx4 : Blk w4 q2 (Hd.cs ⟨(sidR c s), (numB (rB c 4 (rS c 16 s))), z32, 0, 0⟩) 30 := by simpa [Hd.cs] using b4
  have rd4 := rc3.fx f4 (by omega) hoq2
  have by4 := (by3.fx fc3 (fun e => by omega)).fx f4 (fun e => by omega)
  have fx4 := (fx3.trans fc3 (fun k _ e => .inl e)).trans f4 (fun k _ e => .inr e)
  refine WL.done ?_
  refine EW.on ?_
  refine EW.seq ?_
  refine EW.region ?_
  first | refine WL.move rfl rfl rfl ?_
  refine WL.call [.pointer (some ⟨q, 0, none⟩)] enter32 rfl rfl rfl (rkey_any q v c (rS c 4 (rS c 16 s)) _ rd4 hl) ?_
  rintro _ wc4 ⟨rfl, rc4, fc4⟩
  have bc4 := bx4.fx fc4 (fun e => by omega)
  refine ⟨_, rfl, ?_⟩
  refine WL.field rfl rfl rfl (f30_2 q2 0 _) ?_
  obtain ⟨w5, st5, b5, f5⟩ := bc4.stA (o := 17) (a := (((sidR c s).map byt) ++ [u32v ((numB (rB c 4 (rS c 16 s))))])) (b := ([u32v (0)] ++ [u32v (0)])) (m := (z32).map byt) (ty := 23) (vs := (keyR c (rS c 4 (rS c 16 s))).map byt) (i23 (keyR_len _ _)) (byts_one' _) (by simp [Hd.cs, Hd.z]) (by simp [keyR_len, sidR_len]) (by simp [keyR_len, z32])
  refine WL.store rfl rfl rfl st5 ?_
  have bx5 : Blk w5 q2 (Hd.cs ⟨(sidR c s), (numB (rB c 4 (rS c 16 s))), (keyR c (rS c 4 (rS c 16 s))), 0, 0⟩) 30 := by simpa [Hd.cs] using b5
  have rd5 := rc4.fx f5 (by omega) hoq2
  have by5 := (by4.fx fc4 (fun e => by omega)).fx f5 (fun e => by omega)
  have fx5 := (fx4.trans fc4 (fun k _ e => .inl e)).trans f5 (fun k _ e => .inr e)
  refine WL.done ?_
  refine EW.on ?_
  refine EW.seq ?_
  refine EW.region ?_
  first | refine WL.move rfl rfl rfl ?_
  refine WL.call [.pointer (some ⟨q, 0, none⟩)] enter33 rfl rfl rfl (rn4_any q v c (rS c 32 (rS c 4 (rS c 16 s))) _ rd5 hl) ?_
  rintro _ wc5 ⟨rfl, rc5, fc5⟩
  have bc5 := bx5.fx fc5 (fun e => by omega)
  refine ⟨_, rfl, ?_⟩
  refine WL.field rfl rfl rfl (f30_3 q2 0 _) ?_
  obtain ⟨w6, st6, b6, f6⟩ := bc5.stU (o := 49) (x := u32v (0)) (a := (((sidR c s).map byt) ++ ([u32v ((numB (rB c 4 (rS c 16 s))))] ++ ((keyR c (rS c 4 (rS c 16 s))).map byt)))) (b := [u32v (0)]) (by simp [Hd.cs, Hd.z]) (by simp [keyR_len, sidR_len]) (numB (rB c 4 (rS c 32 (rS c 4 (rS c 16 s)))))
  refine WL.store rfl rfl rfl st6 ?_
  have bx6 : Blk w6 q2 (Hd.cs ⟨(sidR c s), (numB (rB c 4 (rS c 16 s))), (keyR c (rS c 4 (rS c 16 s))), (numB (rB c 4 (rS c 32 (rS c 4 (rS c 16 s))))), 0⟩) 30 := by simpa [Hd.cs] using b6
  have rd6 := rc5.fx f6 (by omega) hoq2
  have by6 := (by5.fx fc5 (fun e => by omega)).fx f6 (fun e => by omega)
  have fx6 := (fx5.trans fc5 (fun k _ e => .inl e)).trans f6 (fun k _ e => .inr e)
  refine WL.done ?_
  refine EW.on ?_
  refine EW.seq ?_
  refine EW.region ?_
  first | refine WL.move rfl rfl rfl ?_
  refine WL.call [.pointer (some ⟨q, 0, none⟩)] enter33 rfl rfl rfl (rn4_any q v c (rS c 4 (rS c 32 (rS c 4 (rS c 16 s)))) _ rd6 hl) ?_
  rintro _ wc6 ⟨rfl, rc6, fc6⟩
  have bc6 := bx6.fx fc6 (fun e => by omega)
  refine ⟨_, rfl, ?_⟩
  refine WL.field rfl rfl rfl (f30_4 q2 0 _) ?_
  obtain ⟨w7, st7, b7, f7⟩ := bc6.stU (o := 50) (x := u32v (0)) (a := (((sidR c s).map byt) ++ ([u32v ((numB (rB c 4 (rS c 16 s))))] ++ (((keyR c (rS c 4 (rS c 16 s))).map byt) ++ [u32v ((numB (rB c 4 (rS c 32 (rS c 4 (rS c 16 s))))))])))) (b := []) (by simp [Hd.cs, Hd.z]) (by simp [keyR_len, sidR_len]) (numB (rB c 4 (rS c 4 (rS c 32 (rS c 4 (rS c 16 s))))))
  refine WL.store rfl rfl rfl st7 ?_
  have bx7 : Blk w7 q2 (Hd.cs ⟨(sidR c s), (numB (rB c 4 (rS c 16 s))), (keyR c (rS c 4 (rS c 16 s))), (numB (rB c 4 (rS c 32 (rS c 4 (rS c 16 s))))), (numB (rB c 4 (rS c 4 (rS c 32 (rS c 4 (rS c 16 s))))))⟩) 30 := by simpa [Hd.cs] using b7
  have rd7 := rc6.fx f7 (by omega) hoq2
  have by7 := (by6.fx fc6 (fun e => by omega)).fx f7 (fun e => by omega)
  have fx7 := (fx6.trans fc6 (fun k _ e => .inl e)).trans f7 (fun k _ e => .inr e)
  refine WL.done ?_
  refine EW.on ?_
  refine EW.seq ?_
  refine EW.region ?_
  refine WL.load rfl rfl rfl (ldHd (h := hedR c s) bx7 (hedR_ok c s)) ?_
  obtain ⟨w9, s9, b9, f9⟩ := by7.stA (o := 0) (a := []) (b := []) (m := Hd.z.cs) (ty := 30) (vs := (hedR c s).cs) (i30 (hedR_ok c s)) ((hedR c s).one) (by simp) rfl (by rw [Hd.len Hd.z_ok, Hd.len (hedR_ok c s)])
  refine WL.store rfl rfl rfl s9 ?_
  refine WL.done ?_
  refine EW.on ?_
  refine EW.ret ?_
  refine EW.returnsC Try.results50 rfl b9 Try.underlying30 rfl (by simpa using i30 (hedR_ok c s)) ⟨by simp [Hd.v], rd7.fx f9 (by omega) hoq1, ?_⟩
  refine ((Fx.of_below (S := fun k => k = q) (e1.trans (e2.mono l1))).trans fx7 (fun k hk e => ?_)).trans f9 (fun k hk e => ?_)
  · rcases e with e | e
    · exact e
    · omega
  · have e : k = q1 := e
    omega
end Go.Proofs.Ytobfebpinkikdaa
