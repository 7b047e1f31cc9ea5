import Derived.Test.YtobfebpinkikdaaHp
set_option linter.unusedVariables false
set_option linter.unusedSimpArgs false
namespace Go.Proofs.Ytobfebpinkikdaa
open Go.RowKit

section
variable {w : World} {q : Nat} {t : TypeId}
theorem stPk {p : Pk} (hb : Blk w q p.cs t) (kp : p.ok) (r : Pk) (kr : r.ok) (hv : ∃ ao n c, r.bv = .slice ao n c) : ∃ w', (Instr.storeAt 33 (.pointer (some ⟨q, 0, none⟩)) r.v).run Try.prog w = .ok () w' ∧ Blk w' q r.cs t ∧ Fx (fun k => k = q) w w' := by
  obtain ⟨w', h1, h2, h3⟩ := hb.stA (o := 0) (a := []) (b := []) (m := p.cs) (ty := 33) (vs := r.cs) (i33 kr) (r.one hv) (by simp) rfl (by rw [Pk.len kp, Pk.len kr])
  exact ⟨w', h1, by simpa using h2, h3⟩
theorem stPkK {p : Pk} (hb : Blk w q p.cs t) (k : Int) : ∃ w', (Instr.storeAt 3 (.pointer (some ⟨q, 0, none⟩)) (.int .i64 k)).run Try.prog w = .ok () w' ∧ Blk w' q (Pk.cs ⟨k, p.hl, p.hd, p.bv⟩) t ∧ Fx (fun k => k = q) w w' := by
  obtain ⟨w', h1, h2, h3⟩ := hb.stI3 (o := 0) (a := []) (b := p.hl.cs ++ (p.hd.cs ++ [p.bv])) (x := .int .i64 p.k) rfl rfl k
  exact ⟨w', h1, h2, h3⟩
theorem stPkL {p : Pk} (hb : Blk w q p.cs t) (kp : p.ok) (h : Hl) (kh : h.ok) : ∃ w', (Instr.storeAt 26 (.pointer (some ⟨q, 1, none⟩)) h.v).run Try.prog w = .ok () w' ∧ Blk w' q (Pk.cs ⟨p.k, h, p.hd, p.bv⟩) t ∧ Fx (fun k => k = q) w w' := by
  obtain ⟨w', h1, h2, h3⟩ := hb.stA (o := 1) (a := [.int .i64 p.k]) (b := p.hd.cs ++ [p.bv]) (m := p.hl.cs) (ty := 26) (vs := h.cs) (i26 kh) h.one rfl rfl (by rw [Hl.len kp.l, Hl.len kh])
  exact ⟨w', h1, h2, h3⟩
theorem stPkH {p : Pk} (hb : Blk w q p.cs t) (kp : p.ok) (h : Hd) (kh : h.ok) : ∃ w', (Instr.storeAt 30 (.pointer (some ⟨q, 66, none⟩)) h.v).run Try.prog w = .ok () w' ∧ Blk w' q (Pk.cs ⟨p.k, p.hl, h, p.bv⟩) t ∧ Fx (fun k => k = q) w w' := by
  obtain ⟨w', h1, h2, h3⟩ := hb.stA (o := 66) (a := [.int .i64 p.k] ++ p.hl.cs) (b := [p.bv]) (m := p.hd.cs) (ty := 30) (vs := h.cs) (i30 kh) h.one (by simp [Pk.cs]) (by simp [Hl.len kp.l]) (by rw [Hd.len kp.d, Hd.len kh])
  exact ⟨w', h1, by simpa [Pk.cs] using h2, h3⟩
theorem stPkB {p : Pk} (hb : Blk w q p.cs t) (kp : p.ok) (v : Value) (hv : ∃ ao n c, v = .slice ao n c) : ∃ w', (Instr.storeAt 31 (.pointer (some ⟨q, 117, none⟩)) v).run Try.prog w = .ok () w' ∧ Blk w' q (Pk.cs ⟨p.k, p.hl, p.hd, v⟩) t ∧ Fx (fun k => k = q) w w' := by
  obtain ⟨w', h1, h2, h3⟩ := hb.stB (o := 117) (a := [.int .i64 p.k] ++ (p.hl.cs ++ p.hd.cs)) (b := []) (x := p.bv) (by simp [Pk.cs]) (by simp [Hl.len kp.l, Hd.len kp.d]) v hv
  exact ⟨w', h1, by simpa [Pk.cs] using h2, h3⟩
theorem stOf {p : Of} (hb : Blk w q p.cs t) (kp : p.ok) (r : Of) (kr : r.ok) : ∃ w', (Instr.storeAt 42 (.pointer (some ⟨q, 0, none⟩)) r.v).run Try.prog w = .ok () w' ∧ Blk w' q r.cs t ∧ Fx (fun k => k = q) w w' := by
  obtain ⟨w', h1, h2, h3⟩ := hb.stA (o := 0) (a := []) (b := []) (m := p.cs) (ty := 42) (vs := r.cs) (i42 kr) r.one (by simp) rfl (by rw [Of.len kp, Of.len kr])
  exact ⟨w', h1, by simpa using h2, h3⟩
theorem stOfI {p : Of} (hb : Blk w q p.cs t) (kp : p.ok) (K : List UInt8) (hK : K.length = 32) : ∃ w', (Instr.storeAt 23 (.pointer (some ⟨q, 0, none⟩)) (kv K)).run Try.prog w = .ok () w' ∧ Blk w' q (Of.cs ⟨K, p.pre, p.key⟩) t ∧ Fx (fun k => k = q) w w' := by
  obtain ⟨w', h1, h2, h3⟩ := hb.stA (o := 0) (a := []) (b := [u32v p.pre] ++ p.key.map byt) (m := p.id.map byt) (ty := 23) (vs := K.map byt) (i23 hK) (byts_one' _) rfl rfl (by simp [kp.i, hK])
  exact ⟨w', h1, h2, h3⟩
theorem stOfP {p : Of} (hb : Blk w q p.cs t) (kp : p.ok) (n : Nat) : ∃ w', (Instr.storeAt 24 (.pointer (some ⟨q, 32, none⟩)) (u32v n)).run Try.prog w = .ok () w' ∧ Blk w' q (Of.cs ⟨p.id, n, p.key⟩) t ∧ Fx (fun k => k = q) w w' := by
  obtain ⟨w', h1, h2, h3⟩ := hb.stU (o := 32) (a := p.id.map byt) (b := p.key.map byt) (x := u32v p.pre) rfl (by simp [kp.i]) n
  exact ⟨w', h1, h2, h3⟩
theorem stOfK {p : Of} (hb : Blk w q p.cs t) (kp : p.ok) (K : List UInt8) (hK : K.length = 32) : ∃ w', (Instr.storeAt 23 (.pointer (some ⟨q, 33, none⟩)) (kv K)).run Try.prog w = .ok () w' ∧ Blk w' q (Of.cs ⟨p.id, p.pre, K⟩) t ∧ Fx (fun k => k = q) w w' := by
  obtain ⟨w', h1, h2, h3⟩ := hb.stA (o := 33) (a := p.id.map byt ++ [u32v p.pre]) (b := []) (m := p.key.map byt) (ty := 23) (vs := K.map byt) (i23 hK) (byts_one' _) (by simp [Of.cs]) (by simp [kp.i]) (by simp [kp.k, hK])
  exact ⟨w', h1, by simpa [Of.cs] using h2, h3⟩
end
/-- What is read ahead of the body, of kind k. -/
def s3R (c : List UInt8) (k : Nat) (s : Nat × Int) : Nat × Int := if k = 1 then helS c (s2R c s) else s2R c s
def s4R (c : List UInt8) (k : Nat) (s : Nat × Int) : Nat × Int := hedS c (s3R c k s)
def s5R (c : List UInt8) (k : Nat) (s : Nat × Int) : Nat × Int := rS c 2 (s4R c k s)
def hlR (c : List UInt8) (k : Nat) (s : Nat × Int) : Hl := if k = 1 then helR c (s2R c s) else Hl.z
def pkR (c : List UInt8) (k : Nat) (s : Nat × Int) (v : Value) : Pk := ⟨(k : Int), hlR c k s, hedR c (s3R c k s), v⟩
theorem hlR_ok (c : List UInt8) (k : Nat) (s : Nat × Int) : (hlR c k s).ok := by
  unfold hlR
  split
  · exact helR_ok _ _
  · exact Hl.z_ok
theorem pkR_ok (c : List UInt8) (k : Nat) (s : Nat × Int) (v : Value) : (pkR c k s v).ok := ⟨hlR_ok _ _ _, hedR_ok _ _⟩
def nR (c : List UInt8) (k : Nat) (s : Nat × Int) : Nat := numB (rB c 2 (s4R c k s))
set_option maxRecDepth 100000 in
set_option maxHeartbeats 4000000 in
theorem ahead_A (q : Nat) (v : Value) (c : List UInt8) (s : Nat × Int) (w : World) (hr : Rd w q v c s.1 s.2) (hl : c.length ≤ 140737488355328) (hE : ¬ stE c s = 0) : Calls Try.prog 27 #[.pointer (some ⟨q, 0, none⟩)] w fun e w' => e = .returned (.tuple #[Pk.z.v, .int .i64 (0), .int .i64 (stE c s)]) ∧ Fx (fun k => k = q) w w' := by
  obtain ⟨w1, q2, r1, bx1, e1, hq2⟩ := new_any (t := 33) (cs := Pk.z.cs) zv33 w
  have hqw := hr.bl.lt
  have rd1 := hr.below e1
  have ho2 : Off v c q2 := hr.off (by omega)
  refine calls_of_args [.pointer (some ⟨q, 0, none⟩)] Try.func27 rfl 44 Try.ntmps27 (by show 1 ≤ 44; decide) ?_
  refine EW.seq ?_
  refine EW.region ?_
  refine WL.new rfl rfl r1 ?_
  first | refine WL.assign rfl rfl rfl ?_
  first | refine WL.assign rfl rfl rfl ?_
  refine WL.done ?_
  refine EW.on ?_
  refine EW.seq ?_
  refine EW.region ?_
  first | refine WL.move rfl rfl rfl ?_
  refine WL.call [.pointer (some ⟨q, 0, none⟩)] enter31 rfl rfl rfl (rstart_any q v c s _ rd1 hl) ?_
  rintro _ w2 ⟨rfl, rd2, f2⟩
  have bx2 := bx1.fx f2 (fun e => by omega)
  have fx2 := (Fx.of_below (S := fun k => k = q) e1).and f2
  refine ⟨_, rfl, ?_⟩
  first | refine WL.move rfl rfl rfl ?_
  first | refine WL.extract rfl rfl rfl (ext_2 _ _ _).1 ?_
  first | refine WL.extract rfl rfl rfl (ext_2 _ _ _).2 ?_
  refine WL.field rfl rfl rfl (f33_0 q2 0 _) ?_
  obtain ⟨w3, st3, bx3, f3⟩ := stPkK bx2 (stK c s : Int)
  refine WL.store rfl rfl rfl st3 ?_
  have rd3 := rd2.fx f3 (by omega) ho2
  have fx3 := fx2.trans f3 (fun k hk e => by have e : k = q2 := e; omega)
  first | refine WL.assign rfl rfl rfl ?_
  refine WL.done ?_
  refine EW.on ?_
  refine EW.seq ?_
  refine EW.seq ?_
  refine EW.region ?_
  first | refine WL.move rfl rfl rfl ?_
  first | refine WL.bin rfl rfl rfl rfl (int_ne_f rfl _ _ _) ?_ | refine WL.bin rfl rfl rfl rfl (int_ne_t ‹_› _ _ _) ?_ | refine WL.bin rfl rfl rfl rfl (int_ne_f ‹_› _ _ _) ?_ | refine WL.bin rfl rfl rfl rfl (int_ne_t (by decide) _ _ _) ?_ | refine WL.bin rfl rfl rfl rfl (int_ne_d _ _ _ _ _) ?_
  refine WL.done ?_
  refine EW.on ?_
  refine EW.cond_t rfl ?_
  refine EW.seq ?_
  refine EW.region ?_
  refine WL.buildN [] rfl rfl rfl (bd33 _) ?_
  first | refine WL.move rfl rfl rfl ?_
  obtain ⟨w9, st9, bx9, f9⟩ := stPk bx3 ⟨Hl.z_ok, Hd.z_ok⟩ Pk.z Pk.z_ok ⟨_, _, _, rfl⟩
  refine WL.store rfl rfl rfl st9 ?_
  have rd9 := rd3.fx f9 (by omega) ho2
  have fx9 := fx3.trans f9 (fun k hk e => by have e : k = q2 := e; omega)
  first | refine WL.assign rfl rfl rfl ?_
  first | refine WL.assign rfl rfl rfl ?_
  refine WL.done ?_
  refine EW.on ?_
  refine EW.ret ?_
  refine pr_then ?_
  exact EW.returnsCTT Try.results27 rfl rfl rfl bx9 Try.underlying33 rfl (i33 Pk.z_ok) ⟨rfl, fx9⟩
set_option maxRecDepth 100000 in
set_option maxHeartbeats 4000000 in
theorem ahead_B (q : Nat) (v : Value) (c : List UInt8) (s : Nat × Int) (w : World) (hr : Rd w q v c s.1 s.2) (hl : c.length ≤ 140737488355328) (hE : stE c s = 0) (hP : decide ((stK c s : Int) = 1 ∨ (stK c s : Int) = 2) = false) : Calls Try.prog 27 #[.pointer (some ⟨q, 0, none⟩)] w fun e w' => e = .returned (.tuple #[Pk.z.v, .int .i64 (0), .int .i64 (103)]) ∧ Fx (fun k => k = q) w w' := by
  obtain ⟨w1, q2, r1, bx1, e1, hq2⟩ := new_any (t := 33) (cs := Pk.z.cs) zv33 w
  have hqw := hr.bl.lt
  have rd1 := hr.below e1
  have ho2 : Off v c q2 := hr.off (by omega)
  refine calls_of_args [.pointer (some ⟨q, 0, none⟩)] Try.func27 rfl 44 Try.ntmps27 (by show 1 ≤ 44; decide) ?_
  refine EW.seq ?_
  refine EW.region ?_
  refine WL.new rfl rfl r1 ?_
  first | refine WL.assign rfl rfl rfl ?_
  first | refine WL.assign rfl rfl rfl ?_
  refine WL.done ?_
  refine EW.on ?_
  refine EW.seq ?_
  refine EW.region ?_
  first | refine WL.move rfl rfl rfl ?_
  refine WL.call [.pointer (some ⟨q, 0, none⟩)] enter31 rfl rfl rfl (rstart_any q v c s _ rd1 hl) ?_
  rintro _ w2 ⟨rfl, rd2, f2⟩
  have bx2 := bx1.fx f2 (fun e => by omega)
  have fx2 := (Fx.of_below (S := fun k => k = q) e1).and f2
  rw [hE]
  refine ⟨_, rfl, ?_⟩
  first | refine WL.move rfl rfl rfl ?_
  first | refine WL.extract rfl rfl rfl (ext_2 _ _ _).1 ?_
  first | refine WL.extract rfl rfl rfl (ext_2 _ _ _).2 ?_
  refine WL.field rfl rfl rfl (f33_0 q2 0 _) ?_
  obtain ⟨w3, st3, bx3, f3⟩ := stPkK bx2 (stK c s : Int)
  refine WL.store rfl rfl rfl st3 ?_
  have rd3 := rd2.fx f3 (by omega) ho2
  have fx3 := fx2.trans f3 (fun k hk e => by have e : k = q2 := e; omega)
  first | refine WL.assign rfl rfl rfl ?_
  refine WL.done ?_
  refine EW.on ?_
  refine EW.seq ?_
  refine EW.seq ?_
  refine EW.region ?_
  first | refine WL.move rfl rfl rfl ?_
  first | refine WL.bin rfl rfl rfl rfl (int_ne_f rfl _ _ _) ?_ | refine WL.bin rfl rfl rfl rfl (int_ne_t ‹_› _ _ _) ?_ | refine WL.bin rfl rfl rfl rfl (int_ne_f ‹_› _ _ _) ?_ | refine WL.bin rfl rfl rfl rfl (int_ne_t (by decide) _ _ _) ?_ | refine WL.bin rfl rfl rfl rfl (int_ne_d _ _ _ _ _) ?_
  refine WL.done ?_
  refine EW.on ?_
  refine EW.cond_f rfl ?_
  refine EW.skip ?_
  refine EW.on ?_
  refine EW.seq ?_
  refine EW.seq ?_
  refine EW.region ?_
  refine WL.field rfl rfl rfl (f33_0 q2 0 _) ?_
  refine WL.load rfl rfl rfl (ldPkK bx3) ?_
  refine WL.call [.int .i64 (stK c s : Int)] enter44 rfl rfl rfl (isp_any _ _) ?_
  rintro _ wz ⟨rfl, hz⟩
  rw [hz, hP]
  clear hz
  refine ⟨_, rfl, ?_⟩
  refine WL.un rfl rfl rfl (not_t _ _) ?_
  refine WL.done ?_
  refine EW.on ?_
  refine EW.cond_t rfl ?_
  refine EW.seq ?_
  refine EW.region ?_
  refine WL.buildN [] rfl rfl rfl (bd33 _) ?_
  obtain ⟨w9, st9, bx9, f9⟩ := stPk bx3 ⟨Hl.z_ok, Hd.z_ok⟩ Pk.z Pk.z_ok ⟨_, _, _, rfl⟩
  refine WL.store rfl rfl rfl st9 ?_
  have rd9 := rd3.fx f9 (by omega) ho2
  have fx9 := fx3.trans f9 (fun k hk e => by have e : k = q2 := e; omega)
  first | refine WL.assign rfl rfl rfl ?_
  first | refine WL.assign rfl rfl rfl ?_
  refine WL.done ?_
  refine EW.on ?_
  refine EW.ret ?_
  refine pr_then ?_
  exact EW.returnsCTT Try.results27 rfl rfl rfl bx9 Try.underlying33 rfl (i33 Pk.z_ok) ⟨rfl, fx9⟩
set_option maxRecDepth 100000 in
set_option maxHeartbeats 4000000 in
theorem ahead_C1 (q : Nat) (v : Value) (c : List UInt8) (s : Nat × Int) (w : World) (hr : Rd w q v c s.1 s.2) (hl : c.length ≤ 140737488355328) (hE : stE c s = 0) (hK : stK c s = 1) (hf : (s5R c 1 s).2 = 0) : Calls Try.prog 27 #[.pointer (some ⟨q, 0, none⟩)] w fun e w' => e = .returned (.tuple #[(pkR c 1 s (.slice none 0 0)).v, .int .i64 (nR c 1 s : Int), .int .i64 (0)]) ∧ Rd w' q v c (s5R c 1 s).1 0 ∧ Fx (fun k => k = q) w w' := by
  obtain ⟨w1, q2, r1, bx1, e1, hq2⟩ := new_any (t := 33) (cs := Pk.z.cs) zv33 w
  have hqw := hr.bl.lt
  have rd1 := hr.below e1
  have ho2 : Off v c q2 := hr.off (by omega)
  have hP : decide ((1 : Int) = 1 ∨ (1 : Int) = 2) = true := by decide
  refine calls_of_args [.pointer (some ⟨q, 0, none⟩)] Try.func27 rfl 44 Try.ntmps27 (by show 1 ≤ 44; decide) ?_
  refine EW.seq ?_
  refine EW.region ?_
  refine WL.new rfl rfl r1 ?_
  first | refine WL.assign rfl rfl rfl ?_
  first | refine WL.assign rfl rfl rfl ?_
  refine WL.done ?_
  refine EW.on ?_
  refine EW.seq ?_
  refine EW.region ?_
  first | refine WL.move rfl rfl rfl ?_
  refine WL.call [.pointer (some ⟨q, 0, none⟩)] enter31 rfl rfl rfl (rstart_any q v c s _ rd1 hl) ?_
  rintro _ w2 ⟨rfl, rd2, f2⟩
  have bx2 := bx1.fx f2 (fun e => by omega)
  have fx2 := (Fx.of_below (S := fun k => k = q) e1).and f2
  rw [hE, hK]
  refine ⟨_, rfl, ?_⟩
  first | refine WL.move rfl rfl rfl ?_
  first | refine WL.extract rfl rfl rfl (ext_2 _ _ _).1 ?_
  first | refine WL.extract rfl rfl rfl (ext_2 _ _ _).2 ?_
  refine WL.field rfl rfl rfl (f33_0 q2 0 _) ?_
  obtain ⟨w3, st3, bx3, f3⟩ := stPkK bx2 (1 : Int)
  refine WL.store rfl rfl rfl st3 ?_
  have rd3 := rd2.fx f3 (by omega) ho2
  have fx3 := fx2.trans f3 (fun k hk e => by have e : k = q2 := e; omega)
  first | refine WL.assign rfl rfl rfl ?_
  refine WL.done ?_
  refine EW.on ?_
  refine EW.seq ?_
  refine EW.seq ?_
  refine EW.region ?_
  first | refine WL.move rfl rfl rfl ?_
  first | refine WL.bin rfl rfl rfl rfl (int_ne_f rfl _ _ _) ?_ | refine WL.bin rfl rfl rfl rfl (int_ne_t ‹_› _ _ _) ?_ | refine WL.bin rfl rfl rfl rfl (int_ne_f ‹_› _ _ _) ?_ | refine WL.bin rfl rfl rfl rfl (int_ne_t (by decide) _ _ _) ?_ | refine WL.bin rfl rfl rfl rfl (int_ne_d _ _ _ _ _) ?_
  refine WL.done ?_
  refine EW.on ?_
  refine EW.cond_f rfl ?_
  refine EW.skip ?_
  refine EW.on ?_
  refine EW.seq ?_
  refine EW.seq ?_
  refine EW.region ?_
  refine WL.field rfl rfl rfl (f33_0 q2 0 _) ?_
  refine WL.load rfl rfl rfl (ldPkK bx3) ?_
  refine WL.call [.int .i64 1] enter44 rfl rfl rfl (isp_any _ _) ?_
  rintro _ wz ⟨rfl, hz⟩
  rw [hz, hP]
  clear hz
  refine ⟨_, rfl, ?_⟩
  refine WL.un rfl rfl rfl (not_t _ _) ?_
  refine WL.done ?_
  refine EW.on ?_
  refine EW.cond_f rfl ?_
  refine EW.skip ?_
  refine EW.on ?_
  refine EW.seq ?_
  refine EW.seq ?_
  refine EW.region ?_
  refine WL.field rfl rfl rfl (f33_0 q2 0 _) ?_
  refine WL.load rfl rfl rfl (ldPkK bx3) ?_
  first | refine WL.bin rfl rfl rfl rfl (int_eq_t rfl _ _ _) ?_ | refine WL.bin rfl rfl rfl rfl (int_eq_t ‹_› _ _ _) ?_ | refine WL.bin rfl rfl rfl rfl (int_eq_f ‹_› _ _ _) ?_ | refine WL.bin rfl rfl rfl rfl (int_eq_d _ _ _ _ _) ?_
  refine WL.done ?_
  refine EW.on ?_
  refine EW.cond_t rfl ?_
  refine EW.region ?_
  first | refine WL.move rfl rfl rfl ?_
  refine WL.call [.pointer (some ⟨q, 0, none⟩)] enter49 rfl rfl rfl (rhello_any q v c (s2R c s) _ rd3 hl) ?_
  rintro _ w4 ⟨rfl, rd4, f4⟩
  have bx4 := bx3.fx f4 (fun e => by omega)
  have fx4 := fx3.and f4
  refine ⟨_, rfl, ?_⟩
  refine WL.field rfl rfl rfl (f33_1 q2 0 _) ?_
  obtain ⟨w5, st5, bx5, f5⟩ := stPkL bx4 ⟨Hl.z_ok, Hd.z_ok⟩ (helR c (s2R c s)) (helR_ok _ _)
  refine WL.store rfl rfl rfl st5 ?_
  have rd5 := rd4.fx f5 (by omega) ho2
  have fx5 := fx4.trans f5 (fun k hk e => by have e : k = q2 := e; omega)
  refine WL.done ?_
  refine EW.on ?_
  refine EW.seq ?_
  refine EW.region ?_
  first | refine WL.move rfl rfl rfl ?_
  refine WL.call [.pointer (some ⟨q, 0, none⟩)] enter50 rfl rfl rfl (rheader_any q v c (s3R c 1 s) _ rd5 hl) ?_
  rintro _ w6 ⟨rfl, rd6, f6⟩
  have bx6 := bx5.fx f6 (fun e => by omega)
  have fx6 := fx5.and f6
  refine ⟨_, rfl, ?_⟩
  refine WL.field rfl rfl rfl (f33_2 q2 0 _) ?_
  obtain ⟨w7, st7, bx7, f7⟩ := stPkH bx6 ⟨hlR_ok c 1 s, Hd.z_ok⟩ (hedR c (s3R c 1 s)) (hedR_ok _ _)
  refine WL.store rfl rfl rfl st7 ?_
  have rd7 := rd6.fx f7 (by omega) ho2
  have fx7 := fx6.trans f7 (fun k hk e => by have e : k = q2 := e; omega)
  refine WL.done ?_
  refine EW.on ?_
  refine EW.seq ?_
  refine EW.region ?_
  first | refine WL.move rfl rfl rfl ?_
  refine WL.call [.pointer (some ⟨q, 0, none⟩)] enter51 rfl rfl rfl (rn2_any q v c (s4R c 1 s) _ rd7 hl) ?_
  rintro _ w8 ⟨rfl, rd8, f8⟩
  have bx8 := bx7.fx f8 (fun e => by omega)
  have fx8 := fx7.and f8
  refine ⟨_, rfl, ?_⟩
  first | refine WL.assign rfl rfl rfl ?_
  refine WL.done ?_
  refine EW.on ?_
  refine EW.seq ?_
  refine EW.seq ?_
  refine EW.region ?_
  first | refine WL.move rfl rfl rfl ?_
  refine WL.call [.pointer (some ⟨q, 0, none⟩)] enter30 rfl rfl rfl (fault_any q v c (s5R c 1 s) _ rd8) ?_
  rintro _ w9 ⟨fa, rfl, be9⟩
  have bx9 := bx8.on be9
  have fx9 := fx8.then_below be9
  have rd9 := rd8.below be9
  rw [hf]
  refine ⟨_, rfl, ?_⟩
  first | refine WL.move rfl rfl rfl ?_
  first | refine WL.extract rfl rfl rfl (ext_2 _ _ _).1 ?_
  first | refine WL.extract rfl rfl rfl (ext_2 _ _ _).2 ?_
  first | refine WL.assign rfl rfl rfl ?_
  first | refine WL.assign rfl rfl rfl ?_
  refine WL.done ?_
  refine EW.on ?_
  refine EW.seq ?_
  refine EW.region ?_
  first | refine WL.move rfl rfl rfl ?_
  first | refine WL.bin rfl rfl rfl rfl (int_ne_f rfl _ _ _) ?_ | refine WL.bin rfl rfl rfl rfl (int_ne_t ‹_› _ _ _) ?_ | refine WL.bin rfl rfl rfl rfl (int_ne_f ‹_› _ _ _) ?_ | refine WL.bin rfl rfl rfl rfl (int_ne_t (by decide) _ _ _) ?_ | refine WL.bin rfl rfl rfl rfl (int_ne_d _ _ _ _ _) ?_
  refine WL.done ?_
  refine EW.on ?_
  refine EW.cond_f rfl ?_
  refine EW.skip ?_
  refine EW.on ?_
  refine EW.seq ?_
  refine EW.region ?_
  refine WL.load rfl rfl rfl (ldPk bx9 (pkR_ok c 1 s _)) ?_
  first | refine WL.move rfl rfl rfl ?_
  obtain ⟨w9, st9, bx9, f9⟩ := stPk bx9 (pkR_ok c 1 s _) (pkR c 1 s (.slice none 0 0)) (pkR_ok c 1 s _) ⟨_, _, _, rfl⟩
  refine WL.store rfl rfl rfl st9 ?_
  have rd9 := rd9.fx f9 (by omega) ho2
  have fx9 := fx9.trans f9 (fun k hk e => by have e : k = q2 := e; omega)
  first | refine WL.assign rfl rfl rfl ?_
  first | refine WL.assign rfl rfl rfl ?_
  refine WL.done ?_
  refine EW.on ?_
  refine EW.ret ?_
  exact EW.returnsCTT Try.results27 rfl rfl rfl bx9 Try.underlying33 rfl (i33 (pkR_ok c 1 s _)) ⟨rfl, (by have h := rd9; rw [show (rS c 2 (s4R c 1 s)).2 = 0 from hf] at h; exact h), fx9⟩
set_option maxRecDepth 100000 in
set_option maxHeartbeats 4000000 in
theorem ahead_D1 (q : Nat) (v : Value) (c : List UInt8) (s : Nat × Int) (w : World) (hr : Rd w q v c s.1 s.2) (hl : c.length ≤ 140737488355328) (hE : stE c s = 0) (hK : stK c s = 1) (hf : ¬ (s5R c 1 s).2 = 0) : Calls Try.prog 27 #[.pointer (some ⟨q, 0, none⟩)] w fun e w' => e = .returned (.tuple #[Pk.z.v, .int .i64 (0), .int .i64 ((s5R c 1 s).2)]) ∧ Fx (fun k => k = q) w w' := by
  obtain ⟨w1, q2, r1, bx1, e1, hq2⟩ := new_any (t := 33) (cs := Pk.z.cs) zv33 w
  have hqw := hr.bl.lt
  have rd1 := hr.below e1
  have ho2 : Off v c q2 := hr.off (by omega)
  have hP : decide ((1 : Int) = 1 ∨ (1 : Int) = 2) = true := by decide
  refine calls_of_args [.pointer (some ⟨q, 0, none⟩)] Try.func27 rfl 44 Try.ntmps27 (by show 1 ≤ 44; decide) ?_
  refine EW.seq ?_
  refine EW.region ?_
  refine WL.new rfl rfl r1 ?_
  first | refine WL.assign rfl rfl rfl ?_
  first | refine WL.assign rfl rfl rfl ?_
  refine WL.done ?_
  refine EW.on ?_
  refine EW.seq ?_
  refine EW.region ?_
  first | refine WL.move rfl rfl rfl ?_
  refine WL.call [.pointer (some ⟨q, 0, none⟩)] enter31 rfl rfl rfl (rstart_any q v c s _ rd1 hl) ?_
  rintro _ w2 ⟨rfl, rd2, f2⟩
  have bx2 := bx1.fx f2 (fun e => by omega)
  have fx2 := (Fx.of_below (S := fun k => k = q) e1).and f2
  rw [hE, hK]
  refine ⟨_, rfl, ?_⟩
  first | refine WL.move rfl rfl rfl ?_
  first | refine WL.extract rfl rfl rfl (ext_2 _ _ _).1 ?_
  first | refine WL.extract rfl rfl rfl (ext_2 _ _ _).2 ?_
  refine WL.field rfl rfl rfl (f33_0 q2 0 _) ?_
  obtain ⟨w3, st3, bx3, f3⟩ := stPkK bx2 (1 : Int)
  refine WL.store rfl rfl rfl st3 ?_
  have rd3 := rd2.fx f3 (by omega) ho2
  have fx3 := fx2.trans f3 (fun k hk e => by have e : k = q2 := e; omega)
  first | refine WL.assign rfl rfl rfl ?_
  refine WL.done ?_
  refine EW.on ?_
  refine EW.seq ?_
  refine EW.seq ?_
  refine EW.region ?_
  first | refine WL.move rfl rfl rfl ?_
  first | refine WL.bin rfl rfl rfl rfl (int_ne_f rfl _ _ _) ?_ | refine WL.bin rfl rfl rfl rfl (int_ne_t ‹_› _ _ _) ?_ | refine WL.bin rfl rfl rfl rfl (int_ne_f ‹_› _ _ _) ?_ | refine WL.bin rfl rfl rfl rfl (int_ne_t (by decide) _ _ _) ?_ | refine WL.bin rfl rfl rfl rfl (int_ne_d _ _ _ _ _) ?_
  refine WL.done ?_
  refine EW.on ?_
  refine EW.cond_f rfl ?_
  refine EW.skip ?_
  refine EW.on ?_
  refine EW.seq ?_
  refine EW.seq ?_
  refine EW.region ?_
  refine WL.field rfl rfl rfl (f33_0 q2 0 _) ?_
  refine WL.load rfl rfl rfl (ldPkK bx3) ?_
  refine WL.call [.int .i64 1] enter44 rfl rfl rfl (isp_any _ _) ?_
  rintro _ wz ⟨rfl, hz⟩
  rw [hz, hP]
  clear hz
  refine ⟨_, rfl, ?_⟩
  refine WL.un rfl rfl rfl (not_t _ _) ?_
  refine WL.done ?_
  refine EW.on ?_
  refine EW.cond_f rfl ?_
  refine EW.skip ?_
  refine EW.on ?_
  refine EW.seq ?_
  refine EW.seq ?_
  refine EW.region ?_
  refine WL.field rfl rfl rfl (f33_0 q2 0 _) ?_
  refine WL.load rfl rfl rfl (ldPkK bx3) ?_
  first | refine WL.bin rfl rfl rfl rfl (int_eq_t rfl _ _ _) ?_ | refine WL.bin rfl rfl rfl rfl (int_eq_t ‹_› _ _ _) ?_ | refine WL.bin rfl rfl rfl rfl (int_eq_f ‹_› _ _ _) ?_ | refine WL.bin rfl rfl rfl rfl (int_eq_d _ _ _ _ _) ?_
  refine WL.done ?_
  refine EW.on ?_
  refine EW.cond_t rfl ?_
  refine EW.region ?_
  first | refine WL.move rfl rfl rfl ?_
  refine WL.call [.pointer (some ⟨q, 0, none⟩)] enter49 rfl rfl rfl (rhello_any q v c (s2R c s) _ rd3 hl) ?_
  rintro _ w4 ⟨rfl, rd4, f4⟩
  have bx4 := bx3.fx f4 (fun e => by omega)
  have fx4 := fx3.and f4
  refine ⟨_, rfl, ?_⟩
  refine WL.field rfl rfl rfl (f33_1 q2 0 _) ?_
  obtain ⟨w5, st5, bx5, f5⟩ := stPkL bx4 ⟨Hl.z_ok, Hd.z_ok⟩ (helR c (s2R c s)) (helR_ok _ _)
  refine WL.store rfl rfl rfl st5 ?_
  have rd5 := rd4.fx f5 (by omega) ho2
  have fx5 := fx4.trans f5 (fun k hk e => by have e : k = q2 := e; omega)
  refine WL.done ?_
  refine EW.on ?_
  refine EW.seq ?_
  refine EW.region ?_
  first | refine WL.move rfl rfl rfl ?_
  refine WL.call [.pointer (some ⟨q, 0, none⟩)] enter50 rfl rfl rfl (rheader_any q v c (s3R c 1 s) _ rd5 hl) ?_
  rintro _ w6 ⟨rfl, rd6, f6⟩
  have bx6 := bx5.fx f6 (fun e => by omega)
  have fx6 := fx5.and f6
  refine ⟨_, rfl, ?_⟩
  refine WL.field rfl rfl rfl (f33_2 q2 0 _) ?_
  obtain ⟨w7, st7, bx7, f7⟩ := stPkH bx6 ⟨hlR_ok c 1 s, Hd.z_ok⟩ (hedR c (s3R c 1 s)) (hedR_ok _ _)
  refine WL.store rfl rfl rfl st7 ?_
  have rd7 := rd6.fx f7 (by omega) ho2
  have fx7 := fx6.trans f7 (fun k hk e => by have e : k = q2 := e; omega)
  refine WL.done ?_
  refine EW.on ?_
  refine EW.seq ?_
  refine EW.region ?_
  first | refine WL.move rfl rfl rfl ?_
  refine WL.call [.pointer (some ⟨q, 0, none⟩)] enter51 rfl rfl rfl (rn2_any q v c (s4R c 1 s) _ rd7 hl) ?_
  rintro _ w8 ⟨rfl, rd8, f8⟩
  have bx8 := bx7.fx f8 (fun e => by omega)
  have fx8 := fx7.and f8
  refine ⟨_, rfl, ?_⟩
  first | refine WL.assign rfl rfl rfl ?_
  refine WL.done ?_
  refine EW.on ?_
  refine EW.seq ?_
  refine EW.seq ?_
  refine EW.region ?_
  first | refine WL.move rfl rfl rfl ?_
  refine WL.call [.pointer (some ⟨q, 0, none⟩)] enter30 rfl rfl rfl (fault_any q v c (s5R c 1 s) _ rd8) ?_
  rintro _ w9 ⟨fa, rfl, be9⟩
  have bx9 := bx8.on be9
  have fx9 := fx8.then_below be9
  have rd9 := rd8.below be9
  refine ⟨_, rfl, ?_⟩
  first | refine WL.move rfl rfl rfl ?_
  first | refine WL.extract rfl rfl rfl (ext_2 _ _ _).1 ?_
  first | refine WL.extract rfl rfl rfl (ext_2 _ _ _).2 ?_
  first | refine WL.assign rfl rfl rfl ?_
  first | refine WL.assign rfl rfl rfl ?_
  refine WL.done ?_
  refine EW.on ?_
  refine EW.seq ?_
  refine EW.region ?_
  first | refine WL.move rfl rfl rfl ?_
  first | refine WL.bin rfl rfl rfl rfl (int_ne_f rfl _ _ _) ?_ | refine WL.bin rfl rfl rfl rfl (int_ne_t ‹_› _ _ _) ?_ | refine WL.bin rfl rfl rfl rfl (int_ne_f ‹_› _ _ _) ?_ | refine WL.bin rfl rfl rfl rfl (int_ne_t (by decide) _ _ _) ?_ | refine WL.bin rfl rfl rfl rfl (int_ne_d _ _ _ _ _) ?_
  refine WL.done ?_
  refine EW.on ?_
  refine EW.cond_t rfl ?_
  refine EW.seq ?_
  refine EW.region ?_
  refine WL.buildN [] rfl rfl rfl (bd33 _) ?_
  first | refine WL.move rfl rfl rfl ?_
  obtain ⟨w9, st9, bx9, f9⟩ := stPk bx9 (pkR_ok c 1 s (.slice none 0 0)) Pk.z Pk.z_ok ⟨_, _, _, rfl⟩
  refine WL.store rfl rfl rfl st9 ?_
  have rd9 := rd9.fx f9 (by omega) ho2
  have fx9 := fx9.trans f9 (fun k hk e => by have e : k = q2 := e; omega)
  first | refine WL.assign rfl rfl rfl ?_
  first | refine WL.assign rfl rfl rfl ?_
  refine WL.done ?_
  refine EW.on ?_
  refine EW.ret ?_
  refine pr_then ?_
  exact EW.returnsCTT Try.results27 rfl rfl rfl bx9 Try.underlying33 rfl (i33 Pk.z_ok) ⟨rfl, fx9⟩
set_option maxRecDepth 100000 in
set_option maxHeartbeats 4000000 in
theorem ahead_C2 (q : Nat) (v : Value) (c : List UInt8) (s : Nat × Int) (w : World) (hr : Rd w q v c s.1 s.2) (hl : c.length ≤ 140737488355328) (hE : stE c s = 0) (hK : stK c s = 2) (hf : (s5R c 2 s).2 = 0) : Calls Try.prog 27 #[.pointer (some ⟨q, 0, none⟩)] w fun e w' => e = .returned (.tuple #[(pkR c 2 s (.slice none 0 0)).v, .int .i64 (nR c 2 s : Int), .int .i64 (0)]) ∧ Rd w' q v c (s5R c 2 s).1 0 ∧ Fx (fun k => k = q) w w' := by
  obtain ⟨w1, q2, r1, bx1, e1, hq2⟩ := new_any (t := 33) (cs := Pk.z.cs) zv33 w
  have hqw := hr.bl.lt
  have rd1 := hr.below e1
  have ho2 : Off v c q2 := hr.off (by omega)
  have hP : decide ((2 : Int) = 1 ∨ (2 : Int) = 2) = true := by decide
  refine calls_of_args [.pointer (some ⟨q, 0, none⟩)] Try.func27 rfl 44 Try.ntmps27 (by show 1 ≤ 44; decide) ?_
  refine EW.seq ?_
  refine EW.region ?_
  refine WL.new rfl rfl r1 ?_
  first | refine WL.assign rfl rfl rfl ?_
  first | refine WL.assign rfl rfl rfl ?_
  refine WL.done ?_
  refine EW.on ?_
  refine EW.seq ?_
  refine EW.region ?_
  first | refine WL.move rfl rfl rfl ?_
  refine WL.call [.pointer (some ⟨q, 0, none⟩)] enter31 rfl rfl rfl (rstart_any q v c s _ rd1 hl) ?_
  rintro _ w2 ⟨rfl, rd2, f2⟩
  have bx2 := bx1.fx f2 (fun e => by omega)
  have fx2 := (Fx.of_below (S := fun k => k = q) e1).and f2
  rw [hE, hK]
  refine ⟨_, rfl, ?_⟩
  first | refine WL.move rfl rfl rfl ?_
  first | refine WL.extract rfl rfl rfl (ext_2 _ _ _).1 ?_
  first | refine WL.extract rfl rfl rfl (ext_2 _ _ _).2 ?_
  refine WL.field rfl rfl rfl (f33_0 q2 0 _) ?_
  obtain ⟨w3, st3, bx3, f3⟩ := stPkK bx2 (2 : Int)
  refine WL.store rfl rfl rfl st3 ?_
  have rd3 := rd2.fx f3 (by omega) ho2
  have fx3 := fx2.trans f3 (fun k hk e => by have e : k = q2 := e; omega)
  first | refine WL.assign rfl rfl rfl ?_
  refine WL.done ?_
  refine EW.on ?_
  refine EW.seq ?_
  refine EW.seq ?_
  refine EW.region ?_
  first | refine WL.move rfl rfl rfl ?_
  first | refine WL.bin rfl rfl rfl rfl (int_ne_f rfl _ _ _) ?_ | refine WL.bin rfl rfl rfl rfl (int_ne_t ‹_› _ _ _) ?_ | refine WL.bin rfl rfl rfl rfl (int_ne_f ‹_› _ _ _) ?_ | refine WL.bin rfl rfl rfl rfl (int_ne_t (by decide) _ _ _) ?_ | refine WL.bin rfl rfl rfl rfl (int_ne_d _ _ _ _ _) ?_
  refine WL.done ?_
  refine EW.on ?_
  refine EW.cond_f rfl ?_
  refine EW.skip ?_
  refine EW.on ?_
  refine EW.seq ?_
  refine EW.seq ?_
  refine EW.region ?_
  refine WL.field rfl rfl rfl (f33_0 q2 0 _) ?_
  refine WL.load rfl rfl rfl (ldPkK bx3) ?_
  refine WL.call [.int .i64 2] enter44 rfl rfl rfl (isp_any _ _) ?_
  rintro _ wz ⟨rfl, hz⟩
  rw [hz, hP]
  clear hz
  refine ⟨_, rfl, ?_⟩
  refine WL.un rfl rfl rfl (not_t _ _) ?_
  refine WL.done ?_
  refine EW.on ?_
  refine EW.cond_f rfl ?_
  refine EW.skip ?_
  refine EW.on ?_
  refine EW.seq ?_
  refine EW.seq ?_
  refine EW.region ?_
  refine WL.field rfl rfl rfl (f33_0 q2 0 _) ?_
  refine WL.load rfl rfl rfl (ldPkK bx3) ?_
  first | refine WL.bin rfl rfl rfl rfl (int_eq_t rfl _ _ _) ?_ | refine WL.bin rfl rfl rfl rfl (int_eq_t ‹_› _ _ _) ?_ | refine WL.bin rfl rfl rfl rfl (int_eq_f ‹_› _ _ _) ?_ | refine WL.bin rfl rfl rfl rfl (int_eq_d _ _ _ _ _) ?_
  refine WL.done ?_
  refine EW.on ?_
  refine EW.cond_f rfl ?_
  refine EW.skip ?_
  refine EW.on ?_
  refine EW.seq ?_
  refine EW.region ?_
  first | refine WL.move rfl rfl rfl ?_
  refine WL.call [.pointer (some ⟨q, 0, none⟩)] enter50 rfl rfl rfl (rheader_any q v c (s3R c 2 s) _ rd3 hl) ?_
  rintro _ w4 ⟨rfl, rd4, f4⟩
  have bx4 := bx3.fx f4 (fun e => by omega)
  have fx4 := fx3.and f4
  refine ⟨_, rfl, ?_⟩
  refine WL.field rfl rfl rfl (f33_2 q2 0 _) ?_
  obtain ⟨w5, st5, bx5, f5⟩ := stPkH bx4 ⟨hlR_ok c 2 s, Hd.z_ok⟩ (hedR c (s3R c 2 s)) (hedR_ok _ _)
  refine WL.store rfl rfl rfl st5 ?_
  have rd5 := rd4.fx f5 (by omega) ho2
  have fx5 := fx4.trans f5 (fun k hk e => by have e : k = q2 := e; omega)
  refine WL.done ?_
  refine EW.on ?_
  refine EW.seq ?_
  refine EW.region ?_
  first | refine WL.move rfl rfl rfl ?_
  refine WL.call [.pointer (some ⟨q, 0, none⟩)] enter51 rfl rfl rfl (rn2_any q v c (s4R c 2 s) _ rd5 hl) ?_
  rintro _ w6 ⟨rfl, rd6, f6⟩
  have bx6 := bx5.fx f6 (fun e => by omega)
  have fx6 := fx5.and f6
  refine ⟨_, rfl, ?_⟩
  first | refine WL.assign rfl rfl rfl ?_
  refine WL.done ?_
  refine EW.on ?_
  refine EW.seq ?_
  refine EW.seq ?_
  refine EW.region ?_
  first | refine WL.move rfl rfl rfl ?_
  refine WL.call [.pointer (some ⟨q, 0, none⟩)] enter30 rfl rfl rfl (fault_any q v c (s5R c 2 s) _ rd6) ?_
  rintro _ w7 ⟨fa, rfl, be7⟩
  have bx7 := bx6.on be7
  have fx7 := fx6.then_below be7
  have rd7 := rd6.below be7
  rw [hf]
  refine ⟨_, rfl, ?_⟩
  first | refine WL.move rfl rfl rfl ?_
  first | refine WL.extract rfl rfl rfl (ext_2 _ _ _).1 ?_
  first | refine WL.extract rfl rfl rfl (ext_2 _ _ _).2 ?_
  first | refine WL.assign rfl rfl rfl ?_
  first | refine WL.assign rfl rfl rfl ?_
  refine WL.done ?_
  refine EW.on ?_
  refine EW.seq ?_
  refine EW.region ?_
  first | refine WL.move rfl rfl rfl ?_
  first | refine WL.bin rfl rfl rfl rfl (int_ne_f rfl _ _ _) ?_ | refine WL.bin rfl rfl rfl rfl (int_ne_t ‹_› _ _ _) ?_ | refine WL.bin rfl rfl rfl rfl (int_ne_f ‹_› _ _ _) ?_ | refine WL.bin rfl rfl rfl rfl (int_ne_t (by decide) _ _ _) ?_ | refine WL.bin rfl rfl rfl rfl (int_ne_d _ _ _ _ _) ?_
  refine WL.done ?_
  refine EW.on ?_
  refine EW.cond_f rfl ?_
  refine EW.skip ?_
  refine EW.on ?_
  refine EW.seq ?_
  refine EW.region ?_
  refine WL.load rfl rfl rfl (ldPk bx7 (pkR_ok c 2 s _)) ?_
  first | refine WL.move rfl rfl rfl ?_
  obtain ⟨w9, st9, bx9, f9⟩ := stPk bx7 (pkR_ok c 2 s _) (pkR c 2 s (.slice none 0 0)) (pkR_ok c 2 s _) ⟨_, _, _, rfl⟩
  refine WL.store rfl rfl rfl st9 ?_
  have rd9 := rd7.fx f9 (by omega) ho2
  have fx9 := fx7.trans f9 (fun k hk e => by have e : k = q2 := e; omega)
  first | refine WL.assign rfl rfl rfl ?_
  first | refine WL.assign rfl rfl rfl ?_
  refine WL.done ?_
  refine EW.on ?_
  refine EW.ret ?_
  exact EW.returnsCTT Try.results27 rfl rfl rfl bx9 Try.underlying33 rfl (i33 (pkR_ok c 2 s _)) ⟨rfl, (by have h := rd9; rw [show (rS c 2 (s4R c 2 s)).2 = 0 from hf] at h; exact h), fx9⟩
set_option maxRecDepth 100000 in
set_option maxHeartbeats 4000000 in
theorem ahead_D2 (q : Nat) (v : Value) (c : List UInt8) (s : Nat × Int) (w : World) (hr : Rd w q v c s.1 s.2) (hl : c.length ≤ 140737488355328) (hE : stE c s = 0) (hK : stK c s = 2) (hf : ¬ (s5R c 2 s).2 = 0) : Calls Try.prog 27 #[.pointer (some ⟨q, 0, none⟩)] w fun e w' => e = .returned (.tuple #[Pk.z.v, .int .i64 (0), .int .i64 ((s5R c 2 s).2)]) ∧ Fx (fun k => k = q) w w' := by
  obtain ⟨w1, q2, r1, bx1, e1, hq2⟩ := new_any (t := 33) (cs := Pk.z.cs) zv33 w
  have hqw := hr.bl.lt
  have rd1 := hr.below e1
  have ho2 : Off v c q2 := hr.off (by omega)
  have hP : decide ((2 : Int) = 1 ∨ (2 : Int) = 2) = true := by decide
  refine calls_of_args [.pointer (some ⟨q, 0, none⟩)] Try.func27 rfl 44 Try.ntmps27 (by show 1 ≤ 44; decide) ?_
  refine EW.seq ?_
  refine EW.region ?_
  refine WL.new rfl rfl r1 ?_
  first | refine WL.assign rfl rfl rfl ?_
  first | refine WL.assign rfl rfl rfl ?_
  refine WL.done ?_
  refine EW.on ?_
  refine EW.seq ?_
  refine EW.region ?_
  first | refine WL.move rfl rfl rfl ?_
  refine WL.call [.pointer (some ⟨q, 0, none⟩)] enter31 rfl rfl rfl (rstart_any q v c s _ rd1 hl) ?_
  rintro _ w2 ⟨rfl, rd2, f2⟩
  have bx2 := bx1.fx f2 (fun e => by omega)
  have fx2 := (Fx.of_below (S := fun k => k = q) e1).and f2
  rw [hE, hK]
  refine ⟨_, rfl, ?_⟩
  first | refine WL.move rfl rfl rfl ?_
  first | refine WL.extract rfl rfl rfl (ext_2 _ _ _).1 ?_
  first | refine WL.extract rfl rfl rfl (ext_2 _ _ _).2 ?_
  refine WL.field rfl rfl rfl (f33_0 q2 0 _) ?_
  obtain ⟨w3, st3, bx3, f3⟩ := stPkK bx2 (2 : Int)
  refine WL.store rfl rfl rfl st3 ?_
  have rd3 := rd2.fx f3 (by omega) ho2
  have fx3 := fx2.trans f3 (fun k hk e => by have e : k = q2 := e; omega)
  first | refine WL.assign rfl rfl rfl ?_
  refine WL.done ?_
  refine EW.on ?_
  refine EW.seq ?_
  refine EW.seq ?_
  refine EW.region ?_
  first | refine WL.move rfl rfl rfl ?_
  first | refine WL.bin rfl rfl rfl rfl (int_ne_f rfl _ _ _) ?_ | refine WL.bin rfl rfl rfl rfl (int_ne_t ‹_› _ _ _) ?_ | refine WL.bin rfl rfl rfl rfl (int_ne_f ‹_› _ _ _) ?_ | refine WL.bin rfl rfl rfl rfl (int_ne_t (by decide) _ _ _) ?_ | refine WL.bin rfl rfl rfl rfl (int_ne_d _ _ _ _ _) ?_
  refine WL.done ?_
  refine EW.on ?_
  refine EW.cond_f rfl ?_
  refine EW.skip ?_
  refine EW.on ?_
  refine EW.seq ?_
  refine EW.seq ?_
  refine EW.region ?_
  refine WL.field rfl rfl rfl (f33_0 q2 0 _) ?_
  refine WL.load rfl rfl rfl (ldPkK bx3) ?_
  refine WL.call [.int .i64 2] enter44 rfl rfl rfl (isp_any _ _) ?_
  rintro _ wz ⟨rfl, hz⟩
  rw [hz, hP]
  clear hz
  refine ⟨_, rfl, ?_⟩
  refine WL.un rfl rfl rfl (not_t _ _) ?_
  refine WL.done ?_
  refine EW.on ?_
  refine EW.cond_f rfl ?_
  refine EW.skip ?_
  refine EW.on ?_
  refine EW.seq ?_
  refine EW.seq ?_
  refine EW.region ?_
  refine WL.field rfl rfl rfl (f33_0 q2 0 _) ?_
  refine WL.load rfl rfl rfl (ldPkK bx3) ?_
  first | refine WL.bin rfl rfl rfl rfl (int_eq_t rfl _ _ _) ?_ | refine WL.bin rfl rfl rfl rfl (int_eq_t ‹_› _ _ _) ?_ | refine WL.bin rfl rfl rfl rfl (int_eq_f ‹_› _ _ _) ?_ | refine WL.bin rfl rfl rfl rfl (int_eq_d _ _ _ _ _) ?_
  refine WL.done ?_
  refine EW.on ?_
  refine EW.cond_f rfl ?_
  refine EW.skip ?_
  refine EW.on ?_
  refine EW.seq ?_
  refine EW.region ?_
  first | refine WL.move rfl rfl rfl ?_
  refine WL.call [.pointer (some ⟨q, 0, none⟩)] enter50 rfl rfl rfl (rheader_any q v c (s3R c 2 s) _ rd3 hl) ?_
  rintro _ w4 ⟨rfl, rd4, f4⟩
  have bx4 := bx3.fx f4 (fun e => by omega)
  have fx4 := fx3.and f4
  refine ⟨_, rfl, ?_⟩
  refine WL.field rfl rfl rfl (f33_2 q2 0 _) ?_
  obtain ⟨w5, st5, bx5, f5⟩ := stPkH bx4 ⟨hlR_ok c 2 s, Hd.z_ok⟩ (hedR c (s3R c 2 s)) (hedR_ok _ _)
  refine WL.store rfl rfl rfl st5 ?_
  have rd5 := rd4.fx f5 (by omega) ho2
  have fx5 := fx4.trans f5 (fun k hk e => by have e : k = q2 := e; omega)
  refine WL.done ?_
  refine EW.on ?_
  refine EW.seq ?_
  refine EW.region ?_
  first | refine WL.move rfl rfl rfl ?_
  refine WL.call [.pointer (some ⟨q, 0, none⟩)] enter51 rfl rfl rfl (rn2_any q v c (s4R c 2 s) _ rd5 hl) ?_
  rintro _ w6 ⟨rfl, rd6, f6⟩
  have bx6 := bx5.fx f6 (fun e => by omega)
  have fx6 := fx5.and f6
  refine ⟨_, rfl, ?_⟩
  first | refine WL.assign rfl rfl rfl ?_
  refine WL.done ?_
  refine EW.on ?_
  refine EW.seq ?_
  refine EW.seq ?_
  refine EW.region ?_
  first | refine WL.move rfl rfl rfl ?_
  refine WL.call [.pointer (some ⟨q, 0, none⟩)] enter30 rfl rfl rfl (fault_any q v c (s5R c 2 s) _ rd6) ?_
  rintro _ w7 ⟨fa, rfl, be7⟩
  have bx7 := bx6.on be7
  have fx7 := fx6.then_below be7
  have rd7 := rd6.below be7
  refine ⟨_, rfl, ?_⟩
  first | refine WL.move rfl rfl rfl ?_
  first | refine WL.extract rfl rfl rfl (ext_2 _ _ _).1 ?_
  first | refine WL.extract rfl rfl rfl (ext_2 _ _ _).2 ?_
  first | refine WL.assign rfl rfl rfl ?_
  first | refine WL.assign rfl rfl rfl ?_
  refine WL.done ?_
  refine EW.on ?_
  refine EW.seq ?_
  refine EW.region ?_
  first | refine WL.move rfl rfl rfl ?_
  first | refine WL.bin rfl rfl rfl rfl (int_ne_f rfl _ _ _) ?_ | refine WL.bin rfl rfl rfl rfl (int_ne_t ‹_› _ _ _) ?_ | refine WL.bin rfl rfl rfl rfl (int_ne_f ‹_› _ _ _) ?_ | refine WL.bin rfl rfl rfl rfl (int_ne_t (by decide) _ _ _) ?_ | refine WL.bin rfl rfl rfl rfl (int_ne_d _ _ _ _ _) ?_
  refine WL.done ?_
  refine EW.on ?_
  refine EW.cond_t rfl ?_
  refine EW.seq ?_
  refine EW.region ?_
  refine WL.buildN [] rfl rfl rfl (bd33 _) ?_
  first | refine WL.move rfl rfl rfl ?_
  obtain ⟨w9, st9, bx9, f9⟩ := stPk bx7 (pkR_ok c 2 s (.slice none 0 0)) Pk.z Pk.z_ok ⟨_, _, _, rfl⟩
  refine WL.store rfl rfl rfl st9 ?_
  have rd9 := rd7.fx f9 (by omega) ho2
  have fx9 := fx7.trans f9 (fun k hk e => by have e : k = q2 := e; omega)
  first | refine WL.assign rfl rfl rfl ?_
  first | refine WL.assign rfl rfl rfl ?_
  refine WL.done ?_
  refine EW.on ?_
  refine EW.ret ?_
  refine pr_then ?_
  exact EW.returnsCTT Try.results27 rfl rfl rfl bx9 Try.underlying33 rfl (i33 Pk.z_ok) ⟨rfl, fx9⟩
end Go.Proofs.Ytobfebpinkikdaa
