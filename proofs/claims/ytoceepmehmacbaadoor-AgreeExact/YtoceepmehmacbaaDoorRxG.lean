import Derived.Test.YtoceepmehmacbaaDoorGq
import Derived.Test.YtoceepmehmacbaaDoorKWideG
import Derived.Deep.Slices
set_option linter.unusedVariables false
set_option linter.unusedSimpArgs false
namespace Go.Proofs.YtoceepmehmacbaaDoor
open Go.RowKit

/-- An operation that is handed in. -/
structure Ap where
  kd : Int
  p : Pr
  q : Pr
  o : Of
  h : Hl
def Ap.cs (x : Ap) : List Value := [.int .i64 x.kd] ++ (x.p.cs ++ (x.q.cs ++ (x.o.cs ++ x.h.cs)))
def Ap.v (x : Ap) : Value := .agg x.cs.toArray
structure Ap.ok (x : Ap) : Prop where
  p : x.p.ok
  q : x.q.ok
  o : x.o.ok
  h : x.h.ok
theorem Ap.len {x : Ap} (k : x.ok) : x.cs.length = 259 := by simp [Ap.cs, Pr.len k.p, Pr.len k.q, Of.len k.o, Hl.len k.h]
theorem apF {w : World} {q : Nat} {x : Ap} {t : TypeId} (hb : Blk w q x.cs t) (k : x.ok) : (Instr.loadAt 3 (.pointer (some ⟨q, 0 + 0, none⟩))).run Tryd.prog w = .ok (.int .i64 x.kd) w ∧ (Instr.loadAt 25 (.pointer (some ⟨q, 0 + 1, none⟩))).run Tryd.prog w = .ok x.p.v w ∧ (Instr.loadAt 25 (.pointer (some ⟨q, 0 + 65, none⟩))).run Tryd.prog w = .ok x.q.v w ∧ (Instr.loadAt 28 (.pointer (some ⟨q, 0 + 129, none⟩))).run Tryd.prog w = .ok x.o.v w ∧ (Instr.loadAt 33 (.pointer (some ⟨q, 0 + 194, none⟩))).run Tryd.prog w = .ok x.h.v w := by
  obtain ⟨d5, u1, u2⟩ := u25
  obtain ⟨d8, v1, v2⟩ := u28
  obtain ⟨d3, z1, z2⟩ := u33
  refine ⟨?_, ?_, ?_, ?_, ?_⟩
  · have hc : w.cell? ⟨q, 0, none⟩ = some (.int .i64 x.kd) := hb.at1 (a := []) (b := x.p.cs ++ (x.q.cs ++ (x.o.cs ++ x.h.cs))) rfl rfl
    clear hb
    exact ldI3 hc
  · exact hb.ldA (a := [.int .i64 x.kd]) (m := x.p.cs) (b := x.q.cs ++ (x.o.cs ++ x.h.cs)) u1 u2 (i25 k.p) rfl rfl
  · exact hb.ldA (a := [.int .i64 x.kd] ++ x.p.cs) (m := x.q.cs) (b := x.o.cs ++ x.h.cs) u1 u2 (i25 k.q) (by simp [Ap.cs]) (by simp [Pr.len k.p])
  · exact hb.ldA (a := [.int .i64 x.kd] ++ (x.p.cs ++ x.q.cs)) (m := x.o.cs) (b := x.h.cs) v1 v2 (i28 k.o) (by simp [Ap.cs]) (by simp [Pr.len k.p, Pr.len k.q])
  · exact hb.ldA (a := [.int .i64 x.kd] ++ (x.p.cs ++ (x.q.cs ++ x.o.cs))) (m := x.h.cs) (b := []) z1 z2 (i33 k.h) (by simp [Ap.cs]) (by simp [Pr.len k.p, Pr.len k.q, Of.len k.o])
theorem bdAp {P Q : Pr} {o : Of} (hP : P.ok) (hQ : Q.ok) (ho : o.ok) (W : World) : (Instr.build 52 [(0, .int .i64 1), (1, P.v), (2, Q.v), (3, o.v)].toArray).run Tryd.prog W = .ok (Ap.v ⟨1, P, Q, o, Hl.z⟩) W := by
  refine run_build W 52 _ _ ?_
  rw [built_of (zs := Ap.cs ⟨0, Pr.z, Pr.z, Of.z, Hl.z⟩) (by kernel_rfl) Tryd.underlying52 (show _ = some [(0, 1), (1, 64), (65, 64), (129, 65), (194, 65)] by kernel_rfl)]
  show Instr.fill _ (Ap.cs ⟨0, Pr.z, Pr.z, Of.z, Hl.z⟩).toArray [(0, .int .i64 1), (1, P.v), (2, Q.v), (3, o.v)] = some (Ap.cs ⟨1, P, Q, o, Hl.z⟩).toArray
  rw [show Ap.cs ⟨0, Pr.z, Pr.z, Of.z, Hl.z⟩ = [] ++ ([.int .i64 0] ++ (Pr.z.cs ++ (Pr.z.cs ++ (Of.z.cs ++ Hl.z.cs)))) from rfl, fill_one (vs := [.int .i64 1]) (off := 0) (n := 1) rfl rfl rfl rfl rfl]
  rw [show ([] : List Value) ++ ([.int .i64 1] ++ (Pr.z.cs ++ (Pr.z.cs ++ (Of.z.cs ++ Hl.z.cs)))) = [.int .i64 1] ++ (Pr.z.cs ++ (Pr.z.cs ++ (Of.z.cs ++ Hl.z.cs))) from rfl, fill_one (vs := P.cs) (off := 1) (n := 64) rfl rfl (Pr.len hP) (Pr.len Pr.z_ok) rfl]
  rw [show [.int .i64 1] ++ (P.cs ++ (Pr.z.cs ++ (Of.z.cs ++ Hl.z.cs))) = ([.int .i64 1] ++ P.cs) ++ (Pr.z.cs ++ (Of.z.cs ++ Hl.z.cs)) from by simp, fill_one (vs := Q.cs) (off := 65) (n := 64) rfl rfl (Pr.len hQ) (Pr.len Pr.z_ok) (by simp [Pr.len hP])]
  rw [show ([.int .i64 1] ++ P.cs) ++ (Q.cs ++ (Of.z.cs ++ Hl.z.cs)) = ([.int .i64 1] ++ (P.cs ++ Q.cs)) ++ (Of.z.cs ++ Hl.z.cs) from by simp, fill_one (vs := o.cs) (off := 129) (n := 65) rfl rfl (Of.len ho) (Of.len Of.z_ok) (by simp [Pr.len hP, Pr.len hQ]), fill_nil]
  simp [Ap.cs]
set_option maxRecDepth 100000 in
set_option maxHeartbeats 4000000 in
theorem plays_any (x : Ap) (hx : x.ok) (w : World) (hS : St3 w) : Calls Tryd.prog 13 #[x.v] w fun e w' => e = .returned (.bool true) ∧ Below w.heap.size w w' := by
  obtain ⟨g, hg⟩ : ∃ g, agOf x.o.pre ⟨x.p.a, x.o.key⟩ ⟨x.q.a, x.o.id⟩ ⟨x.q.a, x.o.key⟩ = g := ⟨_, rfl⟩
  obtain ⟨g', hg'⟩ : ∃ g, agOf x.h.pre ⟨x.q.a, x.h.id⟩ ⟨x.p.a, x.h.once⟩ ⟨x.q.a, x.h.once⟩ = g := ⟨_, rfl⟩
  obtain ⟨A, hA⟩ : ∃ A, stA g x.p x.q x.o = A := ⟨_, rfl⟩
  obtain ⟨B, hB⟩ : ∃ A, meA g' x.p x.h = A := ⟨_, rfl⟩
  have kA : A.ok := by rw [← hA]; exact stA_ok (by rw [← hg]; exact (agOf_len _ _ _ _).1) (by rw [← hg]; exact (agOf_len _ _ _ _).2) hx.p hx.q hx.o
  have kB : B.ok := by rw [← hB]; exact meA_ok (by rw [← hg']; exact (agOf_len _ _ _ _).1) (by rw [← hg']; exact (agOf_len _ _ _ _).2) hx.p hx.h
  obtain ⟨w1, q1, r1, b1, l1, hq1⟩ := box_any 52 x.cs w
  refine calls_of_args [x.v] Tryd.func13 rfl 39 Tryd.ntmps13 (by show 1 ≤ 39; decide) ?_; refine EW.seq ?_; refine EW.region ?_; refine WL.box rfl rfl rfl r1 ?_; refine WL.assign rfl rfl rfl ?_; refine WL.done ?_; refine EW.on ?_; refine EW.seq ?_; refine EW.seq ?_; refine EW.region ?_; refine WL.field rfl rfl rfl (f52_0 q1 0 _) ?_; refine WL.load rfl rfl rfl ((apF b1 hx).1) ?_; refine WL.done ?_; refine EW.on ?_; refine EW.block ?_; refine EW.seq ?_; refine EW.region ?_; refine WL.bin rfl rfl rfl rfl (int_eq_d _ _ _ _ _) ?_; refine WL.assign rfl rfl rfl ?_; refine WL.done ?_; refine EW.on ?_; refine EW.cond_d rfl (fun h5 => ?_) (fun h5 => ?_)
  · refine EW.seq ?_; refine EW.ordB [(0, 0, 0), (1, 0, 1), (2, 0, 0), (3, 0, 1), (4, 0, 0), (5, 0, 1), (7, 0, 0), (8, 0, 1), (9, 0, 0), (10, 0, 1), (11, 0, 0), (12, 0, 1), (6, 1, 1), (13, 1, 1), (14, 0, 0), (15, 0, 0)] (by kernel_rfl) rfl (by kernel_rfl) ?_; simp only [opsZ, List.getD_cons_zero, List.getD_cons_succ]; refine ZE.field rfl rfl rfl rfl sz0 (fun W => f52_1 q1 0 W) ?_; refine ZE.load rfl rfl rfl rfl sz1 (fun W hW => (apF (b1.on (sb_of hW)) hx).2.1) ?_; refine ZE.field rfl rfl rfl rfl sz0 (fun W => f52_2 q1 0 W) ?_; refine ZE.load rfl rfl rfl rfl sz1 (fun W hW => (apF (b1.on (sb_of hW)) hx).2.2.1) ?_; refine ZE.field rfl rfl rfl rfl sz0 (fun W => f52_3 q1 0 W) ?_; refine ZE.load rfl rfl rfl rfl sz1 (fun W hW => (apF (b1.on (sb_of hW)) hx).2.2.2.1) ?_; refine ZE.field rfl rfl rfl rfl sz0 (fun W => f52_1 q1 0 W) ?_; refine ZE.load rfl rfl rfl rfl sz1 (fun W hW => (apF (b1.on (sb_of hW)) hx).2.1) ?_; refine ZE.field rfl rfl rfl rfl sz0 (fun W => f52_2 q1 0 W) ?_; refine ZE.load rfl rfl rfl rfl sz1 (fun W hW => (apF (b1.on (sb_of hW)) hx).2.2.1) ?_; refine ZE.field rfl rfl rfl rfl sz0 (fun W => f52_3 q1 0 W) ?_; refine ZE.load rfl rfl rfl rfl sz1 (fun W hW => (apF (b1.on (sb_of hW)) hx).2.2.2.1) ?_; refine ZE.callB (v := A.v) [x.p.v, x.q.v, x.o.v] enter7 rfl rfl rfl (fun W h => .inr h) (fun W hW => start_any x.p x.q x.o hx.p hx.q hx.o g hg A hA W (hS.on (bt l1 hW)).k) ?_; refine ZE.callB (v := A.v) [x.p.v, x.q.v, x.o.v] enter21 rfl rfl rfl (fun W h => .inr h) (fun W hW => rstart_any x.p x.q x.o hx.p hx.q hx.o g hg A hA W (hS.on (bt l1 hW))) ?_; refine ZE.bin rfl rfl rfl rfl rfl sz0 (fun W => eql35_t (g := A) kA rfl W _ _) ?_; refine ZE.assign rfl rfl rfl rfl sz0 ?_
    intro W9 h9
    refine EW.on ?_; refine EW.ret ?_; refine pr_block ?_; refine pr_then ?_
    exact EW.returns Tryd.results13 rfl ⟨rfl, bt l1 h9⟩
  · refine EW.seq ?_; refine EW.region ?_; refine WL.bin rfl rfl rfl rfl (int_eq_d _ _ _ _ _) ?_; refine WL.assign rfl rfl rfl ?_; refine WL.done ?_; refine EW.on ?_; refine EW.cond_d rfl (fun h22 => ?_) (fun h22 => ?_)
    · refine EW.seq ?_; refine EW.ordB [(0, 0, 0), (1, 0, 1), (2, 0, 0), (3, 0, 1), (4, 0, 0), (5, 0, 1), (7, 0, 0), (8, 0, 1), (9, 0, 0), (10, 0, 1), (11, 0, 0), (12, 0, 1), (6, 1, 1), (13, 1, 1), (14, 0, 0), (15, 0, 0)] (by kernel_rfl) rfl (by kernel_rfl) ?_; simp only [opsZ, List.getD_cons_zero, List.getD_cons_succ]; refine ZE.field rfl rfl rfl rfl sz0 (fun W => f52_1 q1 0 W) ?_; refine ZE.load rfl rfl rfl rfl sz1 (fun W hW => (apF (b1.on (sb_of hW)) hx).2.1) ?_; refine ZE.field rfl rfl rfl rfl sz0 (fun W => f52_2 q1 0 W) ?_; refine ZE.load rfl rfl rfl rfl sz1 (fun W hW => (apF (b1.on (sb_of hW)) hx).2.2.1) ?_; refine ZE.field rfl rfl rfl rfl sz0 (fun W => f52_4 q1 0 W) ?_; refine ZE.load rfl rfl rfl rfl sz1 (fun W hW => (apF (b1.on (sb_of hW)) hx).2.2.2.2) ?_; refine ZE.field rfl rfl rfl rfl sz0 (fun W => f52_1 q1 0 W) ?_; refine ZE.load rfl rfl rfl rfl sz1 (fun W hW => (apF (b1.on (sb_of hW)) hx).2.1) ?_; refine ZE.field rfl rfl rfl rfl sz0 (fun W => f52_2 q1 0 W) ?_; refine ZE.load rfl rfl rfl rfl sz1 (fun W hW => (apF (b1.on (sb_of hW)) hx).2.2.1) ?_; refine ZE.field rfl rfl rfl rfl sz0 (fun W => f52_4 q1 0 W) ?_; refine ZE.load rfl rfl rfl rfl sz1 (fun W hW => (apF (b1.on (sb_of hW)) hx).2.2.2.2) ?_; refine ZE.callB (v := B.v) [x.p.v, x.q.v, x.h.v] enter11 rfl rfl rfl (fun W h => .inr h) (fun W hW => meet_any x.p x.q x.h hx.p hx.q hx.h g' hg' B hB W (hS.on (bt l1 hW)).k) ?_; refine ZE.callB (v := B.v) [x.p.v, x.q.v, x.h.v] enter22 rfl rfl rfl (fun W h => .inr h) (fun W hW => rmeet_any x.p x.q x.h hx.p hx.q hx.h g' hg' B hB W (hS.on (bt l1 hW))) ?_; refine ZE.bin rfl rfl rfl rfl rfl sz0 (fun W => eql35_t (g := B) kB rfl W _ _) ?_; refine ZE.assign rfl rfl rfl rfl sz0 ?_
      intro W9 h9
      refine EW.on ?_; refine EW.ret ?_; refine pr_block ?_; refine pr_then ?_
      exact EW.returns Tryd.results13 rfl ⟨rfl, bt l1 h9⟩
    · refine EW.skip ?_; refine pn_block ?_; refine EW.on ?_; refine EW.seq ?_; refine EW.region ?_; refine WL.assign rfl rfl rfl ?_; refine WL.done ?_; refine EW.on ?_; refine EW.ret ?_
      exact EW.returns Tryd.results13 rfl ⟨rfl, l1⟩
def k8 : List UInt8 := 8 :: List.replicate 31 0
def k9 : List UInt8 := 9 :: List.replicate 31 0
theorem bdk8 (W : World) : (Instr.build 23 [(0, .int .u8 8)].toArray).run Tryd.prog W = .ok (kv k8) W := by kernel_rfl
theorem bdk9 (W : World) : (Instr.build 23 [(0, .int .u8 9)].toArray).run Tryd.prog W = .ok (kv k9) W := by kernel_rfl
def exE (sv : Value) (t : Nat) : List (Nat × Value) := [(0, sv), (3, .int .i64 (t : Int))]
def ExI (w : World) (t : Nat) (W : World) : Prop := t ≤ 4 ∧ Below w.heap.size w W
def p89 : Pr := ⟨k8, k9⟩
theorem p89_ok : p89.ok := ⟨rfl, rfl⟩
def o97 : Of := ⟨k9, 7, k9⟩
theorem o97_ok : o97.ok := ⟨rfl, by decide, rfl⟩
def a89 : Ap := ⟨1, p89, p89, o97, Hl.z⟩
theorem a89_ok : a89.ok := ⟨p89_ok, p89_ok, o97_ok, Hl.z_ok⟩
set_option maxRecDepth 100000 in
set_option maxHeartbeats 4000000 in
theorem exact_any (w : World) (hS : St3 w) (sv : Value) (n : Nat) (hlen : ∀ (W : World) (ty : TypeId), (Builtin.len_ #[49] ty #[sv]).run Tryd.prog W = .ok (.int .i64 (n : Int)) W) (hat : ∀ i, i < n → ∃ x : Ap, x.ok ∧ ∃ ad, (∀ W, (Instr.indexAt 49 sv (.int .i64 (i : Int))).run Tryd.prog W = .ok (.pointer (some ad)) W) ∧ ∀ W, Below w.heap.size w W → (Instr.loadAt 52 (.pointer (some ad))).run Tryd.prog W = .ok x.v W) : Calls Tryd.prog 6 #[sv] w fun e w' => e = .returned (.bool true) ∧ Below w.heap.size w w' := by
  refine calls_of_args [sv] Tryd.func6 rfl 33 Tryd.ntmps6 (by show 1 ≤ 33; decide) ?_; refine EW.seq ?_; refine EW.region ?_; refine WL.assign rfl rfl rfl ?_; refine WL.done ?_; refine EW.on ?_; refine EW.seq ?_; refine EW.seq ?_; refine EW.region ?_; refine WL.assign rfl rfl rfl ?_; refine WL.done ?_; refine EW.on ?_; refine EW.block ?_; refine EW.loop (exE sv) (ExI w) (fun t => 4 - t) 0 [0, 3] rfl ⟨Nat.zero_le _, Below.refl _ _⟩ ?_
  rintro t wi ⟨htl, be⟩
  show EW _ _ _ _ [(0, sv), (3, .int .i64 (t : Int))] _
  refine EW.seq ?_; refine EW.seq ?_
  have hcs : (t < n ∧ t < 4) ∨ n ≤ t ∨ (t < n ∧ 4 ≤ t) := by omega
  rcases hcs with ⟨ha, hb⟩ | ha | ⟨ha, hb⟩
  · refine EW.region ?_; refine WL.move rfl rfl rfl ?_; refine WL.move rfl rfl rfl ?_; refine WL.len rfl rfl rfl (hlen _ _) ?_; refine WL.bin rfl rfl rfl rfl (int_lt_t (by omega) _ _ _) ?_; refine WL.move rfl rfl rfl ?_
    first | refine WL.move rfl rfl rfl ?_ | refine WL.skip _ rfl rfl rfl ?_
    refine WL.bin rfl rfl rfl rfl (int_lt_t (by omega) _ _ _) ?_; refine WL.pick rfl rfl rfl rfl ?_; refine WL.done ?_; refine EW.on ?_; refine EW.cond_t rfl ?_; refine EW.skip ?_; refine EW.on ?_; refine EW.seq ?_; refine EW.block ?_; refine EW.seq ?_; refine EW.region ?_; refine WL.move rfl rfl rfl ?_; refine WL.move rfl rfl rfl ?_
    obtain ⟨x, hx, ad, ix, ld⟩ := hat t (by omega)
    refine WL.index rfl rfl rfl rfl (ix _) ?_; refine WL.load rfl rfl rfl (ld _ be) ?_; refine WL.call [x.v] enter13 rfl rfl rfl (plays_any x hx wi (hS.on be)) ?_
    rintro _ w5 ⟨rfl, be5⟩
    refine ⟨_, rfl, ?_⟩; refine WL.assign rfl rfl rfl ?_; refine WL.done ?_; refine EW.on ?_; refine EW.seq ?_; refine EW.region ?_; refine WL.move rfl rfl rfl ?_; refine WL.un rfl rfl rfl (not_t _ _) ?_; refine WL.done ?_; refine EW.on ?_; refine EW.cond_f rfl ?_; refine EW.skip ?_; refine pn_block ?_; refine EW.on ?_; refine EW.region ?_; refine WL.move rfl rfl rfl ?_; refine WL.bin rfl rfl rfl rfl (int_add (c := ((t + 1 : Nat) : Int)) (by rw [IntKind.wrap_i64]; omega) _ _ _) ?_; refine WL.assign rfl rfl rfl ?_; refine WL.done ?_
    exact EW.again (E := exE sv) (R := ExI w) (m := fun t => 4 - t) (x := t) (t + 1) [0, 3] rfl ⟨by omega, bt be be5⟩ (by show 4 - (t + 1) < 4 - t; omega)
  · refine EW.region ?_; refine WL.move rfl rfl rfl ?_; refine WL.move rfl rfl rfl ?_; refine WL.len rfl rfl rfl (hlen _ _) ?_; refine WL.bin rfl rfl rfl rfl (int_lt_f (by omega) _ _ _) ?_; refine WL.move rfl rfl rfl ?_
    first | refine WL.move rfl rfl rfl ?_ | refine WL.skip _ rfl rfl rfl ?_
    refine WL.skip _ rfl rfl rfl ?_; refine WL.pick rfl rfl rfl rfl ?_; refine WL.done ?_; refine EW.on ?_; refine EW.cond_f rfl ?_; refine EW.exit ?_; refine px_then ?_; refine px_then ?_; refine px_block ?_; refine EW.on ?_; refine EW.seq ?_; refine EW.region ?_; refine WL.buildN [(0, .int .u8 8)] rfl rfl rfl (bdk8 _) ?_; refine WL.buildN [(0, .int .u8 9)] rfl rfl rfl (bdk9 _) ?_; refine WL.buildN [(0, kv k8), (1, kv k9)] rfl rfl rfl (bdPr25 (a := k8) (b := k9) rfl rfl _) ?_
    obtain ⟨q5, w6, w7, s6, s7, b7, l7, hq5⟩ := put25 p89_ok wi
    refine WL.new rfl rfl s6 ?_; refine WL.store rfl rfl rfl s7 ?_; refine WL.done ?_; refine EW.on ?_; refine EW.seq ?_; refine EW.region ?_; refine WL.load rfl rfl rfl (ldPr b7 p89_ok) ?_; refine WL.load rfl rfl rfl (ldPr b7 p89_ok) ?_; refine WL.buildN [(0, .int .u8 9)] rfl rfl rfl (bdk9 _) ?_; refine WL.buildN [(0, .int .u8 9)] rfl rfl rfl (bdk9 _) ?_; refine WL.buildN [(0, kv k9), (1, u32v 7), (2, kv k9)] rfl rfl rfl (bdOf (a := k9) (b := k9) (n := 7) rfl rfl _) ?_; refine WL.buildN [(0, .int .i64 1), (1, p89.v), (2, p89.v), (3, o97.v)] rfl rfl rfl (bdAp p89_ok p89_ok o97_ok _) ?_; refine WL.call [a89.v] enter13 rfl rfl rfl (plays_any a89 a89_ok w7 (hS.on (bt be l7))) ?_
    rintro _ w8 ⟨rfl, be8⟩
    refine ⟨_, rfl, ?_⟩; refine WL.assign rfl rfl rfl ?_; refine WL.done ?_; refine EW.on ?_; refine EW.ret ?_
    exact EW.returns Tryd.results6 rfl ⟨rfl, bt (bt be l7) be8⟩
  · refine EW.region ?_; refine WL.move rfl rfl rfl ?_; refine WL.move rfl rfl rfl ?_; refine WL.len rfl rfl rfl (hlen _ _) ?_; refine WL.bin rfl rfl rfl rfl (int_lt_t (by omega) _ _ _) ?_; refine WL.move rfl rfl rfl ?_
    first | refine WL.move rfl rfl rfl ?_ | refine WL.skip _ rfl rfl rfl ?_
    refine WL.bin rfl rfl rfl rfl (int_lt_f (by omega) _ _ _) ?_; refine WL.pick rfl rfl rfl rfl ?_; refine WL.done ?_; refine EW.on ?_; refine EW.cond_f rfl ?_; refine EW.exit ?_; refine px_then ?_; refine px_then ?_; refine px_block ?_; refine EW.on ?_; refine EW.seq ?_; refine EW.region ?_; refine WL.buildN [(0, .int .u8 8)] rfl rfl rfl (bdk8 _) ?_; refine WL.buildN [(0, .int .u8 9)] rfl rfl rfl (bdk9 _) ?_; refine WL.buildN [(0, kv k8), (1, kv k9)] rfl rfl rfl (bdPr25 (a := k8) (b := k9) rfl rfl _) ?_
    obtain ⟨q5, w6, w7, s6, s7, b7, l7, hq5⟩ := put25 p89_ok wi
    refine WL.new rfl rfl s6 ?_; refine WL.store rfl rfl rfl s7 ?_; refine WL.done ?_; refine EW.on ?_; refine EW.seq ?_; refine EW.region ?_; refine WL.load rfl rfl rfl (ldPr b7 p89_ok) ?_; refine WL.load rfl rfl rfl (ldPr b7 p89_ok) ?_; refine WL.buildN [(0, .int .u8 9)] rfl rfl rfl (bdk9 _) ?_; refine WL.buildN [(0, .int .u8 9)] rfl rfl rfl (bdk9 _) ?_; refine WL.buildN [(0, kv k9), (1, u32v 7), (2, kv k9)] rfl rfl rfl (bdOf (a := k9) (b := k9) (n := 7) rfl rfl _) ?_; refine WL.buildN [(0, .int .i64 1), (1, p89.v), (2, p89.v), (3, o97.v)] rfl rfl rfl (bdAp p89_ok p89_ok o97_ok _) ?_; refine WL.call [a89.v] enter13 rfl rfl rfl (plays_any a89 a89_ok w7 (hS.on (bt be l7))) ?_
    rintro _ w8 ⟨rfl, be8⟩
    refine ⟨_, rfl, ?_⟩; refine WL.assign rfl rfl rfl ?_; refine WL.done ?_; refine EW.on ?_; refine EW.ret ?_
    exact EW.returns Tryd.results6 rfl ⟨rfl, bt (bt be l7) be8⟩
end Go.Proofs.YtoceepmehmacbaaDoor
set_option linter.unusedVariables false
set_option linter.unusedSimpArgs false
namespace Go.Proofs.YtoceepmehmacbaaDoor
open Go.ChangeShapes Go.WideShapes Go.ChangeAt Go.RowKit

theorem len49 (ao : Option Addr) (n c : Nat) (W : World) (ty : TypeId) : (Builtin.len_ #[49] ty #[.slice ao n c]).run Tryd.prog W = .ok (.int .i64 (n : Int)) W := by
  go_simp
theorem idx49 (ad : Addr) (n cap m : Nat) (h : m < n) (W : World) : (Instr.indexAt 49 (.slice (some ad) n cap) (.int .i64 (m : Int))).run Tryd.prog W = .ok (.pointer (some (ad.add (259 * m)))) W := by
  have hm : (m : Int) < (n : Int) := by omega
  have h1 : m * 259 = 259 * m := by omega
  go_simp
  try simp [h1]
section
variable {H : Type} {enc : TypeId × Value → H} {W : World} {base : Nat} {spare : Nat → Bool} {held : Bool} {fuel : Nat} {cs : List Value} {x : DataW H × List MemPlace}
theorem op_of (h : DataW.trod enc Tryd.prog W base spare held fuel 52 cs = some x) : ∃ X : Ap, cs = X.cs ∧ X.ok := by
  obtain ⟨hl, n, hf⟩ := fld_of Tryd.underlying52 h
  have h259 : Tryd.prog.cellsOf 52 = 259 := by kernel_rfl
  rw [h259] at hl
  obtain ⟨y0, t0, m0⟩ := fld_at hf 0 (ft := 3) (off := 0) (sz := 1) rfl rfl rfl (by kernel_rfl)
  obtain ⟨y1, t1, m1⟩ := fld_at hf 1 (ft := 25) (off := 1) (sz := 64) rfl rfl rfl (by kernel_rfl)
  obtain ⟨y2, t2, m2⟩ := fld_at hf 2 (ft := 25) (off := 65) (sz := 64) rfl rfl rfl (by kernel_rfl)
  obtain ⟨y3, t3, m3⟩ := fld_at hf 3 (ft := 28) (off := 129) (sz := 65) rfl rfl rfl (by kernel_rfl)
  obtain ⟨y4, t4, m4⟩ := fld_at hf 4 (ft := 33) (off := 194) (sz := 65) rfl rfl rfl (by kernel_rfl)
  obtain ⟨k, e0, _, _⟩ := DataW.trod_int Tryd.underlying3 t0
  obtain ⟨g1, k1, e1⟩ := par_of t1
  obtain ⟨g2, k2, e2⟩ := par_of t2
  obtain ⟨g3, k3, e3⟩ := off_of_trod t3
  obtain ⟨g4, k4, e4⟩ := hel_of t4
  refine ⟨⟨k, g1, g2, g3, g4⟩, ?_, ⟨k1, k2, k3, k4⟩⟩
  unfold Ap.cs
  dsimp only
  rw [← e0, ← e1, ← e2, ← e3, ← e4, List.drop_zero, List.take_of_length_le (l := cs.drop 194) (by rw [List.length_drop]; omega), show cs.drop 194 = (cs.drop 129).drop 65 from by rw [List.drop_drop], List.take_append_drop, show cs.drop 129 = (cs.drop 65).drop 64 from by rw [List.drop_drop], List.take_append_drop, show cs.drop 65 = (cs.drop 1).drop 64 from by rw [List.drop_drop], List.take_append_drop, List.take_append_drop]
/-- The script as the law takes it. -/
structure Scr (w : World) (sv : Value) (n : Nat) : Prop where
  len : ∀ (W : World) (ty : TypeId), (Builtin.len_ #[49] ty #[sv]).run Tryd.prog W = .ok (.int .i64 (n : Int)) W
  at_ : ∀ i, i < n → ∃ x : Ap, x.ok ∧ ∃ ad, (∀ W, (Instr.indexAt 49 sv (.int .i64 (i : Int))).run Tryd.prog W = .ok (.pointer (some ad)) W) ∧ ∀ W, Below w.heap.size w W → (Instr.loadAt 52 (.pointer (some ad))).run Tryd.prog W = .ok x.v W
set_option maxRecDepth 100000 in
theorem script_of (h : DataW.trod enc Tryd.prog W base spare held fuel 49 cs = some x) : ∃ v n, cs = [v] ∧ Scr W v n := by
  rcases Deep.open_slice Tryd.underlying49 h with ⟨rfl, _⟩ | ⟨a, len, cap, m, n, D, Pl, rfl, _, hl, hm, hmm, hxx, hx⟩
  · exact ⟨_, 0, rfl, ⟨fun W ty => len49 _ _ _ W ty, fun i hi => absurd hi (Nat.not_lt_zero _)⟩⟩
  · have hlm : len ≤ m := by rw [hmm]; split <;> omega
    have h259 : Tryd.prog.cellsOf 52 = 259 := by kernel_rfl
    refine ⟨_, len, rfl, ⟨fun W ty => len49 _ _ _ W ty, fun i hi => ?_⟩⟩
    obtain ⟨cs', h1, h2⟩ := hx i (by omega)
    rw [h259] at h1
    obtain ⟨_, hlen, hc⟩ := World.cells?_some h1
    obtain ⟨X, rfl, hX⟩ := op_of h2
    refine ⟨X, hX, _, fun W => idx49 a len cap i hi W, fun W' hW => run_loadA (cs := X.cs) (At.below (fun j v hj => ?_) hW) Tryd.underlying52 rfl (by rw [Ap.len hX]; kernel_rfl)⟩
    have hjl : j < 259 := by
      have := (List.getElem?_eq_some_iff.1 hj).1
      rw [Ap.len hX] at this
      exact this
    rw [show 259 * i = i * 259 by omega]
    exact (hc j hjl).trans hj
end
end Go.Proofs.YtoceepmehmacbaaDoor
