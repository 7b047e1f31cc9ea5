import Derived.Test.YtnfikgnploockaaDoorSo
import Derived.Laws.Tables
set_option linter.unusedVariables false
set_option linter.unusedSimpArgs false
namespace Go.Proofs.YtnfikgnploockaaDoor
open Go.RowKit

/-- An operation of the script. -/
structure Opx where
  k : Int
  a : List UInt8
  b : List UInt8
  x : List UInt8
  y : List UInt8
  t : List UInt8
def Opx.cs (o : Opx) : List Value := [.int .i64 o.k] ++ ([sv o.a] ++ ([sv o.b] ++ (o.x.map byt ++ (o.y.map byt ++ [sv o.t]))))
def Opx.v (o : Opx) : Value := .agg o.cs.toArray
structure Opx.ok (o : Opx) : Prop where
  x : o.x.length = 32
  y : o.y.length = 32
  t : o.t.length ≤ 140737488355328
theorem Opx.len {o : Opx} (h : o.ok) : o.cs.length = 68 := by simp [Opx.cs, h.x, h.y]
theorem Blk.range' {w : World} {q o : Nat} {cs a m b : List Value} {t : TypeId} (hb : Blk w q cs t) (hc : cs = a ++ (m ++ b)) (ho : a.length = o) : w.rangeAt q o m := fun j v hj => by
  rw [hb.cell, hc, ← ho, List.getElem?_append_right (by omega), show a.length + j - a.length = j by omega, List.getElem?_append_left (List.getElem?_eq_some_iff.1 hj).1]
  exact hj
theorem Blk.ldK {w : World} {q o : Nat} {cs a b : List Value} {t : TypeId} {K : List UInt8} (hb : Blk w q cs t) (hc : cs = a ++ (K.map byt ++ b)) (ho : a.length = o) (hK : K.length = 32) : (Instr.loadAt 23 (.pointer (some ⟨q, o, none⟩))).run Tryd.prog w = .ok (kv K) w :=
  run_loadAt_mid w q o 23 (K.map byt) _ (hb.range' hc ho) u23 rfl (i23 hK)
theorem Blk.at1' {w : World} {q o : Nat} {cs : List Value} {t : TypeId} {x : Value} (hb : Blk w q cs t) (hc : cs[o]? = some x) : w.cell? ⟨q, o, none⟩ = some x := (hb.cell o).trans hc
theorem f46_0 (q : Nat) (W : World) : (Instr.fieldAt 46 (.pointer (some ⟨q, 0, none⟩)) 0).run Tryd.prog W = .ok (.pointer (some ⟨q, 0, none⟩)) W := by go_simp
theorem f46_1 (q : Nat) (W : World) : (Instr.fieldAt 46 (.pointer (some ⟨q, 0, none⟩)) 1).run Tryd.prog W = .ok (.pointer (some ⟨q, 1, none⟩)) W := by go_simp
theorem f46_2 (q : Nat) (W : World) : (Instr.fieldAt 46 (.pointer (some ⟨q, 0, none⟩)) 2).run Tryd.prog W = .ok (.pointer (some ⟨q, 2, none⟩)) W := by go_simp
theorem f46_3 (q : Nat) (W : World) : (Instr.fieldAt 46 (.pointer (some ⟨q, 0, none⟩)) 3).run Tryd.prog W = .ok (.pointer (some ⟨q, 3, none⟩)) W := by go_simp
theorem f46_4 (q : Nat) (W : World) : (Instr.fieldAt 46 (.pointer (some ⟨q, 0, none⟩)) 4).run Tryd.prog W = .ok (.pointer (some ⟨q, 35, none⟩)) W := by go_simp
theorem f46_5 (q : Nat) (W : World) : (Instr.fieldAt 46 (.pointer (some ⟨q, 0, none⟩)) 5).run Tryd.prog W = .ok (.pointer (some ⟨q, 67, none⟩)) W := by go_simp
theorem ld3 {w : World} {ad : Addr} {k : Int} (h : w.cell? ad = some (.int .i64 k)) : (Instr.loadAt 3 (.pointer (some ad))).run Tryd.prog w = .ok (.int .i64 k) w := by go_simp
structure Opl (W : World) (q : Nat) (o : Opx) : Prop where
  k : (Instr.loadAt 3 (.pointer (some ⟨q, 0, none⟩))).run Tryd.prog W = .ok (.int .i64 o.k) W
  a : (Instr.loadAt 9 (.pointer (some ⟨q, 1, none⟩))).run Tryd.prog W = .ok (sv o.a) W
  b : (Instr.loadAt 9 (.pointer (some ⟨q, 2, none⟩))).run Tryd.prog W = .ok (sv o.b) W
  x : (Instr.loadAt 23 (.pointer (some ⟨q, 3, none⟩))).run Tryd.prog W = .ok (kv o.x) W
  y : (Instr.loadAt 23 (.pointer (some ⟨q, 35, none⟩))).run Tryd.prog W = .ok (kv o.y) W
  t : (Instr.loadAt 9 (.pointer (some ⟨q, 67, none⟩))).run Tryd.prog W = .ok (sv o.t) W
theorem Blk.opl {W : World} {q : Nat} {o : Opx} {t : TypeId} (hb : Blk W q o.cs t) (h : o.ok) : Opl W q o := by
  refine ⟨ld3 (hb.at1' rfl), ld9 (hb.at1' rfl), ld9 (hb.at1' rfl), hb.ldK (a := [.int .i64 o.k, sv o.a, sv o.b]) (b := o.y.map byt ++ [sv o.t]) rfl rfl h.x, hb.ldK (a := [.int .i64 o.k, sv o.a, sv o.b] ++ o.x.map byt) (b := [sv o.t]) (K := o.y) (o := 35) (by simp [Opx.cs]) (by simp [h.x]) h.y, ld9 (hb.at1' ?_)⟩
  unfold Opx.cs
  rw [show ([.int .i64 o.k] ++ ([sv o.a] ++ ([sv o.b] ++ (o.x.map byt ++ (o.y.map byt ++ [sv o.t]))))) = ([.int .i64 o.k, sv o.a, sv o.b] ++ (o.x.map byt ++ o.y.map byt)) ++ [sv o.t] by simp, List.getElem?_append_right (by simp [h.x, h.y])]
  simp [h.x, h.y]
theorem box46 (o : Opx) (w : World) : ∃ w1 q, (Instr.box 46 o.v).run Tryd.prog w = .ok (.pointer (some ⟨q, 0, none⟩)) w1 ∧ Blk w1 q o.cs 46 ∧ Below w.heap.size w w1 ∧ q = w.heap.size :=
  ⟨_, _, run_boxR 46 _ w _ rfl, Blk.new _ _ _, below_new _ _, rfl⟩
theorem bool_eq_t {a b : Bool} (h : a = b) (W : World) (x y : Operand) : (do eqGuard .eql 4 x y (.bool a) (.bool b); binOp .eql 4 (.bool a) (.bool b) : Sem Value).run Tryd.prog W = .ok (.bool true) W := by
  subst h
  cases a <;> go_simp
set_option maxRecDepth 100000 in
set_option maxHeartbeats 4000000 in
theorem plays_any (o : Opx) (h : o.ok) (w : World) (hD : Dst w) : Calls Tryd.prog 17 #[o.v] w fun e w' => e = .returned (.bool true) ∧ Below w.heap.size w w' := by
  obtain ⟨w1, q, r1, b1, l1, hq⟩ := box46 o w
  have p1 := b1.opl h
  have D1 := hD.on l1
  refine calls_of_args [o.v] Tryd.func17 rfl 141 Tryd.ntmps17 (by show 1 ≤ 141; decide) ?_
  refine EW.seq ?_
  refine EW.region ?_
  refine WL.box rfl rfl rfl r1 ?_
  first | refine WL.assign rfl rfl rfl ?_
  refine WL.done ?_
  refine EW.on ?_
  refine EW.seq ?_
  refine EW.seq ?_
  refine EW.region ?_
  refine WL.field rfl rfl rfl (f46_0 q _) ?_
  refine WL.load rfl rfl rfl (p1.k) ?_
  refine WL.done ?_
  refine EW.on ?_
  refine EW.block ?_
  refine EW.seq ?_
  refine EW.region ?_
  refine WL.bin rfl rfl rfl rfl (int_eq_d _ _ _ _ _) ?_
  first | refine WL.assign rfl rfl rfl ?_
  refine WL.done ?_
  refine EW.on ?_
  refine EW.cond_d rfl (fun h21 => ?_) (fun h21 => ?_)
  · refine EW.seq ?_
    refine EW.region ?_
    refine WL.field rfl rfl rfl (f46_1 q _) ?_
    refine WL.load rfl rfl rfl (p1.a) ?_
    refine WL.field rfl rfl rfl (f46_3 q _) ?_
    refine WL.load rfl rfl rfl (p1.x) ?_
    refine WL.call [sv o.a, kv o.x] enter10 rfl rfl rfl (half_any o.a o.x h.x w1 D1.l) ?_
    rintro _ w2 ⟨rfl, l2⟩
    refine ⟨_, rfl, ?_⟩
    have p2 := (b1.on l2).opl h
    have D2 := D1.on l2
    first | refine WL.move rfl rfl rfl ?_
    first | refine WL.extract rfl rfl rfl (ext_2 _ _ _).1 ?_
    first | refine WL.extract rfl rfl rfl (ext_2 _ _ _).2 ?_
    first | refine WL.assign rfl rfl rfl ?_
    first | refine WL.assign rfl rfl rfl ?_
    refine WL.done ?_
    refine EW.on ?_
    refine EW.seq ?_
    refine EW.region ?_
    refine WL.field rfl rfl rfl (f46_1 q _) ?_
    refine WL.load rfl rfl rfl (p2.a) ?_
    refine WL.field rfl rfl rfl (f46_3 q _) ?_
    refine WL.load rfl rfl rfl (p2.x) ?_
    refine WL.call [sv o.a, kv o.x] enter27 rfl rfl rfl (rhalf_any o.a o.x h.x w2 D2) ?_
    rintro _ w3 ⟨rfl, l3⟩
    refine ⟨_, rfl, ?_⟩
    first | refine WL.move rfl rfl rfl ?_
    first | refine WL.extract rfl rfl rfl (ext_2 _ _ _).1 ?_
    first | refine WL.extract rfl rfl rfl (ext_2 _ _ _).2 ?_
    first | refine WL.assign rfl rfl rfl ?_
    first | refine WL.assign rfl rfl rfl ?_
    refine WL.done ?_
    refine EW.on ?_
    refine EW.seq ?_
    refine EW.region ?_
    first | refine WL.move rfl rfl rfl ?_
    first | refine WL.move rfl rfl rfl ?_
    first | refine WL.bin rfl rfl rfl rfl (str_eq_t rfl _ _ _) ?_ | refine WL.bin rfl rfl rfl rfl (int_eq_t rfl _ _ _) ?_ | refine WL.bin rfl rfl rfl rfl (bool_eq_t rfl _ _ _) ?_
    first | refine WL.move rfl rfl rfl ?_
    first | refine WL.move rfl rfl rfl ?_ | refine WL.skip _ rfl rfl rfl ?_
    first | refine WL.move rfl rfl rfl ?_ | refine WL.skip _ rfl rfl rfl ?_
    first | refine WL.bin rfl rfl rfl rfl (str_eq_t rfl _ _ _) ?_ | refine WL.bin rfl rfl rfl rfl (int_eq_t rfl _ _ _) ?_ | refine WL.bin rfl rfl rfl rfl (bool_eq_t rfl _ _ _) ?_
    first | refine WL.pick rfl rfl rfl rfl ?_
    first | refine WL.assign rfl rfl rfl ?_
    refine WL.done ?_
    refine EW.on ?_
    refine EW.ret ?_
    refine pr_block ?_
    refine pr_then ?_
    exact EW.returns Tryd.results17 rfl ⟨rfl, bt (bt l1 l2) l3⟩
  · refine EW.seq ?_
    refine EW.region ?_
    refine WL.bin rfl rfl rfl rfl (int_eq_d _ _ _ _ _) ?_
    first | refine WL.assign rfl rfl rfl ?_
    refine WL.done ?_
    refine EW.on ?_
    refine EW.cond_d rfl (fun h47 => ?_) (fun h47 => ?_)
    · refine EW.seq ?_
      refine EW.region ?_
      refine WL.field rfl rfl rfl (f46_1 q _) ?_
      refine WL.load rfl rfl rfl (p1.a) ?_
      refine WL.field rfl rfl rfl (f46_3 q _) ?_
      refine WL.load rfl rfl rfl (p1.x) ?_
      refine WL.field rfl rfl rfl (f46_2 q _) ?_
      refine WL.load rfl rfl rfl (p1.b) ?_
      refine WL.field rfl rfl rfl (f46_4 q _) ?_
      refine WL.load rfl rfl rfl (p1.y) ?_
      refine WL.call [sv o.a, kv o.x, sv o.b, kv o.y] enter12 rfl rfl rfl (number_any o.a o.x o.b o.y h.x h.y w1 D1.l) ?_
      rintro _ w2 ⟨rfl, l2⟩
      refine ⟨_, rfl, ?_⟩
      have p2 := (b1.on l2).opl h
      have D2 := D1.on l2
      first | refine WL.move rfl rfl rfl ?_
      first | refine WL.extract rfl rfl rfl (ext_2 _ _ _).1 ?_
      first | refine WL.extract rfl rfl rfl (ext_2 _ _ _).2 ?_
      first | refine WL.assign rfl rfl rfl ?_
      first | refine WL.assign rfl rfl rfl ?_
      refine WL.done ?_
      refine EW.on ?_
      refine EW.seq ?_
      refine EW.region ?_
      refine WL.field rfl rfl rfl (f46_1 q _) ?_
      refine WL.load rfl rfl rfl (p2.a) ?_
      refine WL.field rfl rfl rfl (f46_3 q _) ?_
      refine WL.load rfl rfl rfl (p2.x) ?_
      refine WL.field rfl rfl rfl (f46_2 q _) ?_
      refine WL.load rfl rfl rfl (p2.b) ?_
      refine WL.field rfl rfl rfl (f46_4 q _) ?_
      refine WL.load rfl rfl rfl (p2.y) ?_
      refine WL.call [sv o.a, kv o.x, sv o.b, kv o.y] enter28 rfl rfl rfl (rnumber_any o.a o.x o.b o.y h.x h.y w2 D2) ?_
      rintro _ w3 ⟨rfl, l3⟩
      refine ⟨_, rfl, ?_⟩
      first | refine WL.move rfl rfl rfl ?_
      first | refine WL.extract rfl rfl rfl (ext_2 _ _ _).1 ?_
      first | refine WL.extract rfl rfl rfl (ext_2 _ _ _).2 ?_
      first | refine WL.assign rfl rfl rfl ?_
      first | refine WL.assign rfl rfl rfl ?_
      refine WL.done ?_
      refine EW.on ?_
      refine EW.seq ?_
      refine EW.region ?_
      first | refine WL.move rfl rfl rfl ?_
      first | refine WL.move rfl rfl rfl ?_
      first | refine WL.bin rfl rfl rfl rfl (str_eq_t rfl _ _ _) ?_ | refine WL.bin rfl rfl rfl rfl (int_eq_t rfl _ _ _) ?_ | refine WL.bin rfl rfl rfl rfl (bool_eq_t rfl _ _ _) ?_
      first | refine WL.move rfl rfl rfl ?_
      first | refine WL.move rfl rfl rfl ?_ | refine WL.skip _ rfl rfl rfl ?_
      first | refine WL.move rfl rfl rfl ?_ | refine WL.skip _ rfl rfl rfl ?_
      first | refine WL.bin rfl rfl rfl rfl (str_eq_t rfl _ _ _) ?_ | refine WL.bin rfl rfl rfl rfl (int_eq_t rfl _ _ _) ?_ | refine WL.bin rfl rfl rfl rfl (bool_eq_t rfl _ _ _) ?_
      first | refine WL.pick rfl rfl rfl rfl ?_
      first | refine WL.assign rfl rfl rfl ?_
      refine WL.done ?_
      refine EW.on ?_
      refine EW.ret ?_
      refine pr_block ?_
      refine pr_then ?_
      exact EW.returns Tryd.results17 rfl ⟨rfl, bt (bt l1 l2) l3⟩
    · refine EW.seq ?_
      refine EW.region ?_
      refine WL.bin rfl rfl rfl rfl (int_eq_d _ _ _ _ _) ?_
      first | refine WL.assign rfl rfl rfl ?_
      refine WL.done ?_
      refine EW.on ?_
      refine EW.cond_d rfl (fun h81 => ?_) (fun h81 => ?_)
      · refine EW.seq ?_
        refine EW.region ?_
        refine WL.field rfl rfl rfl (f46_5 q _) ?_
        refine WL.load rfl rfl rfl (p1.t) ?_
        refine WL.call [sv o.t] enter15 rfl rfl rfl (read_any o.t w1) ?_
        rintro _ w2 ⟨rfl, l2⟩
        refine ⟨_, rfl, ?_⟩
        have p2 := (b1.on l2).opl h
        have D2 := D1.on l2
        first | refine WL.move rfl rfl rfl ?_
        first | refine WL.extract rfl rfl rfl (ext_2 _ _ _).1 ?_
        first | refine WL.extract rfl rfl rfl (ext_2 _ _ _).2 ?_
        first | refine WL.assign rfl rfl rfl ?_
        first | refine WL.assign rfl rfl rfl ?_
        refine WL.done ?_
        refine EW.on ?_
        refine EW.seq ?_
        refine EW.region ?_
        refine WL.field rfl rfl rfl (f46_5 q _) ?_
        refine WL.load rfl rfl rfl (p2.t) ?_
        refine WL.call [sv o.t] enter29 rfl rfl rfl (rread_any o.t h.t w2) ?_
        rintro _ w3 ⟨rfl, l3⟩
        refine ⟨_, rfl, ?_⟩
        first | refine WL.move rfl rfl rfl ?_
        first | refine WL.extract rfl rfl rfl (ext_2 _ _ _).1 ?_
        first | refine WL.extract rfl rfl rfl (ext_2 _ _ _).2 ?_
        first | refine WL.assign rfl rfl rfl ?_
        first | refine WL.assign rfl rfl rfl ?_
        refine WL.done ?_
        refine EW.on ?_
        refine EW.seq ?_
        refine EW.region ?_
        first | refine WL.move rfl rfl rfl ?_
        first | refine WL.move rfl rfl rfl ?_
        first | refine WL.bin rfl rfl rfl rfl (str_eq_t rfl _ _ _) ?_ | refine WL.bin rfl rfl rfl rfl (int_eq_t rfl _ _ _) ?_ | refine WL.bin rfl rfl rfl rfl (bool_eq_t rfl _ _ _) ?_
        first | refine WL.move rfl rfl rfl ?_
        first | refine WL.move rfl rfl rfl ?_ | refine WL.skip _ rfl rfl rfl ?_
        first | refine WL.move rfl rfl rfl ?_ | refine WL.skip _ rfl rfl rfl ?_
        first | refine WL.bin rfl rfl rfl rfl (str_eq_t rfl _ _ _) ?_ | refine WL.bin rfl rfl rfl rfl (int_eq_t rfl _ _ _) ?_ | refine WL.bin rfl rfl rfl rfl (bool_eq_t rfl _ _ _) ?_
        first | refine WL.pick rfl rfl rfl rfl ?_
        first | refine WL.assign rfl rfl rfl ?_
        refine WL.done ?_
        refine EW.on ?_
        refine EW.ret ?_
        refine pr_block ?_
        refine pr_then ?_
        exact EW.returns Tryd.results17 rfl ⟨rfl, bt (bt l1 l2) l3⟩
      · refine EW.seq ?_
        refine EW.region ?_
        refine WL.bin rfl rfl rfl rfl (int_eq_d _ _ _ _ _) ?_
        first | refine WL.assign rfl rfl rfl ?_
        refine WL.done ?_
        refine EW.on ?_
        refine EW.cond_d rfl (fun h103 => ?_) (fun h103 => ?_)
        · refine EW.seq ?_
          refine EW.region ?_
          refine WL.field rfl rfl rfl (f46_5 q _) ?_
          refine WL.load rfl rfl rfl (p1.t) ?_
          refine WL.field rfl rfl rfl (f46_1 q _) ?_
          refine WL.load rfl rfl rfl (p1.a) ?_
          refine WL.field rfl rfl rfl (f46_3 q _) ?_
          refine WL.load rfl rfl rfl (p1.x) ?_
          refine WL.field rfl rfl rfl (f46_2 q _) ?_
          refine WL.load rfl rfl rfl (p1.b) ?_
          refine WL.field rfl rfl rfl (f46_4 q _) ?_
          refine WL.load rfl rfl rfl (p1.y) ?_
          refine WL.call [sv o.t, sv o.a, kv o.x, sv o.b, kv o.y] enter13 rfl rfl rfl (match_any o.t o.a o.x o.b o.y h.x h.y w1 D1.l) ?_
          rintro _ w2 ⟨rfl, l2⟩
          refine ⟨_, rfl, ?_⟩
          have p2 := (b1.on l2).opl h
          have D2 := D1.on l2
          first | refine WL.move rfl rfl rfl ?_
          first | refine WL.extract rfl rfl rfl (ext_2 _ _ _).1 ?_
          first | refine WL.extract rfl rfl rfl (ext_2 _ _ _).2 ?_
          first | refine WL.assign rfl rfl rfl ?_
          first | refine WL.assign rfl rfl rfl ?_
          refine WL.done ?_
          refine EW.on ?_
          refine EW.seq ?_
          refine EW.region ?_
          refine WL.field rfl rfl rfl (f46_5 q _) ?_
          refine WL.load rfl rfl rfl (p2.t) ?_
          refine WL.field rfl rfl rfl (f46_1 q _) ?_
          refine WL.load rfl rfl rfl (p2.a) ?_
          refine WL.field rfl rfl rfl (f46_3 q _) ?_
          refine WL.load rfl rfl rfl (p2.x) ?_
          refine WL.field rfl rfl rfl (f46_2 q _) ?_
          refine WL.load rfl rfl rfl (p2.b) ?_
          refine WL.field rfl rfl rfl (f46_4 q _) ?_
          refine WL.load rfl rfl rfl (p2.y) ?_
          refine WL.call [sv o.t, sv o.a, kv o.x, sv o.b, kv o.y] enter30 rfl rfl rfl (rmatch_any o.t o.a o.x o.b o.y h.t h.x h.y w2 D2) ?_
          rintro _ w3 ⟨rfl, l3⟩
          refine ⟨_, rfl, ?_⟩
          first | refine WL.move rfl rfl rfl ?_
          first | refine WL.extract rfl rfl rfl (ext_2 _ _ _).1 ?_
          first | refine WL.extract rfl rfl rfl (ext_2 _ _ _).2 ?_
          first | refine WL.assign rfl rfl rfl ?_
          first | refine WL.assign rfl rfl rfl ?_
          refine WL.done ?_
          refine EW.on ?_
          refine EW.seq ?_
          refine EW.region ?_
          first | refine WL.move rfl rfl rfl ?_
          first | refine WL.move rfl rfl rfl ?_
          first | refine WL.bin rfl rfl rfl rfl (str_eq_t rfl _ _ _) ?_ | refine WL.bin rfl rfl rfl rfl (int_eq_t rfl _ _ _) ?_ | refine WL.bin rfl rfl rfl rfl (bool_eq_t rfl _ _ _) ?_
          first | refine WL.move rfl rfl rfl ?_
          first | refine WL.move rfl rfl rfl ?_ | refine WL.skip _ rfl rfl rfl ?_
          first | refine WL.move rfl rfl rfl ?_ | refine WL.skip _ rfl rfl rfl ?_
          first | refine WL.bin rfl rfl rfl rfl (str_eq_t rfl _ _ _) ?_ | refine WL.bin rfl rfl rfl rfl (int_eq_t rfl _ _ _) ?_ | refine WL.bin rfl rfl rfl rfl (bool_eq_t rfl _ _ _) ?_
          first | refine WL.pick rfl rfl rfl rfl ?_
          first | refine WL.assign rfl rfl rfl ?_
          refine WL.done ?_
          refine EW.on ?_
          refine EW.ret ?_
          refine pr_block ?_
          refine pr_then ?_
          exact EW.returns Tryd.results17 rfl ⟨rfl, bt (bt l1 l2) l3⟩
        · refine EW.skip ?_
          refine pn_block ?_
          refine EW.on ?_
          refine EW.seq ?_
          refine EW.region ?_
          first | refine WL.assign rfl rfl rfl ?_
          refine WL.done ?_
          refine EW.on ?_
          refine EW.ret ?_
          exact EW.returns Tryd.results17 rfl ⟨rfl, l1⟩
def o1 : Opx := ⟨2, [97], [98], z32, z32, []⟩
def o2 : Opx := ⟨1, [97], [], z32, z32, []⟩
def o3 : Opx := ⟨3, [], [], z32, z32, []⟩
theorem o1_ok : o1.ok := ⟨rfl, rfl, by decide⟩
theorem o2_ok : o2.ok := ⟨rfl, rfl, by decide⟩
theorem o3_ok : o3.ok := ⟨rfl, rfl, by decide⟩
set_option maxRecDepth 100000 in
theorem bd1 (w : World) : (Instr.build 46 [(0, .int .i64 2), (1, sv [97]), (2, sv [98])].toArray).run Tryd.prog w = .ok o1.v w := by kernel_rfl
set_option maxRecDepth 100000 in
theorem bd2 (w : World) : (Instr.build 46 [(0, .int .i64 1), (1, sv [97])].toArray).run Tryd.prog w = .ok o2.v w := by kernel_rfl
set_option maxRecDepth 100000 in
theorem bd3 (w : World) : (Instr.build 46 [(0, .int .i64 3)].toArray).run Tryd.prog w = .ok o3.v w := by kernel_rfl
def xE (v : Value) (i : Nat) : List (Nat × Value) := [(0, v), (3, .int .i64 (i : Int))]
set_option maxRecDepth 100000 in
set_option maxHeartbeats 4000000 in
theorem exact_any (w : World) (hD : Dst w) (v : Value) (n : Nat) (hlen : ∀ (W : World) (ty : TypeId), (Builtin.len_ #[43] ty #[v]).run Tryd.prog W = .ok (.int .i64 (n : Int)) W) (hat : ∀ i, i < n → ∃ x : Opx, x.ok ∧ ∃ ad, (∀ W, (Instr.indexAt 43 v (.int .i64 (i : Int))).run Tryd.prog W = .ok (.pointer (some ad)) W) ∧ ∀ W, Below w.heap.size w W → (Instr.loadAt 46 (.pointer (some ad))).run Tryd.prog W = .ok x.v W) : Calls Tryd.prog 7 #[v] w fun e w' => e = .returned (.bool true) ∧ Below w.heap.size w w' := by
  refine calls_of_args [v] Tryd.func7 rfl 32 Tryd.ntmps7 (by show 1 ≤ 32; decide) ?_
  refine EW.seq ?_
  refine EW.region ?_
  first | refine WL.assign rfl rfl rfl ?_
  refine WL.done ?_
  refine EW.on ?_
  refine EW.seq ?_
  refine EW.seq ?_
  refine EW.region ?_
  first | refine WL.assign rfl rfl rfl ?_
  refine WL.done ?_
  refine EW.on ?_
  refine EW.block ?_
  refine EW.loop (xE v) (fun i W => Below w.heap.size w W) (fun i => 20 - i) 0 [0, 3] rfl (Below.refl _ _) ?_
  rintro i W hb
  refine EW.seq ?_
  refine EW.seq ?_
  rcases (show ¬ (i : Int) < (n : Int) ∨ ((i : Int) < (n : Int) ∧ ¬ (i : Int) < 20) ∨ ((i : Int) < (n : Int) ∧ (i : Int) < 20) by omega) with g1 | ⟨g1, g2⟩ | ⟨g1, g2⟩
  · refine EW.region ?_
    first | refine WL.move rfl rfl rfl ?_
    first | refine WL.move rfl rfl rfl ?_
    refine WL.len rfl rfl rfl (hlen _ _) ?_
    first | refine WL.bin rfl rfl rfl rfl (int_lt_t g1 _ _ _) ?_ | refine WL.bin rfl rfl rfl rfl (int_lt_f g1 _ _ _) ?_
    first | refine WL.move rfl rfl rfl ?_
    first | refine WL.move rfl rfl rfl ?_ | refine WL.skip _ rfl rfl rfl ?_
    refine WL.skip _ rfl rfl rfl ?_
    first | refine WL.pick rfl rfl rfl rfl ?_
    refine WL.done ?_
    refine EW.on ?_
    refine EW.cond_f rfl ?_
    refine EW.exit ?_
    refine px_then ?_
    refine px_then ?_
    refine px_block ?_
    refine EW.on ?_
    refine EW.seq ?_
    refine EW.region ?_
    refine WL.buildN [(0, .int .i64 2), (1, sv [97]), (2, sv [98])] rfl rfl rfl (bd1 _) ?_
    refine WL.call [o1.v] enter17 rfl rfl rfl (plays_any o1 o1_ok W (hD.on hb)) ?_
    rintro _ W3 ⟨rfl, l3⟩
    refine ⟨_, rfl, ?_⟩
    first | refine WL.move rfl rfl rfl ?_
    refine WL.buildN [(0, .int .i64 1), (1, sv [97])] rfl rfl rfl (bd2 _) ?_
    refine WL.call [o2.v] enter17 rfl rfl rfl (plays_any o2 o2_ok W3 ((hD.on hb).on l3)) ?_
    rintro _ W4 ⟨rfl, l4⟩
    refine ⟨_, rfl, ?_⟩
    first | refine WL.pick rfl rfl rfl rfl ?_
    first | refine WL.move rfl rfl rfl ?_
    refine WL.buildN [(0, .int .i64 3)] rfl rfl rfl (bd3 _) ?_
    refine WL.call [o3.v] enter17 rfl rfl rfl (plays_any o3 o3_ok W4 (((hD.on hb).on l3).on l4)) ?_
    rintro _ W5 ⟨rfl, l5⟩
    refine ⟨_, rfl, ?_⟩
    first | refine WL.pick rfl rfl rfl rfl ?_
    first | refine WL.assign rfl rfl rfl ?_
    refine WL.done ?_
    refine EW.on ?_
    refine EW.ret ?_
    exact EW.returns Tryd.results7 rfl ⟨rfl, bt (bt (bt hb l3) l4) l5⟩
  · refine EW.region ?_
    first | refine WL.move rfl rfl rfl ?_
    first | refine WL.move rfl rfl rfl ?_
    refine WL.len rfl rfl rfl (hlen _ _) ?_
    first | refine WL.bin rfl rfl rfl rfl (int_lt_t g1 _ _ _) ?_ | refine WL.bin rfl rfl rfl rfl (int_lt_f g1 _ _ _) ?_
    first | refine WL.move rfl rfl rfl ?_
    first | refine WL.move rfl rfl rfl ?_ | refine WL.skip _ rfl rfl rfl ?_
    first | refine WL.bin rfl rfl rfl rfl (int_lt_t g2 _ _ _) ?_ | refine WL.bin rfl rfl rfl rfl (int_lt_f g2 _ _ _) ?_
    first | refine WL.pick rfl rfl rfl rfl ?_
    refine WL.done ?_
    refine EW.on ?_
    refine EW.cond_f rfl ?_
    refine EW.exit ?_
    refine px_then ?_
    refine px_then ?_
    refine px_block ?_
    refine EW.on ?_
    refine EW.seq ?_
    refine EW.region ?_
    refine WL.buildN [(0, .int .i64 2), (1, sv [97]), (2, sv [98])] rfl rfl rfl (bd1 _) ?_
    refine WL.call [o1.v] enter17 rfl rfl rfl (plays_any o1 o1_ok W (hD.on hb)) ?_
    rintro _ W3 ⟨rfl, l3⟩
    refine ⟨_, rfl, ?_⟩
    first | refine WL.move rfl rfl rfl ?_
    refine WL.buildN [(0, .int .i64 1), (1, sv [97])] rfl rfl rfl (bd2 _) ?_
    refine WL.call [o2.v] enter17 rfl rfl rfl (plays_any o2 o2_ok W3 ((hD.on hb).on l3)) ?_
    rintro _ W4 ⟨rfl, l4⟩
    refine ⟨_, rfl, ?_⟩
    first | refine WL.pick rfl rfl rfl rfl ?_
    first | refine WL.move rfl rfl rfl ?_
    refine WL.buildN [(0, .int .i64 3)] rfl rfl rfl (bd3 _) ?_
    refine WL.call [o3.v] enter17 rfl rfl rfl (plays_any o3 o3_ok W4 (((hD.on hb).on l3).on l4)) ?_
    rintro _ W5 ⟨rfl, l5⟩
    refine ⟨_, rfl, ?_⟩
    first | refine WL.pick rfl rfl rfl rfl ?_
    first | refine WL.assign rfl rfl rfl ?_
    refine WL.done ?_
    refine EW.on ?_
    refine EW.ret ?_
    exact EW.returns Tryd.results7 rfl ⟨rfl, bt (bt (bt hb l3) l4) l5⟩
  · refine EW.region ?_
    first | refine WL.move rfl rfl rfl ?_
    first | refine WL.move rfl rfl rfl ?_
    refine WL.len rfl rfl rfl (hlen _ _) ?_
    first | refine WL.bin rfl rfl rfl rfl (int_lt_t g1 _ _ _) ?_ | refine WL.bin rfl rfl rfl rfl (int_lt_f g1 _ _ _) ?_
    first | refine WL.move rfl rfl rfl ?_
    first | refine WL.move rfl rfl rfl ?_ | refine WL.skip _ rfl rfl rfl ?_
    first | refine WL.bin rfl rfl rfl rfl (int_lt_t g2 _ _ _) ?_ | refine WL.bin rfl rfl rfl rfl (int_lt_f g2 _ _ _) ?_
    first | refine WL.pick rfl rfl rfl rfl ?_
    refine WL.done ?_
    refine EW.on ?_
    refine EW.cond_t rfl ?_
    refine EW.skip ?_
    refine EW.on ?_
    refine EW.seq ?_
    refine EW.block ?_
    refine EW.seq ?_
    obtain ⟨o, ho, ad, ra, la⟩ := hat i (by omega)
    refine EW.region ?_
    first | refine WL.move rfl rfl rfl ?_
    first | refine WL.move rfl rfl rfl ?_
    refine WL.index rfl rfl rfl rfl (ra _) ?_
    refine WL.load rfl rfl rfl (la _ hb) ?_
    refine WL.call [o.v] enter17 rfl rfl rfl (plays_any o ho W (hD.on hb)) ?_
    rintro _ W2 ⟨rfl, l2⟩
    refine ⟨_, rfl, ?_⟩
    first | refine WL.assign rfl rfl rfl ?_
    refine WL.done ?_
    refine EW.on ?_
    refine EW.seq ?_
    refine EW.region ?_
    first | refine WL.move rfl rfl rfl ?_
    refine WL.un rfl rfl rfl (not_t _ _) ?_
    refine WL.done ?_
    refine EW.on ?_
    refine EW.cond_f rfl ?_
    refine EW.skip ?_
    refine pn_block ?_
    refine EW.on ?_
    refine EW.region ?_
    first | refine WL.move rfl rfl rfl ?_
    refine WL.bin rfl rfl rfl rfl (int_add (c := ((i + 1 : Nat) : Int)) (by rw [IntKind.wrap_i64]; omega) _ _ _) ?_
    first | refine WL.assign rfl rfl rfl ?_
    refine WL.done ?_
    exact EW.again (E := xE v) (R := fun i W => Below w.heap.size w W) (m := fun i => 20 - i) (x := i) (i + 1) [0, 3] rfl (bt hb l2) (by show 20 - (i + 1) < 20 - i; omega)
end Go.Proofs.YtnfikgnploockaaDoor
