import Derived.Test.YtiefgmgjlhjjhaaDoorDo
set_option linter.unusedVariables false
set_option linter.unusedSimpArgs false
namespace Go.Proofs.YtiefgmgjlhjjhaaDoor
open Go.RowKit

attribute [local irreducible] sm sumOf cnt chk partB ptB lgL pM pI pN pA pS pC adI adW adE adL
theorem neP30 (p : Nat) (W : World) (x y : Operand) : (do eqGuard .eql 30 x y (.pointer (some ⟨p, 0, none⟩)) (.pointer none); binOp .eql 30 (.pointer (some ⟨p, 0, none⟩)) (.pointer none) : Sem Value).run Tryd.prog W = .ok (.bool false) W := by
  go_simp
theorem neP46 (p : Nat) (W : World) (x y : Operand) : (do eqGuard .eql 46 x y (.pointer (some ⟨p, 0, none⟩)) (.pointer none); binOp .eql 46 (.pointer (some ⟨p, 0, none⟩)) (.pointer none) : Sem Value).run Tryd.prog W = .ok (.bool false) W := by
  go_simp
theorem eqP30 (W : World) (x : Operand) : (do eqGuard .eql 30 x (.const (.pointer none)) (.pointer none) (.pointer none); binOp .eql 30 (.pointer none) (.pointer none) : Sem Value).run Tryd.prog W = .ok (.bool true) W := by
  go_simp
theorem eqP46 (W : World) (x : Operand) : (do eqGuard .eql 46 x (.const (.pointer none)) (.pointer none) (.pointer none); binOp .eql 46 (.pointer none) (.pointer none) : Sem Value).run Tryd.prog W = .ok (.bool true) W := by
  go_simp
def Ox.ok (w : World) (o : Ox) : Prop := o.id < 4294967296 ∧ ∃ bs, Has w o.bv bs ∧ bs.length ≤ 140737488355328
def oz : Ox := ⟨6, [], 7, .slice none 0 0⟩
theorem bd51 (W : World) : (Instr.build 51 [(0, .int .i64 6), (2, .int .u32 7)].toArray).run Tryd.prog W = .ok oz.v W := by kernel_rfl
def exE (vS : Value) (p q : Nat) (i : Nat) : List (Nat × Value) := [(1, vS), (5, .pointer (some ⟨p, 0, none⟩)), (7, .pointer (some ⟨q, 0, none⟩)), (9, .int .i64 (i : Int))]
def exR (w : World) (p r q : Nat) (most : Nat) (i : Nat) (W : World) : Prop := i ≤ 100 ∧ ∃ E c v L, Dk w W p r E c q v L most
theorem Dk.new {w w1 w2 : World} {p r q most : Nat} (t : Tr w1 p r most [] 0) (hr : w.heap.size ≤ r) (l1 : Below w.heap.size w w1) (l2 : Below w1.heap.size w1 w2) (h : Rt w2 q (.slice none 0 0) most []) (hq : w1.heap.size ≤ q) (hm : most ≤ 64) (hK : Kst w) (hR : Rst w) (hB : Bst w) : Dk w w2 p r [] 0 q (.slice none 0 0) [] most := by
  have l := bt l1 l2
  exact ⟨t.on l2, h, trivial, Nat.zero_le _, hm, hK.below l hK.lt, hR.below l hR.lt, hB.below l hB.lt, l, hr, by have := l1.size; omega, (fun k hk => by cases hk), (fun m hm => by cases hm), (fun k hk => by cases hk), hR.lt⟩
set_option maxRecDepth 100000 in
set_option maxHeartbeats 16000000 in
theorem exact_any (z : Int) (vS : Value) (n : Nat) (w : World) (hK : Kst w) (hRs : Rst w) (hBs : Bst w) (hlen : ∀ (W : World) (ty : TypeId), (Builtin.len_ #[45] ty #[vS]).run Tryd.prog W = .ok (.int .i64 (n : Int)) W) (hat : ∀ i, i < n → ∃ x : Ox, x.ok w ∧ ∃ ad, (∀ W, (Instr.indexAt 45 vS (.int .i64 (i : Int))).run Tryd.prog W = .ok (.pointer (some ad)) W) ∧ ∀ W, Below w.heap.size w W → (Instr.loadAt 51 (.pointer (some ad))).run Tryd.prog W = .ok x.v W) : Calls Tryd.prog 6 #[.int .i64 z, vS] w fun e w' => e = .returned (.bool true) ∧ Below w.heap.size w w' := by
  by_cases hm : 1 ≤ z ∧ z ≤ 64
  · obtain ⟨h1, h2⟩ := hm
    refine calls_of_args [.int .i64 z, vS] Tryd.func6 rfl 79 Tryd.ntmps6 (by show 2 ≤ 79; decide) ?_
    refine EW.seq ?_
    refine EW.region ?_
    first | refine WL.assign rfl rfl rfl ?_
    refine WL.done ?_
    refine EW.on ?_
    refine EW.seq ?_
    refine EW.region ?_
    first | refine WL.move rfl rfl rfl ?_
    refine WL.call [.int .i64 z] enter9 rfl rfl rfl (tnew_ok z w h1 h2) ?_
    rintro _ w1 ⟨p, r, rfl, tr1, be1, hp1, hr1⟩
    refine ⟨_, rfl, ?_⟩
    first | refine WL.move rfl rfl rfl ?_
    first | refine WL.extract rfl rfl rfl (ext_2 _ _ _).1 ?_
    first | refine WL.extract rfl rfl rfl (ext_2 _ _ _).2 ?_
    first | refine WL.assign rfl rfl rfl ?_
    first | refine WL.assign rfl rfl rfl ?_
    refine WL.done ?_
    refine EW.on ?_
    refine EW.seq ?_
    refine EW.region ?_
    first | refine WL.move rfl rfl rfl ?_
    refine WL.call [.int .i64 z] enter16 rfl rfl rfl (rnew_ok z w1 h1 h2) ?_
    rintro _ w2 ⟨q, rfl, rt2, be2, hq2⟩
    refine ⟨_, rfl, ?_⟩
    have D0 := Dk.new tr1 hr1 be1 be2 rt2 hq2 (by omega) hK hRs hBs
    first | refine WL.move rfl rfl rfl ?_
    first | refine WL.extract rfl rfl rfl (ext_2 _ _ _).1 ?_
    first | refine WL.extract rfl rfl rfl (ext_2 _ _ _).2 ?_
    first | refine WL.assign rfl rfl rfl ?_
    first | refine WL.assign rfl rfl rfl ?_
    refine WL.done ?_
    refine EW.on ?_
    refine EW.seq ?_
    refine EW.seq ?_
    refine EW.region ?_
    first | refine WL.move rfl rfl rfl ?_
    first | refine WL.move rfl rfl rfl ?_
    refine WL.bin rfl rfl rfl rfl (int_ne_f rfl _ _ _) ?_
    first | refine WL.move rfl rfl rfl ?_
    first | refine WL.move rfl rfl rfl ?_ | refine WL.skip _ rfl rfl rfl ?_
    refine WL.bin rfl rfl rfl rfl (neP30 _ _ _ _) ?_
    first | refine WL.move rfl rfl rfl ?_ | refine WL.skip _ rfl rfl rfl ?_
    refine WL.bin rfl rfl rfl rfl (neP46 _ _ _ _) ?_
    refine WL.bin rfl rfl rfl rfl (bool_ne _ _ _ _ _) ?_
    rw [show (false != false) = false from rfl]
    first | refine WL.pick rfl rfl rfl rfl ?_
    refine WL.done ?_
    refine EW.on ?_
    refine EW.cond_f rfl ?_
    refine EW.skip ?_
    refine EW.on ?_
    refine EW.seq ?_
    refine EW.seq ?_
    refine EW.region ?_
    first | refine WL.move rfl rfl rfl ?_
    refine WL.bin rfl rfl rfl rfl (neP30 _ _ _ _) ?_
    refine WL.done ?_
    refine EW.on ?_
    refine EW.cond_f rfl ?_
    refine EW.skip ?_
    refine EW.on ?_
    refine EW.seq ?_
    refine EW.seq ?_
    refine EW.region ?_
    first | refine WL.assign rfl rfl rfl ?_
    refine WL.done ?_
    refine EW.on ?_
    refine EW.block ?_
    refine EW.loop (exE vS p q) (exR w p r q z.toNat) (fun i => 100 - i) 0 [1, 5, 7, 9] rfl ⟨Nat.zero_le _, _, _, _, _, D0⟩ ?_
    rintro i wi ⟨hi100, E, c, v, L, D⟩
    show EW _ _ _ _ [(1, vS), (5, .pointer (some ⟨p, 0, none⟩)), (7, .pointer (some ⟨q, 0, none⟩)), (9, .int .i64 (i : Int))] _
    refine EW.seq ?_
    refine EW.seq ?_
    rcases (show ((i : Int) < (n : Int) ∧ (i : Int) < 100) ∨ ((i : Int) < (n : Int) ∧ ¬ (i : Int) < 100) ∨ ¬ (i : Int) < (n : Int) by omega) with ⟨hx1, hx2⟩ | ⟨hx1, hx2⟩ | hx1
    · refine EW.region ?_
      first | refine WL.move rfl rfl rfl ?_
      first | refine WL.move rfl rfl rfl ?_
      refine WL.len rfl rfl rfl (hlen _ _) ?_
      refine WL.bin rfl rfl rfl rfl (int_lt_t hx1 _ _ _) ?_
      first | refine WL.move rfl rfl rfl ?_
      first | refine WL.move rfl rfl rfl ?_ | refine WL.skip _ rfl rfl rfl ?_
      refine WL.bin rfl rfl rfl rfl (int_lt_t hx2 _ _ _) ?_
      first | refine WL.pick rfl rfl rfl rfl ?_
      refine WL.done ?_
      refine EW.on ?_
      refine EW.cond_t rfl ?_
      refine EW.skip ?_
      refine EW.on ?_
      refine EW.seq ?_
      refine EW.block ?_
      refine EW.seq ?_
      obtain ⟨o, ho, ado, ixo, ldo⟩ := hat i (by omega)
      obtain ⟨bs, hbs, hbl⟩ := ho.2
      refine EW.region ?_
      first | refine WL.move rfl rfl rfl ?_
      first | refine WL.move rfl rfl rfl ?_
      first | refine WL.move rfl rfl rfl ?_
      first | refine WL.move rfl rfl rfl ?_
      refine WL.index rfl rfl rfl rfl (ixo _) ?_
      refine WL.load rfl rfl rfl (ldo _ D.be) ?_
      refine WL.call [.pointer (some ⟨p, 0, none⟩), .pointer (some ⟨q, 0, none⟩), o.v] enter17 rfl rfl rfl (step_any D o ho.1 bs hbs hbl) ?_
      rintro _ w13 ⟨rfl, E', c', v', L', D'⟩
      refine ⟨_, rfl, ?_⟩
      refine WL.un rfl rfl rfl (not_t _ _) ?_
      refine WL.done ?_
      refine EW.on ?_
      refine EW.cond_f rfl ?_
      refine EW.skip ?_
      refine pn_block ?_
      refine EW.on ?_
      refine EW.region ?_
      first | refine WL.move rfl rfl rfl ?_
      refine WL.bin rfl rfl rfl rfl (int_add (c := ((i + 1 : Nat) : Int)) (by rw [IntKind.wrap_i64]; omega) _ _ _) ?_
      first | refine WL.assign rfl rfl rfl ?_
      refine WL.done ?_
      exact EW.again (E := exE vS p q) (R := exR w p r q z.toNat) (m := fun i => 100 - i) (x := i) (i + 1) [1, 5, 7, 9] rfl ⟨by omega, _, _, _, _, D'⟩ (by show 100 - (i + 1) < 100 - i; omega)
    · refine EW.region ?_
      first | refine WL.move rfl rfl rfl ?_
      first | refine WL.move rfl rfl rfl ?_
      refine WL.len rfl rfl rfl (hlen _ _) ?_
      refine WL.bin rfl rfl rfl rfl (int_lt_t hx1 _ _ _) ?_
      first | refine WL.move rfl rfl rfl ?_
      first | refine WL.move rfl rfl rfl ?_ | refine WL.skip _ rfl rfl rfl ?_
      refine WL.bin rfl rfl rfl rfl (int_lt_f hx2 _ _ _) ?_
      first | refine WL.pick rfl rfl rfl rfl ?_
      refine WL.done ?_
      refine EW.on ?_
      refine EW.cond_f rfl ?_
      refine EW.exit ?_
      refine px_then ?_
      refine px_then ?_
      refine px_block ?_
      refine EW.on ?_
      refine EW.seq ?_
      refine EW.region ?_
      first | refine WL.move rfl rfl rfl ?_
      refine WL.call [.pointer (some ⟨p, 0, none⟩)] enter13 rfl rfl rfl (tlen_any p r _ E c wi D.tr) ?_
      rintro _ w3 ⟨rfl, hw3⟩
      refine ⟨_, rfl, ?_⟩
      rw [hw3]
      first | refine WL.move rfl rfl rfl ?_
      refine WL.call [.pointer (some ⟨q, 0, none⟩)] enter18 rfl rfl rfl (rlen_any q v _ L wi D.rt) ?_
      rintro _ w4 ⟨rfl, hw4⟩
      refine ⟨_, rfl, ?_⟩
      rw [hw4, D.rel.len]
      refine WL.bin rfl rfl rfl rfl (int_eq_t rfl _ _ _) ?_
      first | refine WL.move rfl rfl rfl ?_
      first | refine WL.move rfl rfl rfl ?_ | refine WL.skip _ rfl rfl rfl ?_
      first | refine WL.move rfl rfl rfl ?_ | refine WL.skip _ rfl rfl rfl ?_
      refine WL.buildN [(0, .int .i64 6), (2, .int .u32 7)] rfl rfl rfl (bd51 _) ?_
      refine WL.call [.pointer (some ⟨p, 0, none⟩), .pointer (some ⟨q, 0, none⟩), oz.v] enter17 rfl rfl rfl (step_any D oz (by decide) [] (Has.nil _) (by simp)) ?_
      rintro _ w15 ⟨rfl, E', c', v', L', D'⟩
      refine ⟨_, rfl, ?_⟩
      first | refine WL.pick rfl rfl rfl rfl ?_
      first | refine WL.assign rfl rfl rfl ?_
      refine WL.done ?_
      refine EW.on ?_
      refine EW.ret ?_
      exact EW.returns Tryd.results6 rfl ⟨rfl, D'.be⟩
    · refine EW.region ?_
      first | refine WL.move rfl rfl rfl ?_
      first | refine WL.move rfl rfl rfl ?_
      refine WL.len rfl rfl rfl (hlen _ _) ?_
      refine WL.bin rfl rfl rfl rfl (int_lt_f hx1 _ _ _) ?_
      first | refine WL.move rfl rfl rfl ?_
      refine WL.skip _ rfl rfl rfl ?_
      refine WL.skip _ rfl rfl rfl ?_
      first | refine WL.pick rfl rfl rfl rfl ?_
      refine WL.done ?_
      refine EW.on ?_
      refine EW.cond_f rfl ?_
      refine EW.exit ?_
      refine px_then ?_
      refine px_then ?_
      refine px_block ?_
      refine EW.on ?_
      refine EW.seq ?_
      refine EW.region ?_
      first | refine WL.move rfl rfl rfl ?_
      refine WL.call [.pointer (some ⟨p, 0, none⟩)] enter13 rfl rfl rfl (tlen_any p r _ E c wi D.tr) ?_
      rintro _ w3 ⟨rfl, hw3⟩
      refine ⟨_, rfl, ?_⟩
      rw [hw3]
      first | refine WL.move rfl rfl rfl ?_
      refine WL.call [.pointer (some ⟨q, 0, none⟩)] enter18 rfl rfl rfl (rlen_any q v _ L wi D.rt) ?_
      rintro _ w4 ⟨rfl, hw4⟩
      refine ⟨_, rfl, ?_⟩
      rw [hw4, D.rel.len]
      refine WL.bin rfl rfl rfl rfl (int_eq_t rfl _ _ _) ?_
      first | refine WL.move rfl rfl rfl ?_
      first | refine WL.move rfl rfl rfl ?_ | refine WL.skip _ rfl rfl rfl ?_
      first | refine WL.move rfl rfl rfl ?_ | refine WL.skip _ rfl rfl rfl ?_
      refine WL.buildN [(0, .int .i64 6), (2, .int .u32 7)] rfl rfl rfl (bd51 _) ?_
      refine WL.call [.pointer (some ⟨p, 0, none⟩), .pointer (some ⟨q, 0, none⟩), oz.v] enter17 rfl rfl rfl (step_any D oz (by decide) [] (Has.nil _) (by simp)) ?_
      rintro _ w15 ⟨rfl, E', c', v', L', D'⟩
      refine ⟨_, rfl, ?_⟩
      first | refine WL.pick rfl rfl rfl rfl ?_
      first | refine WL.assign rfl rfl rfl ?_
      refine WL.done ?_
      refine EW.on ?_
      refine EW.ret ?_
      exact EW.returns Tryd.results6 rfl ⟨rfl, D'.be⟩
  · refine calls_of_args [.int .i64 z, vS] Tryd.func6 rfl 79 Tryd.ntmps6 (by show 2 ≤ 79; decide) ?_
    refine EW.seq ?_
    refine EW.region ?_
    first | refine WL.assign rfl rfl rfl ?_
    refine WL.done ?_
    refine EW.on ?_
    refine EW.seq ?_
    refine EW.region ?_
    first | refine WL.move rfl rfl rfl ?_
    refine WL.call [.int .i64 z] enter9 rfl rfl rfl (tnew_no z w (by omega)) ?_
    rintro _ w1 ⟨rfl, hw1⟩
    refine ⟨_, rfl, ?_⟩
    rw [hw1]
    first | refine WL.move rfl rfl rfl ?_
    first | refine WL.extract rfl rfl rfl (ext_2 _ _ _).1 ?_
    first | refine WL.extract rfl rfl rfl (ext_2 _ _ _).2 ?_
    first | refine WL.assign rfl rfl rfl ?_
    first | refine WL.assign rfl rfl rfl ?_
    refine WL.done ?_
    refine EW.on ?_
    refine EW.seq ?_
    refine EW.region ?_
    first | refine WL.move rfl rfl rfl ?_
    refine WL.call [.int .i64 z] enter16 rfl rfl rfl (rnew_no z w (by omega)) ?_
    rintro _ w2 ⟨rfl, hw2⟩
    refine ⟨_, rfl, ?_⟩
    rw [hw2]
    first | refine WL.move rfl rfl rfl ?_
    first | refine WL.extract rfl rfl rfl (ext_2 _ _ _).1 ?_
    first | refine WL.extract rfl rfl rfl (ext_2 _ _ _).2 ?_
    first | refine WL.assign rfl rfl rfl ?_
    first | refine WL.assign rfl rfl rfl ?_
    refine WL.done ?_
    refine EW.on ?_
    refine EW.seq ?_
    refine EW.seq ?_
    refine EW.region ?_
    first | refine WL.move rfl rfl rfl ?_
    first | refine WL.move rfl rfl rfl ?_
    refine WL.bin rfl rfl rfl rfl (int_ne_f rfl _ _ _) ?_
    first | refine WL.move rfl rfl rfl ?_
    first | refine WL.move rfl rfl rfl ?_ | refine WL.skip _ rfl rfl rfl ?_
    refine WL.bin rfl rfl rfl rfl (eqP30 _ _) ?_
    first | refine WL.move rfl rfl rfl ?_ | refine WL.skip _ rfl rfl rfl ?_
    refine WL.bin rfl rfl rfl rfl (eqP46 _ _) ?_
    refine WL.bin rfl rfl rfl rfl (bool_ne _ _ _ _ _) ?_
    rw [show (true != true) = false from rfl]
    first | refine WL.pick rfl rfl rfl rfl ?_
    refine WL.done ?_
    refine EW.on ?_
    refine EW.cond_f rfl ?_
    refine EW.skip ?_
    refine EW.on ?_
    refine EW.seq ?_
    refine EW.seq ?_
    refine EW.region ?_
    first | refine WL.move rfl rfl rfl ?_
    refine WL.bin rfl rfl rfl rfl (eqP30 _ _) ?_
    refine WL.done ?_
    refine EW.on ?_
    refine EW.cond_t rfl ?_
    refine EW.seq ?_
    refine EW.region ?_
    refine WL.call [.int .i64 2] enter9 rfl rfl rfl (tnew_ok 2 w (by decide) (by decide)) ?_
    rintro _ w1 ⟨p, r, rfl, tr1, be1, hp1, hr1⟩
    refine ⟨_, rfl, ?_⟩
    first | refine WL.move rfl rfl rfl ?_
    first | refine WL.extract rfl rfl rfl (ext_2 _ _ _).1 ?_
    first | refine WL.extract rfl rfl rfl (ext_2 _ _ _).2 ?_
    first | refine WL.assign rfl rfl rfl ?_
    first | refine WL.assign rfl rfl rfl ?_
    refine WL.done ?_
    refine EW.on ?_
    refine EW.seq ?_
    refine EW.region ?_
    refine WL.call [.int .i64 2] enter16 rfl rfl rfl (rnew_ok 2 w1 (by decide) (by decide)) ?_
    rintro _ w2 ⟨q, rfl, rt2, be2, hq2⟩
    refine ⟨_, rfl, ?_⟩
    have D0 := Dk.new tr1 hr1 be1 be2 rt2 hq2 (by decide) hK hRs hBs
    first | refine WL.move rfl rfl rfl ?_
    first | refine WL.extract rfl rfl rfl (ext_2 _ _ _).1 ?_
    first | refine WL.extract rfl rfl rfl (ext_2 _ _ _).2 ?_
    first | refine WL.assign rfl rfl rfl ?_
    first | refine WL.assign rfl rfl rfl ?_
    refine WL.done ?_
    refine EW.on ?_
    refine EW.seq ?_
    refine EW.region ?_
    first | refine WL.move rfl rfl rfl ?_
    refine WL.bin rfl rfl rfl rfl (neP30 _ _ _ _) ?_
    first | refine WL.move rfl rfl rfl ?_
    first | refine WL.move rfl rfl rfl ?_ | refine WL.skip _ rfl rfl rfl ?_
    refine WL.bin rfl rfl rfl rfl (int_ne_f rfl _ _ _) ?_
    first | refine WL.pick rfl rfl rfl rfl ?_
    first | refine WL.move rfl rfl rfl ?_
    first | refine WL.move rfl rfl rfl ?_ | refine WL.skip _ rfl rfl rfl ?_
    refine WL.bin rfl rfl rfl rfl (int_ne_f rfl _ _ _) ?_
    first | refine WL.pick rfl rfl rfl rfl ?_
    refine WL.done ?_
    refine EW.on ?_
    refine EW.cond_f rfl ?_
    refine EW.skip ?_
    refine EW.on ?_
    refine EW.seq ?_
    refine EW.seq ?_
    refine EW.region ?_
    first | refine WL.assign rfl rfl rfl ?_
    refine WL.done ?_
    refine EW.on ?_
    refine EW.block ?_
    refine EW.loop (exE vS p q) (exR w p r q (2 : Int).toNat) (fun i => 100 - i) 0 [1, 5, 7, 9] rfl ⟨Nat.zero_le _, _, _, _, _, D0⟩ ?_
    rintro i wi ⟨hi100, E, c, v, L, D⟩
    show EW _ _ _ _ [(1, vS), (5, .pointer (some ⟨p, 0, none⟩)), (7, .pointer (some ⟨q, 0, none⟩)), (9, .int .i64 (i : Int))] _
    refine EW.seq ?_
    refine EW.seq ?_
    rcases (show ((i : Int) < (n : Int) ∧ (i : Int) < 100) ∨ ((i : Int) < (n : Int) ∧ ¬ (i : Int) < 100) ∨ ¬ (i : Int) < (n : Int) by omega) with ⟨hx1, hx2⟩ | ⟨hx1, hx2⟩ | hx1
    · refine EW.region ?_
      first | refine WL.move rfl rfl rfl ?_
      first | refine WL.move rfl rfl rfl ?_
      refine WL.len rfl rfl rfl (hlen _ _) ?_
      refine WL.bin rfl rfl rfl rfl (int_lt_t hx1 _ _ _) ?_
      first | refine WL.move rfl rfl rfl ?_
      first | refine WL.move rfl rfl rfl ?_ | refine WL.skip _ rfl rfl rfl ?_
      refine WL.bin rfl rfl rfl rfl (int_lt_t hx2 _ _ _) ?_
      first | refine WL.pick rfl rfl rfl rfl ?_
      refine WL.done ?_
      refine EW.on ?_
      refine EW.cond_t rfl ?_
      refine EW.skip ?_
      refine EW.on ?_
      refine EW.seq ?_
      refine EW.block ?_
      refine EW.seq ?_
      obtain ⟨o, ho, ado, ixo, ldo⟩ := hat i (by omega)
      obtain ⟨bs, hbs, hbl⟩ := ho.2
      refine EW.region ?_
      first | refine WL.move rfl rfl rfl ?_
      first | refine WL.move rfl rfl rfl ?_
      first | refine WL.move rfl rfl rfl ?_
      first | refine WL.move rfl rfl rfl ?_
      refine WL.index rfl rfl rfl rfl (ixo _) ?_
      refine WL.load rfl rfl rfl (ldo _ D.be) ?_
      refine WL.call [.pointer (some ⟨p, 0, none⟩), .pointer (some ⟨q, 0, none⟩), o.v] enter17 rfl rfl rfl (step_any D o ho.1 bs hbs hbl) ?_
      rintro _ w13 ⟨rfl, E', c', v', L', D'⟩
      refine ⟨_, rfl, ?_⟩
      refine WL.un rfl rfl rfl (not_t _ _) ?_
      refine WL.done ?_
      refine EW.on ?_
      refine EW.cond_f rfl ?_
      refine EW.skip ?_
      refine pn_block ?_
      refine EW.on ?_
      refine EW.region ?_
      first | refine WL.move rfl rfl rfl ?_
      refine WL.bin rfl rfl rfl rfl (int_add (c := ((i + 1 : Nat) : Int)) (by rw [IntKind.wrap_i64]; omega) _ _ _) ?_
      first | refine WL.assign rfl rfl rfl ?_
      refine WL.done ?_
      exact EW.again (E := exE vS p q) (R := exR w p r q (2 : Int).toNat) (m := fun i => 100 - i) (x := i) (i + 1) [1, 5, 7, 9] rfl ⟨by omega, _, _, _, _, D'⟩ (by show 100 - (i + 1) < 100 - i; omega)
    · refine EW.region ?_
      first | refine WL.move rfl rfl rfl ?_
      first | refine WL.move rfl rfl rfl ?_
      refine WL.len rfl rfl rfl (hlen _ _) ?_
      refine WL.bin rfl rfl rfl rfl (int_lt_t hx1 _ _ _) ?_
      first | refine WL.move rfl rfl rfl ?_
      first | refine WL.move rfl rfl rfl ?_ | refine WL.skip _ rfl rfl rfl ?_
      refine WL.bin rfl rfl rfl rfl (int_lt_f hx2 _ _ _) ?_
      first | refine WL.pick rfl rfl rfl rfl ?_
      refine WL.done ?_
      refine EW.on ?_
      refine EW.cond_f rfl ?_
      refine EW.exit ?_
      refine px_then ?_
      refine px_then ?_
      refine px_block ?_
      refine EW.on ?_
      refine EW.seq ?_
      refine EW.region ?_
      first | refine WL.move rfl rfl rfl ?_
      refine WL.call [.pointer (some ⟨p, 0, none⟩)] enter13 rfl rfl rfl (tlen_any p r _ E c wi D.tr) ?_
      rintro _ w3 ⟨rfl, hw3⟩
      refine ⟨_, rfl, ?_⟩
      rw [hw3]
      first | refine WL.move rfl rfl rfl ?_
      refine WL.call [.pointer (some ⟨q, 0, none⟩)] enter18 rfl rfl rfl (rlen_any q v _ L wi D.rt) ?_
      rintro _ w4 ⟨rfl, hw4⟩
      refine ⟨_, rfl, ?_⟩
      rw [hw4, D.rel.len]
      refine WL.bin rfl rfl rfl rfl (int_eq_t rfl _ _ _) ?_
      first | refine WL.move rfl rfl rfl ?_
      first | refine WL.move rfl rfl rfl ?_ | refine WL.skip _ rfl rfl rfl ?_
      first | refine WL.move rfl rfl rfl ?_ | refine WL.skip _ rfl rfl rfl ?_
      refine WL.buildN [(0, .int .i64 6), (2, .int .u32 7)] rfl rfl rfl (bd51 _) ?_
      refine WL.call [.pointer (some ⟨p, 0, none⟩), .pointer (some ⟨q, 0, none⟩), oz.v] enter17 rfl rfl rfl (step_any D oz (by decide) [] (Has.nil _) (by simp)) ?_
      rintro _ w15 ⟨rfl, E', c', v', L', D'⟩
      refine ⟨_, rfl, ?_⟩
      first | refine WL.pick rfl rfl rfl rfl ?_
      first | refine WL.assign rfl rfl rfl ?_
      refine WL.done ?_
      refine EW.on ?_
      refine EW.ret ?_
      exact EW.returns Tryd.results6 rfl ⟨rfl, D'.be⟩
    · refine EW.region ?_
      first | refine WL.move rfl rfl rfl ?_
      first | refine WL.move rfl rfl rfl ?_
      refine WL.len rfl rfl rfl (hlen _ _) ?_
      refine WL.bin rfl rfl rfl rfl (int_lt_f hx1 _ _ _) ?_
      first | refine WL.move rfl rfl rfl ?_
      refine WL.skip _ rfl rfl rfl ?_
      refine WL.skip _ rfl rfl rfl ?_
      first | refine WL.pick rfl rfl rfl rfl ?_
      refine WL.done ?_
      refine EW.on ?_
      refine EW.cond_f rfl ?_
      refine EW.exit ?_
      refine px_then ?_
      refine px_then ?_
      refine px_block ?_
      refine EW.on ?_
      refine EW.seq ?_
      refine EW.region ?_
      first | refine WL.move rfl rfl rfl ?_
      refine WL.call [.pointer (some ⟨p, 0, none⟩)] enter13 rfl rfl rfl (tlen_any p r _ E c wi D.tr) ?_
      rintro _ w3 ⟨rfl, hw3⟩
      refine ⟨_, rfl, ?_⟩
      rw [hw3]
      first | refine WL.move rfl rfl rfl ?_
      refine WL.call [.pointer (some ⟨q, 0, none⟩)] enter18 rfl rfl rfl (rlen_any q v _ L wi D.rt) ?_
      rintro _ w4 ⟨rfl, hw4⟩
      refine ⟨_, rfl, ?_⟩
      rw [hw4, D.rel.len]
      refine WL.bin rfl rfl rfl rfl (int_eq_t rfl _ _ _) ?_
      first | refine WL.move rfl rfl rfl ?_
      first | refine WL.move rfl rfl rfl ?_ | refine WL.skip _ rfl rfl rfl ?_
      first | refine WL.move rfl rfl rfl ?_ | refine WL.skip _ rfl rfl rfl ?_
      refine WL.buildN [(0, .int .i64 6), (2, .int .u32 7)] rfl rfl rfl (bd51 _) ?_
      refine WL.call [.pointer (some ⟨p, 0, none⟩), .pointer (some ⟨q, 0, none⟩), oz.v] enter17 rfl rfl rfl (step_any D oz (by decide) [] (Has.nil _) (by simp)) ?_
      rintro _ w15 ⟨rfl, E', c', v', L', D'⟩
      refine ⟨_, rfl, ?_⟩
      first | refine WL.pick rfl rfl rfl rfl ?_
      first | refine WL.assign rfl rfl rfl ?_
      refine WL.done ?_
      refine EW.on ?_
      refine EW.ret ?_
      exact EW.returns Tryd.results6 rfl ⟨rfl, D'.be⟩
end Go.Proofs.YtiefgmgjlhjjhaaDoor
