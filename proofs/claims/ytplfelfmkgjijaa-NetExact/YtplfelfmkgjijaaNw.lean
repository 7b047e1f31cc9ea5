import Derived.Test.YtplfelfmkgjijaaNv
set_option linter.unusedVariables false
set_option linter.unusedSimpArgs false
namespace Go.Proofs.Ytplfelfmkgjijaa
open Go.RowKit

theorem nePq (p : Nat) (W : World) (x y : Operand) : (do eqGuard .eql 50 x y (.pointer (some ⟨p, 0, none⟩)) (.pointer none); binOp .eql 50 (.pointer (some ⟨p, 0, none⟩)) (.pointer none) : Sem Value).run Try.prog W = .ok (.bool false) W := by
  go_simp
theorem eqPn (W : World) (x : Operand) : (do eqGuard .eql 22 x (.const (.pointer none)) (.pointer none) (.pointer none); binOp .eql 22 (.pointer none) (.pointer none) : Sem Value).run Try.prog W = .ok (.bool true) W := by
  go_simp
theorem eqPq (W : World) (x : Operand) : (do eqGuard .eql 50 x (.const (.pointer none)) (.pointer none) (.pointer none); binOp .eql 50 (.pointer none) (.pointer none) : Sem Value).run Try.prog W = .ok (.bool true) W := by
  go_simp
def xE (vS : Value) (p q : Nat) (i : Nat) : List (Nat × Value) := [(2, vS), (7, .pointer (some ⟨p, 0, none⟩)), (9, .pointer (some ⟨q, 0, none⟩)), (11, .int .i64 (i : Int))]
def xR (w : World) (p r q : Nat) (nodes most : Int) (i : Nat) (W : World) : Prop := i ≤ 200 ∧ ∃ v N E c R, Dk w W p r q v nodes most N E c R ∧ N ≤ (i : Int)
theorem Dk.new {w w1 w2 : World} {p r q : Nat} {a b : Int} (n : Nt w1 p r a b 0 [] 0) (hp : w.heap.size ≤ p) (hr : w.heap.size ≤ r) (l1 : Below w.heap.size w w1) (l2 : Below w1.heap.size w1 w2) (h : Rn w2 q a b 0 (.slice none 0 0) []) (hq : w1.heap.size ≤ q) : Dk w w2 p r q (.slice none 0 0) a b 0 [] 0 [] :=
  ⟨n.on l2, h, rfl, fun m hm => (by cases hm), Int.le_refl _, Int.le_refl _, l1.trans (l2.mono l1.size), hp, hr, by have := l1.size; omega, fun k hk => by cases hk⟩
set_option maxRecDepth 100000 in
set_option maxHeartbeats 20000000 in
theorem exact_any (a b : Int) (vS : Value) (L : List Op5) (w : World) (hS : Scr w vS L) : Calls Try.prog 6 #[.int .i64 a, .int .i64 b, vS] w fun e w' => e = .returned (.bool true) ∧ Below w.heap.size w w' := by
  by_cases hm : newOk a b
  · refine calls_of_args [.int .i64 a, .int .i64 b, vS] Try.func6 rfl 84 Try.ntmps6 (by show 3 ≤ 84; decide) ?_
    refine EW.seq ?_
    refine EW.region ?_
    first | refine WL.assign rfl rfl rfl ?_
    refine WL.done ?_
    refine EW.on ?_
    refine EW.seq ?_
    refine EW.region ?_
    first | refine WL.move rfl rfl rfl ?_
    first | refine WL.move rfl rfl rfl ?_
    refine WL.call [.int .i64 a, .int .i64 b] enter7 rfl rfl rfl (new_ok a b hm _) ?_
    rintro y1 w1 ⟨p, r, rfl, nt1, hp1, hr1, be1⟩
    refine ⟨_, rfl, ?_⟩
    first | refine WL.move rfl rfl rfl ?_
    first | refine WL.extract rfl rfl rfl (ext_2 _ _ _).1 ?_
    first | refine WL.extract rfl rfl rfl (ext_2 _ _ _).2 ?_
    first | refine WL.assign rfl rfl rfl ?_
    first | refine WL.assign rfl rfl rfl ?_
    refine WL.done ?_
    refine EW.on ?_
    refine EW.seq ?_
    refine EW.region ?_
    first | refine WL.move rfl rfl rfl ?_
    first | refine WL.move rfl rfl rfl ?_
    refine WL.call [.int .i64 a, .int .i64 b] enter16 rfl rfl rfl (rnew_ok a b hm _) ?_
    rintro y2 w2 ⟨q, rfl, rn2, hq2, be2⟩
    refine ⟨_, rfl, ?_⟩
    have D0 := Dk.new nt1 hp1 hr1 be1 be2 rn2 hq2
    first | refine WL.move rfl rfl rfl ?_
    first | refine WL.extract rfl rfl rfl (ext_2 _ _ _).1 ?_
    first | refine WL.extract rfl rfl rfl (ext_2 _ _ _).2 ?_
    first | refine WL.assign rfl rfl rfl ?_
    first | refine WL.assign rfl rfl rfl ?_
    refine WL.done ?_
    refine EW.on ?_
    refine EW.seq ?_
    refine EW.seq ?_
    refine EW.region ?_
    first | refine WL.move rfl rfl rfl ?_
    first | refine WL.move rfl rfl rfl ?_
    refine WL.bin rfl rfl rfl rfl (int_ne_f rfl _ _ _) ?_
    first | refine WL.move rfl rfl rfl ?_
    first | refine WL.move rfl rfl rfl ?_ | refine WL.skip _ rfl rfl rfl ?_
    refine WL.bin rfl rfl rfl rfl (neP _ _ _ _) ?_
    first | refine WL.move rfl rfl rfl ?_ | refine WL.skip _ rfl rfl rfl ?_
    refine WL.bin rfl rfl rfl rfl (nePq _ _ _ _) ?_
    refine WL.bin rfl rfl rfl rfl (bool_ne_f _ _ _ _) ?_
    first | refine WL.pick rfl rfl rfl rfl ?_
    refine WL.done ?_
    refine EW.on ?_
    refine EW.cond_f rfl ?_
    refine EW.skip ?_
    refine EW.on ?_
    refine EW.seq ?_
    refine EW.seq ?_
    refine EW.region ?_
    first | refine WL.move rfl rfl rfl ?_
    refine WL.bin rfl rfl rfl rfl (neP _ _ _ _) ?_
    refine WL.done ?_
    refine EW.on ?_
    refine EW.cond_f rfl ?_
    refine EW.skip ?_
    refine EW.on ?_
    refine EW.seq ?_
    refine EW.seq ?_
    refine EW.region ?_
    first | refine WL.assign rfl rfl rfl ?_
    refine WL.done ?_
    refine EW.on ?_
    refine EW.block ?_
    refine EW.loop (xE vS p q) (xR w p r q a b) (fun i => 200 - i) 0 [2, 7, 9, 11] rfl ⟨Nat.zero_le _, _, _, _, _, _, D0, Int.le_refl _⟩ ?_
    rintro i wi ⟨hi200, v, N, E, c, R, D, hNi⟩
    show EW _ _ _ _ [(2, vS), (7, .pointer (some ⟨p, 0, none⟩)), (9, .pointer (some ⟨q, 0, none⟩)), (11, .int .i64 (i : Int))] _
    refine EW.seq ?_
    refine EW.seq ?_
    rcases (show ((i : Int) < (L.length : Int) ∧ (i : Int) < 200) ∨ ((i : Int) < (L.length : Int) ∧ ¬ (i : Int) < 200) ∨ ¬ (i : Int) < (L.length : Int) by omega) with ⟨hx1, hx2⟩ | ⟨hx1, hx2⟩ | hx1
    · refine EW.region ?_
      first | refine WL.move rfl rfl rfl ?_
      first | refine WL.move rfl rfl rfl ?_
      refine WL.len rfl rfl rfl (hS.len _ _) ?_
      refine WL.bin rfl rfl rfl rfl (int_lt_t hx1 _ _ _) ?_
      first | refine WL.move rfl rfl rfl ?_
      first | refine WL.move rfl rfl rfl ?_ | refine WL.skip _ rfl rfl rfl ?_
      refine WL.bin rfl rfl rfl rfl (int_lt_t hx2 _ _ _) ?_
      first | refine WL.pick rfl rfl rfl rfl ?_
      refine WL.done ?_
      refine EW.on ?_
      refine EW.cond_t rfl ?_
      refine EW.skip ?_
      refine EW.on ?_
      refine EW.seq ?_
      refine EW.block ?_
      refine EW.seq ?_
      obtain ⟨o, ho⟩ : ∃ o, L[i]? = some o := ⟨_, List.getElem?_eq_getElem (by omega)⟩
      obtain ⟨ado, ixo, ldo⟩ := hS.get ho
      refine EW.region ?_
      first | refine WL.move rfl rfl rfl ?_
      first | refine WL.move rfl rfl rfl ?_
      first | refine WL.move rfl rfl rfl ?_
      first | refine WL.move rfl rfl rfl ?_
      refine WL.index rfl rfl rfl rfl (ixo _) ?_
      refine WL.load rfl rfl rfl (ldo _ (hS.on D.be)) ?_
      refine WL.call [.pointer (some ⟨p, 0, none⟩), .pointer (some ⟨q, 0, none⟩), o.g] enter17 rfl rfl rfl (step_any D o (hS.ok o (List.mem_of_getElem? ho)) (by omega)) ?_
      rintro y13 w13 ⟨rfl, v', N', E', c', R', D', hN'⟩
      refine ⟨_, rfl, ?_⟩
      refine WL.un rfl rfl rfl (not_b _ _) ?_
      refine WL.done ?_
      refine EW.on ?_
      refine EW.cond_f rfl ?_
      refine EW.skip ?_
      refine pn_block ?_
      refine EW.on ?_
      refine EW.region ?_
      first | refine WL.move rfl rfl rfl ?_
      refine WL.bin rfl rfl rfl rfl (int_add (c := ((i + 1 : Nat) : Int)) (by rw [IntKind.wrap_i64]; omega) _ _ _) ?_
      first | refine WL.assign rfl rfl rfl ?_
      refine WL.done ?_
      exact EW.again (E := xE vS p q) (R := xR w p r q a b) (m := fun i => 200 - i) (x := i) (i + 1) [2, 7, 9, 11] rfl ⟨by omega, _, _, _, _, _, D', by omega⟩ (by show 200 - (i + 1) < 200 - i; omega)
    · refine EW.region ?_
      first | refine WL.move rfl rfl rfl ?_
      first | refine WL.move rfl rfl rfl ?_
      refine WL.len rfl rfl rfl (hS.len _ _) ?_
      refine WL.bin rfl rfl rfl rfl (int_lt_t hx1 _ _ _) ?_
      first | refine WL.move rfl rfl rfl ?_
      first | refine WL.move rfl rfl rfl ?_ | refine WL.skip _ rfl rfl rfl ?_
      refine WL.bin rfl rfl rfl rfl (int_lt_f hx2 _ _ _) ?_
      first | refine WL.pick rfl rfl rfl rfl ?_
      refine WL.done ?_
      refine EW.on ?_
      refine EW.cond_f rfl ?_
      refine EW.exit ?_
      refine px_then ?_
      refine px_then ?_
      refine px_block ?_
      refine EW.on ?_
      refine EW.seq ?_
      refine EW.region ?_
      first | refine WL.move rfl rfl rfl ?_
      have hlen := dat_len D.eq
      have hEl : E.length ≤ 100000 := by have := D.le; omega
      have hRl : R.length ≤ 100000 := by omega
      refine WL.call [.pointer (some ⟨p, 0, none⟩)] enter11 rfl rfl rfl (flights_any D.nt hEl) ?_
      rintro y2 w2' ⟨va, la, rfl, da, foa, _, bxa, _, l2⟩
      refine ⟨_, rfl, ?_⟩
      have D2 := D.on l2
      first | refine WL.move rfl rfl rfl ?_
      refine WL.call [.pointer (some ⟨q, 0, none⟩)] enter19 rfl rfl rfl (rflights_any D2.rn hRl) ?_
      rintro y3 w3 ⟨vb, lb, rfl, fob, db, hxb, l3⟩
      refine ⟨_, rfl, ?_⟩
      have D3 := D2.on l3
      have hla : la.length ≤ 100000 := by
        have := congrArg List.length da
        rw [List.length_map, dat, List.length_map] at this
        omega
      refine WL.call [va, vb] enter18 rfl rfl rfl (sameAll_yes va vb la lb _ (foa.on l3).fs fob.fs (fun x hx => ((bxa x hx).1.below l3).has) hxb (by rw [da, D.eq, db]) hla) ?_
      rintro y4 w4 ⟨rfl, l4⟩
      refine ⟨_, rfl, ?_⟩
      have D4 := D3.on l4
      first | refine WL.move rfl rfl rfl ?_
      first | refine WL.move rfl rfl rfl ?_ | refine WL.skip _ rfl rfl rfl ?_
      refine WL.call [.pointer (some ⟨p, 0, none⟩)] enter10 rfl rfl rfl (next_any D4.nt) ?_
      rintro y5 w5 ⟨rfl, hw5⟩
      refine ⟨_, rfl, ?_⟩
      rw [hw5]
      first | refine WL.move rfl rfl rfl ?_ | refine WL.skip _ rfl rfl rfl ?_
      refine WL.call [.pointer (some ⟨q, 0, none⟩)] enter20 rfl rfl rfl (rnext_any D4.rn) ?_
      rintro y6 w6 ⟨rfl, hw6⟩
      refine ⟨_, rfl, ?_⟩
      rw [hw6]
      refine WL.bin rfl rfl rfl rfl (int_eq_t rfl _ _ _) ?_
      first | refine WL.pick rfl rfl rfl rfl ?_
      first | refine WL.assign rfl rfl rfl ?_
      refine WL.done ?_
      refine EW.on ?_
      refine EW.ret ?_
      exact EW.returns Try.results6 rfl ⟨rfl, D4.be⟩
    · refine EW.region ?_
      first | refine WL.move rfl rfl rfl ?_
      first | refine WL.move rfl rfl rfl ?_
      refine WL.len rfl rfl rfl (hS.len _ _) ?_
      refine WL.bin rfl rfl rfl rfl (int_lt_f hx1 _ _ _) ?_
      first | refine WL.move rfl rfl rfl ?_
      refine WL.skip _ rfl rfl rfl ?_
      refine WL.skip _ rfl rfl rfl ?_
      first | refine WL.pick rfl rfl rfl rfl ?_
      refine WL.done ?_
      refine EW.on ?_
      refine EW.cond_f rfl ?_
      refine EW.exit ?_
      refine px_then ?_
      refine px_then ?_
      refine px_block ?_
      refine EW.on ?_
      refine EW.seq ?_
      refine EW.region ?_
      first | refine WL.move rfl rfl rfl ?_
      have hlen := dat_len D.eq
      have hEl : E.length ≤ 100000 := by have := D.le; omega
      have hRl : R.length ≤ 100000 := by omega
      refine WL.call [.pointer (some ⟨p, 0, none⟩)] enter11 rfl rfl rfl (flights_any D.nt hEl) ?_
      rintro y2 w2' ⟨va, la, rfl, da, foa, _, bxa, _, l2⟩
      refine ⟨_, rfl, ?_⟩
      have D2 := D.on l2
      first | refine WL.move rfl rfl rfl ?_
      refine WL.call [.pointer (some ⟨q, 0, none⟩)] enter19 rfl rfl rfl (rflights_any D2.rn hRl) ?_
      rintro y3 w3 ⟨vb, lb, rfl, fob, db, hxb, l3⟩
      refine ⟨_, rfl, ?_⟩
      have D3 := D2.on l3
      have hla : la.length ≤ 100000 := by
        have := congrArg List.length da
        rw [List.length_map, dat, List.length_map] at this
        omega
      refine WL.call [va, vb] enter18 rfl rfl rfl (sameAll_yes va vb la lb _ (foa.on l3).fs fob.fs (fun x hx => ((bxa x hx).1.below l3).has) hxb (by rw [da, D.eq, db]) hla) ?_
      rintro y4 w4 ⟨rfl, l4⟩
      refine ⟨_, rfl, ?_⟩
      have D4 := D3.on l4
      first | refine WL.move rfl rfl rfl ?_
      first | refine WL.move rfl rfl rfl ?_ | refine WL.skip _ rfl rfl rfl ?_
      refine WL.call [.pointer (some ⟨p, 0, none⟩)] enter10 rfl rfl rfl (next_any D4.nt) ?_
      rintro y5 w5 ⟨rfl, hw5⟩
      refine ⟨_, rfl, ?_⟩
      rw [hw5]
      first | refine WL.move rfl rfl rfl ?_ | refine WL.skip _ rfl rfl rfl ?_
      refine WL.call [.pointer (some ⟨q, 0, none⟩)] enter20 rfl rfl rfl (rnext_any D4.rn) ?_
      rintro y6 w6 ⟨rfl, hw6⟩
      refine ⟨_, rfl, ?_⟩
      rw [hw6]
      refine WL.bin rfl rfl rfl rfl (int_eq_t rfl _ _ _) ?_
      first | refine WL.pick rfl rfl rfl rfl ?_
      first | refine WL.assign rfl rfl rfl ?_
      refine WL.done ?_
      refine EW.on ?_
      refine EW.ret ?_
      exact EW.returns Try.results6 rfl ⟨rfl, D4.be⟩
  · refine calls_of_args [.int .i64 a, .int .i64 b, vS] Try.func6 rfl 84 Try.ntmps6 (by show 3 ≤ 84; decide) ?_
    refine EW.seq ?_
    refine EW.region ?_
    first | refine WL.assign rfl rfl rfl ?_
    refine WL.done ?_
    refine EW.on ?_
    refine EW.seq ?_
    refine EW.region ?_
    first | refine WL.move rfl rfl rfl ?_
    first | refine WL.move rfl rfl rfl ?_
    refine WL.call [.int .i64 a, .int .i64 b] enter7 rfl rfl rfl (new_no a b hm _) ?_
    rintro y1 w1 ⟨rfl, hw1⟩
    refine ⟨_, rfl, ?_⟩
    rw [hw1]
    first | refine WL.move rfl rfl rfl ?_
    first | refine WL.extract rfl rfl rfl (ext_2 _ _ _).1 ?_
    first | refine WL.extract rfl rfl rfl (ext_2 _ _ _).2 ?_
    first | refine WL.assign rfl rfl rfl ?_
    first | refine WL.assign rfl rfl rfl ?_
    refine WL.done ?_
    refine EW.on ?_
    refine EW.seq ?_
    refine EW.region ?_
    first | refine WL.move rfl rfl rfl ?_
    first | refine WL.move rfl rfl rfl ?_
    refine WL.call [.int .i64 a, .int .i64 b] enter16 rfl rfl rfl (rnew_no a b hm _) ?_
    rintro y2 w2 ⟨rfl, hw2⟩
    refine ⟨_, rfl, ?_⟩
    rw [hw2]
    first | refine WL.move rfl rfl rfl ?_
    first | refine WL.extract rfl rfl rfl (ext_2 _ _ _).1 ?_
    first | refine WL.extract rfl rfl rfl (ext_2 _ _ _).2 ?_
    first | refine WL.assign rfl rfl rfl ?_
    first | refine WL.assign rfl rfl rfl ?_
    refine WL.done ?_
    refine EW.on ?_
    refine EW.seq ?_
    refine EW.seq ?_
    refine EW.region ?_
    first | refine WL.move rfl rfl rfl ?_
    first | refine WL.move rfl rfl rfl ?_
    refine WL.bin rfl rfl rfl rfl (int_ne_f rfl _ _ _) ?_
    first | refine WL.move rfl rfl rfl ?_
    first | refine WL.move rfl rfl rfl ?_ | refine WL.skip _ rfl rfl rfl ?_
    refine WL.bin rfl rfl rfl rfl (eqPn _ _) ?_
    first | refine WL.move rfl rfl rfl ?_ | refine WL.skip _ rfl rfl rfl ?_
    refine WL.bin rfl rfl rfl rfl (eqPq _ _) ?_
    refine WL.bin rfl rfl rfl rfl (bool_ne_f _ _ _ _) ?_
    first | refine WL.pick rfl rfl rfl rfl ?_
    refine WL.done ?_
    refine EW.on ?_
    refine EW.cond_f rfl ?_
    refine EW.skip ?_
    refine EW.on ?_
    refine EW.seq ?_
    refine EW.seq ?_
    refine EW.region ?_
    first | refine WL.move rfl rfl rfl ?_
    refine WL.bin rfl rfl rfl rfl (eqPn _ _) ?_
    refine WL.done ?_
    refine EW.on ?_
    refine EW.cond_t rfl ?_
    refine EW.seq ?_
    refine EW.region ?_
    refine WL.call [.int .i64 2, .int .i64 3] enter7 rfl rfl rfl (new_ok 2 3 ⟨by decide, by decide, by decide, by decide⟩ _) ?_
    rintro y1 w1 ⟨p, r, rfl, nt1, hp1, hr1, be1⟩
    refine ⟨_, rfl, ?_⟩
    first | refine WL.move rfl rfl rfl ?_
    first | refine WL.extract rfl rfl rfl (ext_2 _ _ _).1 ?_
    first | refine WL.extract rfl rfl rfl (ext_2 _ _ _).2 ?_
    first | refine WL.assign rfl rfl rfl ?_
    first | refine WL.assign rfl rfl rfl ?_
    refine WL.done ?_
    refine EW.on ?_
    refine EW.seq ?_
    refine EW.region ?_
    refine WL.call [.int .i64 2, .int .i64 3] enter16 rfl rfl rfl (rnew_ok 2 3 ⟨by decide, by decide, by decide, by decide⟩ _) ?_
    rintro y2 w2 ⟨q, rfl, rn2, hq2, be2⟩
    refine ⟨_, rfl, ?_⟩
    have D0 := Dk.new nt1 hp1 hr1 be1 be2 rn2 hq2
    first | refine WL.move rfl rfl rfl ?_
    first | refine WL.extract rfl rfl rfl (ext_2 _ _ _).1 ?_
    first | refine WL.extract rfl rfl rfl (ext_2 _ _ _).2 ?_
    first | refine WL.assign rfl rfl rfl ?_
    first | refine WL.assign rfl rfl rfl ?_
    refine WL.done ?_
    refine EW.on ?_
    refine EW.seq ?_
    refine EW.region ?_
    first | refine WL.move rfl rfl rfl ?_
    refine WL.bin rfl rfl rfl rfl (int_ne_f rfl _ _ _) ?_
    first | refine WL.move rfl rfl rfl ?_
    first | refine WL.move rfl rfl rfl ?_ | refine WL.skip _ rfl rfl rfl ?_
    refine WL.bin rfl rfl rfl rfl (neP _ _ _ _) ?_
    first | refine WL.pick rfl rfl rfl rfl ?_
    first | refine WL.move rfl rfl rfl ?_
    first | refine WL.move rfl rfl rfl ?_ | refine WL.skip _ rfl rfl rfl ?_
    refine WL.bin rfl rfl rfl rfl (int_ne_f rfl _ _ _) ?_
    first | refine WL.pick rfl rfl rfl rfl ?_
    refine WL.done ?_
    refine EW.on ?_
    refine EW.cond_f rfl ?_
    refine EW.skip ?_
    refine EW.on ?_
    refine EW.seq ?_
    refine EW.seq ?_
    refine EW.region ?_
    first | refine WL.assign rfl rfl rfl ?_
    refine WL.done ?_
    refine EW.on ?_
    refine EW.block ?_
    refine EW.loop (xE vS p q) (xR w p r q 2 3) (fun i => 200 - i) 0 [2, 7, 9, 11] rfl ⟨Nat.zero_le _, _, _, _, _, _, D0, Int.le_refl _⟩ ?_
    rintro i wi ⟨hi200, v, N, E, c, R, D, hNi⟩
    show EW _ _ _ _ [(2, vS), (7, .pointer (some ⟨p, 0, none⟩)), (9, .pointer (some ⟨q, 0, none⟩)), (11, .int .i64 (i : Int))] _
    refine EW.seq ?_
    refine EW.seq ?_
    rcases (show ((i : Int) < (L.length : Int) ∧ (i : Int) < 200) ∨ ((i : Int) < (L.length : Int) ∧ ¬ (i : Int) < 200) ∨ ¬ (i : Int) < (L.length : Int) by omega) with ⟨hx1, hx2⟩ | ⟨hx1, hx2⟩ | hx1
    · refine EW.region ?_
      first | refine WL.move rfl rfl rfl ?_
      first | refine WL.move rfl rfl rfl ?_
      refine WL.len rfl rfl rfl (hS.len _ _) ?_
      refine WL.bin rfl rfl rfl rfl (int_lt_t hx1 _ _ _) ?_
      first | refine WL.move rfl rfl rfl ?_
      first | refine WL.move rfl rfl rfl ?_ | refine WL.skip _ rfl rfl rfl ?_
      refine WL.bin rfl rfl rfl rfl (int_lt_t hx2 _ _ _) ?_
      first | refine WL.pick rfl rfl rfl rfl ?_
      refine WL.done ?_
      refine EW.on ?_
      refine EW.cond_t rfl ?_
      refine EW.skip ?_
      refine EW.on ?_
      refine EW.seq ?_
      refine EW.block ?_
      refine EW.seq ?_
      obtain ⟨o, ho⟩ : ∃ o, L[i]? = some o := ⟨_, List.getElem?_eq_getElem (by omega)⟩
      obtain ⟨ado, ixo, ldo⟩ := hS.get ho
      refine EW.region ?_
      first | refine WL.move rfl rfl rfl ?_
      first | refine WL.move rfl rfl rfl ?_
      first | refine WL.move rfl rfl rfl ?_
      first | refine WL.move rfl rfl rfl ?_
      refine WL.index rfl rfl rfl rfl (ixo _) ?_
      refine WL.load rfl rfl rfl (ldo _ (hS.on D.be)) ?_
      refine WL.call [.pointer (some ⟨p, 0, none⟩), .pointer (some ⟨q, 0, none⟩), o.g] enter17 rfl rfl rfl (step_any D o (hS.ok o (List.mem_of_getElem? ho)) (by omega)) ?_
      rintro y13 w13 ⟨rfl, v', N', E', c', R', D', hN'⟩
      refine ⟨_, rfl, ?_⟩
      refine WL.un rfl rfl rfl (not_b _ _) ?_
      refine WL.done ?_
      refine EW.on ?_
      refine EW.cond_f rfl ?_
      refine EW.skip ?_
      refine pn_block ?_
      refine EW.on ?_
      refine EW.region ?_
      first | refine WL.move rfl rfl rfl ?_
      refine WL.bin rfl rfl rfl rfl (int_add (c := ((i + 1 : Nat) : Int)) (by rw [IntKind.wrap_i64]; omega) _ _ _) ?_
      first | refine WL.assign rfl rfl rfl ?_
      refine WL.done ?_
      exact EW.again (E := xE vS p q) (R := xR w p r q 2 3) (m := fun i => 200 - i) (x := i) (i + 1) [2, 7, 9, 11] rfl ⟨by omega, _, _, _, _, _, D', by omega⟩ (by show 200 - (i + 1) < 200 - i; omega)
    · refine EW.region ?_
      first | refine WL.move rfl rfl rfl ?_
      first | refine WL.move rfl rfl rfl ?_
      refine WL.len rfl rfl rfl (hS.len _ _) ?_
      refine WL.bin rfl rfl rfl rfl (int_lt_t hx1 _ _ _) ?_
      first | refine WL.move rfl rfl rfl ?_
      first | refine WL.move rfl rfl rfl ?_ | refine WL.skip _ rfl rfl rfl ?_
      refine WL.bin rfl rfl rfl rfl (int_lt_f hx2 _ _ _) ?_
      first | refine WL.pick rfl rfl rfl rfl ?_
      refine WL.done ?_
      refine EW.on ?_
      refine EW.cond_f rfl ?_
      refine EW.exit ?_
      refine px_then ?_
      refine px_then ?_
      refine px_block ?_
      refine EW.on ?_
      refine EW.seq ?_
      refine EW.region ?_
      first | refine WL.move rfl rfl rfl ?_
      have hlen := dat_len D.eq
      have hEl : E.length ≤ 100000 := by have := D.le; omega
      have hRl : R.length ≤ 100000 := by omega
      refine WL.call [.pointer (some ⟨p, 0, none⟩)] enter11 rfl rfl rfl (flights_any D.nt hEl) ?_
      rintro y2 w2' ⟨va, la, rfl, da, foa, _, bxa, _, l2⟩
      refine ⟨_, rfl, ?_⟩
      have D2 := D.on l2
      first | refine WL.move rfl rfl rfl ?_
      refine WL.call [.pointer (some ⟨q, 0, none⟩)] enter19 rfl rfl rfl (rflights_any D2.rn hRl) ?_
      rintro y3 w3 ⟨vb, lb, rfl, fob, db, hxb, l3⟩
      refine ⟨_, rfl, ?_⟩
      have D3 := D2.on l3
      have hla : la.length ≤ 100000 := by
        have := congrArg List.length da
        rw [List.length_map, dat, List.length_map] at this
        omega
      refine WL.call [va, vb] enter18 rfl rfl rfl (sameAll_yes va vb la lb _ (foa.on l3).fs fob.fs (fun x hx => ((bxa x hx).1.below l3).has) hxb (by rw [da, D.eq, db]) hla) ?_
      rintro y4 w4 ⟨rfl, l4⟩
      refine ⟨_, rfl, ?_⟩
      have D4 := D3.on l4
      first | refine WL.move rfl rfl rfl ?_
      first | refine WL.move rfl rfl rfl ?_ | refine WL.skip _ rfl rfl rfl ?_
      refine WL.call [.pointer (some ⟨p, 0, none⟩)] enter10 rfl rfl rfl (next_any D4.nt) ?_
      rintro y5 w5 ⟨rfl, hw5⟩
      refine ⟨_, rfl, ?_⟩
      rw [hw5]
      first | refine WL.move rfl rfl rfl ?_ | refine WL.skip _ rfl rfl rfl ?_
      refine WL.call [.pointer (some ⟨q, 0, none⟩)] enter20 rfl rfl rfl (rnext_any D4.rn) ?_
      rintro y6 w6 ⟨rfl, hw6⟩
      refine ⟨_, rfl, ?_⟩
      rw [hw6]
      refine WL.bin rfl rfl rfl rfl (int_eq_t rfl _ _ _) ?_
      first | refine WL.pick rfl rfl rfl rfl ?_
      first | refine WL.assign rfl rfl rfl ?_
      refine WL.done ?_
      refine EW.on ?_
      refine EW.ret ?_
      exact EW.returns Try.results6 rfl ⟨rfl, D4.be⟩
    · refine EW.region ?_
      first | refine WL.move rfl rfl rfl ?_
      first | refine WL.move rfl rfl rfl ?_
      refine WL.len rfl rfl rfl (hS.len _ _) ?_
      refine WL.bin rfl rfl rfl rfl (int_lt_f hx1 _ _ _) ?_
      first | refine WL.move rfl rfl rfl ?_
      refine WL.skip _ rfl rfl rfl ?_
      refine WL.skip _ rfl rfl rfl ?_
      first | refine WL.pick rfl rfl rfl rfl ?_
      refine WL.done ?_
      refine EW.on ?_
      refine EW.cond_f rfl ?_
      refine EW.exit ?_
      refine px_then ?_
      refine px_then ?_
      refine px_block ?_
      refine EW.on ?_
      refine EW.seq ?_
      refine EW.region ?_
      first | refine WL.move rfl rfl rfl ?_
      have hlen := dat_len D.eq
      have hEl : E.length ≤ 100000 := by have := D.le; omega
      have hRl : R.length ≤ 100000 := by omega
      refine WL.call [.pointer (some ⟨p, 0, none⟩)] enter11 rfl rfl rfl (flights_any D.nt hEl) ?_
      rintro y2 w2' ⟨va, la, rfl, da, foa, _, bxa, _, l2⟩
      refine ⟨_, rfl, ?_⟩
      have D2 := D.on l2
      first | refine WL.move rfl rfl rfl ?_
      refine WL.call [.pointer (some ⟨q, 0, none⟩)] enter19 rfl rfl rfl (rflights_any D2.rn hRl) ?_
      rintro y3 w3 ⟨vb, lb, rfl, fob, db, hxb, l3⟩
      refine ⟨_, rfl, ?_⟩
      have D3 := D2.on l3
      have hla : la.length ≤ 100000 := by
        have := congrArg List.length da
        rw [List.length_map, dat, List.length_map] at this
        omega
      refine WL.call [va, vb] enter18 rfl rfl rfl (sameAll_yes va vb la lb _ (foa.on l3).fs fob.fs (fun x hx => ((bxa x hx).1.below l3).has) hxb (by rw [da, D.eq, db]) hla) ?_
      rintro y4 w4 ⟨rfl, l4⟩
      refine ⟨_, rfl, ?_⟩
      have D4 := D3.on l4
      first | refine WL.move rfl rfl rfl ?_
      first | refine WL.move rfl rfl rfl ?_ | refine WL.skip _ rfl rfl rfl ?_
      refine WL.call [.pointer (some ⟨p, 0, none⟩)] enter10 rfl rfl rfl (next_any D4.nt) ?_
      rintro y5 w5 ⟨rfl, hw5⟩
      refine ⟨_, rfl, ?_⟩
      rw [hw5]
      first | refine WL.move rfl rfl rfl ?_ | refine WL.skip _ rfl rfl rfl ?_
      refine WL.call [.pointer (some ⟨q, 0, none⟩)] enter20 rfl rfl rfl (rnext_any D4.rn) ?_
      rintro y6 w6 ⟨rfl, hw6⟩
      refine ⟨_, rfl, ?_⟩
      rw [hw6]
      refine WL.bin rfl rfl rfl rfl (int_eq_t rfl _ _ _) ?_
      first | refine WL.pick rfl rfl rfl rfl ?_
      first | refine WL.assign rfl rfl rfl ?_
      refine WL.done ?_
      refine EW.on ?_
      refine EW.ret ?_
      exact EW.returns Try.results6 rfl ⟨rfl, D4.be⟩
end Go.Proofs.Ytplfelfmkgjijaa
