import Derived.Test.YtmbgeojjklboeaaGreatDoorZyG
import Derived.Test.YtmbgeojjklboeaaGreatDoorQs
set_option linter.unusedVariables false
set_option linter.unusedSimpArgs false
namespace Go.Proofs.YtmbgeojjklboeaaGreatDoor
open Go.RowKit

/-- A list of pages by its cells. -/
structure Ml (w : World) (g n : Nat) (nI : Nat → Int) (vI : Nat → Value) : Prop where
  num : ∀ i, i < n → w.cell? ⟨g, 2 * i, none⟩ = some (.int .i64 (nI i))
  val : ∀ i, i < n → w.cell? ⟨g, 2 * i + 1, none⟩ = some (vI i)
  fz : ∀ j, w.frozen? ⟨g, j, none⟩ = false
end Go.Proofs.YtmbgeojjklboeaaGreatDoor

set_option linter.unusedVariables false
set_option linter.unusedSimpArgs false
namespace Go.Proofs.YtmbgeojjklboeaaGreatDoor
open Go.RowKit

theorem Gs.nil (w : World) : Gs w (.slice none 0 0) [] := ⟨⟨_, _, rfl⟩, fun i g h => by cases h⟩
theorem fldL (q j : Nat) (hj : j < 3) (W : World) : (Instr.fieldAt 24 (.pointer (some ⟨q, 0, none⟩)) j).run Tryz.prog W = .ok (.pointer (some ⟨q, j, none⟩)) W := by
  have h : j = 0 ∨ j = 1 ∨ j = 2 := by omega
  obtain rfl | rfl | rfl := h <;> (go_simp; try simp; try rw [add_plain])
theorem ldTs {W : World} {q j : Nat} {cs : List Value} {t : TypeId} {v : Value} (hb : Blk W q cs t) (h : cs[j]? = some v) : (Instr.loadAt 22 (.pointer (some ⟨q, j, none⟩))).run Tryz.prog W = .ok v W := by
  have hc : W.cell? ⟨q, j, none⟩ = some v := (hb.cell j).trans h
  have hf := hb.frozen j
  go_simp
end Go.Proofs.YtmbgeojjklboeaaGreatDoor

set_option linter.unusedVariables false
set_option linter.unusedSimpArgs false
namespace Go.Proofs.YtmbgeojjklboeaaGreatDoor
open Go.RowKit

/-- A turn, as the law takes it. -/
structure Tn1 (wb : World) (tv : Value) (i : Nat) : Prop where
  ex : ∃ (ad a3 : Addr) (vp vf : Value) (cr an : Bool) (gs : List Gp) (mm : Nat), (∀ W, (Instr.indexAt 22 tv (.int .i64 (i : Int))).run Tryz.prog W = .ok (.pointer (some ad)) W) ∧ (∀ W, Below wb.heap.size wb W → (Instr.loadAt 33 (.pointer (some ad))).run Tryz.prog W = .ok (.agg (tnC vp vf cr an).toArray) W) ∧ (∀ W, (Instr.fieldAt 33 (.pointer (some ad)) 3).run Tryz.prog W = .ok (.pointer (some a3)) W) ∧ (∀ W, Below wb.heap.size wb W → (Instr.loadAt 4 (.pointer (some a3))).run Tryz.prog W = .ok (.bool an) W) ∧ Gs wb vp gs ∧ Fl2 wb vf mm
structure Tls (wb : World) (tv : Value) (n : Nat) : Prop where
  len : ∀ (W : World) (ty : TypeId), (Builtin.len_ #[22] ty #[tv]).run Tryz.prog W = .ok (.int .i64 (n : Int)) W
  at_ : ∀ i, i < n → Tn1 wb tv i
theorem plays_any {wb w : World} {L : Lay} {c : Nat} {s : Nat → List UInt8} {q ql p more m : Nat} {v : Value} {ps : List (List UInt8)} (h : Rm w L c s q ql p more v ps) (K : Rk wb w L q) (hp1 : 1 ≤ p) (hp2 : p ≤ 20) (hmore : more ≤ 3) (hcal : c ≤ 780000) {vp vf : Value} {gs : List Gp} (hg0 : Gs w vp gs) (hf : Fl2 wb vf m) (an cr : Bool) (hqlb : wb.heap.size ≤ ql) : Calls Tryz.prog 6 #[.pointer (some ⟨q, 0, none⟩), .agg (tnC vp vf cr an).toArray] w fun e w' => e = .returned (.bool true) ∧ ∃ L' c' s' v' ql' ps', Rm w' L' c' s' q ql' p more v' ps' ∧ Fx (fun k => k = q ∨ k = ql ∨ L.F k) w w' ∧ (∀ k, L'.F k → L.F k ∨ w.heap.size ≤ k) ∧ c' ≤ c + 26200 ∧ (ql' = ql ∨ w.heap.size ≤ ql') := by
  have calm : cr = false ∨ (cr = true ∧ m = 0) → Calls Tryz.prog 6 #[.pointer (some ⟨q, 0, none⟩), .agg (tnC vp vf cr an).toArray] w fun e w' => e = .returned (.bool true) ∧ ∃ L' c' s' v' ql' ps', Rm w' L' c' s' q ql' p more v' ps' ∧ Fx (fun k => k = q ∨ k = ql ∨ L.F k) w w' ∧ (∀ k, L'.F k → L.F k ∨ w.heap.size ≤ k) ∧ c' ≤ c + 26200 ∧ (ql' = ql ∨ w.heap.size ≤ ql') := fun hc =>
    (plays_calm h K hp1 hp2 hmore (by omega) hg0 hf an cr hc).mono fun e w' hh => by
      obtain ⟨h1, L', c', s', v', ql', ps', h2, h3, h4⟩ := hh
      exact ⟨h1, L', c', s', v', ql', ps', h2, h3.mono (fun k _ e => e.elim .inl (fun e => .inr (.inr e))), h4⟩
  cases cr
  · exact calm (.inl rfl)
  · rcases Nat.eq_zero_or_pos m with hm | hm
    · exact calm (.inr ⟨rfl, hm⟩)
    · exact plays_armed h K hp1 hp2 hmore hcal hg0 hf an hm hqlb
end Go.Proofs.YtmbgeojjklboeaaGreatDoor

set_option linter.unusedVariables false
set_option linter.unusedSimpArgs false
namespace Go.Proofs.YtmbgeojjklboeaaGreatDoor
open Go.RowKit

structure WhI (wb : World) (a m : Int) (tv : Value) (q1 q p more t : Nat) (W : World) : Prop where
  ex : ∃ L c s ql v ps, Rm W L c s q ql p more v ps ∧ Rk wb W L q ∧ wb.heap.size ≤ ql ∧ c ≤ 26200 * t ∧ ¬ L.F q1
  b : Blk W q1 (lfC a m tv) 24
  ne : q1 ≠ q
  le : t ≤ 30
def whE (q1 q t : Nat) : List (Nat × Value) := [(1, .pointer (some ⟨q1, 0, none⟩)), (3, .pointer (some ⟨q, 0, none⟩)), (4, .bool true), (5, .int .i64 (t : Int))]
theorem enter7 (args : Array Value) (W : World) : (callFunc 7 args).run Tryz.prog W = .ok (.enter 7 args) W := run_enter Tryz.func7 (by kernel_rfl) (by kernel_rfl) args W
theorem info24 (a m : Int) (v : Value) : (Tryz.prog.info? 24).map (·.size) = some (lfC a m v).length := by kernel_rfl
set_option maxRecDepth 100000 in
set_option maxHeartbeats 8000000 in
theorem whole_any (w : World) (a m : Int) (tv : Value) (n : Nat) (hT : Tls w tv n) (hg : w.cell? ⟨0, 0, none⟩ = some (rty 46)) : Calls Tryz.prog 3 #[.agg (lfC a m tv).toArray] w fun e w' => e = .returned (.bool true) ∧ Below w.heap.size w w' := by
  obtain ⟨w1, q1, r1, b1, e1, hq1⟩ : ∃ w1 q1, (Instr.box 24 (.agg (lfC a m tv).toArray)).run Tryz.prog w = .ok (.pointer (some ⟨q1, 0, none⟩)) w1 ∧ Blk w1 q1 (lfC a m tv) 24 ∧ Below w.heap.size w w1 ∧ q1 = w.heap.size := ⟨_, _, run_boxR 24 _ w _ rfl, Blk.new _ _ _, below_new _ _, rfl⟩
  have hp1 : 1 ≤ 1 + pickN a 20 := by omega
  have hp2 : 1 + pickN a 20 ≤ 20 := by have := pickN_lt a 20 (by decide); omega
  have hmr : pickN m 4 ≤ 3 := by have := pickN_lt m 4 (by decide); omega
  refine calls_of_args [.agg (lfC a m tv).toArray] Tryz.func3 rfl 48 Tryz.ntmps3 (by show 1 ≤ 48; decide) ?_; refine EW.seq ?_; refine EW.region ?_; refine WL.box rfl rfl rfl r1 ?_; refine WL.assign rfl rfl rfl ?_; refine WL.done ?_; refine EW.on ?_; refine EW.seq ?_; refine EW.region ?_; refine WL.load rfl rfl rfl (run_loadR b1 Tryz.underlying24 rfl (info24 a m tv)) ?_; refine WL.call [.agg (lfC a m tv).toArray] enter4 rfl rfl rfl (entered_at a m tv w1 (1 + pickN a 20) rfl) ?_
  rintro _ w2 ⟨q, ql, vp, L, rfl, hq, hql, rm2, lg2, dk2, os2, nq, nl, nv, nL, e2⟩
  refine ⟨_, rfl, ?_⟩; refine WL.move rfl rfl rfl ?_; refine WL.extract rfl rfl rfl (ext_2 _ _ _).1 ?_; refine WL.extract rfl rfl rfl (ext_2 _ _ _).2 ?_; refine WL.assign rfl rfl rfl ?_; refine WL.assign rfl rfl rfl ?_; refine WL.done ?_; refine EW.on ?_; refine EW.seq ?_; refine EW.region ?_; refine WL.move rfl rfl rfl ?_; refine WL.move rfl rfl rfl ?_; refine WL.call [] enter5 rfl rfl rfl (fixed_ok w2) ?_
  rintro _ w3 ⟨rfl, e3⟩
  refine ⟨_, rfl, ?_⟩; refine WL.pick rfl rfl rfl rfl ?_; refine WL.assign rfl rfl rfl ?_; refine WL.done ?_; refine EW.on ?_; refine EW.seq ?_; refine EW.seq ?_
  have l1 := e1.size
  have l2 := e2.size
  have e13 := e2.trans (e3.mono e2.size)
  have hI : WhI w a m tv q1 q (1 + pickN a 20) (pickN m 4) 0 w3 := ⟨⟨L, 0, _, ql, vp, _, ⟨dk2.below e3, rm2.on e3, lg2.on e3, ((os2.below e3).mono (Nat.zero_le _)), Dst.zero _ _, nq, nl, fun k hk => (nv k hk).1, fun x hx => by rw [List.eq_of_mem_replicate hx]; simp [zerL]⟩, ⟨e1.trans (e13.mono l1), fun k hk => by have := nL k hk; omega, fun k hk => (dk2.below e3).lt k hk, by omega, (rm2.on e3).lt, nq, hg⟩, by omega, Nat.le_refl _, fun hF => by have := nL q1 hF; have := b1.lt; omega⟩, b1.on e13, by have := b1.lt; omega, Nat.zero_le _⟩
  refine EW.region ?_; refine WL.assign rfl rfl rfl ?_; refine WL.done ?_; refine EW.on ?_; refine EW.block ?_; refine EW.loop (whE q1 q) (WhI w a m tv q1 q (1 + pickN a 20) (pickN m 4)) (fun t => 30 - t) 0 [1, 3, 4, 5] rfl hI ?_
  rintro t wi I
  obtain ⟨L, c, s, ql, v, ps, R, K, hqlb, hcb, n1⟩ := I.ex
  have hle := I.le
  show EW _ _ _ _ [(1, .pointer (some ⟨q1, 0, none⟩)), (3, .pointer (some ⟨q, 0, none⟩)), (4, .bool true), (5, .int .i64 (t : Int))] _
  refine EW.seq ?_; refine EW.seq ?_
  have hcs : (t < n ∧ t < 30) ∨ n ≤ t ∨ (t < n ∧ 30 ≤ t) := by omega
  rcases hcs with ⟨ha, hb⟩ | ha | ⟨ha, hb⟩
  · refine EW.region ?_; refine WL.move rfl rfl rfl ?_; refine WL.move rfl rfl rfl ?_
    first | refine WL.move rfl rfl rfl ?_ | refine WL.skip _ rfl rfl rfl ?_
    refine WL.field rfl rfl rfl (fldL q1 2 (by decide) _) ?_; refine WL.load rfl rfl rfl (ldTs I.b rfl) ?_; refine WL.len rfl rfl rfl (hT.len _ _) ?_; refine WL.bin rfl rfl rfl rfl (int_lt_t (by omega) _ _ _) ?_; refine WL.pick rfl rfl rfl rfl ?_; refine WL.move rfl rfl rfl ?_
    first | refine WL.move rfl rfl rfl ?_ | refine WL.skip _ rfl rfl rfl ?_
    refine WL.bin rfl rfl rfl rfl (int_lt_t (by omega) _ _ _) ?_; refine WL.pick rfl rfl rfl rfl ?_; refine WL.done ?_; refine EW.on ?_; refine EW.cond_t rfl ?_; refine EW.skip ?_; refine EW.on ?_; refine EW.seq ?_; refine EW.block ?_; refine EW.seq ?_; refine EW.region ?_; refine WL.move rfl rfl rfl ?_; refine WL.field rfl rfl rfl (fldL q1 2 (by decide) _) ?_; refine WL.load rfl rfl rfl (ldTs I.b rfl) ?_; refine WL.move rfl rfl rfl ?_
    obtain ⟨ad, a3, vp, vf, cr, an, gs, mm, ix, l33, fa3, l4, hgs, hfl⟩ := (hT.at_ t (by omega)).ex
    refine WL.index rfl rfl rfl rfl (ix _) ?_; refine WL.load rfl rfl rfl (l33 _ K.bw) ?_; refine WL.call [.pointer (some ⟨q, 0, none⟩), .agg (tnC vp vf cr an).toArray] enter6 rfl rfl rfl (plays_any R K hp1 hp2 hmr (by omega) (hgs.below K.bw) hfl an cr hqlb) ?_
    rintro _ w5 ⟨rfl, L5, c5, s5, v5, ql5, ps5, R5, fx5, own5, hc5, hql5⟩
    have bw5 : Below w.heap.size w w5 := K.bw.trans (fx5.below (fun k hk e => e.elim (fun e => by have := K.q1; omega) (fun e => e.elim (fun e => by omega) (fun e => by have := K.f0 k e; omega))) K.bw.size)
    have K5 : Rk w w5 L5 q := ⟨bw5, fun k hk => (own5 k hk).elim (K.f0 k) (fun h => by have := K.bw.size; omega), fun k hk => R5.dk.lt k hk, K.q1, R5.rm.lt, R5.fq, K.hg⟩
    have hqlb5 : w.heap.size ≤ ql5 := by have := K.bw.size; omega
    have b5 := I.b.fx fx5 (fun e => e.elim (fun e => I.ne e) (fun e => e.elim (fun e => ne_type ⟨_, I.b⟩ R.lg (by decide) e) n1))
    have n5 : ¬ L5.F q1 := fun hF => (own5 q1 hF).elim n1 (fun h => by have := I.b.lt; omega)
    refine ⟨_, rfl, ?_⟩; refine WL.assign rfl rfl rfl ?_; refine WL.done ?_; refine EW.on ?_; refine EW.seq ?_
    cases an
    · refine EW.region ?_; refine WL.move rfl rfl rfl ?_; refine WL.move rfl rfl rfl ?_; refine WL.field rfl rfl rfl (fldL q1 2 (by decide) _) ?_; refine WL.load rfl rfl rfl (ldTs b5 rfl) ?_
      first | refine WL.move rfl rfl rfl ?_ | refine WL.skip _ rfl rfl rfl ?_
      refine WL.index rfl rfl rfl rfl (ix _) ?_; refine WL.field rfl rfl rfl (fa3 _) ?_; refine WL.load rfl rfl rfl (l4 _ bw5) ?_; refine WL.pick rfl rfl rfl rfl ?_; refine WL.done ?_; refine EW.on ?_; refine EW.cond_f rfl ?_; refine EW.skip ?_; refine pn_block ?_; refine EW.on ?_; refine EW.region ?_; refine WL.move rfl rfl rfl ?_; refine WL.bin rfl rfl rfl rfl (int_add (c := ((t + 1 : Nat) : Int)) (by rw [IntKind.wrap_i64]; omega) _ _ _) ?_; refine WL.assign rfl rfl rfl ?_; refine WL.done ?_
      exact EW.again (E := whE q1 q) (R := WhI w a m tv q1 q (1 + pickN a 20) (pickN m 4)) (m := fun t => 30 - t) (x := t) (t + 1) [1, 3, 4, 5] rfl ⟨⟨L5, c5, s5, ql5, v5, ps5, R5, K5, hqlb5, by omega, n5⟩, b5, I.ne, by omega⟩ (by show 30 - (t + 1) < 30 - t; omega)
    · refine EW.region ?_; refine WL.move rfl rfl rfl ?_; refine WL.move rfl rfl rfl ?_; refine WL.field rfl rfl rfl (fldL q1 2 (by decide) _) ?_; refine WL.load rfl rfl rfl (ldTs b5 rfl) ?_
      first | refine WL.move rfl rfl rfl ?_ | refine WL.skip _ rfl rfl rfl ?_
      refine WL.index rfl rfl rfl rfl (ix _) ?_; refine WL.field rfl rfl rfl (fa3 _) ?_; refine WL.load rfl rfl rfl (l4 _ bw5) ?_; refine WL.pick rfl rfl rfl rfl ?_; refine WL.done ?_; refine EW.on ?_; refine EW.cond_t rfl ?_; refine EW.region ?_; refine WL.move rfl rfl rfl ?_; refine WL.call [.pointer (some ⟨q, 0, none⟩)] enter7 rfl rfl rfl (anew_any R5 hp1 hp2 hmr) ?_
      rintro _ w6 ⟨rfl, L6, s6, ql6, R6, fx6, own6, hql6⟩
      have bw6 : Below w.heap.size w w6 := bw5.trans (fx6.below (fun k hk e => by have e : k = q := e; have := K.q1; omega) bw5.size)
      have K6 : Rk w w6 L6 q := ⟨bw6, fun k hk => by have := own6 k hk; have := bw5.size; omega, fun k hk => R6.dk.lt k hk, K.q1, R6.rm.lt, R6.fq, K.hg⟩
      refine ⟨_, rfl, ?_⟩; refine WL.assign rfl rfl rfl ?_; refine WL.done ?_; refine pn_block ?_; refine EW.on ?_; refine EW.region ?_; refine WL.move rfl rfl rfl ?_; refine WL.bin rfl rfl rfl rfl (int_add (c := ((t + 1 : Nat) : Int)) (by rw [IntKind.wrap_i64]; omega) _ _ _) ?_; refine WL.assign rfl rfl rfl ?_; refine WL.done ?_
      exact EW.again (E := whE q1 q) (R := WhI w a m tv q1 q (1 + pickN a 20) (pickN m 4)) (m := fun t => 30 - t) (x := t) (t + 1) [1, 3, 4, 5] rfl ⟨⟨L6, 0, s6, ql6, v5, ps5, R6, K6, by have := bw5.size; omega, by omega, fun hF => by have := own6 q1 hF; have := b5.lt; omega⟩, b5.fx fx6 (fun e => I.ne e), I.ne, by omega⟩ (by show 30 - (t + 1) < 30 - t; omega)
  · refine EW.region ?_; refine WL.move rfl rfl rfl ?_; refine WL.move rfl rfl rfl ?_
    first | refine WL.move rfl rfl rfl ?_ | refine WL.skip _ rfl rfl rfl ?_
    refine WL.field rfl rfl rfl (fldL q1 2 (by decide) _) ?_; refine WL.load rfl rfl rfl (ldTs I.b rfl) ?_; refine WL.len rfl rfl rfl (hT.len _ _) ?_; refine WL.bin rfl rfl rfl rfl (int_lt_f (by omega) _ _ _) ?_; refine WL.pick rfl rfl rfl rfl ?_; refine WL.move rfl rfl rfl ?_
    first | refine WL.move rfl rfl rfl ?_ | refine WL.skip _ rfl rfl rfl ?_
    refine WL.skip _ rfl rfl rfl ?_; refine WL.pick rfl rfl rfl rfl ?_; refine WL.done ?_; refine EW.on ?_; refine EW.cond_f rfl ?_; refine EW.exit ?_; refine px_then ?_; refine px_then ?_; refine px_block ?_; refine EW.on ?_; refine EW.seq ?_; refine EW.region ?_; refine WL.move rfl rfl rfl ?_; refine WL.assign rfl rfl rfl ?_; refine WL.done ?_; refine EW.on ?_; refine EW.ret ?_
    exact EW.returns Tryz.results3 rfl ⟨rfl, K.bw⟩
  · refine EW.region ?_; refine WL.move rfl rfl rfl ?_; refine WL.move rfl rfl rfl ?_
    first | refine WL.move rfl rfl rfl ?_ | refine WL.skip _ rfl rfl rfl ?_
    refine WL.field rfl rfl rfl (fldL q1 2 (by decide) _) ?_; refine WL.load rfl rfl rfl (ldTs I.b rfl) ?_; refine WL.len rfl rfl rfl (hT.len _ _) ?_; refine WL.bin rfl rfl rfl rfl (int_lt_t (by omega) _ _ _) ?_; refine WL.pick rfl rfl rfl rfl ?_; refine WL.move rfl rfl rfl ?_
    first | refine WL.move rfl rfl rfl ?_ | refine WL.skip _ rfl rfl rfl ?_
    refine WL.bin rfl rfl rfl rfl (int_lt_f (by omega) _ _ _) ?_; refine WL.pick rfl rfl rfl rfl ?_; refine WL.done ?_; refine EW.on ?_; refine EW.cond_f rfl ?_; refine EW.exit ?_; refine px_then ?_; refine px_then ?_; refine px_block ?_; refine EW.on ?_; refine EW.seq ?_; refine EW.region ?_; refine WL.move rfl rfl rfl ?_; refine WL.assign rfl rfl rfl ?_; refine WL.done ?_; refine EW.on ?_; refine EW.ret ?_
    exact EW.returns Tryz.results3 rfl ⟨rfl, K.bw⟩
end Go.Proofs.YtmbgeojjklboeaaGreatDoor
