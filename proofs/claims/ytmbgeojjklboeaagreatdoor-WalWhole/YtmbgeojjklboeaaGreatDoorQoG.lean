import Derived.Test.YtmbgeojjklboeaaGreatDoorZvG
import Derived.Test.YtmbgeojjklboeaaGreatDoorZmG
import Derived.Test.YtmbgeojjklboeaaGreatDoorZyG
import Derived.Test.YtmbgeojjklboeaaGreatDoorYfG
set_option linter.unusedVariables false
set_option linter.unusedSimpArgs false
namespace Go.Proofs.YtmbgeojjklboeaaGreatDoor
open Go.RowKit

theorem str_nes {a b : List UInt8} (h : ¬ a = b) (W : World) (x y : Operand) : (do eqGuard .neq 9 x y (strV a) (strV b); binOp .neq 9 (strV a) (strV b) : Sem Value).run Tryz.prog W = .ok (.bool true) W := by
  have h2 : ¬ a.toArray = b.toArray := fun e => h (by simpa using congrArg Array.toList e)
  unfold strV
  go_simp
set_option maxRecDepth 100000 in
set_option maxHeartbeats 1000000 in
theorem err_any {w : World} {q p n : Nat} {x : Value} (hb : Blk w q (lgC p n x) 88) : Calls Tryz.prog 24 #[.pointer (some ⟨q, 0, none⟩)] w fun e w' => e = .returned x ∧ w' = w := by
  refine calls_of_args [.pointer (some ⟨q, 0, none⟩)] Tryz.func24 rfl 7 Tryz.ntmps24 (by show 1 ≤ 7; decide) ?_; refine EW.seq ?_; refine EW.region ?_; refine WL.assign rfl rfl rfl ?_; refine WL.done ?_; refine EW.on ?_; refine EW.seq ?_; refine EW.region ?_; refine WL.move rfl rfl rfl ?_; refine WL.nilc rfl rfl rfl ?_; refine WL.field rfl rfl rfl (fld66_1 q _) ?_; refine WL.load rfl rfl rfl (ldl24 hb) ?_; refine WL.assign rfl rfl rfl ?_; refine WL.done ?_; refine EW.on ?_; refine EW.ret ?_
  exact EW.returns Tryz.results24 rfl ⟨rfl, rfl⟩
theorem str_ne2 {a b : List UInt8} (h : a = b) (W : World) (x y : Operand) : (do eqGuard .neq 9 x y (strV a) (strV b); binOp .neq 9 (strV a) (strV b) : Sem Value).run Tryz.prog W = .ok (.bool false) W := by
  subst h
  exact str_ne _ _ _ _
set_option maxRecDepth 100000 in
set_option maxHeartbeats 1000000 in
theorem stands_dec {w : World} {L : Lay} {N : Nat} {s : Nat → List UInt8} {m c q ql p more b : Nat} {d : Option Addr} {v0 v : Value} {ps : List (List UInt8)} (h : Dk w L N s m c) (hb : Blk w q (rmC d (some ⟨ql, 0, none⟩) p more v0) 40) (hlg : Blk w ql (lgC L.p p .nilIface) 88) (hpN : 4 * p + 1 ≤ N) (hN : N ≤ 4096) (hs : Os w b v ps) (hpp : ps.length = p) : Calls Tryz.prog 21 #[.pointer (some ⟨q, 0, none⟩), v] w fun e w' => ∃ bo : Bool, e = .returned (.bool bo) ∧ (bo = true ↔ ∀ i x, ps[i]? = some x → x = s (1 + 2 * (p + i)) ++ s (1 + 2 * (p + i) + 1)) ∧ Below w.heap.size w w' := by
  refine calls_of_args [.pointer (some ⟨q, 0, none⟩), v] Tryz.func21 rfl 36 Tryz.ntmps21 (by show 2 ≤ 36; decide) ?_; refine EW.seq ?_; refine EW.region ?_; refine WL.assign rfl rfl rfl ?_; refine WL.done ?_; refine EW.on ?_; refine EW.seq ?_; refine EW.seq ?_; refine EW.region ?_; refine WL.assign rfl rfl rfl ?_; refine WL.done ?_; refine EW.on ?_; refine EW.block ?_; refine EW.loop (stE q v) (fun t W => t ≤ p ∧ (∀ i x, i < t → ps[i]? = some x → x = s (1 + 2 * (p + i)) ++ s (1 + 2 * (p + i) + 1)) ∧ Below w.heap.size w W) (fun t => p - t) 0 [0, 1, 5] rfl ⟨Nat.zero_le _, fun i x hi => absurd hi (Nat.not_lt_zero _), Below.refl _ _⟩ ?_
  rintro t wi ⟨htl, hok, be⟩
  show EW _ _ _ _ [(0, .pointer (some ⟨q, 0, none⟩)), (1, v), (5, .int .i64 (t : Int))] _
  refine EW.seq ?_; refine EW.seq ?_; refine EW.region ?_; refine WL.move rfl rfl rfl ?_; refine WL.move rfl rfl rfl ?_; refine WL.nilc rfl rfl rfl ?_; refine WL.field rfl rfl rfl (fld44 q 2 (by decide) _) ?_; refine WL.load rfl rfl rfl (ldc3 (hb.on be) rfl) ?_; refine WL.bin rfl rfl rfl rfl (int_lt_d _ _ _ _ _) ?_; refine WL.done ?_; refine EW.on ?_; refine EW.cond_d rfl (fun h13 => ?_) (fun h13 => ?_)
  · refine EW.skip ?_; refine EW.on ?_; refine EW.seq ?_; refine EW.block ?_; refine EW.seq ?_
    have ht : t < p := by omega
    obtain ⟨x, hx⟩ : ∃ x, ps[t]? = some x := ⟨_, List.getElem?_eq_getElem (by omega)⟩
    obtain ⟨ad, ix, lx⟩ := hs.item' hx
    refine EW.region ?_; refine WL.move rfl rfl rfl ?_; refine WL.nilc rfl rfl rfl ?_; refine WL.field rfl rfl rfl (fld44 q 1 (by decide) _) ?_; refine WL.load rfl rfl rfl (ldcP (hb.on be) rfl) ?_; refine WL.move rfl rfl rfl ?_; refine WL.call [.pointer (some ⟨ql, 0, none⟩), .int .i64 (t : Int)] enter16 rfl rfl rfl (read_log (h.below be) (hlg.on be) hpN hN t ht) ?_
    rintro _ w2 ⟨u, rfl, o2, e2⟩
    refine ⟨_, rfl, ?_⟩
    have e02 := be.trans (e2.mono be.size)
    have o2' := o2.has
    refine WL.move rfl rfl rfl ?_; refine WL.extract rfl rfl rfl (ext_2 _ _ _).1 ?_; refine WL.extract rfl rfl rfl (ext_2 _ _ _).2 ?_; refine WL.assign rfl rfl rfl ?_; refine WL.assign rfl rfl rfl ?_; refine WL.done ?_; refine EW.on ?_; refine EW.seq ?_
    by_cases heq : x = s (1 + 2 * (p + t)) ++ s (1 + 2 * (p + t) + 1)
    · refine EW.ordB [(0, 0, 0), (1, 0, 0), (2, 0, 0), (3, 0, 0), (4, 0, 1), (5, 0, 0), (6, 0, 0), (7, 0, 0), (8, 0, 1), (9, 0, 0), (10, 0, 0)] (by kernel_rfl) rfl (by kernel_rfl) ?_; simp only [opsZ, List.getD_cons_zero, List.getD_cons_succ]; refine ZE.move rfl rfl rfl rfl sz0 ?_; refine ZE.bin rfl rfl rfl rfl rfl sz0 (fun W => ne24n _ _) ?_; refine ZE.move rfl rfl rfl rfl sz0 ?_
      first | refine ZE.move rfl rfl rfl rfl sz0 ?_ | refine ZE.skip rfl rfl rfl sz0 ?_
      refine ZE.conv (v := strV (s (1 + 2 * (p + t)) ++ s (1 + 2 * (p + t) + 1))) rfl rfl rfl rfl sz1 (fun W hW => (o2'.below (sb_of hW)).convert) ?_
      first | refine ZE.move rfl rfl rfl rfl sz0 ?_ | refine ZE.skip rfl rfl rfl sz0 ?_
      first | refine ZE.move rfl rfl rfl rfl sz0 ?_ | refine ZE.skip rfl rfl rfl sz0 ?_
      refine ZE.index rfl rfl rfl rfl rfl sz0 (fun W => ix W) ?_; refine ZE.load rfl rfl rfl rfl sz1 (fun W hW => lx W (e02.trans ((sb_of hW).mono e02.size))) ?_; refine ZE.bin rfl rfl rfl rfl rfl sz0 (fun W => str_ne2 heq.symm W _ _) ?_; refine ZE.pick rfl rfl rfl rfl rfl sz0 ?_
      rintro W5 hW5
      refine EW.on ?_; refine EW.cond_f rfl ?_; refine EW.skip ?_; refine pn_block ?_; refine EW.on ?_; refine EW.region ?_; refine WL.move rfl rfl rfl ?_; refine WL.bin rfl rfl rfl rfl (int_add (c := ((t + 1 : Nat) : Int)) (by rw [IntKind.wrap_i64]; omega) _ _ _) ?_; refine WL.assign rfl rfl rfl ?_; refine WL.done ?_; refine EW.again (E := stE q v) (R := fun t W => t ≤ p ∧ (∀ i x, i < t → ps[i]? = some x → x = s (1 + 2 * (p + i)) ++ s (1 + 2 * (p + i) + 1)) ∧ Below w.heap.size w W) (m := fun t => p - t) (x := t) (t + 1) [0, 1, 5] rfl ⟨by omega, fun i y hi hy => ?_, e02.trans (hW5.mono e02.size)⟩ (by show p - (t + 1) < p - t; omega)
      by_cases e : i = t
      · subst e
        rw [hx] at hy
        rw [← Option.some.inj hy]
        exact heq
      · exact hok i y (by omega) hy
    · refine EW.ordB [(0, 0, 0), (1, 0, 0), (2, 0, 0), (3, 0, 0), (4, 0, 1), (5, 0, 0), (6, 0, 0), (7, 0, 0), (8, 0, 1), (9, 0, 0), (10, 0, 0)] (by kernel_rfl) rfl (by kernel_rfl) ?_; simp only [opsZ, List.getD_cons_zero, List.getD_cons_succ]; refine ZE.move rfl rfl rfl rfl sz0 ?_; refine ZE.bin rfl rfl rfl rfl rfl sz0 (fun W => ne24n _ _) ?_; refine ZE.move rfl rfl rfl rfl sz0 ?_
      first | refine ZE.move rfl rfl rfl rfl sz0 ?_ | refine ZE.skip rfl rfl rfl sz0 ?_
      refine ZE.conv (v := strV (s (1 + 2 * (p + t)) ++ s (1 + 2 * (p + t) + 1))) rfl rfl rfl rfl sz1 (fun W hW => (o2'.below (sb_of hW)).convert) ?_
      first | refine ZE.move rfl rfl rfl rfl sz0 ?_ | refine ZE.skip rfl rfl rfl sz0 ?_
      first | refine ZE.move rfl rfl rfl rfl sz0 ?_ | refine ZE.skip rfl rfl rfl sz0 ?_
      refine ZE.index rfl rfl rfl rfl rfl sz0 (fun W => ix W) ?_; refine ZE.load rfl rfl rfl rfl sz1 (fun W hW => lx W (e02.trans ((sb_of hW).mono e02.size))) ?_; refine ZE.bin rfl rfl rfl rfl rfl sz0 (fun W => str_nes (fun e => heq e.symm) W _ _) ?_; refine ZE.pick rfl rfl rfl rfl rfl sz0 ?_
      rintro W5 hW5
      refine EW.on ?_; refine EW.cond_t rfl ?_; refine EW.seq ?_; refine EW.region ?_; refine WL.assign rfl rfl rfl ?_; refine WL.done ?_; refine EW.on ?_; refine EW.ret ?_; refine pr_block ?_; refine pr_then ?_; refine pr_then ?_; refine pr_block ?_; refine pr_then ?_
      exact EW.returns Tryz.results21 rfl ⟨false, rfl, ⟨fun h => by (cases h), fun h => absurd (h t x hx) heq⟩, e02.trans (hW5.mono e02.size)⟩
  · refine EW.exit ?_; refine px_then ?_; refine px_then ?_; refine px_block ?_; refine EW.on ?_; refine EW.seq ?_; refine EW.region ?_; refine WL.assign rfl rfl rfl ?_; refine WL.done ?_; refine EW.on ?_; refine EW.ret ?_
    exact EW.returns Tryz.results21 rfl ⟨true, rfl, ⟨fun _ i y hy => hok i y (by have := (List.getElem?_eq_some_iff.1 hy).1; omega) hy, fun _ => rfl⟩, be⟩
def sRead : ByteArray := { data := #[82, 101, 97, 100] }
theorem ne24f (t : TypeId) (u : Value) (W : World) (x : Operand) : (do eqGuard .neq 46 x (.const .nilIface) (.iface t u) .nilIface; binOp .neq 46 (.iface t u) .nilIface : Sem Value).run Tryz.prog W = .ok (.bool true) W := by
  go_simp
set_option maxRecDepth 100000 in
set_option maxHeartbeats 1000000 in
theorem read_ended {w : World} {q p n : Nat} {t : TypeId} {u : Value} (hb : Blk w q (lgC p n (.iface t u)) 88) (i : Int) : Calls Tryz.prog 16 #[.pointer (some ⟨q, 0, none⟩), .int .i64 i] w fun e w' => ∃ qf, e = .returned (.tuple #[.slice none 0 0, .iface 109 (.pointer (some ⟨qf, 0, none⟩))]) ∧ Blk w' qf (fltC sRead 0 80) 111 ∧ Below w.heap.size w w' := by
  refine calls_of_argsD [.pointer (some ⟨q, 0, none⟩), .int .i64 i] Tryz.func16 rfl 30 Tryz.ntmps16 (by show 2 ≤ 30; decide) ?_; refine EW.seq ?_; refine EW.region ?_
  obtain ⟨w1, q1, r1, b1, e1, hq1, z1⟩ := box22 (some ⟨q, 0, none⟩) w
  refine WL.box rfl rfl rfl r1 ?_
  obtain ⟨w2, q2, r2, b2, e2, hq2, z2⟩ := new37 w1
  refine WL.new rfl rfl r2 ?_
  obtain ⟨w3, q3, r3, b3, e3, hq3, z3⟩ := new24 w2
  have e03 := (e1.trans (e2.mono e1.size)).trans (e3.mono (Nat.le_trans e1.size e2.size))
  have g3 := hb.on e03
  have b13 := (b1.on e2).on e3
  have b23 := b2.on e3
  refine WL.new rfl rfl r3 ?_; refine WL.done ?_; refine EW.on ?_; refine EW.seq ?_; refine EW.region ?_; refine WL.mkf [.pointer (some ⟨q1, 0, none⟩), .pointer (some ⟨q2, 0, none⟩), .pointer (some ⟨q3, 0, none⟩)] rfl rfl rfl ?_; refine WL.defer rfl rfl ?_; refine WL.done ?_; refine EW.on ?_; refine EW.seq ?_; refine EW.seq ?_; refine EW.region ?_; refine WL.load rfl rfl rfl (ld22c b13) ?_; refine WL.nilc rfl rfl rfl ?_; refine WL.field rfl rfl rfl (fld66_1 q _) ?_; refine WL.load rfl rfl rfl (ldl24 g3) ?_; refine WL.bin rfl rfl rfl rfl (ne24f _ _ _ _) ?_; refine WL.done ?_; refine EW.on ?_; refine EW.cond_t rfl ?_; refine EW.seq ?_; refine EW.region ?_; refine WL.call [.string sRead, .int .i64 0, .int .i64 80] enter30 rfl rfl rfl (wfault_any sRead 0 80 _) ?_
  rintro _ w4 ⟨_, rfl, ⟨qf, hv4, f4⟩, e4, hu4⟩
  subst hv4
  injection hu4 with _ hu5
  injection hu5 with hu6
  injection hu6 with hu7
  injection hu7 with hqf4 _ _
  refine ⟨_, rfl, ?_⟩
  obtain ⟨w5, s5, b5, x5⟩ := st37c none 0 0 (b23.on e4)
  refine WL.store rfl rfl rfl s5 ?_
  obtain ⟨w6, s6, b6, x6⟩ := st24f 109 (.pointer (some ⟨qf, 0, none⟩)) ((b3.on e4).fx x5 (by omega))
  refine WL.store rfl rfl rfl s6 ?_; refine WL.done ?_; refine EW.on ?_; refine EW.ret ?_; refine pr_then ?_; refine EW.leaves enter47 (read1_none _ _ _ _) ?_
  rintro uu w' ⟨hu, hw⟩
  subst hu
  rw [hw]
  have e04 := e03.trans (e4.mono e03.size)
  have hqf : q3 < qf ∨ qf ≠ q2 := by omega
  refine ⟨rfl, fun a ha => ⟨_, results_c2 Tryz.results16 a.tmps w6 (ha.kn 4 _ rfl) (ha.kn 5 _ rfl) (ld37c (b5.fx x6 (by omega))) (ld24c b6), qf, rfl, ?_, ?_⟩⟩
  · exact (f4.fx x5 (fun e => by have := b23.lt; omega)).fx x6 (fun e => by have := b3.lt; omega)
  · exact (e04.trans (x5.below (fun k hk e => by have e : k = q2 := e; omega) e04.size)).trans (x6.below (fun k hk e => by have e : k = q3 := e; omega) (Nat.le_trans e04.size x5.size))
end Go.Proofs.YtmbgeojjklboeaaGreatDoor

set_option linter.unusedVariables false
set_option linter.unusedSimpArgs false
namespace Go.Proofs.YtmbgeojjklboeaaGreatDoor
open Go.RowKit

/-- Falls, as the law takes them: in the worlds over wb. -/
structure Fl1 (wb : World) (fv : Value) (i : Nat) : Prop where
  ex : ∃ (st : Int) (vk : Value) (ks : List (BitVec 64)) (torn off : Int) (ad a0 a1 : Addr), (∀ W, (Instr.indexAt 31 fv (.int .i64 (i : Int))).run Tryz.prog W = .ok (.pointer (some ad)) W) ∧ (∀ W, (Instr.fieldAt 65 (.pointer (some ad)) 0).run Tryz.prog W = .ok (.pointer (some a0)) W) ∧ (∀ W, (Instr.fieldAt 65 (.pointer (some ad)) 1).run Tryz.prog W = .ok (.pointer (some a1)) W) ∧ (∀ W, Below wb.heap.size wb W → (Instr.loadAt 3 (.pointer (some a0))).run Tryz.prog W = .ok (.int .i64 st) W) ∧ (∀ W, Below wb.heap.size wb W → (Instr.loadAt 63 (.pointer (some a1))).run Tryz.prog W = .ok (.agg (lossC vk torn off).toArray) W) ∧ Has64 wb vk ks ∧ ks.length ≤ 17592186044416 ∧ (ks ≠ [] → ∀ k, vk.ownBlock = some k → k < wb.heap.size)
structure Fls (wb : World) (fv : Value) (m : Nat) : Prop where
  len : ∀ (W : World) (ty : TypeId), (Builtin.len_ #[31] ty #[fv]).run Tryz.prog W = .ok (.int .i64 (m : Int)) W
  at_ : ∀ i, i < m → Fl1 wb fv i
theorem Da.dk {w : World} {L : Lay} {N : Nat} {d : Nat → List UInt8} {c : Nat} (h : Da w L N d d [] 0 c) : Dk w L N d 0 c := by
  obtain ⟨D, h1, h2, h3, h4, h5, h6, h7, h8⟩ := h.ex
  have hpe : D.pen = [] := by simpa using h7
  exact ⟨D, h1, h2, h3, h4, h6, by rw [hpe]; rfl, h8⟩
end Go.Proofs.YtmbgeojjklboeaaGreatDoor
