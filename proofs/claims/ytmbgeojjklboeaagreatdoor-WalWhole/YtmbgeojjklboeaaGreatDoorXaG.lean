import Derived.Test.YtmbgeojjklboeaaGreatDoorWoG
set_option linter.unusedVariables false
set_option linter.unusedSimpArgs false
namespace Go.Proofs.YtmbgeojjklboeaaGreatDoor
open Go.RowKit

end Go.Proofs.YtmbgeojjklboeaaGreatDoor

set_option linter.unusedVariables false
set_option linter.unusedSimpArgs false
namespace Go.Proofs.YtmbgeojjklboeaaGreatDoor
open Go.RowKit

set_option maxRecDepth 100000 in
set_option maxHeartbeats 1000000 in
theorem commit1_none (v0 v1 : Value) (w : World) : CallsD Tryz.prog 41 #[v0, v1] .returning w fun x u w' => (∃ v, x = .returned v) ∧ u = .returning ∧ w' = w := by
  refine callsD_of_args [v0, v1] Tryz.func41 rfl 10 Tryz.ntmps41 (by show 2 ≤ 10; decide) (fun c₀ cs hc => ?_); refine ES.seq ?_; refine ES.region ?_; refine WS.recover0 rfl rfl rfl (recover_no hc) ?_; refine WS.call [.nilIface] enter29 rfl rfl rfl rfl (caught_nil _) ?_
  rintro _ w1 ⟨rfl, hz⟩
  rw [hz]
  refine ⟨_, rfl, ?_⟩; refine WS.assign rfl rfl rfl rfl ?_; refine WS.on ?_; refine ES.of ?_; refine EW.seq ?_; refine EW.region ?_; refine WL.move rfl rfl rfl ?_; refine WL.bin rfl rfl rfl rfl (int_ne_f rfl _ _ _) ?_; refine WL.done ?_; refine EW.on ?_; refine EW.cond_f rfl ?_; refine EW.skip ?_
  intro a ha
  exact ⟨ha.df, .returning, by rw [← hc], _, by rw [results_none Tryz.results41], ⟨_, rfl⟩, rfl, rfl⟩
set_option maxRecDepth 100000 in
set_option maxHeartbeats 1000000 in
theorem read1_none (v0 v1 v2 : Value) (w : World) : CallsD Tryz.prog 47 #[v0, v1, v2] .returning w fun x u w' => (∃ v, x = .returned v) ∧ u = .returning ∧ w' = w := by
  refine callsD_of_args [v0, v1, v2] Tryz.func47 rfl 11 Tryz.ntmps47 (by show 3 ≤ 11; decide) (fun c₀ cs hc => ?_); refine ES.seq ?_; refine ES.region ?_; refine WS.recover0 rfl rfl rfl (recover_no hc) ?_; refine WS.call [.nilIface] enter29 rfl rfl rfl rfl (caught_nil _) ?_
  rintro _ w1 ⟨rfl, hz⟩
  rw [hz]
  refine ⟨_, rfl, ?_⟩; refine WS.assign rfl rfl rfl rfl ?_; refine WS.on ?_; refine ES.of ?_; refine EW.seq ?_; refine EW.region ?_; refine WL.move rfl rfl rfl ?_; refine WL.bin rfl rfl rfl rfl (int_ne_f rfl _ _ _) ?_; refine WL.done ?_; refine EW.on ?_; refine EW.cond_f rfl ?_; refine EW.skip ?_
  intro a ha
  exact ⟨ha.df, .returning, by rw [← hc], _, by rw [results_none Tryz.results47], ⟨_, rfl⟩, rfl, rfl⟩
theorem fld66_0 (q : Nat) (W : World) : (Instr.fieldAt 88 (.pointer (some ⟨q, 0, none⟩)) 0).run Tryz.prog W = .ok (.pointer (some ⟨q, 0, none⟩)) W := by go_simp
theorem fld66_1 (q : Nat) (W : World) : (Instr.fieldAt 88 (.pointer (some ⟨q, 0, none⟩)) 1).run Tryz.prog W = .ok (.pointer (some ⟨q, 2, none⟩)) W := by go_simp
theorem ldl3 {W : World} {q p n : Nat} {x : Value} (hb : Blk W q (lgC p n x) 88) : (Instr.loadAt 3 (.pointer (some ⟨q, 1, none⟩))).run Tryz.prog W = .ok (.int .i64 (n : Int)) W := by
  have hc : W.cell? ⟨q, 1, none⟩ = some (.int .i64 (n : Int)) := hb.cell 1
  have hf := hb.frozen 1
  go_simp
theorem ldl24 {W : World} {q p n : Nat} {x : Value} (hb : Blk W q (lgC p n x) 88) : (Instr.loadAt 46 (.pointer (some ⟨q, 2, none⟩))).run Tryz.prog W = .ok x W := by
  have hc : W.cell? ⟨q, 2, none⟩ = some x := hb.cell 2
  have hf := hb.frozen 2
  go_simp
theorem ldl55 {W : World} {q p n : Nat} {x : Value} (hb : Blk W q (lgC p n x) 88) : (Instr.loadAt 76 (.pointer (some ⟨q, 0, none⟩))).run Tryz.prog W = .ok (dkV p n) W := by
  refine run_loadA (fun j v hj => ?_) Tryz.underlying76 rfl (info55 p n)
  rw [add_plain0, hb.cell]
  have hlt := (List.getElem?_eq_some_iff.1 hj).1
  rw [← hj]
  match j, hlt with
  | 0, _ => rfl
  | 1, _ => rfl
theorem box22 (v : Option Addr) (w : World) : ∃ w1 q, (Instr.box 37 (.pointer v)).run Tryz.prog w = .ok (.pointer (some ⟨q, 0, none⟩)) w1 ∧ Blk w1 q [.pointer v] 37 ∧ Below w.heap.size w w1 ∧ q = w.heap.size ∧ w1.heap.size = w.heap.size + 1 :=
  ⟨w.alloc (.cells [.pointer v].toArray 37), w.heap.size, by go_simp, Blk.new _ _ _, below_new _ _, rfl, by show (w.heap.push _).size = _; rw [Array.size_push]⟩
theorem new37 (w : World) : ∃ w1 q, (Instr.alloc 49 true (.tuple #[])).run Tryz.prog w = .ok (.pointer (some ⟨q, 0, none⟩)) w1 ∧ Blk w1 q [.slice none 0 0] 49 ∧ Below w.heap.size w w1 ∧ q = w.heap.size ∧ w1.heap.size = w.heap.size + 1 :=
  ⟨w.alloc (.cells [.slice none 0 0].toArray 49), w.heap.size, by go_simp, Blk.new _ _ _, below_new _ _, rfl, by show (w.heap.push _).size = _; rw [Array.size_push]⟩
theorem st37c {w : World} {q : Nat} {v0 : Value} (ao : Option Addr) (n c : Nat) (hb : Blk w q [v0] 49) : ∃ w', (Instr.storeAt 49 (.pointer (some ⟨q, 0, none⟩)) (.slice ao n c)).run Tryz.prog w = .ok () w' ∧ Blk w' q [.slice ao n c] 49 ∧ Fx (fun k => k = q) w w' := by
  have hc : w.cell? ⟨q, 0, none⟩ = some v0 := hb.cell 0
  have hf := hb.frozen 0
  refine ⟨w.setCell ⟨q, 0, none⟩ (.slice ao n c), by go_simp, hb.set 0 _, Fx.setCell _ _ _ _ rfl⟩
theorem ld37c {w : World} {q : Nat} {v : Value} (hb : Blk w q [v] 49) : (Instr.loadAt 49 (.pointer (some ⟨q, 0, none⟩))).run Tryz.prog w = .ok v w := by
  have hc : w.cell? ⟨q, 0, none⟩ = some v := hb.cell 0
  have hf := hb.frozen 0
  go_simp
theorem ne24n (W : World) (x : Operand) : (do eqGuard .neq 46 x (.const .nilIface) .nilIface .nilIface; binOp .neq 46 .nilIface .nilIface : Sem Value).run Tryz.prog W = .ok (.bool false) W := by
  have h : eqGuard .neq 46 x (.const .nilIface) .nilIface .nilIface = pure () := by
    unfold eqGuard
    cases x <;> simp
  rw [h]
  go_simp
set_option maxRecDepth 100000 in
set_option maxHeartbeats 1000000 in
theorem pages_any {w : World} {q p n : Nat} {x : Value} (hb : Blk w q (lgC p n x) 88) : Calls Tryz.prog 12 #[.pointer (some ⟨q, 0, none⟩)] w fun e w' => e = .returned (.int .i64 (n : Int)) ∧ w' = w := by
  refine calls_of_args [.pointer (some ⟨q, 0, none⟩)] Tryz.func12 rfl 8 Tryz.ntmps12 (by show 1 ≤ 8; decide) ?_; refine EW.seq ?_; refine EW.region ?_; refine WL.assign rfl rfl rfl ?_; refine WL.done ?_; refine EW.on ?_; refine EW.seq ?_; refine EW.region ?_; refine WL.move rfl rfl rfl ?_; refine WL.nilc rfl rfl rfl ?_; refine WL.field rfl rfl rfl (fld66_0 q _) ?_; refine WL.field rfl rfl rfl (fld55_1 q _) ?_; refine WL.load rfl rfl rfl (ldl3 hb) ?_; refine WL.assign rfl rfl rfl ?_; refine WL.done ?_; refine EW.on ?_; refine EW.ret ?_
  exact EW.returns Tryz.results12 rfl ⟨rfl, rfl⟩
set_option maxRecDepth 100000 in
set_option maxHeartbeats 1000000 in
theorem has_ok {w : World} {q p n : Nat} {x : Value} (hb : Blk w q (lgC p n x) 88) (i : Nat) (hi : i < n) : Calls Tryz.prog 48 #[.pointer (some ⟨q, 0, none⟩), .int .i64 (i : Int)] w fun e w' => e = .returned (.bool true) ∧ w' = w := by
  have h0 : (0 : Int) ≤ (i : Int) := by omega
  have h1 : (i : Int) < (n : Int) := by omega
  refine calls_of_args [.pointer (some ⟨q, 0, none⟩), .int .i64 (i : Int)] Tryz.func48 rfl 13 Tryz.ntmps48 (by show 2 ≤ 13; decide) ?_; refine EW.seq ?_; refine EW.region ?_; refine WL.assign rfl rfl rfl ?_; refine WL.done ?_; refine EW.on ?_; refine EW.seq ?_; refine EW.region ?_; refine WL.move rfl rfl rfl ?_; refine WL.bin rfl rfl rfl rfl (int_ge_t h0 _ _ _) ?_; refine WL.move rfl rfl rfl ?_
  first | refine WL.move rfl rfl rfl ?_ | refine WL.skip _ rfl rfl rfl ?_
  first | refine WL.move rfl rfl rfl ?_ | refine WL.skip _ rfl rfl rfl ?_
  refine WL.call [.pointer (some ⟨q, 0, none⟩)] enter12 rfl rfl rfl (pages_any hb) ?_
  rintro _ w1 ⟨rfl, hz⟩
  rw [hz]
  refine ⟨_, rfl, ?_⟩; refine WL.bin rfl rfl rfl rfl (int_lt_t h1 _ _ _) ?_; refine WL.pick rfl rfl rfl rfl ?_; refine WL.assign rfl rfl rfl ?_; refine WL.done ?_; refine EW.on ?_; refine EW.ret ?_
  exact EW.returns Tryz.results48 rfl ⟨rfl, rfl⟩
theorem fld81_2 (q : Nat) (W : World) : (Instr.fieldAt 111 (.pointer (some ⟨q, 0, none⟩)) 2).run Tryz.prog W = .ok (.pointer (some ⟨q, 2, none⟩)) W := by go_simp
theorem ldc3 {W : World} {q j : Nat} {cs : List Value} {t : TypeId} {i : Int} (hb : Blk W q cs t) (h : cs[j]? = some (.int .i64 i)) : (Instr.loadAt 3 (.pointer (some ⟨q, j, none⟩))).run Tryz.prog W = .ok (.int .i64 i) W := by
  have hc : W.cell? ⟨q, j, none⟩ = some (.int .i64 i) := (hb.cell j).trans h
  have hf := hb.frozen j
  go_simp
theorem ldc24 {W : World} {q j : Nat} {cs : List Value} {t : TypeId} {v : Value} (hb : Blk W q cs t) (h : cs[j]? = some v) : (Instr.loadAt 46 (.pointer (some ⟨q, j, none⟩))).run Tryz.prog W = .ok v W := by
  have hc : W.cell? ⟨q, j, none⟩ = some v := (hb.cell j).trans h
  have hf := hb.frozen j
  go_simp
set_option maxRecDepth 100000 in
set_option maxHeartbeats 1000000 in
theorem read_log {w : World} {L : Lay} {N : Nat} {s : Nat → List UInt8} {m c n q : Nat} (h : Dk w L N s m c) (hb : Blk w q (lgC L.p n .nilIface) 88) (hnN : 4 * n + 1 ≤ N) (hN : N ≤ 4096) (i : Nat) (hi : i < n) : Calls Tryz.prog 16 #[.pointer (some ⟨q, 0, none⟩), .int .i64 (i : Int)] w fun e w' => ∃ u, e = .returned (.tuple #[u, .nilIface]) ∧ Ob w' w.heap.size u (s (1 + 2 * (n + i)) ++ s (1 + 2 * (n + i) + 1)) ∧ Below w.heap.size w w' := by
  refine calls_of_argsD [.pointer (some ⟨q, 0, none⟩), .int .i64 (i : Int)] Tryz.func16 rfl 30 Tryz.ntmps16 (by show 2 ≤ 30; decide) ?_; refine EW.seq ?_; refine EW.region ?_
  obtain ⟨w1, q1, r1, b1, e1, hq1, z1⟩ := box22 (some ⟨q, 0, none⟩) w
  refine WL.box rfl rfl rfl r1 ?_
  obtain ⟨w2, q2, r2, b2, e2, hq2, z2⟩ := new37 w1
  refine WL.new rfl rfl r2 ?_
  obtain ⟨w3, q3, r3, b3, e3, hq3, z3⟩ := new24 w2
  have e03 := (e1.trans (e2.mono e1.size)).trans (e3.mono (Nat.le_trans e1.size e2.size))
  have h3 := h.below e03
  have g3 := hb.on e03
  have b13 := (b1.on e2).on e3
  have b23 := b2.on e3
  refine WL.new rfl rfl r3 ?_; refine WL.done ?_; refine EW.on ?_; refine EW.seq ?_; refine EW.region ?_; refine WL.mkf [.pointer (some ⟨q1, 0, none⟩), .pointer (some ⟨q2, 0, none⟩), .pointer (some ⟨q3, 0, none⟩)] rfl rfl rfl ?_; refine WL.defer rfl rfl ?_; refine WL.done ?_; refine EW.on ?_; refine EW.seq ?_; refine EW.seq ?_; refine EW.region ?_; refine WL.load rfl rfl rfl (ld22c b13) ?_; refine WL.nilc rfl rfl rfl ?_; refine WL.field rfl rfl rfl (fld66_1 q _) ?_; refine WL.load rfl rfl rfl (ldl24 g3) ?_; refine WL.bin rfl rfl rfl rfl (ne24n _ _) ?_; refine WL.done ?_; refine EW.on ?_; refine EW.cond_f rfl ?_; refine EW.skip ?_; refine EW.on ?_; refine EW.seq ?_; refine EW.seq ?_; refine EW.region ?_; refine WL.load rfl rfl rfl (ld22c b13) ?_; refine WL.move rfl rfl rfl ?_; refine WL.call [.pointer (some ⟨q, 0, none⟩), .int .i64 (i : Int)] enter48 rfl rfl rfl (has_ok g3 i hi) ?_
  rintro _ w4 ⟨rfl, hz4⟩
  rw [hz4]
  refine ⟨_, rfl, ?_⟩; refine WL.un rfl rfl rfl (not_t _ _) ?_; refine WL.done ?_; refine EW.on ?_; refine EW.cond_f rfl ?_; refine EW.skip ?_; refine EW.on ?_; refine EW.seq ?_; refine EW.ordB [(0, 0, 1), (1, 0, 0), (2, 0, 0), (3, 0, 1), (4, 0, 1), (5, 0, 0), (6, 0, 0), (7, 0, 1), (8, 0, 0), (9, 1, 1), (10, 1, 1), (11, 1, 0), (12, 1, 0)] (by kernel_rfl) rfl (by kernel_rfl) ?_; simp only [opsZ, List.getD_cons_zero, List.getD_cons_succ]; refine ZE.load rfl rfl rfl rfl sz1 (fun W hW => ld22c (b13.on (sb_of hW))) ?_; refine ZE.nilc rfl rfl rfl rfl sz0 ?_; refine ZE.field rfl rfl rfl rfl sz0 (fun W => fld66_0 q W) ?_; refine ZE.load rfl rfl rfl rfl sz1 (fun W hW => ldl55 (g3.on (sb_of hW))) ?_; refine ZE.load rfl rfl rfl rfl sz1 (fun W hW => ld22c (b13.on (sb_of hW))) ?_; refine ZE.nilc rfl rfl rfl rfl sz0 ?_; refine ZE.field rfl rfl rfl rfl sz0 (fun W => fld66_0 q W) ?_; refine ZE.load rfl rfl rfl rfl sz1 (fun W hW => ldl55 (g3.on (sb_of hW))) ?_; refine ZE.move rfl rfl rfl rfl sz0 ?_; refine ZE.callR [dkV L.p n, .int .i64 (i : Int)] (fun v W => v = .int .i64 ((1 + 2 * (n + i) : Nat) : Int) ∧ Below w3.heap.size w3 W) enter50 rfl rfl rfl (fun _ _ h => .inr h.2) (fun W hW => (home_any L.p n i W (by omega)).mono fun e w' ⟨g1, g2⟩ => ⟨_, g1, rfl, hW.trans (g2.mono hW.size)⟩) ?_
  rintro _ ⟨_, rfl, _⟩
  refine ZE.callR [dkV L.p n, .int .i64 ((1 + 2 * (n + i) : Nat) : Int)] (fun v W => Ob W w3.heap.size v (s (1 + 2 * (n + i)) ++ s (1 + 2 * (n + i) + 1)) ∧ Below w3.heap.size w3 W) enter49 rfl rfl rfl (fun _ _ h => .inr h.2) (fun W hW => (readPage_ok n (h3.below hW.2) (1 + 2 * (n + i)) (by omega) (by omega)).mono fun e w' ⟨u, g1, g2, g3⟩ => ⟨u, g1, g2.mono hW.2.size, hW.2.trans (g3.mono hW.2.size)⟩) ?_
  rintro vp ⟨_, op_, _⟩
  obtain ⟨ao, cp, hvp⟩ := op_.has.slice
  rw [hvp]
  refine ZE.store (fun W => Ob W w3.heap.size (.slice ao (s (1 + 2 * (n + i)) ++ s (1 + 2 * (n + i) + 1)).length cp) (s (1 + 2 * (n + i)) ++ s (1 + 2 * (n + i) + 1)) ∧ Below w.heap.size w W ∧ Blk W q2 [.slice ao (s (1 + 2 * (n + i)) ++ s (1 + 2 * (n + i) + 1)).length cp] 49 ∧ Blk W q3 [.nilIface] 46) rfl rfl rfl (fun W h => .inl rfl) (fun W hW => by
      obtain ⟨w', g1, g2, g3⟩ := st37c ao _ cp (b23.on hW.2)
      exact ⟨w', g1, hW.1.fx g3 (fun k hk hv => by have := hW.1.base k hv; have := b23.lt; omega), below_of_new (e03.trans (hW.2.mono e03.size)) g3 (fun k hk => by omega), g2, (b3.on hW.2).fx g3 (by omega)⟩) ?_
  refine ZE.store (fun W => Ob W w3.heap.size (.slice ao (s (1 + 2 * (n + i)) ++ s (1 + 2 * (n + i) + 1)).length cp) (s (1 + 2 * (n + i)) ++ s (1 + 2 * (n + i) + 1)) ∧ Below w.heap.size w W ∧ Blk W q2 [.slice ao (s (1 + 2 * (n + i)) ++ s (1 + 2 * (n + i) + 1)).length cp] 49 ∧ Blk W q3 [.nilIface] 46) rfl rfl rfl (fun W h => .inl rfl) (fun W hW => by
      obtain ⟨w', g1, g2, g3⟩ := st24n hW.2.2.2
      exact ⟨w', g1, hW.1.fx g3 (fun k hk hv => by have := hW.1.base k hv; have := b3.lt; omega), below_of_new hW.2.1 g3 (fun k hk => by omega), hW.2.2.1.fx g3 (by omega), g2⟩) ?_
  rintro w5 ⟨o5, e5, c2, c3⟩
  refine EW.on ?_; refine EW.ret ?_; refine EW.leaves enter47 (read1_none _ _ _ _) ?_
  rintro u w' ⟨hu, hw⟩
  subst hu
  rw [hw]
  exact ⟨rfl, fun a ha => ⟨_, results_c2 Tryz.results16 a.tmps w5 (ha.kn 4 _ rfl) (ha.kn 5 _ rfl) (ld37c c2) (ld24c c3), _, rfl, o5.mono e03.size, e5⟩⟩
end Go.Proofs.YtmbgeojjklboeaaGreatDoor

set_option linter.unusedVariables false
set_option linter.unusedSimpArgs false
namespace Go.Proofs.YtmbgeojjklboeaaGreatDoor
open Go.RowKit

/-- A page to be written: its number, where its bytes lie, its bytes. -/
structure Pw where
  n : Nat
  v : Value
  b : List UInt8
def pgC (x : Pw) : List Value := [.int .i64 (x.n : Int), x.v]
def Pw.ok (w : World) (x : Pw) : Prop := Has w x.v x.b ∧ x.b.length = 1024
/-- Pages to be written lie there. -/
structure Pws (w : World) (v : Value) (l : List Pw) : Prop where
  row : w.ownsRow 0 98 2 v l.length (l.flatMap pgC)
  has : ∀ x ∈ l, x.ok w
theorem Pws.fx {S : Nat → Prop} {w w' : World} {v : Value} {l : List Pw} (h : Pws w v l) (hf : Fx S w w') (hv : ∀ k, v.ownBlock = some k → ¬ S k) (hx : ∀ x ∈ l, ∀ k, x.v.ownBlock = some k → ¬ S k) : Pws w' v l := ⟨ownsRow_fx h.row hf hv, fun x hm => ⟨(h.has x hm).1.fx hf (hx x hm), (h.has x hm).2⟩⟩
theorem Pws.below {w w' : World} {v : Value} {l : List Pw} (h : Pws w v l) (hb : Below w.heap.size w w') : Pws w' v l := h.fx (Fx.of_below (S := fun _ => False) hb) (fun _ _ s => s) (fun _ _ _ _ s => s)
theorem pg_get : ∀ (l : List Pw) (t : Nat) (x : Pw), l[t]? = some x → ∀ j, j < 2 → (l.flatMap pgC)[2 * t + j]? = (pgC x)[j]?
  | [], t, x, h, j, hj => by simp at h
  | a :: r, 0, x, h, j, hj => by
    simp only [List.getElem?_cons_zero, Option.some.injEq] at h
    subst h
    rw [List.flatMap_cons, List.getElem?_append_left (by simp [pgC]; omega)]
    simp
  | a :: r, t + 1, x, h, j, hj => by
    simp only [List.getElem?_cons_succ] at h
    rw [List.flatMap_cons, List.getElem?_append_right (by simp [pgC]; omega), ← pg_get r t x h j hj]
    congr 1
    simp [pgC]
    omega
theorem idx72 (q t n cap : Nat) (h : t < n) (W : World) : (Instr.indexAt 52 (.slice (some ⟨q, 0, none⟩) n cap) (.int .i64 (t : Int))).run Tryz.prog W = .ok (.pointer (some ⟨q, 2 * t, none⟩)) W := by
  have hm : (t : Int) < (n : Int) := by omega
  have e : (⟨q, 0, none⟩ : Addr).add (t * 2) = ⟨q, 2 * t, none⟩ := by rw [add_plain0]; congr 1; omega
  rw [← e]
  go_simp
theorem info111 (x : Pw) : (Tryz.prog.info? 98).map (·.size) = some (pgC x).length := by kernel_rfl
theorem Pws.item {w : World} {v : Value} {l : List Pw} (h : Pws w v l) {t : Nat} {x : Pw} (hx : l[t]? = some x) : ∃ ad, (∀ W, (Instr.indexAt 52 v (.int .i64 (t : Int))).run Tryz.prog W = .ok (.pointer (some ad)) W) ∧ (Instr.loadAt 98 (.pointer (some ad))).run Tryz.prog w = .ok (.agg (pgC x).toArray) w := by
  have hlt := (List.getElem?_eq_some_iff.1 hx).1
  obtain ⟨hl, ⟨rfl, h0⟩ | ⟨g, cp, cur, rfl, hg, hh2, hnc, hc, hs, htk⟩⟩ := h.row
  · omega
  · refine ⟨_, fun W => idx72 g t _ cp hlt W, run_loadA (fun j u hj => ?_) Tryz.underlying98 rfl (info111 x)⟩
    have hj2 : j < 2 := by have := (List.getElem?_eq_some_iff.1 hj).1; simpa [pgC] using this
    have hbl : Blk w g cur.toList 98 := by unfold Blk; simpa using hh2
    rw [add_plain2, hbl.cell]
    have e1 : (List.take (l.length * 2) cur.toList)[2 * t + j]? = cur.toList[2 * t + j]? := by rw [List.getElem?_take_of_lt (by omega)]
    rw [← e1, htk, pg_get l t x hx j hj2]
    exact hj
theorem Pws.len {w : World} {v : Value} {l : List Pw} (h : Pws w v l) (ty : TypeId) (W : World) : (Builtin.len_ #[52] ty #[v]).run Tryz.prog W = .ok (.int .i64 (l.length : Int)) W := by
  obtain ⟨hl, ⟨rfl, h0⟩ | ⟨g, cp, cur, rfl, _⟩⟩ := h.row
  · rw [h0]; go_simp
  · go_simp
theorem has_shape {w : World} {v : Value} {bs : List UInt8} (h : Has w v bs) : ∃ ao n c, v = .slice ao n c := by
  obtain ⟨ao, cap, rfl⟩ := h.slice
  exact ⟨_, _, _, rfl⟩
theorem new111 (w : World) : ∃ w1 q, (Instr.alloc 98 true (.tuple #[])).run Tryz.prog w = .ok (.pointer (some ⟨q, 0, none⟩)) w1 ∧ Blk w1 q [.int .i64 0, .slice none 0 0] 98 ∧ Below w.heap.size w w1 ∧ q = w.heap.size :=
  ⟨_, _, run_newR 98 [.int .i64 0, .slice none 0 0] (fun w => by rw [Tryz.zeroValue98]) w _ rfl, Blk.new _ _ _, below_new _ _, rfl⟩
theorem st111 {w : World} {q : Nat} {cs : List Value} (x : Pw) (hv : ∃ ao n c, x.v = .slice ao n c) (hb : Blk w q cs 98) (hl : cs.length = 2) : ∃ w', (Instr.storeAt 98 (.pointer (some ⟨q, 0, none⟩)) (.agg (pgC x).toArray)).run Tryz.prog w = .ok () w' ∧ Blk w' q (pgC x) 98 ∧ Fx (fun k => k = q) w w' :=
  ⟨_, run_storeR hb (info111 x) hl (all_oneCell_toArray fun v hm => by
    obtain ⟨ao, n, c, e⟩ := hv
    simp only [pgC, e, List.mem_cons, List.not_mem_nil, or_false] at hm
    rcases hm with rfl | rfl <;> rfl), hb.setRow _, by
    refine ⟨rfl, rfl, rfl, by simp [World.setRow], fun k hk hn => ?_⟩
    simp only [World.setRow]
    rw [Array.getElem?_modify]
    rw [if_neg (fun e => hn e.symm)]⟩
/-- A copy of one page of the list, in a variable. -/
theorem var111 {w : World} (x : Pw) (hx : x.ok w) : ∃ w1 w2 q, (Instr.alloc 98 true (.tuple #[])).run Tryz.prog w = .ok (.pointer (some ⟨q, 0, none⟩)) w1 ∧ (Instr.storeAt 98 (.pointer (some ⟨q, 0, none⟩)) (.agg (pgC x).toArray)).run Tryz.prog w1 = .ok () w2 ∧ Blk w2 q (pgC x) 98 ∧ Below w.heap.size w w2 ∧ q = w.heap.size := by
  obtain ⟨w1, q, r1, b1, e1, hq⟩ := new111 w
  obtain ⟨w2, r2, b2, x2⟩ := st111 x (has_shape hx.1) b1 rfl
  exact ⟨w1, w2, q, r1, r2, b2, below_of_new e1 x2 (fun k hk => by omega), hq⟩
theorem fld111_0 (q : Nat) (W : World) : (Instr.fieldAt 98 (.pointer (some ⟨q, 0, none⟩)) 0).run Tryz.prog W = .ok (.pointer (some ⟨q, 0, none⟩)) W := by go_simp
theorem fld111_1 (q : Nat) (W : World) : (Instr.fieldAt 98 (.pointer (some ⟨q, 0, none⟩)) 1).run Tryz.prog W = .ok (.pointer (some ⟨q, 1, none⟩)) W := by go_simp
theorem ldpn {W : World} {q : Nat} {x : Pw} (hb : Blk W q (pgC x) 98) : (Instr.loadAt 3 (.pointer (some ⟨q, 0, none⟩))).run Tryz.prog W = .ok (.int .i64 (x.n : Int)) W := ldc3 hb rfl
theorem ldpb {W : World} {q : Nat} {x : Pw} (hb : Blk W q (pgC x) 98) : (Instr.loadAt 49 (.pointer (some ⟨q, 1, none⟩))).run Tryz.prog W = .ok x.v W := by
  have hc : W.cell? ⟨q, 1, none⟩ = some x.v := hb.cell 1
  have hf := hb.frozen 1
  go_simp
theorem shl5 (k : Nat) (hk : k < 8) (W : World) (x y : Operand) : (do eqGuard .shl 5 x y (.int .u8 1) (.int .i64 (k : Int)); binOp .shl 5 (.int .u8 1) (.int .i64 (k : Int)) : Sem Value).run Tryz.prog W = .ok (byt (UInt8.ofNat (2 ^ k))) W := by
  have e : byt (UInt8.ofNat (2 ^ k)) = .int .u8 ((2 ^ k : Nat) : Int) ∧ IntKind.u8.wrap (2 ^ k) = 2 ^ k := by
    have h : k = 0 ∨ k = 1 ∨ k = 2 ∨ k = 3 ∨ k = 4 ∨ k = 5 ∨ k = 6 ∨ k = 7 := by omega
    rcases h with rfl | rfl | rfl | rfl | rfl | rfl | rfl | rfl <;> exact ⟨rfl, rfl⟩
  have h0 : ¬ (k : Int) < 0 := by omega
  rw [e.1]
  have e2 := e.2
  clear e
  go_simp
theorem or5 (a b : UInt8) (W : World) (x y : Operand) : (do eqGuard .or 5 x y (byt a) (byt b); binOp .or 5 (byt a) (byt b) : Sem Value).run Tryz.prog W = .ok (byt (a ||| b)) W := by
  unfold byt
  go_simp
  rw [or_u8, UInt8.toNat_or]
theorem Ob.at57 {w : World} {b : Nat} {v : Value} {bs : List UInt8} (h : Ob w b v bs) {i : Nat} (hi : i < bs.length) : ∃ ad, (∀ W, (Instr.indexAt 78 v (.int .i64 (i : Int))).run Tryz.prog W = .ok (.pointer (some ad)) W) ∧ ∀ W, Below w.heap.size w W → (Instr.loadAt 5 (.pointer (some ad))).run Tryz.prog W = .ok (byt (bs.getD i 0)) W := by
  obtain ⟨ad, ix, _⟩ := h.has.at57 hi
  refine ⟨ad, ix, fun W hW => ?_⟩
  obtain ⟨a2, i2, l2⟩ := (h.has.below hW).at57 hi
  have e := (ix W).symm.trans (i2 W)
  simp only [Result.ok.injEq, Value.pointer.injEq, Option.some.injEq, and_true] at e
  rw [e]
  exact l2
theorem run_mk57 (w : World) (l : Nat) (h : l ≤ 140737488355328) : (Instr.makeSlice 78 (.int .i64 (l : Int)) (.int .i64 (l : Int))).run Tryz.prog w = .ok (.slice (some ⟨w.heap.size, 0, none⟩) l l) (w.alloc (.cells ((List.replicate l (0 : UInt8)).map byt).toArray 5)) := by
  obtain ⟨i0, hi, hz0, hz1, hz2⟩ := info_parts Tryz.info5
  have hrun := run_make (P := Tryz.prog) w 78 5 i0 (.int .u8 0) Tryz.underlying78 hi hz0 .i64 .i64 l l (by omega) (by omega) (by rw [hz2]; omega) (by omega)
  rw [hz1, Int.toNat_natCast, Nat.mul_one, made_one _ rfl] at hrun
  rw [hrun, List.map_replicate]
  rfl
theorem zS_len : zS.length = 512 := List.length_replicate
theorem mk57 (W : World) : ∃ u w', (Instr.makeSlice 78 (.int .i64 ((512 : Nat) : Int)) (.int .i64 ((512 : Nat) : Int))).run Tryz.prog W = .ok u w' ∧ Ob w' W.heap.size u zS ∧ Below W.heap.size W w' := by
  refine ⟨_, _, run_mk57 W 512 (by decide), ?_, below_new _ _⟩
  have := Ob.blk (bs := zS) (Blk.new W (zS.map byt) 5) (by rw [zS_len]; decide)
  rw [zS_len] at this
  exact this
/-- The marker's bytes, of so many pages; and whole. -/
def mk1 (m : List UInt8) (x : Pw) : List UInt8 := m.set (x.n / 8) (m.getD (x.n / 8) 0 ||| UInt8.ofNat (2 ^ (x.n % 8)))
def mkT (l : List Pw) : List UInt8 := l.foldl mk1 zS
def mkB (l : List Pw) : List UInt8 := (mkT l).set 511 1
theorem mkT_snoc {l : List Pw} {t : Nat} {x : Pw} (h : l[t]? = some x) : mkT (l.take (t + 1)) = mk1 (mkT (l.take t)) x := by
  unfold mkT
  rw [List.take_add_one, h]
  simp [List.foldl_append]
theorem mk_len : ∀ (l : List Pw) (m : List UInt8), (l.foldl mk1 m).length = m.length
  | [], m => rfl
  | x :: r, m => by rw [List.foldl_cons, mk_len r]; simp [mk1]
theorem mkT_len (l : List Pw) : (mkT l).length = 512 := by unfold mkT; rw [mk_len]; exact zS_len
def mkE (v u : Value) (k : Nat) (t : Nat) : List (Nat × Value) := [(3, u), (7, v), (8, .int .i64 (k : Int)), (9, .int .i64 (t : Int))]
structure MkR (w : World) (l : List Pw) (u : Value) (t : Nat) (W : World) : Prop where
  o : Ob W w.heap.size u (mkT (l.take t))
  b : Below w.heap.size w W
  le : t ≤ l.length
set_option maxRecDepth 100000 in
set_option maxHeartbeats 1000000 in
theorem markerOf_any {w : World} {v : Value} {l : List Pw} (h : Pws w v l) (hl : l.length ≤ 1000) (hn : ∀ x ∈ l, x.n < 256) : Calls Tryz.prog 67 #[v] w fun e w' => ∃ u, e = .returned u ∧ Ob w' w.heap.size u (mkB l) ∧ Below w.heap.size w w' := by
  refine calls_of_args [v] Tryz.func67 rfl 29 Tryz.ntmps67 (by show 1 ≤ 29; decide) ?_; refine EW.seq ?_; refine EW.region ?_; refine WL.assign rfl rfl rfl ?_; refine WL.done ?_; refine EW.on ?_; refine EW.seq ?_; refine EW.region ?_
  obtain ⟨u, w1, r1, o1, e1⟩ := mk57 w
  refine WL.mks rfl rfl rfl rfl r1 ?_; refine WL.assign rfl rfl rfl ?_; refine WL.done ?_; refine EW.on ?_; refine EW.seq ?_; refine EW.seq ?_; refine EW.region ?_; refine WL.move rfl rfl rfl ?_; refine WL.len rfl rfl rfl (h.len _ _) ?_; refine WL.move rfl rfl rfl ?_; refine WL.done ?_; refine EW.on ?_; refine EW.block ?_; refine EW.loop (mkE v u l.length) (MkR w l u) (fun t => l.length - t) 0 [3, 7, 8, 9] rfl ⟨o1, e1, Nat.zero_le _⟩ ?_
  rintro t wi ⟨oi, ei, hle⟩
  show EW _ _ _ _ [(3, u), (7, v), (8, .int .i64 (l.length : Int)), (9, .int .i64 (t : Int))] _
  refine EW.seq ?_; refine EW.region ?_
  first | refine WL.bin rfl rfl rfl rfl (int_lt_t ‹_› _ _ _) ?_ | refine WL.bin rfl rfl rfl rfl (int_lt_f ‹_› _ _ _) ?_ | refine WL.bin rfl rfl rfl rfl (int_lt_d _ _ _ _ _) ?_
  refine WL.done ?_; refine EW.on ?_; refine EW.seq ?_; refine EW.cond_d rfl (fun h10 => ?_) (fun h10 => ?_)
  · refine EW.skip ?_; refine EW.on ?_; refine EW.seq ?_; refine EW.block ?_; refine EW.seq ?_
    have ht : t < l.length := by omega
    have tn : IntKind.i64.wrap ((t : Int) + 1) = ((t + 1 : Nat) : Int) := by rw [IntKind.wrap_i64]; omega
    refine EW.region ?_
    obtain ⟨x, hx⟩ : ∃ x, l[t]? = some x := ⟨_, List.getElem?_eq_getElem ht⟩
    have hxm := List.mem_of_getElem? hx
    have hxn := hn x hxm
    have pi := h.below ei
    obtain ⟨ad, ix, lx⟩ := pi.item hx
    refine WL.index rfl rfl rfl rfl (ix _) ?_; refine WL.load rfl rfl rfl lx ?_
    obtain ⟨w2, w3, q3, r2, s3, b3, e3, hq3⟩ := var111 x (pi.has x hxm)
    refine WL.new rfl rfl r2 ?_
    have o3 := oi.below e3
    refine WL.store rfl rfl rfl s3 ?_
    obtain ⟨a4, i4, l4⟩ := o3.at57 (i := x.n / 8) (by rw [mkT_len]; omega)
    refine WL.done ?_; refine EW.on ?_; refine EW.ordB [(0, 0, 0), (1, 0, 0), (2, 0, 1), (3, 0, 0), (4, 0, 0), (5, 0, 1), (6, 0, 0), (7, 0, 1), (8, 0, 0), (9, 0, 0), (10, 0, 0), (11, 0, 0), (12, 1, 0)] (by kernel_rfl) rfl (by kernel_rfl) ?_; simp only [opsZ, List.getD_cons_zero, List.getD_cons_succ]; refine ZE.move rfl rfl rfl rfl sz0 ?_; refine ZE.field rfl rfl rfl rfl sz0 (fun W => fld111_0 q3 W) ?_; refine ZE.load rfl rfl rfl rfl sz1 (fun W hW => ldpn (b3.on (sb_of hW))) ?_; refine ZE.bin rfl rfl rfl rfl rfl sz0 (fun W => quo8 x.n (by omega) W _ _) ?_; refine ZE.index rfl rfl rfl rfl rfl sz0 (fun W => i4 W) ?_; refine ZE.load rfl rfl rfl rfl sz1 (fun W hW => l4 W (sb_of hW)) ?_; refine ZE.field rfl rfl rfl rfl sz0 (fun W => fld111_0 q3 W) ?_; refine ZE.load rfl rfl rfl rfl sz1 (fun W hW => ldpn (b3.on (sb_of hW))) ?_; refine ZE.bin rfl rfl rfl rfl rfl sz0 (fun W => rem8 x.n (by omega) W _ _) ?_; refine ZE.bin rfl rfl rfl rfl rfl sz0 (fun W => shl5 (x.n % 8) (Nat.mod_lt _ (by decide)) W _ _) ?_; refine ZE.bin rfl rfl rfl rfl rfl sz0 (fun W => or5 _ _ W _ _) ?_; refine ZE.index rfl rfl rfl rfl rfl sz0 (fun W => i4 W) ?_
    refine ZE.store (fun W => Ob W w.heap.size u (mk1 (mkT (l.take t)) x) ∧ Below w.heap.size w W) rfl rfl rfl (fun W h => .inl rfl) (fun W hW => by
      obtain ⟨a5, w', i5, s5, o5, x5⟩ := (o3.below hW).setAt (x.n / 8) (by rw [mkT_len]; omega) ((mkT (l.take t)).getD (x.n / 8) 0 ||| UInt8.ofNat (2 ^ (x.n % 8))) 78 (.inr rfl)
      have e := (i4 W).symm.trans (i5 W)
      simp only [Result.ok.injEq, Value.pointer.injEq, Option.some.injEq, and_true] at e
      rw [← e] at s5
      exact ⟨w', s5, o5, below_of_new ((ei.trans (e3.mono ei.size)).trans (hW.mono (Nat.le_trans ei.size e3.size))) x5 (fun k hk => oi.base k hk)⟩) ?_
    rintro w7 ⟨o7, e7⟩
    refine pn_block ?_; refine EW.on ?_; refine EW.region ?_; refine WL.bin rfl rfl rfl rfl (int_add ‹_› _ _ _) ?_; refine WL.move rfl rfl rfl ?_; refine WL.done ?_; refine EW.again (E := mkE v u l.length) (R := MkR w l u) (m := fun t => l.length - t) (x := t) (t + 1) [3, 7, 8, 9] rfl ⟨by rw [mkT_snoc hx]; exact o7, e7, by omega⟩ (by show _ - (t + 1) < _ - t; omega)
  · refine EW.exit ?_; refine px_then ?_; refine px_then ?_; refine px_block ?_; refine EW.on ?_; refine EW.seq ?_
    have hte : t = l.length := by omega
    rw [hte, List.take_length] at oi
    refine EW.region ?_; refine WL.move rfl rfl rfl ?_
    obtain ⟨a6, w6, i6, s6, o6, x6⟩ := oi.setAt 511 (by rw [mkT_len]; omega) 1 78 (.inr rfl)
    refine WL.index rfl rfl rfl rfl (i6 _) ?_; refine WL.store rfl rfl rfl s6 ?_; refine WL.done ?_; refine EW.on ?_; refine EW.seq ?_; refine EW.region ?_; refine WL.move rfl rfl rfl ?_; refine WL.assign rfl rfl rfl ?_; refine WL.done ?_; refine EW.on ?_; refine EW.ret ?_
    exact EW.returns Tryz.results67 rfl ⟨u, rfl, o6, below_of_new ei x6 (fun k hk => oi.base k hk)⟩
end Go.Proofs.YtmbgeojjklboeaaGreatDoor
