import Derived.Test.YtmbgeojjklboeaaGreatDoorWm
set_option linter.unusedVariables false
set_option linter.unusedSimpArgs false
namespace Go.Proofs.YtmbgeojjklboeaaGreatDoor
open Go.RowKit

theorem loadVar_of {P : Program} {w : World} {t : TypeId} {ad : Addr} {v : Value} (h : (Instr.loadAt t (.pointer (some ad))).run P w = .ok v w) : (loadVar t ad).run P w = .ok v w := by
  simpa [Instr.loadAt, Instr.sureAddr] using h
theorem results_c1 {P : Program} {fn : Func} {a : Tmp} {ta : TypeId} (h : fn.results = #[.cell a ta]) (tmps : Array Value) (w : World) {A : Addr} {va : Value} (h1 : tmps.getD a undef = .pointer (some A)) (l1 : (Instr.loadAt ta (.pointer (some A))).run P w = .ok va w) : (results fn tmps).run P w = .ok va w := by
  have k1 := loadVar_of l1
  have h1' : tmps[a]?.getD undef = .pointer (some A) := by simpa using h1
  simp [results, h, h1', asAddr, k1]
theorem results_c2 {P : Program} {fn : Func} {a b : Tmp} {ta tb : TypeId} (h : fn.results = #[.cell a ta, .cell b tb]) (tmps : Array Value) (w : World) {A B : Addr} {va vb : Value} (h1 : tmps.getD a undef = .pointer (some A)) (h2 : tmps.getD b undef = .pointer (some B)) (l1 : (Instr.loadAt ta (.pointer (some A))).run P w = .ok va w) (l2 : (Instr.loadAt tb (.pointer (some B))).run P w = .ok vb w) : (results fn tmps).run P w = .ok (.tuple #[va, vb]) w := by
  have k1 := loadVar_of l1
  have k2 := loadVar_of l2
  have h1' : tmps[a]?.getD undef = .pointer (some A) := by simpa using h1
  have h2' : tmps[b]?.getD undef = .pointer (some B) := by simpa using h2
  simp [results, h, h1', h2', asAddr, k1, k2]
theorem results_c3 {P : Program} {fn : Func} {a b c : Tmp} {ta tb tc : TypeId} (h : fn.results = #[.cell a ta, .cell b tb, .cell c tc]) (tmps : Array Value) (w : World) {A B C : Addr} {va vb vc : Value} (h1 : tmps.getD a undef = .pointer (some A)) (h2 : tmps.getD b undef = .pointer (some B)) (h3 : tmps.getD c undef = .pointer (some C)) (l1 : (Instr.loadAt ta (.pointer (some A))).run P w = .ok va w) (l2 : (Instr.loadAt tb (.pointer (some B))).run P w = .ok vb w) (l3 : (Instr.loadAt tc (.pointer (some C))).run P w = .ok vc w) : (results fn tmps).run P w = .ok (.tuple #[va, vb, vc]) w := by
  have k1 := loadVar_of l1
  have k2 := loadVar_of l2
  have k3 := loadVar_of l3
  have h1' : tmps[a]?.getD undef = .pointer (some A) := by simpa using h1
  have h2' : tmps[b]?.getD undef = .pointer (some B) := by simpa using h2
  have h3' : tmps[c]?.getD undef = .pointer (some C) := by simpa using h3
  simp [results, h, h1', h2', h3', asAddr, k1, k2, k3]
/-- The worlds of a level: all, or those of which q holds. -/
def SQ (q : World → Prop) (l : Nat) (W : World) : Prop := l = 0 ∨ q W
theorem sq_anti (q : World → Prop) (m n : Nat) (W : World) (h : m ≤ n) (k : SQ q n W) : SQ q m W := by
  rcases k with k | k
  · exact .inl (by omega)
  · exact .inr k
theorem sq_of {q : World → Prop} {W : World} {l : Nat} {C : World → Prop} (h : SZ (SQ q) 0 (l + 1) C W) : q W := by
  rcases h with h | h
  · cases h
  · exact h
theorem new22 (w : World) : ∃ w1 q, (Instr.alloc 37 true (.tuple #[])).run Tryz.prog w = .ok (.pointer (some ⟨q, 0, none⟩)) w1 ∧ Blk w1 q [.pointer none] 37 ∧ Below w.heap.size w w1 ∧ q = w.heap.size ∧ w1.heap.size = w.heap.size + 1 :=
  ⟨w.alloc (.cells [.pointer none].toArray 37), w.heap.size, by go_simp, Blk.new _ _ _, below_new _ _, rfl, by show (w.heap.push _).size = _; rw [Array.size_push]⟩
theorem new4 (w : World) : ∃ w1 q, (Instr.alloc 4 true (.tuple #[])).run Tryz.prog w = .ok (.pointer (some ⟨q, 0, none⟩)) w1 ∧ Blk w1 q [.bool false] 4 ∧ Below w.heap.size w w1 ∧ q = w.heap.size ∧ w1.heap.size = w.heap.size + 1 :=
  ⟨w.alloc (.cells [.bool false].toArray 4), w.heap.size, by go_simp, Blk.new _ _ _, below_new _ _, rfl, by show (w.heap.push _).size = _; rw [Array.size_push]⟩
theorem new24 (w : World) : ∃ w1 q, (Instr.alloc 46 true (.tuple #[])).run Tryz.prog w = .ok (.pointer (some ⟨q, 0, none⟩)) w1 ∧ Blk w1 q [.nilIface] 46 ∧ Below w.heap.size w w1 ∧ q = w.heap.size ∧ w1.heap.size = w.heap.size + 1 :=
  ⟨w.alloc (.cells [.nilIface].toArray 46), w.heap.size, by go_simp, Blk.new _ _ _, below_new _ _, rfl, by show (w.heap.push _).size = _; rw [Array.size_push]⟩
theorem bsl99_1 (a b : Nat) (w : World) : (Instr.buildSlice 118 1 [(0, .agg (spC a b).toArray)].toArray).run Tryz.prog w = .ok (.slice (some ⟨w.heap.size, 0, none⟩) 1 1) (w.alloc (.cells ([(a, b)].flatMap fun x => spC x.1 x.2).toArray 85)) := by
  unfold spC
  go_simp
  try rfl
end Go.Proofs.YtmbgeojjklboeaaGreatDoor

set_option linter.unusedVariables false
set_option linter.unusedSimpArgs false
namespace Go.Proofs.YtmbgeojjklboeaaGreatDoor
open Go.RowKit

def lgC (p n : Nat) (v : Value) : List Value := [.pointer (some ⟨p, 0, none⟩), .int .i64 (n : Int), v]
theorem bld66 (p n : Nat) (W : World) : (Instr.build 88 [(0, dkV p n)].toArray).run Tryz.prog W = .ok (.agg (lgC p n .nilIface).toArray) W := by kernel_rfl
theorem ZE.box {P : Program} {n : Fm} {ops : Array Oper} {Rp : List PanicEntry → World → Prop} {S : Nat → World → Prop} {K : List (Nat × Value) → (World → Prop) → Prop} {i lv : Nat} {ty : TypeId} {ps : String} {af : Array Edge} {gd : Option (Nat × Bool)} {r : List (Oper × Nat × Nat)} {e : List (Nat × Value)} {C : World → Prop} {t : TypeId} {x : Operand} {u : Value} (C' : Value → World → Prop) (hw : wantE ops e ⟨some i, .box t x, ty, ps, af, gd⟩ = some true) (hi : decide (i < n.k) = true) (hx : evE e x = some u) (h1 : ∀ v w, C' v w → S lv w) (hr : ∀ w, C w → ∃ v w', (Instr.box t u).run P w = .ok v w' ∧ C' v w') (k : ∀ v, (∃ w, C' v w) → wpZE P n ops Rp S K r ((i, v) :: e) (C' v)) : wpZE P n ops Rp S K ((⟨some i, .box t x, ty, ps, af, gd⟩, 1, lv) :: r) e C :=
  ZE.eff C' hw hi h1 (fun W hW => by
    obtain ⟨v, w', h2, h3⟩ := hr W hW
    exact ⟨v, w', fun a ha => by simp [execOp, ha.ev hx, h2, Result.andThen], h3⟩) k
/-- A log lies there, behind the first so many blocks. -/
def Lg (w : World) (b p n : Nat) (v x : Value) : Prop := ∃ q, v = .pointer (some ⟨q, 0, none⟩) ∧ b ≤ q ∧ Blk w q (lgC p n x) 88
theorem Lg.fx {S : Nat → Prop} {w w' : World} {b p n : Nat} {v x : Value} (h : Lg w b p n v x) (hf : Fx S w w') (hS : ∀ k, b ≤ k → ¬ S k) : Lg w' b p n v x := by
  obtain ⟨q, h1, h2, h3⟩ := h
  exact ⟨q, h1, h2, h3.fx hf (hS q h2)⟩
theorem below_of_new {w w1 w2 : World} {S : Nat → Prop} (h : Below w.heap.size w w1) (hf : Fx S w1 w2) (hS : ∀ k, S k → w.heap.size ≤ k) : Below w.heap.size w w2 :=
  h.trans (hf.below (fun k hk hs => by have := hS k hs; omega) h.size)
set_option maxRecDepth 100000 in
set_option maxHeartbeats 1000000 in
theorem open_zero {w : World} {L : Lay} {N : Nat} {s : Nat → List UInt8} {c : Nat} (h : Dk w L N s 0 c) (n : Nat) (hN : N ≤ 4096) (hr : roomD (N : Int) = (n : Int)) (hn : 1 ≤ n) (hnN : 4 * n + 1 ≤ N) (hcal : c ≤ 900000) (h0 : bAt (s 0) 511 = 0) : Calls Tryz.prog 11 #[.pointer (some ⟨L.p, 0, none⟩)] w fun e w' => ∃ vg L' c', e = .returned (.tuple #[vg, .bool false, .nilIface]) ∧ Lg w' w.heap.size L.p n vg .nilIface ∧ (∀ k, w.heap.size ≤ k → (∃ q, vg = .pointer (some ⟨q, 0, none⟩) ∧ k = q) → ¬ L'.F k) ∧ Turn w w' L L' ∧ Dk w' L' N (wipS [(0, 1 + 2 * n)] s) 0 c' ∧ c' ≤ c + 51000 ∧ ((∀ j, j < N → covB [(0, 1 + 2 * n)] j = true → zB (s j) = true) → c' = c) := by
  have hn2 : n ≤ 1000 := by
    have : roomD (N : Int) ≤ 250 := by unfold roomD; split <;> omega
    omega
  have hl0 := h.len 0 (by omega)
  refine calls_of_argsD [.pointer (some ⟨L.p, 0, none⟩)] Tryz.func11 rfl 35 Tryz.ntmps11 (by show 1 ≤ 35; decide) ?_; refine EW.seq ?_; refine EW.region ?_
  obtain ⟨w1, ql, r1, b1, e1, hq1, z1⟩ := new22 w
  refine WL.new rfl rfl r1 ?_
  obtain ⟨w2, qa, r2, b2, e2, hq2, z2⟩ := new4 w1
  refine WL.new rfl rfl r2 ?_
  obtain ⟨w3, qe, r3, b3, e3, hq3, z3⟩ := new24 w2
  have e03 := (e1.trans (e2.mono e1.size)).trans (e3.mono (Nat.le_trans e1.size e2.size))
  have h3 := h.below e03
  refine WL.new rfl rfl r3 ?_; refine WL.done ?_; refine EW.on ?_; refine EW.seq ?_; refine EW.region ?_; refine WL.mkf [.pointer (some ⟨ql, 0, none⟩), .pointer (some ⟨qa, 0, none⟩), .pointer (some ⟨qe, 0, none⟩)] rfl rfl rfl ?_; refine WL.defer rfl rfl ?_; refine WL.done ?_; refine EW.on ?_; refine EW.seq ?_; refine EW.region ?_; refine WL.move rfl rfl rfl ?_; refine WL.call [.pointer (some ⟨L.p, 0, none⟩)] enter31 rfl rfl rfl (over_ok h3 (by omega) n hr (by omega)) ?_
  rintro _ w4 ⟨rfl, e4⟩
  have e04 := e03.trans (e4.mono e03.size)
  refine ⟨_, rfl, ?_⟩; refine WL.new rfl rfl (new55 w4) ?_
  have e5 := below_new w4 (.cells [Value.pointer none, .int .i64 0].toArray 76)
  obtain ⟨w6, s6, b6, x6⟩ := st55 (p := L.p) (n := n) (Blk.new w4 [Value.pointer none, .int .i64 0] 76) rfl
  have e46 : Below w4.heap.size w4 w6 := below_of_new e5 x6 (fun k hk => by omega)
  have e06 := e04.trans (e46.mono e04.size)
  have e36 := e4.trans (e46.mono e4.size)
  have h6 := h.below e06
  have l6 := ((b1.on e2).on e3).on e36
  have a6 := (b2.on e3).on e36
  have t6 := b3.on e36
  obtain ⟨q5, hq5⟩ : ∃ q5, w4.heap.size = q5 := ⟨_, rfl⟩
  rw [hq5] at s6 b6 x6 ⊢
  refine WL.store rfl rfl rfl s6 ?_; refine WL.done ?_; refine EW.on ?_; refine EW.seq ?_; refine EW.region ?_; refine WL.load rfl rfl rfl (ld55 b6) ?_; refine WL.call [dkV L.p n] enter32 rfl rfl rfl (settle_none n h6 (by omega) (by omega)) ?_
  rintro _ w7 ⟨rfl, e7⟩
  have e07 := e06.trans (e7.mono e06.size)
  refine ⟨_, rfl, ?_⟩; refine WL.done ?_; refine EW.on ?_; refine EW.seq ?_; refine EW.region ?_; refine WL.load rfl rfl rfl (ld55 (b6.on e7)) ?_; refine WL.call [dkV L.p n, .int .i64 ((0 : Nat) : Int)] enter33 rfl rfl rfl (kreadO_ok n (h.below e07) 0 (by omega)) ?_
  rintro _ w8 ⟨mv, rfl, o8, e8⟩
  have e08 := e07.trans (e8.mono e07.size)
  have e68 := e7.trans (e8.mono e7.size)
  refine ⟨_, rfl, ?_⟩; refine WL.assign rfl rfl rfl ?_; refine WL.done ?_; refine EW.on ?_; refine EW.seq ?_; refine EW.seq ?_; refine EW.region ?_; refine WL.move rfl rfl rfl ?_; refine WL.field rfl rfl rfl (fld55_1 q5 _) ?_; refine WL.load rfl rfl rfl (ldI3 (b6.on e68)) ?_; refine WL.call [mv, .int .i64 (n : Int)] enter34 rfl rfl rfl (sense_zero mv (s 0) n w8 o8.has hl0 h0) ?_
  rintro _ w9 ⟨rfl, hz9⟩
  have e9 : Below w8.heap.size w8 w9 := by rw [hz9]; exact Below.refl _ _
  refine ⟨_, rfl, ?_⟩
  have e69 := e68.trans (e9.mono e68.size)
  have e09 := e08.trans (e9.mono e08.size)
  have o9 := o8.below e9
  refine WL.un rfl rfl rfl (not_t _ _) ?_; refine WL.done ?_; refine EW.on ?_; refine EW.cond_f rfl ?_; refine EW.skip ?_; refine EW.on ?_; refine EW.seq ?_; refine EW.region ?_; refine WL.move rfl rfl rfl ?_; refine WL.call [mv] enter36 rfl rfl rfl (stands_any mv (s 0) w9 o9.has hl0) ?_
  rintro _ w10 ⟨rfl, hz10⟩
  rw [hz10, show decide (bAt (s 0) 511 = 1) = false from decide_eq_false (by omega)]
  refine ⟨_, rfl, ?_⟩
  obtain ⟨w11, s11, a11, x11⟩ := st4c false (a6.on e69)
  have hqa : w.heap.size ≤ qa := by have := e1.size; omega
  have e011 : Below w.heap.size w w11 := below_of_new e09 x11 (fun k hk => by omega)
  have h11 := h.below e011
  have l11 := (l6.on e69).fx x11 (by omega)
  have t11 := (t6.on e69).fx x11 (by omega)
  have b11 := (b6.on e69).fx x11 (by have := e03.size; have := e4.size; have := b3.lt; omega)
  have o11 := o9.fx x11 (fun k hk hv => by have := o9.base k hv; have := a6.lt; have := e7.size; omega)
  have hF : ∀ k, w.heap.size ≤ k → ¬ L.F k := fun k hk hF => by have := h.lt _ hF; omega
  refine WL.store rfl rfl rfl s11 ?_; refine WL.done ?_; refine EW.on ?_; refine EW.seq ?_; refine EW.seq ?_; refine EW.region ?_; refine WL.load rfl rfl rfl (ld4c a11) ?_; refine WL.done ?_; refine EW.on ?_; refine EW.cond_f rfl ?_; refine EW.skip ?_; refine EW.on ?_; refine EW.seq ?_
  obtain ⟨w12, hw12⟩ : ∃ w12, w11 = w12 := ⟨_, rfl⟩
  obtain ⟨L2, hL2⟩ : ∃ L2, L = L2 := ⟨_, rfl⟩
  have u2 : Turn w11 w12 L L2 := by rw [← hw12, ← hL2]; exact Turn.refl _ _
  obtain ⟨c2, hc2⟩ : ∃ c2, c2 ≤ c + 1000 ∧ c2 = c := ⟨c, by omega, rfl⟩
  have d2 : Dk w12 L2 N s 0 c2 := by rw [hc2.2, ← hw12, ← hL2]; exact h11
  have hcc := hc2.2
  replace hc2 := hc2.1
  obtain ⟨S2, hS2⟩ : ∃ S2, s = S2 := ⟨_, rfl⟩
  rw [hS2] at d2
  have hg5 : w.heap.size ≤ q5 := by have := e04.size; omega
  have b12 := b11.fx u2.fx (hF q5 hg5)
  have l12 := l11.fx u2.fx (hF ql (by omega))
  have a12 := a11.fx u2.fx (hF qa hqa)
  have t12 := t11.fx u2.fx (hF qe (by omega))
  rw [hw12]
  refine EW.ordB [(0, 0, 1), (1, 0, 1), (2, 1, 1), (3, 1, 1), (4, 1, 0)] (by kernel_rfl) rfl (by kernel_rfl) ?_; simp only [opsZ, List.getD_cons_zero, List.getD_cons_succ]; refine ZE.load rfl rfl rfl rfl sz1 (fun W hW => ld55 (b12.on (sb_of hW))) ?_; refine ZE.load rfl rfl rfl rfl sz1 (fun W hW => ld55 (b12.on (sb_of hW))) ?_; refine ZE.callR [dkV L.p n] (fun v W => v = .agg (spC 0 (1 + 2 * n)).toArray ∧ Below w12.heap.size w12 W) enter39 rfl rfl rfl (fun _ _ h => .inr h.2) (fun W hW => (log_any L.p n W hn2).mono fun e w' ⟨g1, g2⟩ => ⟨_, g1, rfl, hW.trans (g2.mono hW.size)⟩) ?_
  rintro _ ⟨_, rfl, _⟩
  refine ZE.bsl [(0, .agg (spC 0 (1 + 2 * n)).toArray)] (fun v W => (∃ q, v = .slice (some ⟨q, 0, none⟩) 1 1 ∧ w12.heap.size ≤ q ∧ Blk W q ([(0, 1 + 2 * n)].flatMap fun x => spC x.1 x.2) 85) ∧ Below w12.heap.size w12 W) rfl rfl rfl (fun _ _ h => .inr h.2) (fun W hW => ⟨_, _, bsl99_1 _ _ W, ⟨_, rfl, hW.2.size, Blk.new _ _ _⟩, hW.2.trans ((below_new W _).mono hW.2.size)⟩) ?_
  rintro _ ⟨_, ⟨qs, rfl, _, _⟩, _⟩
  refine ZE.callR [dkV L.p n, .slice (some ⟨qs, 0, none⟩) 1 1] (fun v W => v = .tuple #[] ∧ ∃ L3 c3, Turn w12 W L2 L3 ∧ Dk W L3 N (wipS [(0, 1 + 2 * n)] S2) 0 c3 ∧ c3 ≤ c2 + 50000 ∧ ((∀ j, j < N → covB [(0, 1 + 2 * n)] j = true → zB (S2 j) = true) → c3 = c2)) enter38 rfl rfl rfl (fun _ _ _ => .inl rfl) (fun W hW => by
      obtain ⟨⟨q', hv', hq', bq'⟩, eW⟩ := hW
      injection hv' with hv1 _ _
      injection hv1 with hv2
      injection hv2 with hv3 _ _
      subst hv3
      rw [← u2.p]
      exact (wipe_ok n (d2.below eW) (by omega) qs [(0, 1 + 2 * n)] bq' (fun hh => by have := d2.lt _ hh; omega) (fun x hx => by rw [List.mem_singleton.1 hx]; show 1 + 2 * n ≤ N; omega) (by show 1 ≤ 4; omega) (by omega)).mono fun e w' ⟨g1, L3, c3, g2, g3, g4, g5⟩ => ⟨_, g1, rfl, L3, c3, g2.pre eW, g3, g4, g5⟩) ?_
  rintro _ ⟨_, rfl, _⟩
  rintro w13 ⟨_, L3, c3, u3, d3, hc3, hz3⟩
  have u03 := (u2.pre e011).trans u3
  have u13 := u2.trans u3
  have b13 := b11.fx u13.fx (hF q5 hg5)
  have l13 := l11.fx u13.fx (hF ql (by omega))
  have a13 := a11.fx u13.fx (hF qa hqa)
  have t13 := t11.fx u13.fx (hF qe (by omega))
  have hb5 : qe < q5 := by have := b3.lt; have := e4.size; omega
  refine EW.on ?_; refine EW.seq ?_; refine EW.ordZ [(0, 0, 1), (1, 0, 0), (3, 0, 1), (2, 1, 1), (4, 1, 1), (5, 1, 0), (6, 1, 0)] (SQ (fun W => Blk W q5 (dkC L.p n) 76 ∧ Blk W qa [.bool false] 4)) (fun W => Below w13.heap.size w13 W) (by kernel_rfl) rfl (by kernel_rfl) (sq_anti _) (below_drawn w13) ?_; simp only [opsZ, List.getD_cons_zero, List.getD_cons_succ]; refine ZE.load rfl rfl rfl rfl (fun W hW => .inr ⟨b13.on hW, a13.on hW⟩) (fun W hW => ld55 (sq_of hW).1) ?_; refine ZE.buildN [(0, dkV L.p n)] rfl rfl rfl rfl (fun W hW => .inl rfl) (fun W => bld66 _ _ W) ?_; refine ZE.load rfl rfl rfl rfl (fun W hW => .inr ⟨b13.on hW, a13.on hW⟩) (fun W hW => ld4c (sq_of hW).2) ?_; refine ZE.box (fun v W => Lg W w13.heap.size L.p n v .nilIface ∧ Below w13.heap.size w13 W) rfl rfl rfl (fun _ W h => .inr ⟨b13.on h.2, a13.on h.2⟩) (fun W hW => ⟨_, _, run_boxR 88 _ W _ rfl, ⟨_, rfl, hW.size, Blk.new _ _ _⟩, hW.trans ((below_new W _).mono hW.size)⟩) ?_
  rintro vg ⟨_, ⟨qg, hvg, _, _⟩, _⟩
  refine ZE.store (fun W => Lg W w13.heap.size L.p n vg .nilIface ∧ Fx (fun k => k = ql) w13 W ∧ Blk W ql [vg] 37) rfl rfl rfl (fun W h => .inr ⟨b13.fx h.2.1 (by omega), a13.fx h.2.1 (by omega)⟩) (fun W hW => by
      obtain ⟨w', g1, g2, g3⟩ := st22c (some ⟨qg, 0, none⟩) (l13.on hW.2)
      rw [← hvg] at g1 g2
      exact ⟨w', g1, hW.1.fx g3 (fun k hk e => by have := l13.lt; omega), (Fx.of_below hW.2).trans g3 (fun _ _ h => h), g2⟩) ?_
  refine ZE.store (fun W => Lg W w13.heap.size L.p n vg .nilIface ∧ Fx (fun k => k = ql ∨ k = qa) w13 W ∧ Blk W ql [vg] 37 ∧ Blk W qa [.bool false] 4) rfl rfl rfl (fun W h => .inl rfl) (fun W hW => by
      obtain ⟨w', g1, g2, g3⟩ := st4c false (a13.fx hW.2.1 (by omega))
      exact ⟨w', g1, hW.1.fx g3 (fun k hk e => by have := a13.lt; omega), hW.2.1.mono (fun _ _ h => .inl h) |>.trans g3 (fun _ _ h => .inr h), hW.2.2.fx g3 (by omega), g2⟩) ?_
  refine ZE.store (fun W => Lg W w13.heap.size L.p n vg .nilIface ∧ Fx (fun k => k = ql ∨ k = qa ∨ k = qe) w13 W ∧ Blk W ql [vg] 37 ∧ Blk W qa [.bool false] 4 ∧ Blk W qe [.nilIface] 46) rfl rfl rfl (fun W h => .inl rfl) (fun W hW => by
      obtain ⟨w', g1, g2, g3⟩ := st24n (t13.fx hW.2.1 (by omega))
      exact ⟨w', g1, hW.1.fx g3 (fun k hk e => by have := t13.lt; omega), hW.2.1.mono (fun _ _ h => h.elim .inl (fun h => .inr (.inl h))) |>.trans g3 (fun _ _ h => .inr (.inr h)), hW.2.2.1.fx g3 (by omega), hW.2.2.2.fx g3 (by omega), g2⟩) ?_
  rintro w14 ⟨g14, x14, l14, a14, t14⟩
  refine EW.on ?_; refine EW.ret ?_; refine EW.leaves enter28 (open1_none _ _ _ _) ?_
  rintro u w' ⟨hu, hw⟩
  subst hu
  rw [hw]
  refine ⟨rfl, fun a ha => ⟨_, results_c3 Tryz.results11 a.tmps w14 (ha.kn 2 _ rfl) (ha.kn 3 _ rfl) (ha.kn 4 _ rfl) (ld22c l14) (ld4c a14) (ld24c t14), ?_⟩⟩
  rw [hS2]
  have hx3 : ∀ k, L3.F k → k < w13.heap.size := fun k hk => d3.lt k hk
  have h3F : ∀ k, L3.F k → ¬ (k = ql ∨ k = qa ∨ k = qe) := fun k hk hh => (u13.own k hk).elim (hF k (by omega)) (fun h2 => by have := t11.lt; have := l11.lt; have := a11.lt; omega)
  obtain ⟨q, g1, g2, g3⟩ := g14
  refine ⟨vg, L3, c3, rfl, ⟨q, g1, Nat.le_trans u03.fx.size g2, g3⟩, ?_, ⟨u03.fx.trans x14 (fun k hk hh => by omega), u03.own, u03.p⟩, ?_, by omega, fun hall => (hz3 hall).trans hcc⟩
  · rintro k _ ⟨q', hq', rfl⟩ hk
    rw [g1] at hq'
    injection hq' with hv1
    injection hv1 with hv2
    injection hv2 with hv3 _ _
    have := hx3 k hk
    omega
  · obtain ⟨D, k1, k2⟩ := d3.ex
    exact ⟨D, k1.fx x14 h3F, k2⟩
end Go.Proofs.YtmbgeojjklboeaaGreatDoor
