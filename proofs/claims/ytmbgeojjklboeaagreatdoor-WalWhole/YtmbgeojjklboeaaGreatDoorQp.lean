import Derived.Test.YtmbgeojjklboeaaGreatDoorQoG
set_option linter.unusedVariables false
set_option linter.unusedSimpArgs false
namespace Go.Proofs.YtmbgeojjklboeaaGreatDoor
open Go.RowKit

theorem eq24f (t : TypeId) (u : Value) (W : World) (x : Operand) : (do eqGuard .eql 46 x (.const .nilIface) (.iface t u) .nilIface; binOp .eql 46 (.iface t u) .nilIface : Sem Value).run Tryz.prog W = .ok (.bool false) W := by
  go_simp
theorem ne22n (W : World) (x y : Operand) : (do eqGuard .neq 37 x y (.pointer none) (.pointer none); binOp .neq 37 (.pointer none) (.pointer none) : Sem Value).run Tryz.prog W = .ok (.bool false) W := by
  go_simp
theorem strm {W : World} {q p more : Nat} {d l : Option Addr} {v : Value} (a : Option Addr) (hb : Blk W q (rmC d l p more v) 40) : ∃ W', (Instr.storeAt 37 (.pointer (some ⟨q, 1, none⟩)) (.pointer a)).run Tryz.prog W = .ok () W' ∧ Blk W' q (rmC d a p more v) 40 ∧ Fx (fun k => k = q) W W' := by
  have hc : W.cell? ⟨q, 1, none⟩ = some (.pointer l) := hb.cell 1
  have hf := hb.frozen 1
  exact ⟨W.setCell ⟨q, 1, none⟩ (.pointer a), by go_simp, hb.set 1 _, Fx.setCell (S := fun k => k = q) _ _ _ _ rfl⟩
/-- Between Opens. -/
structure Ro (wb w : World) (L0 : Lay) (q p more c : Nat) (lq : Option Addr) (v : Value) (ps : List (List UInt8)) (L : Lay) (W : World) : Prop where
  ex : ∃ d c', Dz W L (4 * p + 1 + more) d c' ∧ St p more d ps ∧ c' ≤ c
  rm : Blk W q (rmC (some ⟨L0.p, 0, none⟩) lq p more v) 40
  fx : Fx (fun k => L0.F k ∨ k = q) w W
  own : ∀ k, L.F k → L0.F k ∨ w.heap.size ≤ k
  p : L.p = L0.p
/-- What stays. -/
structure Rk (wb w : World) (L0 : Lay) (q : Nat) : Prop where
  bw : Below wb.heap.size wb w
  f0 : ∀ k, L0.F k → wb.heap.size ≤ k
  fl : ∀ k, L0.F k → k < w.heap.size
  q1 : wb.heap.size ≤ q
  q2 : q < w.heap.size
  qF : ¬ L0.F q
  hg : wb.cell? ⟨0, 0, none⟩ = some (rty 46)
theorem Rk.be {wb w W : World} {L0 : Lay} {q : Nat} (h : Rk wb w L0 q) (f : Fx (fun k => L0.F k ∨ k = q) w W) : Below wb.heap.size wb W :=
  h.bw.trans (f.below (fun k hk hs => by rcases hs with hs | hs
                                         · have := h.f0 k hs; omega
                                         · have := h.q1; omega) h.bw.size)
theorem Rk.nq {wb w : World} {L0 L : Lay} {q : Nat} (h : Rk wb w L0 q) (own : ∀ k, L.F k → L0.F k ∨ w.heap.size ≤ k) : ¬ L.F q := fun hF => by
  rcases own q hF with h1 | h1
  · exact h.qF h1
  · have := h.q2; omega
def roE (q : Nat) (fv : Value) (x : Nat × Lay) : List (Nat × Value) := [(0, .pointer (some ⟨q, 0, none⟩)), (1, fv), (5, .int .i64 (x.1 : Int))]
theorem Da.fxS {S : Nat → Prop} {w w' : World} {L : Lay} {N : Nat} {d s : Nat → List UInt8} {ps : List Nat} {left c : Nat} (h : Da w L N d s ps left c) (f : Fx S w w') (hS : ∀ k, L.F k → ¬ S k) : Da w' L N d s ps left c := by
  obtain ⟨D, h1, h2⟩ := h.ex
  exact ⟨⟨D, h1.fx f hS, h2⟩, h.nd, h.lt⟩
theorem down_dz {w : World} {L : Lay} {N : Nat} {d : Nat → List UInt8} {c : Nat} (h : Dz w L N d c) : Calls Tryz.prog 23 #[.pointer (some ⟨L.p, 0, none⟩)] w fun e w' => e = .returned (.bool true) ∧ w' = w := by
  obtain ⟨D, h1, h2, _⟩ := h.ex
  exact (down_any h1).mono fun e w' ⟨g1, g2⟩ => ⟨by rw [g1, h2], g2⟩
set_option maxRecDepth 100000 in
set_option maxHeartbeats 8000000 in
theorem reopens_any {wb w : World} {L0 LA : Lay} {q p more c0 m : Nat} {lq : Option Addr} {v fv : Value} {ps : List (List UInt8)} (K : Rk wb w L0 q) (hro : Ro wb w L0 q p more c0 lq v ps LA w) (hf : Fls wb fv m) (hp1 : 1 ≤ p) (hp2 : p ≤ 20) (hmore : more ≤ 3) (hc0 : c0 ≤ 800000) : Calls Tryz.prog 25 #[.pointer (some ⟨q, 0, none⟩), fv] w fun e w' => e = .returned (.bool true) ∧ ∃ L' ql D c', Dk w' L' (4 * p + 1 + more) D 0 c' ∧ Dst p more D ps ∧ Blk w' q (rmC (some ⟨L0.p, 0, none⟩) (some ⟨ql, 0, none⟩) p more v) 40 ∧ Blk w' ql (lgC L0.p p .nilIface) 88 ∧ w.heap.size ≤ ql ∧ ¬ L'.F ql ∧ Fx (fun k => L0.F k ∨ k = q) w w' ∧ (∀ k, L'.F k → L0.F k ∨ w.heap.size ≤ k) ∧ L'.p = L0.p ∧ c' ≤ c0 + 26000 := by
  refine calls_of_args [.pointer (some ⟨q, 0, none⟩), fv] Tryz.func25 rfl 92 Tryz.ntmps25 (by show 2 ≤ 92; decide) ?_; refine EW.seq ?_; refine EW.region ?_; refine WL.assign rfl rfl rfl ?_; refine WL.done ?_; refine EW.on ?_; refine EW.seq ?_; refine EW.seq ?_; refine EW.region ?_; refine WL.assign rfl rfl rfl ?_; refine WL.done ?_; refine EW.on ?_; refine EW.block ?_; refine EW.loop (roE q fv) (fun x W => Ro wb w L0 q p more (c0 + 2000 * x.1) lq v ps x.2 W ∧ x.1 ≤ m ∧ x.1 ≤ 12) (fun x => 13 - x.1) (0, LA) [0, 1, 5] rfl ⟨hro, Nat.zero_le _, Nat.zero_le _⟩ ?_
  rintro ⟨t, Li⟩ wi ⟨ro, htm, ht12⟩
  simp only at ro htm ht12
  obtain ⟨dd, cc, dz, hst, hcc⟩ := ro.ex
  show EW _ _ _ _ [(0, .pointer (some ⟨q, 0, none⟩)), (1, fv), (5, .int .i64 (t : Int))] _
  refine EW.seq ?_; refine EW.seq ?_; refine EW.region ?_; refine WL.move rfl rfl rfl ?_; refine WL.move rfl rfl rfl ?_; refine WL.len rfl rfl rfl (hf.len _ _) ?_; refine WL.bin rfl rfl rfl rfl (int_le_t (by omega) _ _ _) ?_; refine WL.move rfl rfl rfl ?_
  first | refine WL.move rfl rfl rfl ?_ | refine WL.skip _ rfl rfl rfl ?_
  refine WL.bin rfl rfl rfl rfl (int_le_t (by omega) _ _ _) ?_; refine WL.pick rfl rfl rfl rfl ?_; refine WL.done ?_; refine EW.on ?_; refine EW.cond_t rfl ?_; refine EW.skip ?_; refine EW.on ?_; refine EW.seq ?_; refine EW.block ?_; refine EW.seq ?_; refine EW.region ?_; refine WL.move rfl rfl rfl ?_; refine WL.nilc rfl rfl rfl ?_; refine WL.field rfl rfl rfl (fld44 q 0 (by decide) _) ?_; refine WL.load rfl rfl rfl (ldD ro.rm rfl) ?_; refine WL.call [.pointer (some ⟨L0.p, 0, none⟩)] enter54 rfl rfl rfl (by rw [← ro.p]; exact up_dz dz) ?_
  rintro _ w2 ⟨rfl, L2, t2, d2⟩
  have bw2 := K.be (ro.fx.trans t2.fx (fun k hk h => (ro.own k h).elim .inl (fun h => by omega)))
  have rm2 := ro.rm.fx t2.fx (K.nq ro.own)
  refine ⟨_, rfl, ?_⟩; refine WL.assign rfl rfl rfl ?_; refine WL.done ?_; refine EW.on ?_; refine EW.seq ?_; refine EW.seq ?_; refine EW.region ?_; refine WL.move rfl rfl rfl ?_; refine WL.bin rfl rfl rfl rfl (int_ne_f rfl _ _ _) ?_; refine WL.done ?_; refine EW.on ?_; refine EW.cond_f rfl ?_; refine EW.skip ?_; refine EW.on ?_; refine EW.seq ?_; refine EW.seq ?_
  have hcs : (t < m ∧ t < 12) ∨ m ≤ t ∨ (t < m ∧ 12 ≤ t) := by omega
  rcases hcs with ⟨ha, hb⟩ | ha | ⟨ha, hb⟩
  · refine EW.region ?_; refine WL.move rfl rfl rfl ?_; refine WL.move rfl rfl rfl ?_; refine WL.len rfl rfl rfl (hf.len _ _) ?_; refine WL.bin rfl rfl rfl rfl (int_lt_t (by omega) _ _ _) ?_; refine WL.move rfl rfl rfl ?_
    first | refine WL.move rfl rfl rfl ?_ | refine WL.skip _ rfl rfl rfl ?_
    refine WL.bin rfl rfl rfl rfl (int_lt_t (by omega) _ _ _) ?_; refine WL.pick rfl rfl rfl rfl ?_; refine WL.done ?_; refine EW.on ?_; refine EW.cond_t rfl ?_
    obtain ⟨st, vk, ks, torn, off, ad, a0, a1, ix, fa0, fa1, l0, l1, hk64, hkl, hkb⟩ := (hf.at_ t (by omega)).ex
    have hpk : pickN st 140 < 140 := pickN_lt st 140 (by decide)
    refine EW.ordB [(0, 0, 0), (1, 0, 0), (2, 0, 0), (3, 0, 1), (4, 0, 0), (5, 0, 0), (6, 0, 0), (7, 0, 0), (8, 0, 1), (11, 0, 0), (12, 0, 0), (13, 0, 0), (14, 0, 0), (15, 0, 1), (9, 1, 1), (10, 0, 0), (16, 1, 0)] (by kernel_rfl) rfl (by kernel_rfl) ?_; simp only [opsZ, List.getD_cons_zero, List.getD_cons_succ]; refine ZE.move rfl rfl rfl rfl sz0 ?_; refine ZE.nilc rfl rfl rfl rfl sz0 ?_; refine ZE.field rfl rfl rfl rfl sz0 (fun W => fld44 q 0 (by decide) W) ?_; refine ZE.load rfl rfl rfl rfl sz1 (fun W hW => ldD (rm2.on (sb_of hW)) rfl) ?_; refine ZE.move rfl rfl rfl rfl sz0 ?_; refine ZE.move rfl rfl rfl rfl sz0 ?_; refine ZE.index rfl rfl rfl rfl rfl sz0 (fun W => ix W) ?_; refine ZE.field rfl rfl rfl rfl sz0 (fun W => fa0 W) ?_; refine ZE.load rfl rfl rfl rfl sz1 (fun W hW => l0 W (bw2.trans ((sb_of hW).mono bw2.size))) ?_; refine ZE.move rfl rfl rfl rfl sz0 ?_; refine ZE.move rfl rfl rfl rfl sz0 ?_; refine ZE.index rfl rfl rfl rfl rfl sz0 (fun W => ix W) ?_; refine ZE.field rfl rfl rfl rfl sz0 (fun W => fa1 W) ?_; refine ZE.load rfl rfl rfl rfl sz1 (fun W hW => l1 W (bw2.trans ((sb_of hW).mono bw2.size))) ?_; refine ZE.callV [.int .i64 st, .int .i64 ((140 : Nat) : Int)] (.int .i64 (pickN st 140 : Int)) (fun W => Below w2.heap.size w2 W) enter8 rfl rfl rfl (fun _ h => .inr h) (fun W hW => (pick_any st 140 (by decide) (by decide) W).mono fun e w' ⟨h1, h2⟩ => ⟨h1, by rw [h2]; exact hW⟩) ?_; refine ZE.bin rfl rfl rfl rfl rfl sz0 (fun W => int_add (c := ((1 + pickN st 140 : Nat) : Int)) (by rw [IntKind.wrap_i64]; omega) W _ _) ?_
    refine ZE.callR [.pointer (some ⟨L0.p, 0, none⟩), .int .i64 ((1 + pickN st 140 : Nat) : Int), .agg (lossC vk torn off).toArray] (fun v W => v = .int .i64 0 ∧ ∃ L3 f3, Turn w2 W L2 L3 ∧ Da W L3 (4 * p + 1 + more) dd dd [] f3 cc) enter20 rfl rfl rfl (fun _ _ _ => .inl rfl) (fun W hW => by
      rw [← ro.p, ← t2.p]
      refine (arm_da (d2.below hW) (1 + pickN st 140) (by omega) (by omega) vk ks torn off ((hk64.fx (Fx.of_below (S := fun _ => False) (bw2.trans (hW.mono bw2.size))) (fun _ _ h => h))) (fun hne k hk => ?_) hkl).mono fun e w' ⟨h1, L3, h2, h3⟩ => ⟨_, h1, rfl, L3, _, h2.pre hW, h3⟩
      have := hkb hne k hk
      have h5 : L2.p = L0.p := t2.p.trans ro.p
      have := K.f0 L0.p (.inl rfl)
      omega) ?_
    rintro _ ⟨_, rfl, _⟩
    rintro w3 ⟨_, L3, f3, t3, d3⟩
    refine EW.on ?_; refine EW.seq ?_
    have t23 := t2.trans t3
    have hL3 : L3.p = L0.p := t23.p.trans ro.p
    have fx3 : Fx (fun k => L0.F k ∨ k = q) w w3 := ro.fx.trans t23.fx (fun k hk h => (ro.own k h).elim .inl (fun h => by omega))
    have own3 : ∀ k, L3.F k → L0.F k ∨ w.heap.size ≤ k := fun k hk => (t23.own k hk).elim (ro.own k) (fun h => .inr (by have := ro.fx.size; omega))
    have rm3 := ro.rm.fx t23.fx (K.nq ro.own)
    refine EW.region ?_; refine WL.move rfl rfl rfl ?_; refine WL.nilc rfl rfl rfl ?_; refine WL.field rfl rfl rfl (fld44 q 0 (by decide) _) ?_; refine WL.load rfl rfl rfl (ldD rm3 rfl) ?_; refine WL.call [.pointer (some ⟨L0.p, 0, none⟩)] enter11 rfl rfl rfl (by rw [← hL3]; exact aopen_st d3 hp1 hp2 hmore (by omega) hst) ?_
    rintro e4 w4 hop0
    obtain ⟨x4, y4, z4, rfl, hop⟩ : ∃ x4 y4 z4, e4 = .returned (.tuple #[x4, .bool y4, z4]) ∧ ((z4 = .nilIface ∧ ∃ L4 f4 c4 D4, Lg w4 w3.heap.size L3.p p x4 .nilIface ∧ (∀ q, x4 = .pointer (some ⟨q, 0, none⟩) → ¬ L4.F q) ∧ Turn w3 w4 L3 L4 ∧ Da w4 L4 (4 * p + 1 + more) D4 D4 [] f4 c4 ∧ Dst p more D4 ps ∧ c4 ≤ cc + 2000 ∧ (f3 = 0 → f4 = 0)) ∨ (f3 ≠ 0 ∧ x4 = .pointer none ∧ ∃ q4, z4 = .iface 109 (.pointer (some ⟨q4, 0, none⟩)) ∧ Blk w4 q4 (fltC sOpen 0 80) 111 ∧ Gone w3 L3 (4 * p + 1 + more) (cc + 2000) (fun d' => St p more d' ps) w4)) := by
      rcases hop0 with ⟨vg, ag, L4, f4, c4, D4, rfl, k1, k2, k3, k4, k5, k6, k7⟩ | ⟨k0, ⟨u4, q4, rfl, rfl, k1⟩, k2⟩
      · exact ⟨_, _, _, rfl, .inl ⟨rfl, L4, f4, c4, D4, k1, k2, k3, k4, k5, k6, k7⟩⟩
      · exact ⟨_, _, _, rfl, .inr ⟨k0, rfl, q4, rfl, k1, k2⟩⟩
    clear hop0
    refine ⟨_, rfl, ?_⟩; refine WL.move rfl rfl rfl ?_; refine WL.extract rfl rfl rfl (ext_3 _ _ _ _).1 ?_; refine WL.extract rfl rfl rfl (ext_3 _ _ _ _).2.1 ?_; refine WL.extract rfl rfl rfl (ext_3 _ _ _ _).2.2 ?_; refine WL.assign rfl rfl rfl ?_; refine WL.assign rfl rfl rfl ?_; refine WL.assign rfl rfl rfl ?_; refine WL.done ?_; refine EW.on ?_; refine EW.seq ?_; refine EW.seq ?_
    rcases hop with ⟨rfl, L4, f4, c4, D4, ⟨q5, rfl, hq5, lg4⟩, hlg4, t4, d4, ds4, hc4, hf4⟩ | ⟨_, rfl, q4, rfl, b4, go4⟩
    · have fx4 : Fx (fun k => L0.F k ∨ k = q) w w4 := fx3.trans t4.fx (fun k hk h => (own3 k h).elim .inl (fun h => by omega))
      have own4 : ∀ k, L4.F k → L0.F k ∨ w.heap.size ≤ k := fun k hk => (t4.own k hk).elim (own3 k) (fun h => .inr (by have := fx3.size; omega))
      have hL4 : L4.p = L0.p := t4.p.trans hL3
      have rm4 := rm3.fx t4.fx (K.nq own3)
      have bw4 := K.be fx4
      rw [hL3] at lg4
      refine EW.region ?_; refine WL.move rfl rfl rfl ?_; refine WL.bin rfl rfl rfl rfl (eq24n _ _) ?_; refine WL.move rfl rfl rfl ?_
      first | refine WL.move rfl rfl rfl ?_ | refine WL.skip _ rfl rfl rfl ?_
      refine WL.bin rfl rfl rfl rfl (ne22s q5 _ _ _) ?_; refine WL.pick rfl rfl rfl rfl ?_; refine WL.done ?_; refine EW.on ?_; refine EW.cond_t rfl ?_; refine EW.seq ?_; refine EW.region ?_; refine WL.move rfl rfl rfl ?_; refine WL.move rfl rfl rfl ?_; refine WL.nilc rfl rfl rfl ?_; refine WL.field rfl rfl rfl (fld44 q 1 (by decide) _) ?_
      obtain ⟨w5, s5, rm5, x5⟩ := strm (some ⟨q5, 0, none⟩) rm4
      refine WL.store rfl rfl rfl s5 ?_; refine WL.done ?_; refine EW.on ?_; refine EW.seq ?_; refine EW.region ?_; refine WL.move rfl rfl rfl ?_; refine WL.nilc rfl rfl rfl ?_; refine WL.field rfl rfl rfl (fld44 q 0 (by decide) _) ?_; refine WL.load rfl rfl rfl (ldD rm5 rfl) ?_; refine WL.buildN [] rfl rfl rfl (build70 _) ?_; refine WL.call [.pointer (some ⟨L0.p, 0, none⟩), .int .i64 0, .agg (lossC (.slice none 0 0) 0 0).toArray] enter20 rfl rfl rfl (by rw [← hL4]; exact arm0_da (d4.fxS x5 (fun k hk e => K.nq own4 (by have e : k = q := e; rw [← e]; exact hk))) _ _ _) ?_
      rintro _ w6 ⟨rfl, L6, t6, d6⟩
      refine ⟨_, rfl, ?_⟩; refine WL.done ?_; refine EW.on ?_; refine EW.seq ?_; refine EW.region ?_; refine WL.assign rfl rfl rfl ?_; refine WL.done ?_; refine EW.on ?_; refine EW.ret ?_; refine pr_then ?_; refine pr_block ?_; refine pr_then ?_; refine pr_then ?_; refine pr_block ?_; refine pr_then ?_
      exact EW.returns Tryz.results25 rfl ⟨rfl, L6, q5, D4, c4, d6, ds4, rm5.fx t6.fx (K.nq own4), (lg4.fx x5 (fun e => by have := K.q2; have := fx3.size; omega)).fx t6.fx (hlg4 q5 rfl), by have := fx3.size; omega, fun hF => (t6.own q5 hF).elim (hlg4 q5 rfl) (fun h => by have := (lg4.fx x5 (fun e => by have := K.q2; have := fx3.size; omega)).lt; omega), (fx4.trans x5 (fun k _ h => .inr h)).trans t6.fx (fun k hk h => (own4 k h).elim .inl (fun h => by omega)), fun k hk => (t6.own k hk).elim (own4 k) (fun h => .inr (by have := fx4.size; have := x5.size; omega)), t6.p.trans hL4, by omega⟩
    · obtain ⟨L4, d4, c4, t4, dz4, hc4, hl4, hst4⟩ := go4
      have fx4 : Fx (fun k => L0.F k ∨ k = q) w w4 := fx3.trans t4.fx (fun k hk h => (own3 k h).elim .inl (fun h => by omega))
      have own4 : ∀ k, L4.F k → L0.F k ∨ w.heap.size ≤ k := fun k hk => (t4.own k hk).elim (own3 k) (fun h => .inr (by have := fx3.size; omega))
      have hL4 : L4.p = L0.p := t4.p.trans hL3
      have rm4 := rm3.fx t4.fx (K.nq own3)
      have bw4 := K.be fx4
      refine EW.region ?_; refine WL.move rfl rfl rfl ?_; refine WL.bin rfl rfl rfl rfl (eq24f _ _ _ _) ?_; refine WL.move rfl rfl rfl ?_
      first | refine WL.move rfl rfl rfl ?_ | refine WL.skip _ rfl rfl rfl ?_
      refine WL.skip _ rfl rfl rfl ?_; refine WL.pick rfl rfl rfl rfl ?_; refine WL.done ?_; refine EW.on ?_; refine EW.cond_f rfl ?_; refine EW.skip ?_; refine EW.on ?_; refine EW.seq ?_; refine EW.region ?_; refine WL.move rfl rfl rfl ?_; refine WL.bin rfl rfl rfl rfl (ne22n _ _ _) ?_; refine WL.move rfl rfl rfl ?_
      first | refine WL.move rfl rfl rfl ?_ | refine WL.skip _ rfl rfl rfl ?_
      refine WL.call [.iface 109 (.pointer (some ⟨q4, 0, none⟩))] enter22 rfl rfl rfl (code_any b4 ((bw4.cell (cell_lt K.hg)).trans K.hg)) ?_
      rintro _ w5 ⟨rfl, e5⟩
      refine ⟨_, rfl, ?_⟩; refine WL.bin rfl rfl rfl rfl (int_ne_f rfl _ _ _) ?_; refine WL.pick rfl rfl rfl rfl ?_; refine WL.move rfl rfl rfl ?_
      first | refine WL.move rfl rfl rfl ?_ | refine WL.skip _ rfl rfl rfl ?_
      first | refine WL.nilc rfl rfl rfl ?_ | refine WL.skip _ rfl rfl rfl ?_
      refine WL.field rfl rfl rfl (fld44 q 0 (by decide) _) ?_; refine WL.load rfl rfl rfl (ldD (rm4.on e5) rfl) ?_; refine WL.call [.pointer (some ⟨L0.p, 0, none⟩)] enter23 rfl rfl rfl (by rw [← hL4]; exact down_dz (dz4.below e5)) ?_
      rintro _ w6 ⟨rfl, hz6⟩
      rw [hz6]
      refine ⟨_, rfl, ?_⟩
      first | refine WL.un rfl rfl rfl (not_t _ _) ?_ | refine WL.skip _ rfl rfl rfl ?_
      refine WL.pick rfl rfl rfl rfl ?_; refine WL.done ?_; refine EW.on ?_; refine EW.cond_f rfl ?_; refine EW.skip ?_; refine pn_block ?_; refine EW.on ?_; refine EW.region ?_; refine WL.move rfl rfl rfl ?_; refine WL.bin rfl rfl rfl rfl (int_add (c := ((t + 1 : Nat) : Int)) (by rw [IntKind.wrap_i64]; omega) _ _ _) ?_; refine WL.assign rfl rfl rfl ?_; refine WL.done ?_; refine EW.again (E := roE q fv) (R := fun x W => Ro wb w L0 q p more (c0 + 2000 * x.1) lq v ps x.2 W ∧ x.1 ≤ m ∧ x.1 ≤ 12) (m := fun x => 13 - x.1) (x := (t, Li)) (t + 1, L4) [0, 1, 5] rfl ⟨⟨⟨d4, c4, dz4.below e5, hst4, by show c4 ≤ c0 + 2000 * (t + 1); omega⟩, rm4.on e5, fx4.then_below e5, own4, hL4⟩, by show t + 1 ≤ m; omega, by show t + 1 ≤ 12; omega⟩ (by show 13 - (t + 1) < 13 - t; omega)
  · refine EW.region ?_; refine WL.move rfl rfl rfl ?_; refine WL.move rfl rfl rfl ?_; refine WL.len rfl rfl rfl (hf.len _ _) ?_; refine WL.bin rfl rfl rfl rfl (int_lt_f (by omega) _ _ _) ?_; refine WL.move rfl rfl rfl ?_
    first | refine WL.move rfl rfl rfl ?_ | refine WL.skip _ rfl rfl rfl ?_
    refine WL.skip _ rfl rfl rfl ?_; refine WL.pick rfl rfl rfl rfl ?_; refine WL.done ?_; refine EW.on ?_; refine EW.cond_f rfl ?_; refine EW.skip ?_; refine EW.on ?_; refine EW.seq ?_
    obtain ⟨w3, hw3⟩ : ∃ w3, w3 = w2 := ⟨_, rfl⟩
    obtain ⟨L3, hL3e⟩ : ∃ L3, L3 = L2 := ⟨_, rfl⟩
    obtain ⟨f3, hf3⟩ : ∃ f3 : Nat, f3 = 0 := ⟨_, rfl⟩
    have d3 : Da w3 L3 (4 * p + 1 + more) dd dd [] f3 cc := by rw [hw3, hL3e, hf3]; exact d2
    have t3 : Turn w2 w3 L2 L3 := by rw [hw3, hL3e]; exact Turn.refl _ _
    rw [← hw3]
    have t23 := t2.trans t3
    have hL3 : L3.p = L0.p := t23.p.trans ro.p
    have fx3 : Fx (fun k => L0.F k ∨ k = q) w w3 := ro.fx.trans t23.fx (fun k hk h => (ro.own k h).elim .inl (fun h => by omega))
    have own3 : ∀ k, L3.F k → L0.F k ∨ w.heap.size ≤ k := fun k hk => (t23.own k hk).elim (ro.own k) (fun h => .inr (by have := ro.fx.size; omega))
    have rm3 := ro.rm.fx t23.fx (K.nq ro.own)
    refine EW.region ?_; refine WL.move rfl rfl rfl ?_; refine WL.nilc rfl rfl rfl ?_; refine WL.field rfl rfl rfl (fld44 q 0 (by decide) _) ?_; refine WL.load rfl rfl rfl (ldD rm3 rfl) ?_; refine WL.call [.pointer (some ⟨L0.p, 0, none⟩)] enter11 rfl rfl rfl (by rw [← hL3]; exact aopen_st d3 hp1 hp2 hmore (by omega) hst) ?_
    rintro e4 w4 hop0
    obtain ⟨x4, y4, z4, rfl, hop⟩ : ∃ x4 y4 z4, e4 = .returned (.tuple #[x4, .bool y4, z4]) ∧ ((z4 = .nilIface ∧ ∃ L4 f4 c4 D4, Lg w4 w3.heap.size L3.p p x4 .nilIface ∧ (∀ q, x4 = .pointer (some ⟨q, 0, none⟩) → ¬ L4.F q) ∧ Turn w3 w4 L3 L4 ∧ Da w4 L4 (4 * p + 1 + more) D4 D4 [] f4 c4 ∧ Dst p more D4 ps ∧ c4 ≤ cc + 2000 ∧ (f3 = 0 → f4 = 0)) ∨ (f3 ≠ 0 ∧ x4 = .pointer none ∧ ∃ q4, z4 = .iface 109 (.pointer (some ⟨q4, 0, none⟩)) ∧ Blk w4 q4 (fltC sOpen 0 80) 111 ∧ Gone w3 L3 (4 * p + 1 + more) (cc + 2000) (fun d' => St p more d' ps) w4)) := by
      rcases hop0 with ⟨vg, ag, L4, f4, c4, D4, rfl, k1, k2, k3, k4, k5, k6, k7⟩ | ⟨k0, ⟨u4, q4, rfl, rfl, k1⟩, k2⟩
      · exact ⟨_, _, _, rfl, .inl ⟨rfl, L4, f4, c4, D4, k1, k2, k3, k4, k5, k6, k7⟩⟩
      · exact ⟨_, _, _, rfl, .inr ⟨k0, rfl, q4, rfl, k1, k2⟩⟩
    clear hop0
    refine ⟨_, rfl, ?_⟩; refine WL.move rfl rfl rfl ?_; refine WL.extract rfl rfl rfl (ext_3 _ _ _ _).1 ?_; refine WL.extract rfl rfl rfl (ext_3 _ _ _ _).2.1 ?_; refine WL.extract rfl rfl rfl (ext_3 _ _ _ _).2.2 ?_; refine WL.assign rfl rfl rfl ?_; refine WL.assign rfl rfl rfl ?_; refine WL.assign rfl rfl rfl ?_; refine WL.done ?_; refine EW.on ?_; refine EW.seq ?_; refine EW.seq ?_
    rcases hop with ⟨rfl, L4, f4, c4, D4, ⟨q5, rfl, hq5, lg4⟩, hlg4, t4, d4, ds4, hc4, hf4⟩ | ⟨g0, _⟩
    rotate_left
    · exact absurd hf3 g0
    · have fx4 : Fx (fun k => L0.F k ∨ k = q) w w4 := fx3.trans t4.fx (fun k hk h => (own3 k h).elim .inl (fun h => by omega))
      have own4 : ∀ k, L4.F k → L0.F k ∨ w.heap.size ≤ k := fun k hk => (t4.own k hk).elim (own3 k) (fun h => .inr (by have := fx3.size; omega))
      have hL4 : L4.p = L0.p := t4.p.trans hL3
      have rm4 := rm3.fx t4.fx (K.nq own3)
      have bw4 := K.be fx4
      rw [hL3] at lg4
      refine EW.region ?_; refine WL.move rfl rfl rfl ?_; refine WL.bin rfl rfl rfl rfl (eq24n _ _) ?_; refine WL.move rfl rfl rfl ?_
      first | refine WL.move rfl rfl rfl ?_ | refine WL.skip _ rfl rfl rfl ?_
      refine WL.bin rfl rfl rfl rfl (ne22s q5 _ _ _) ?_; refine WL.pick rfl rfl rfl rfl ?_; refine WL.done ?_; refine EW.on ?_; refine EW.cond_t rfl ?_; refine EW.seq ?_; refine EW.region ?_; refine WL.move rfl rfl rfl ?_; refine WL.move rfl rfl rfl ?_; refine WL.nilc rfl rfl rfl ?_; refine WL.field rfl rfl rfl (fld44 q 1 (by decide) _) ?_
      obtain ⟨w5, s5, rm5, x5⟩ := strm (some ⟨q5, 0, none⟩) rm4
      refine WL.store rfl rfl rfl s5 ?_; refine WL.done ?_; refine EW.on ?_; refine EW.seq ?_; refine EW.region ?_; refine WL.move rfl rfl rfl ?_; refine WL.nilc rfl rfl rfl ?_; refine WL.field rfl rfl rfl (fld44 q 0 (by decide) _) ?_; refine WL.load rfl rfl rfl (ldD rm5 rfl) ?_; refine WL.buildN [] rfl rfl rfl (build70 _) ?_; refine WL.call [.pointer (some ⟨L0.p, 0, none⟩), .int .i64 0, .agg (lossC (.slice none 0 0) 0 0).toArray] enter20 rfl rfl rfl (by rw [← hL4]; exact arm0_da (d4.fxS x5 (fun k hk e => K.nq own4 (by have e : k = q := e; rw [← e]; exact hk))) _ _ _) ?_
      rintro _ w6 ⟨rfl, L6, t6, d6⟩
      refine ⟨_, rfl, ?_⟩; refine WL.done ?_; refine EW.on ?_; refine EW.seq ?_; refine EW.region ?_; refine WL.assign rfl rfl rfl ?_; refine WL.done ?_; refine EW.on ?_; refine EW.ret ?_; refine pr_then ?_; refine pr_block ?_; refine pr_then ?_; refine pr_then ?_; refine pr_block ?_; refine pr_then ?_
      exact EW.returns Tryz.results25 rfl ⟨rfl, L6, q5, D4, c4, d6, ds4, rm5.fx t6.fx (K.nq own4), (lg4.fx x5 (fun e => by have := K.q2; have := fx3.size; omega)).fx t6.fx (hlg4 q5 rfl), by have := fx3.size; omega, fun hF => (t6.own q5 hF).elim (hlg4 q5 rfl) (fun h => by have := (lg4.fx x5 (fun e => by have := K.q2; have := fx3.size; omega)).lt; omega), (fx4.trans x5 (fun k _ h => .inr h)).trans t6.fx (fun k hk h => (own4 k h).elim .inl (fun h => by omega)), fun k hk => (t6.own k hk).elim (own4 k) (fun h => .inr (by have := fx4.size; have := x5.size; omega)), t6.p.trans hL4, by omega⟩
  · refine EW.region ?_; refine WL.move rfl rfl rfl ?_; refine WL.move rfl rfl rfl ?_; refine WL.len rfl rfl rfl (hf.len _ _) ?_; refine WL.bin rfl rfl rfl rfl (int_lt_t (by omega) _ _ _) ?_; refine WL.move rfl rfl rfl ?_
    first | refine WL.move rfl rfl rfl ?_ | refine WL.skip _ rfl rfl rfl ?_
    refine WL.bin rfl rfl rfl rfl (int_lt_f (by omega) _ _ _) ?_; refine WL.pick rfl rfl rfl rfl ?_; refine WL.done ?_; refine EW.on ?_; refine EW.cond_f rfl ?_; refine EW.skip ?_; refine EW.on ?_; refine EW.seq ?_
    obtain ⟨w3, hw3⟩ : ∃ w3, w3 = w2 := ⟨_, rfl⟩
    obtain ⟨L3, hL3e⟩ : ∃ L3, L3 = L2 := ⟨_, rfl⟩
    obtain ⟨f3, hf3⟩ : ∃ f3 : Nat, f3 = 0 := ⟨_, rfl⟩
    have d3 : Da w3 L3 (4 * p + 1 + more) dd dd [] f3 cc := by rw [hw3, hL3e, hf3]; exact d2
    have t3 : Turn w2 w3 L2 L3 := by rw [hw3, hL3e]; exact Turn.refl _ _
    rw [← hw3]
    have t23 := t2.trans t3
    have hL3 : L3.p = L0.p := t23.p.trans ro.p
    have fx3 : Fx (fun k => L0.F k ∨ k = q) w w3 := ro.fx.trans t23.fx (fun k hk h => (ro.own k h).elim .inl (fun h => by omega))
    have own3 : ∀ k, L3.F k → L0.F k ∨ w.heap.size ≤ k := fun k hk => (t23.own k hk).elim (ro.own k) (fun h => .inr (by have := ro.fx.size; omega))
    have rm3 := ro.rm.fx t23.fx (K.nq ro.own)
    refine EW.region ?_; refine WL.move rfl rfl rfl ?_; refine WL.nilc rfl rfl rfl ?_; refine WL.field rfl rfl rfl (fld44 q 0 (by decide) _) ?_; refine WL.load rfl rfl rfl (ldD rm3 rfl) ?_; refine WL.call [.pointer (some ⟨L0.p, 0, none⟩)] enter11 rfl rfl rfl (by rw [← hL3]; exact aopen_st d3 hp1 hp2 hmore (by omega) hst) ?_
    rintro e4 w4 hop0
    obtain ⟨x4, y4, z4, rfl, hop⟩ : ∃ x4 y4 z4, e4 = .returned (.tuple #[x4, .bool y4, z4]) ∧ ((z4 = .nilIface ∧ ∃ L4 f4 c4 D4, Lg w4 w3.heap.size L3.p p x4 .nilIface ∧ (∀ q, x4 = .pointer (some ⟨q, 0, none⟩) → ¬ L4.F q) ∧ Turn w3 w4 L3 L4 ∧ Da w4 L4 (4 * p + 1 + more) D4 D4 [] f4 c4 ∧ Dst p more D4 ps ∧ c4 ≤ cc + 2000 ∧ (f3 = 0 → f4 = 0)) ∨ (f3 ≠ 0 ∧ x4 = .pointer none ∧ ∃ q4, z4 = .iface 109 (.pointer (some ⟨q4, 0, none⟩)) ∧ Blk w4 q4 (fltC sOpen 0 80) 111 ∧ Gone w3 L3 (4 * p + 1 + more) (cc + 2000) (fun d' => St p more d' ps) w4)) := by
      rcases hop0 with ⟨vg, ag, L4, f4, c4, D4, rfl, k1, k2, k3, k4, k5, k6, k7⟩ | ⟨k0, ⟨u4, q4, rfl, rfl, k1⟩, k2⟩
      · exact ⟨_, _, _, rfl, .inl ⟨rfl, L4, f4, c4, D4, k1, k2, k3, k4, k5, k6, k7⟩⟩
      · exact ⟨_, _, _, rfl, .inr ⟨k0, rfl, q4, rfl, k1, k2⟩⟩
    clear hop0
    refine ⟨_, rfl, ?_⟩; refine WL.move rfl rfl rfl ?_; refine WL.extract rfl rfl rfl (ext_3 _ _ _ _).1 ?_; refine WL.extract rfl rfl rfl (ext_3 _ _ _ _).2.1 ?_; refine WL.extract rfl rfl rfl (ext_3 _ _ _ _).2.2 ?_; refine WL.assign rfl rfl rfl ?_; refine WL.assign rfl rfl rfl ?_; refine WL.assign rfl rfl rfl ?_; refine WL.done ?_; refine EW.on ?_; refine EW.seq ?_; refine EW.seq ?_
    rcases hop with ⟨rfl, L4, f4, c4, D4, ⟨q5, rfl, hq5, lg4⟩, hlg4, t4, d4, ds4, hc4, hf4⟩ | ⟨g0, _⟩
    rotate_left
    · exact absurd hf3 g0
    · have fx4 : Fx (fun k => L0.F k ∨ k = q) w w4 := fx3.trans t4.fx (fun k hk h => (own3 k h).elim .inl (fun h => by omega))
      have own4 : ∀ k, L4.F k → L0.F k ∨ w.heap.size ≤ k := fun k hk => (t4.own k hk).elim (own3 k) (fun h => .inr (by have := fx3.size; omega))
      have hL4 : L4.p = L0.p := t4.p.trans hL3
      have rm4 := rm3.fx t4.fx (K.nq own3)
      have bw4 := K.be fx4
      rw [hL3] at lg4
      refine EW.region ?_; refine WL.move rfl rfl rfl ?_; refine WL.bin rfl rfl rfl rfl (eq24n _ _) ?_; refine WL.move rfl rfl rfl ?_
      first | refine WL.move rfl rfl rfl ?_ | refine WL.skip _ rfl rfl rfl ?_
      refine WL.bin rfl rfl rfl rfl (ne22s q5 _ _ _) ?_; refine WL.pick rfl rfl rfl rfl ?_; refine WL.done ?_; refine EW.on ?_; refine EW.cond_t rfl ?_; refine EW.seq ?_; refine EW.region ?_; refine WL.move rfl rfl rfl ?_; refine WL.move rfl rfl rfl ?_; refine WL.nilc rfl rfl rfl ?_; refine WL.field rfl rfl rfl (fld44 q 1 (by decide) _) ?_
      obtain ⟨w5, s5, rm5, x5⟩ := strm (some ⟨q5, 0, none⟩) rm4
      refine WL.store rfl rfl rfl s5 ?_; refine WL.done ?_; refine EW.on ?_; refine EW.seq ?_; refine EW.region ?_; refine WL.move rfl rfl rfl ?_; refine WL.nilc rfl rfl rfl ?_; refine WL.field rfl rfl rfl (fld44 q 0 (by decide) _) ?_; refine WL.load rfl rfl rfl (ldD rm5 rfl) ?_; refine WL.buildN [] rfl rfl rfl (build70 _) ?_; refine WL.call [.pointer (some ⟨L0.p, 0, none⟩), .int .i64 0, .agg (lossC (.slice none 0 0) 0 0).toArray] enter20 rfl rfl rfl (by rw [← hL4]; exact arm0_da (d4.fxS x5 (fun k hk e => K.nq own4 (by have e : k = q := e; rw [← e]; exact hk))) _ _ _) ?_
      rintro _ w6 ⟨rfl, L6, t6, d6⟩
      refine ⟨_, rfl, ?_⟩; refine WL.done ?_; refine EW.on ?_; refine EW.seq ?_; refine EW.region ?_; refine WL.assign rfl rfl rfl ?_; refine WL.done ?_; refine EW.on ?_; refine EW.ret ?_; refine pr_then ?_; refine pr_block ?_; refine pr_then ?_; refine pr_then ?_; refine pr_block ?_; refine pr_then ?_
      exact EW.returns Tryz.results25 rfl ⟨rfl, L6, q5, D4, c4, d6, ds4, rm5.fx t6.fx (K.nq own4), (lg4.fx x5 (fun e => by have := K.q2; have := fx3.size; omega)).fx t6.fx (hlg4 q5 rfl), by have := fx3.size; omega, fun hF => (t6.own q5 hF).elim (hlg4 q5 rfl) (fun h => by have := (lg4.fx x5 (fun e => by have := K.q2; have := fx3.size; omega)).lt; omega), (fx4.trans x5 (fun k _ h => .inr h)).trans t6.fx (fun k hk h => (own4 k h).elim .inl (fun h => by omega)), fun k hk => (t6.own k hk).elim (own4 k) (fun h => .inr (by have := fx4.size; have := x5.size; omega)), t6.p.trans hL4, by omega⟩
end Go.Proofs.YtmbgeojjklboeaaGreatDoor
