import Derived.Test.YtacimelcmkhhlaaKk
import Derived.Test.YtacimelcmkhhlaaOy
set_option linter.unusedVariables false
set_option linter.unusedSimpArgs false
namespace Go.Proofs.Ytacimelcmkhhlaa
open Go.RowKit

theorem conv53 (u : UInt8) (W : World) : (Go.convert 5 3 (byt u)).run Try.prog W = .ok (.int .i64 (u.toNat : Int)) W := by
  have hu := u.toNat_lt
  have e : IntKind.i64.wrap (u.toNat : Int) = (u.toNat : Int) := by rw [IntKind.wrap_i64]; omega
  unfold byt
  go_simp
theorem int_mul' {a b c : Int} (h : IntKind.i64.wrap (a * b) = c) (W : World) (x y : Operand) : (do eqGuard .mul 3 x y (.int .i64 a) (.int .i64 b); binOp .mul 3 (.int .i64 a) (.int .i64 b) : Sem Value).run Try.prog W = .ok (.int .i64 c) W := by
  subst h
  go_simp
/-- Pairs of bytes, as numbers. -/
def twN (c : List UInt8) (t : Nat) : Nat := numB (cutB c (2 * t) 2)
def twC (c : List UInt8) (t : Nat) : List Value := ((List.range 5).map fun (i : Nat) => Value.int .i64 (((if i < t then twN c i else 0 : Nat)) : Int))
theorem twC_len (c : List UInt8) (t : Nat) : (twC c t).length = 5 := by simp [twC]
theorem twC_at {c : List UInt8} {t i : Nat} (h : i < 5) : (twC c t)[i]? = some (.int .i64 (((if i < t then twN c i else 0 : Nat)) : Int)) := by
  unfold twC
  rw [List.getElem?_map, List.getElem?_range h]
  rfl
theorem twC_step {c : List UInt8} {t : Nat} (h : t < 5) : (twC c t).set t (.int .i64 (twN c t : Int)) = twC c (t + 1) := by
  apply List.ext_getElem?
  intro i
  by_cases hi : i < 5
  · rw [twC_at hi]
    by_cases e : i = t
    · subst e
      rw [List.getElem?_set_self (by rw [twC_len]; exact hi), if_pos (by omega)]
    · rw [List.getElem?_set_ne (fun h => e h.symm), twC_at hi]
      by_cases h1 : i < t
      · rw [if_pos h1, if_pos (by omega)]
      · rw [if_neg h1, if_neg (by omega)]
  · rw [List.getElem?_eq_none (by rw [List.length_set, twC_len]; omega), List.getElem?_eq_none (by rw [twC_len]; omega)]
theorem tw_two {c : List UInt8} {t : Nat} {a b : UInt8} (ha : c[2 * t]? = some a) (hb : c[2 * t + 1]? = some b) : twN c t = a.toNat * 256 + b.toNat := by
  unfold twN cutB
  have hl : 2 * t + 1 < c.length := (List.getElem?_eq_some_iff.1 hb).1
  have e : (c.drop (2 * t)).take 2 = [a, b] := by
    rw [show c.drop (2 * t) = a :: c.drop (2 * t + 1) from by
      rw [List.drop_eq_getElem_cons (by omega)]
      have := (List.getElem?_eq_some_iff.1 ha).2
      rw [this], show c.drop (2 * t + 1) = b :: c.drop (2 * t + 2) from by
      rw [List.drop_eq_getElem_cons (by omega)]
      have := (List.getElem?_eq_some_iff.1 hb).2
      rw [this]]
    rfl
  rw [e]
  simp [numB]
theorem zv119 (w : World) : (zeroValue 119).run Try.prog w = .ok (.agg (twC [] 0).toArray) w := (zero_of_info (show (Try.prog.info? 119).map (fun i => (i.zero, i.size)) = some (some (.agg (twC [] 0).toArray), 5) by kernel_rfl)).1 w
theorem twC_zero (c : List UInt8) : twC c 0 = twC [] 0 := by simp [twC]
theorem ix119 (q m : Nat) (h : m < 5) (W : World) : (Instr.indexAt 119 (.pointer (some ⟨q, 0, none⟩)) (.int .i64 (m : Int))).run Try.prog W = .ok (.pointer (some ⟨q, m, none⟩)) W := by
  have hm : (m : Int) < 5 := by omega
  go_simp
  try simp
  try rw [add_plain]
theorem bd43_6 (a b c d e : Int) (n : Nat) (W : World) : (Instr.build 43 [(0, .int .i64 a), (1, .int .i64 b), (2, .int .i64 c), (3, .int .i64 d), (4, .int .i64 e), (5, u32v n)].toArray).run Try.prog W = .ok (Lm.v ⟨a, b, c, d, e, n⟩) W := by kernel_rfl
def l3E (vb : Value) (qr q4 : Nat) (t : Nat) : List (Nat × Value) := [(0, vb), (2, .pointer (some ⟨qr, 0, none⟩)), (4, .pointer (some ⟨q4, 0, none⟩)), (5, .int .i64 (t : Int))]
def L3I (c : List UInt8) (q4 : Nat) (w2 : World) (t : Nat) (W : World) : Prop := t ≤ 5 ∧ Blk W q4 (twC c t) 119 ∧ Fx (fun k => k = q4) w2 W
section
variable {P : Program} {n : Fm} {ops : Array Oper} {S : Nat → World → Prop} {K : List (Nat × Value) → (World → Prop) → Prop} {i c lv : Nat} {ty : TypeId} {ps : String} {af : Array Edge} {gd : Option (Nat × Bool)} {r : List (Oper × Nat × Nat)} {e : List (Nat × Value)} {C : World → Prop}
theorem ZE.newR {t : TypeId} (C' : Value → World → Prop) (hw : wantE ops e ⟨some i, .alloc t, ty, ps, af, gd⟩ = some true) (hi : decide (i < n.k) = true) (h1 : ∀ v w, C' v w → S lv w) (hr : ∀ w, C w → ∃ v w', (Instr.alloc t true (.tuple #[])).run P w = .ok v w' ∧ C' v w') (k : ∀ v, (∃ w, C' v w) → wpZE P n ops S K r ((i, v) :: e) (C' v)) : wpZE P n ops S K ((⟨some i, .alloc t, ty, ps, af, gd⟩, 1, lv) :: r) e C :=
  ZE.eff C' hw hi h1 (fun W hW => by
    obtain ⟨v, w', h2, h3⟩ := hr W hW
    exact ⟨v, w', fun a ha => by simp [execOp, h2, Result.andThen], h3⟩) k
end
set_option maxRecDepth 100000 in
set_option maxHeartbeats 4000000 in
theorem rdecodeL_any (vb : Value) (c : List UInt8) (w : World) (hb : Has w vb c) (hl : c.length ≤ 140737488355328) : Calls Try.prog 53 #[vb] w fun e w' => e = .returned (.tuple #[(dLS c).v, .int .i64 (dLE c)]) ∧ Below w.heap.size w w' := by
  obtain ⟨w1, qr, r1, b1, e1, hqr⟩ := new_any (t := 43) (cs := Lm.z.cs) zv43 w
  obtain ⟨B, hBe⟩ : ∃ B, w.heap.size = B := ⟨_, rfl⟩
  have l1' := e1.size
  have hb1' := b1.lt
  refine calls_of_args [vb] Try.func53 rfl 62 Try.ntmps53 (by show 1 ≤ 62; decide) ?_
  refine EW.seq ?_
  refine EW.region ?_
  refine WL.new rfl rfl r1 ?_
  first | refine WL.assign rfl rfl rfl ?_
  refine WL.done ?_
  refine EW.on ?_
  refine EW.seq ?_
  refine EW.seq ?_
  by_cases hlt14 : c.length < 14
  · refine EW.region ?_
    first | refine WL.move rfl rfl rfl ?_
    refine WL.len rfl rfl rfl ((hb.below e1).len _ _) ?_
    refine WL.bin rfl rfl rfl rfl (int_lt_t (by omega) _ _ _) ?_
    refine WL.done ?_
    refine EW.on ?_
    refine EW.cond_t rfl ?_
    refine EW.seq ?_
    refine EW.region ?_
    refine WL.buildN [] rfl rfl rfl (bd43 _) ?_
    obtain ⟨w9, s9, b9, f9⟩ := Lm.st (s := Lm.z) b1 Lm.z_ok Lm.z_ok
    refine WL.store rfl rfl rfl s9 ?_
    first | refine WL.assign rfl rfl rfl ?_
    refine WL.done ?_
    refine EW.on ?_
    refine EW.ret ?_
    refine pr_then ?_
    refine EW.returnsCT Try.results53 rfl rfl b9 Try.underlying43 rfl (by simpa using i43) ⟨?_, bfx e1 (by omega) f9⟩
    have hE : dLE c = 10 := dL_short (by omega)
    rw [dLS, hE]
    first | rfl | (rw [if_pos rfl, (lm_is (by omega)).2]; rfl) | (rw [if_neg (by decide)]; rfl)
  · refine EW.region ?_
    first | refine WL.move rfl rfl rfl ?_
    refine WL.len rfl rfl rfl ((hb.below e1).len _ _) ?_
    refine WL.bin rfl rfl rfl rfl (int_lt_f (by omega) _ _ _) ?_
    refine WL.done ?_
    refine EW.on ?_
    refine EW.cond_f rfl ?_
    refine EW.skip ?_
    refine EW.on ?_
    refine EW.seq ?_
    refine EW.seq ?_
    by_cases hgt14 : 14 < c.length
    · refine EW.region ?_
      first | refine WL.move rfl rfl rfl ?_
      refine WL.len rfl rfl rfl ((hb.below e1).len _ _) ?_
      refine WL.bin rfl rfl rfl rfl (int_gt_t (by omega) _ _ _) ?_
      refine WL.done ?_
      refine EW.on ?_
      refine EW.cond_t rfl ?_
      refine EW.seq ?_
      refine EW.region ?_
      refine WL.buildN [] rfl rfl rfl (bd43 _) ?_
      obtain ⟨w9, s9, b9, f9⟩ := Lm.st (s := Lm.z) b1 Lm.z_ok Lm.z_ok
      refine WL.store rfl rfl rfl s9 ?_
      first | refine WL.assign rfl rfl rfl ?_
      refine WL.done ?_
      refine EW.on ?_
      refine EW.ret ?_
      refine pr_then ?_
      refine EW.returnsCT Try.results53 rfl rfl b9 Try.underlying43 rfl (by simpa using i43) ⟨?_, bfx e1 (by omega) f9⟩
      have hE : dLE c = 11 := dL_long (by omega)
      rw [dLS, hE]
      first | rfl | (rw [if_pos rfl, (lm_is (by omega)).2]; rfl) | (rw [if_neg (by decide)]; rfl)
    · refine EW.region ?_
      first | refine WL.move rfl rfl rfl ?_
      refine WL.len rfl rfl rfl ((hb.below e1).len _ _) ?_
      refine WL.bin rfl rfl rfl rfl (int_gt_f (by omega) _ _ _) ?_
      refine WL.done ?_
      refine EW.on ?_
      refine EW.cond_f rfl ?_
      refine EW.skip ?_
      refine EW.on ?_
      refine EW.seq ?_
      refine EW.region ?_
      obtain ⟨w2, q4, r4, b4, e2, hq4⟩ := new_any (t := 119) (cs := twC [] 0) zv119 w1
      refine WL.new rfl rfl r4 ?_
      rw [← twC_zero c] at b4
      have br2 := b1.on e2
      have l2 := bt e1 e2
      have hq4' := b4.lt
      refine WL.done ?_
      refine EW.on ?_
      refine EW.seq ?_
      refine EW.seq ?_
      refine EW.region ?_
      first | refine WL.assign rfl rfl rfl ?_
      refine WL.done ?_
      refine EW.on ?_
      refine EW.block ?_
      refine EW.loop (l3E vb qr q4) (L3I c q4 w2) (fun t => 5 - t) 0 [0, 2, 4, 5] rfl ⟨Nat.zero_le _, b4, Fx.refl _ _⟩ ?_
      rintro t wi ⟨htl, bi, fxi⟩
      show EW _ _ _ _ [(0, vb), (2, .pointer (some ⟨qr, 0, none⟩)), (4, .pointer (some ⟨q4, 0, none⟩)), (5, .int .i64 (t : Int))] _
      refine EW.seq ?_
      refine EW.seq ?_
      refine EW.region ?_
      first | refine WL.move rfl rfl rfl ?_
      refine WL.bin rfl rfl rfl rfl (int_lt_d _ _ _ _ _) ?_
      refine WL.done ?_
      refine EW.on ?_
      refine EW.cond_d rfl (fun h18 => ?_) (fun h18 => ?_)
      · refine EW.skip ?_
        refine EW.on ?_
        refine EW.seq ?_
        refine EW.block ?_
        have hlt : t < 5 := by omega
        have li := bfx l2 (by omega) fxi
        have hbi := hb.below li
        obtain ⟨ua, hua⟩ := ofset (l := c) (j := 2 * t) (by omega)
        obtain ⟨ub, hub⟩ := ofset (l := c) (j := 2 * t + 1) (by omega)
        have htw := tw_two hua hub
        obtain ⟨ada, ia, la⟩ : ∃ ad, (∀ W, (Instr.indexAt 38 vb (.int .i64 ((2 * t : Nat) : Int))).run Try.prog W = .ok (.pointer (some ad)) W) ∧ ∀ W, Below wi.heap.size wi W → (Instr.loadAt 5 (.pointer (some ad))).run Try.prog W = .ok (byt ua) W := by
          obtain ⟨ad, h1, h2⟩ := hbi.item hua
          refine ⟨ad, h1, fun W hW => ?_⟩
          obtain ⟨ad', h3, h4⟩ := (hbi.below hW).item hua
          have e := (h1 W).symm.trans (h3 W)
          simp at e
          rw [e]
          exact h4
        obtain ⟨adb, ib, lb⟩ : ∃ ad, (∀ W, (Instr.indexAt 38 vb (.int .i64 ((2 * t + 1 : Nat) : Int))).run Try.prog W = .ok (.pointer (some ad)) W) ∧ ∀ W, Below wi.heap.size wi W → (Instr.loadAt 5 (.pointer (some ad))).run Try.prog W = .ok (byt ub) W := by
          obtain ⟨ad, h1, h2⟩ := hbi.item hub
          refine ⟨ad, h1, fun W hW => ?_⟩
          obtain ⟨ad', h3, h4⟩ := (hbi.below hW).item hub
          have e := (h1 W).symm.trans (h3 W)
          simp at e
          rw [e]
          exact h4
        refine EW.ordB [(0, 0, 0), (1, 0, 0), (2, 0, 0), (3, 0, 0), (4, 0, 0), (5, 0, 1), (6, 0, 1), (7, 0, 0), (8, 0, 0), (9, 0, 0), (10, 0, 0), (11, 0, 0), (12, 0, 0), (13, 0, 1), (14, 0, 1), (15, 0, 0), (16, 0, 0), (17, 1, 0)] (by kernel_rfl) rfl (by kernel_rfl) ?_
        simp only [opsZ, List.getD_cons_zero, List.getD_cons_succ]
        first | refine ZE.move rfl rfl rfl rfl sz0 ?_
        first | refine ZE.move rfl rfl rfl rfl sz0 ?_
        first | refine ZE.move rfl rfl rfl rfl sz0 ?_
        refine ZE.bin rfl rfl rfl rfl rfl sz0 (fun W => int_mul' (c := ((2 * t : Nat) : Int)) (by rw [IntKind.wrap_i64]; omega) W _ _) ?_
        refine ZE.index rfl rfl rfl rfl rfl sz0 (fun W => ia W) ?_
        refine ZE.load rfl rfl rfl rfl sz1 (fun W hW => la W (sb_of hW)) ?_
        refine ZE.conv rfl rfl rfl rfl sz1 (fun W hW => conv53 ua W) ?_
        refine ZE.bin rfl rfl rfl rfl rfl sz0 (fun W => int_mul' (c := ((ua.toNat * 256 : Nat) : Int)) (by rw [IntKind.wrap_i64]; have := ua.toNat_lt; omega) W _ _) ?_
        first | refine ZE.move rfl rfl rfl rfl sz0 ?_
        first | refine ZE.move rfl rfl rfl rfl sz0 ?_
        refine ZE.bin rfl rfl rfl rfl rfl sz0 (fun W => int_mul' (c := ((2 * t : Nat) : Int)) (by rw [IntKind.wrap_i64]; omega) W _ _) ?_
        refine ZE.bin rfl rfl rfl rfl rfl sz0 (fun W => int_add (c := ((2 * t + 1 : Nat) : Int)) (by rw [IntKind.wrap_i64]; omega) W _ _) ?_
        refine ZE.index rfl rfl rfl rfl rfl sz0 (fun W => ib W) ?_
        refine ZE.load rfl rfl rfl rfl sz1 (fun W hW => lb W (sb_of hW)) ?_
        refine ZE.conv rfl rfl rfl rfl sz1 (fun W hW => conv53 ub W) ?_
        refine ZE.bin rfl rfl rfl rfl rfl sz0 (fun W => int_add (c := (twN c t : Int)) (by rw [htw, IntKind.wrap_i64]; have := ua.toNat_lt; have := ub.toNat_lt; omega) W _ _) ?_
        refine ZE.index rfl rfl rfl rfl rfl sz0 (fun W => ix119 q4 t hlt W) ?_
        refine ZE.store (fun W => Blk W q4 (twC c (t + 1)) 119 ∧ Fx (fun k => k = q4) w2 W) rfl rfl rfl (fun _ _ => .inl rfl) (fun W hW => ?_) ?_
        · obtain ⟨w', g1, g2, g3⟩ := stI (bi.on hW) (j := t) (by rw [twC_len]; exact hlt) (twN c t : Int)
          rw [twC_step hlt] at g2
          exact ⟨w', g1, g2, (fxi.then_below hW).and g3⟩
        rintro w9 ⟨b9', fx9⟩
        refine pn_block ?_
        refine EW.on ?_
        refine EW.region ?_
        first | refine WL.move rfl rfl rfl ?_
        refine WL.bin rfl rfl rfl rfl (int_add (c := ((t + 1 : Nat) : Int)) (by rw [IntKind.wrap_i64]; omega) _ _ _) ?_
        first | refine WL.assign rfl rfl rfl ?_
        refine WL.done ?_
        exact EW.again (E := l3E vb qr q4) (R := L3I c q4 w2) (m := fun t => 5 - t) (x := t) (t + 1) [0, 2, 4, 5] rfl ⟨by omega, b9', fx9⟩ (by show 5 - (t + 1) < 5 - t; omega)
      · refine EW.exit ?_
        refine px_then ?_
        refine px_then ?_
        refine px_block ?_
        refine EW.on ?_
        refine EW.seq ?_
        have hte : t = 5 := by omega
        have li := bfx l2 (by omega) fxi
        have bri := br2.fx fxi (fun e => by omega)
        have hl14 : c.length = 14 := by omega
        refine EW.region ?_
        first | refine WL.move rfl rfl rfl ?_
        have hbi := hb.below li
        have hb1 : Has wi (cutV vb 10 c.length) (c.drop 10) := by
          have h1 := hbi.cut 10 c.length (by omega) (Nat.le_refl _)
          rw [List.take_of_length_le (by rw [List.length_drop]; omega)] at h1
          exact h1
        refine WL.sliceL rfl rfl rfl rfl (by rw [sl22]; exact hbi.cutL 10 (by omega) _) ?_
        refine WL.buildN [(0, cutV vb 10 c.length)] rfl rfl rfl (bld115 _ hb1.sl _) ?_
        obtain ⟨w5, q, r5, b5, e5, hq5'⟩ := box_any 115 [cutV vb 10 c.length, .bool false] wi
        refine WL.box rfl rfl rfl r5 ?_
        have hof : ∀ k, B ≤ k → Off (cutV vb 10 c.length) (c.drop 10) k := fun k hk => by
          by_cases e2 : vb.ownBlock = some k
          · rcases hb.blk e2 with e3 | e3
            · exact .inl (by rw [e3]; rfl)
            · omega
          · exact .inr (fun e => e2 (cut_own e))
        have lis := li.size
        have tq : Tq w5 B q c 10 := ⟨_, by rw [decide_eq_false (by omega)]; exact b5, hb1.below e5, hof, by omega⟩
        have b5' := bi.on e5
        have hq5 := b5.lt
        have hqi := bi.lt
        first | refine WL.assign rfl rfl rfl ?_
        refine WL.done ?_
        refine EW.on ?_
        refine EW.seq ?_
        have kP : (lmP c).ok := ⟨numB_32 _ (by unfold cutB; rw [List.length_take]; omega)⟩
        refine EW.az (SQ (fun W => Fx (fun k => k = q) w5 W)) (levZ [(11, 1, 1), (13, 1, 1), (14, 1, 1)]) (fun W => Below w5.heap.size w5 W) 15 (by kernel_rfl) rfl (below_drawn w5) ?_
        refine AZ.seg [(0, 0, 0), (1, 0, 1), (2, 0, 0), (3, 0, 1), (4, 0, 0), (5, 0, 1), (6, 0, 0), (7, 0, 1), (8, 0, 0), (9, 0, 1), (10, 0, 0)] 4 rfl (by kernel_rfl) (sq_anti _) (by kernel_rfl) ?_
        simp only [opsZ, List.getD_cons_zero, List.getD_cons_succ]
        refine ZE.index rfl rfl rfl rfl rfl sq0 (fun W => ix119 q4 0 (by decide) W) ?_
        refine ZE.load rfl rfl rfl rfl (fun W h => .inr (Fx.of_below h)) (fun W hW => ldI (b5'.fx (sq_of hW) (fun e => by omega)) (v := (twN c 0 : Int)) (by rw [hte, twC_at (by decide), if_pos (by decide)])) ?_
        refine ZE.index rfl rfl rfl rfl rfl sq0 (fun W => ix119 q4 1 (by decide) W) ?_
        refine ZE.load rfl rfl rfl rfl (fun W h => .inr (Fx.of_below h)) (fun W hW => ldI (b5'.fx (sq_of hW) (fun e => by omega)) (v := (twN c 1 : Int)) (by rw [hte, twC_at (by decide), if_pos (by decide)])) ?_
        refine ZE.index rfl rfl rfl rfl rfl sq0 (fun W => ix119 q4 2 (by decide) W) ?_
        refine ZE.load rfl rfl rfl rfl (fun W h => .inr (Fx.of_below h)) (fun W hW => ldI (b5'.fx (sq_of hW) (fun e => by omega)) (v := (twN c 2 : Int)) (by rw [hte, twC_at (by decide), if_pos (by decide)])) ?_
        refine ZE.index rfl rfl rfl rfl rfl sq0 (fun W => ix119 q4 3 (by decide) W) ?_
        refine ZE.load rfl rfl rfl rfl (fun W h => .inr (Fx.of_below h)) (fun W hW => ldI (b5'.fx (sq_of hW) (fun e => by omega)) (v := (twN c 3 : Int)) (by rw [hte, twC_at (by decide), if_pos (by decide)])) ?_
        refine ZE.index rfl rfl rfl rfl rfl sq0 (fun W => ix119 q4 4 (by decide) W) ?_
        refine ZE.load rfl rfl rfl rfl (fun W h => .inr (Fx.of_below h)) (fun W hW => ldI (b5'.fx (sq_of hW) (fun e => by omega)) (v := (twN c 4 : Int)) (by rw [hte, twC_at (by decide), if_pos (by decide)])) ?_
        refine ZE.move rfl rfl rfl rfl sq0 ?_
        refine AZ.two 3 11 1 13 1 rfl (by kernel_rfl) ?_ ?_
        · simp only [List.getD_cons_zero, List.getD_cons_succ]
          refine ZE.callR [.pointer (some ⟨q, 0, none⟩)] (fun v W => v = u32v (numB (tkC c 10 4)) ∧ Fx (fun k => k = q) w5 W) enter68 rfl rfl rfl (fun _ _ h => .inr h.2) (fun W hW => (tq_four B q 10 c W (tq.below hW) (by have := hW.size; have := e5.size; omega) hl).mono fun e w' ⟨g1, g2, g3⟩ => ⟨_, g1, rfl, (Fx.of_below hW).and g3⟩) ?_
          rintro vf ⟨_, rfl, _⟩
          refine AZ.seg [(12, 0, 0), (13, 1, 1), (14, 1, 1)] 0 rfl (by kernel_rfl) (sq_anti _) (by kernel_rfl) ?_
          simp only [opsZ, List.getD_cons_zero, List.getD_cons_succ]
          refine ZE.buildN [(0, .int .i64 (twN c 0 : Int)), (1, .int .i64 (twN c 1 : Int)), (2, .int .i64 (twN c 2 : Int)), (3, .int .i64 (twN c 3 : Int)), (4, .int .i64 (twN c 4 : Int)), (5, u32v (numB (tkC c 10 4)))] rfl rfl rfl rfl sq0 (fun W => bd43_6 _ _ _ _ _ _ W) ?_
          refine ZE.newR (fun v W => ∃ q7, v = .pointer (some ⟨q7, 0, none⟩) ∧ Blk W q7 Lm.z.cs 43 ∧ w5.heap.size ≤ q7 ∧ Fx (fun k => k = q) w5 W) rfl rfl (fun _ _ ⟨_, _, _, _, h⟩ => .inr h) (fun W hW => ?_) ?_
          · obtain ⟨W2, q7, g1, g2, g3, g4⟩ := new_any (t := 43) (cs := Lm.z.cs) zv43 W
            exact ⟨_, W2, g1, q7, rfl, g2, by have := hW.2.size; omega, hW.2.then_below g3⟩
          rintro va ⟨_, q7, rfl, _, hq7, _⟩
          refine ZE.store (fun W => Blk W q7 (lmP c).cs 43 ∧ Fx (fun k => k = q) w5 W) rfl rfl rfl (fun _ h => .inr h.2) (fun W hW => ?_) ?_
          · obtain ⟨q7', hq, g1, g2, g3⟩ := hW
            obtain rfl : q7 = q7' := by simpa using hq
            obtain ⟨w', h1, h2, h3⟩ := Lm.st (s := lmP c) g1 Lm.z_ok kP
            have e10 : numB (tkC c 10 4) = numB (cutB c 10 4) := by rw [tkC_cut (by omega)]
            rw [e10]
            exact ⟨w', h1, h2, g3.trans h3 (fun i hi e => by have e : i = q7 := e; omega)⟩
          refine AZ.done (by kernel_rfl) ?_
          rintro w7 ⟨b7, f7⟩
          have br7 := (bri.on e5).fx f7 (fun e => by omega)
          have l7 := bfx (bt li e5) (by omega) f7
          refine EW.on ?_
          refine EW.seq ?_
          by_cases hG : GoodL (lmP c)
          · refine EW.region ?_
            refine WL.load rfl rfl rfl (Lm.ld b7 kP) ?_
            refine WL.call [(lmP c).v] enter51 rfl rfl rfl (rcheckL_any _ kP _) ?_
            rintro _ w13 ⟨rfl, e13⟩
            rw [chkL, if_pos hG]
            have b13 := b7.on e13
            have br13 := br7.on e13
            have l13 := bt l7 e13
            refine ⟨_, rfl, ?_⟩
            first | refine WL.assign rfl rfl rfl ?_
            refine WL.done ?_
            refine EW.on ?_
            refine EW.seq ?_
            refine EW.seq ?_
            refine EW.region ?_
            first | refine WL.move rfl rfl rfl ?_
            refine WL.bin rfl rfl rfl rfl (int_ne_f rfl _ _ _) ?_
            refine WL.done ?_
            refine EW.on ?_
            refine EW.cond_f rfl ?_
            refine EW.skip ?_
            refine EW.on ?_
            refine EW.seq ?_
            refine EW.region ?_
            refine WL.load rfl rfl rfl (Lm.ld b13 kP) ?_
            obtain ⟨w9, s9, b9, f9⟩ := Lm.st (s := (lmP c)) br13 Lm.z_ok kP
            refine WL.store rfl rfl rfl s9 ?_
            first | refine WL.assign rfl rfl rfl ?_
            refine WL.done ?_
            refine EW.on ?_
            refine EW.ret ?_
            refine EW.returnsCT Try.results53 rfl rfl b9 Try.underlying43 rfl (by simpa using i43) ⟨?_, bfx l13 (by omega) f9⟩
            have hE : dLE c = 0 := by rw [dL_is (by omega), chkL, if_pos hG]
            rw [dLS, hE]
            first | rfl | (rw [if_pos rfl, (lm_is (by omega)).2]; rfl) | (rw [if_neg (by decide)]; rfl)
          · refine EW.region ?_
            refine WL.load rfl rfl rfl (Lm.ld b7 kP) ?_
            refine WL.call [(lmP c).v] enter51 rfl rfl rfl (rcheckL_any _ kP _) ?_
            rintro _ w13 ⟨rfl, e13⟩
            rw [chkL, if_neg hG]
            have b13 := b7.on e13
            have br13 := br7.on e13
            have l13 := bt l7 e13
            refine ⟨_, rfl, ?_⟩
            first | refine WL.assign rfl rfl rfl ?_
            refine WL.done ?_
            refine EW.on ?_
            refine EW.seq ?_
            refine EW.seq ?_
            refine EW.region ?_
            first | refine WL.move rfl rfl rfl ?_
            refine WL.bin rfl rfl rfl rfl (int_ne_t (by decide) _ _ _) ?_
            refine WL.done ?_
            refine EW.on ?_
            refine EW.cond_t rfl ?_
            refine EW.seq ?_
            refine EW.region ?_
            refine WL.buildN [] rfl rfl rfl (bd43 _) ?_
            first | refine WL.move rfl rfl rfl ?_
            obtain ⟨w9, s9, b9, f9⟩ := Lm.st (s := Lm.z) br13 Lm.z_ok Lm.z_ok
            refine WL.store rfl rfl rfl s9 ?_
            first | refine WL.assign rfl rfl rfl ?_
            refine WL.done ?_
            refine EW.on ?_
            refine EW.ret ?_
            refine pr_then ?_
            refine EW.returnsCT Try.results53 rfl rfl b9 Try.underlying43 rfl (by simpa using i43) ⟨?_, bfx l13 (by omega) f9⟩
            have hE : dLE c = 2 := by rw [dL_is (by omega), chkL, if_neg hG]
            rw [dLS, hE]
            first | rfl | (rw [if_pos rfl, (lm_is (by omega)).2]; rfl) | (rw [if_neg (by decide)]; rfl)
        · simp only [List.getD_cons_zero, List.getD_cons_succ]
          refine ZE.newR (fun v W => ∃ q7, v = .pointer (some ⟨q7, 0, none⟩) ∧ Blk W q7 Lm.z.cs 43 ∧ w5.heap.size ≤ q7 ∧ Below w5.heap.size w5 W) rfl rfl (fun _ _ ⟨_, _, _, _, h⟩ => .inr (Fx.of_below h)) (fun W hW => ?_) ?_
          · obtain ⟨W2, q7, g1, g2, g3, g4⟩ := new_any (t := 43) (cs := Lm.z.cs) zv43 W
            exact ⟨_, W2, g1, q7, rfl, g2, by have := hW.size; omega, bt hW g3⟩
          rintro va ⟨_, q7, rfl, _, hq7, _⟩
          refine AZ.seg [(11, 1, 1), (12, 0, 0), (14, 1, 1)] 0 rfl (by kernel_rfl) (sq_anti _) (by kernel_rfl) ?_
          simp only [opsZ, List.getD_cons_zero, List.getD_cons_succ]
          refine ZE.callR [.pointer (some ⟨q, 0, none⟩)] (fun v W => v = u32v (numB (tkC c 10 4)) ∧ Blk W q7 Lm.z.cs 43 ∧ Fx (fun k => k = q) w5 W) enter68 rfl rfl rfl (fun _ _ h => .inr h.2.2) (fun W ⟨q9, e9, hB9, _, hW⟩ => by
            obtain rfl : q7 = q9 := by simpa using e9
            exact (tq_four B q 10 c W (tq.below hW) (by have := hW.size; have := e5.size; omega) hl).mono fun e w' ⟨g1, g2, g3⟩ => ⟨_, g1, rfl, hB9.fx g3 (fun e => by omega), (Fx.of_below hW).and g3⟩) ?_
          rintro vf ⟨_, rfl, _⟩
          refine ZE.buildN [(0, .int .i64 (twN c 0 : Int)), (1, .int .i64 (twN c 1 : Int)), (2, .int .i64 (twN c 2 : Int)), (3, .int .i64 (twN c 3 : Int)), (4, .int .i64 (twN c 4 : Int)), (5, u32v (numB (tkC c 10 4)))] rfl rfl rfl rfl sq0 (fun W => bd43_6 _ _ _ _ _ _ W) ?_
          refine ZE.store (fun W => Blk W q7 (lmP c).cs 43 ∧ Fx (fun k => k = q) w5 W) rfl rfl rfl (fun _ h => .inr h.2) (fun W hW => ?_) ?_
          · obtain ⟨_, g1, g3⟩ := hW
            obtain ⟨w', h1, h2, h3⟩ := Lm.st (s := lmP c) g1 Lm.z_ok kP
            have e10 : numB (tkC c 10 4) = numB (cutB c 10 4) := by rw [tkC_cut (by omega)]
            rw [e10]
            exact ⟨w', h1, h2, g3.trans h3 (fun i hi e => by have e : i = q7 := e; omega)⟩
          refine AZ.done (by kernel_rfl) ?_
          rintro w7 ⟨b7, f7⟩
          have br7 := (bri.on e5).fx f7 (fun e => by omega)
          have l7 := bfx (bt li e5) (by omega) f7
          refine EW.on ?_
          refine EW.seq ?_
          by_cases hG : GoodL (lmP c)
          · refine EW.region ?_
            refine WL.load rfl rfl rfl (Lm.ld b7 kP) ?_
            refine WL.call [(lmP c).v] enter51 rfl rfl rfl (rcheckL_any _ kP _) ?_
            rintro _ w13 ⟨rfl, e13⟩
            rw [chkL, if_pos hG]
            have b13 := b7.on e13
            have br13 := br7.on e13
            have l13 := bt l7 e13
            refine ⟨_, rfl, ?_⟩
            first | refine WL.assign rfl rfl rfl ?_
            refine WL.done ?_
            refine EW.on ?_
            refine EW.seq ?_
            refine EW.seq ?_
            refine EW.region ?_
            first | refine WL.move rfl rfl rfl ?_
            refine WL.bin rfl rfl rfl rfl (int_ne_f rfl _ _ _) ?_
            refine WL.done ?_
            refine EW.on ?_
            refine EW.cond_f rfl ?_
            refine EW.skip ?_
            refine EW.on ?_
            refine EW.seq ?_
            refine EW.region ?_
            refine WL.load rfl rfl rfl (Lm.ld b13 kP) ?_
            obtain ⟨w9, s9, b9, f9⟩ := Lm.st (s := (lmP c)) br13 Lm.z_ok kP
            refine WL.store rfl rfl rfl s9 ?_
            first | refine WL.assign rfl rfl rfl ?_
            refine WL.done ?_
            refine EW.on ?_
            refine EW.ret ?_
            refine EW.returnsCT Try.results53 rfl rfl b9 Try.underlying43 rfl (by simpa using i43) ⟨?_, bfx l13 (by omega) f9⟩
            have hE : dLE c = 0 := by rw [dL_is (by omega), chkL, if_pos hG]
            rw [dLS, hE]
            first | rfl | (rw [if_pos rfl, (lm_is (by omega)).2]; rfl) | (rw [if_neg (by decide)]; rfl)
          · refine EW.region ?_
            refine WL.load rfl rfl rfl (Lm.ld b7 kP) ?_
            refine WL.call [(lmP c).v] enter51 rfl rfl rfl (rcheckL_any _ kP _) ?_
            rintro _ w13 ⟨rfl, e13⟩
            rw [chkL, if_neg hG]
            have b13 := b7.on e13
            have br13 := br7.on e13
            have l13 := bt l7 e13
            refine ⟨_, rfl, ?_⟩
            first | refine WL.assign rfl rfl rfl ?_
            refine WL.done ?_
            refine EW.on ?_
            refine EW.seq ?_
            refine EW.seq ?_
            refine EW.region ?_
            first | refine WL.move rfl rfl rfl ?_
            refine WL.bin rfl rfl rfl rfl (int_ne_t (by decide) _ _ _) ?_
            refine WL.done ?_
            refine EW.on ?_
            refine EW.cond_t rfl ?_
            refine EW.seq ?_
            refine EW.region ?_
            refine WL.buildN [] rfl rfl rfl (bd43 _) ?_
            first | refine WL.move rfl rfl rfl ?_
            obtain ⟨w9, s9, b9, f9⟩ := Lm.st (s := Lm.z) br13 Lm.z_ok Lm.z_ok
            refine WL.store rfl rfl rfl s9 ?_
            first | refine WL.assign rfl rfl rfl ?_
            refine WL.done ?_
            refine EW.on ?_
            refine EW.ret ?_
            refine pr_then ?_
            refine EW.returnsCT Try.results53 rfl rfl b9 Try.underlying43 rfl (by simpa using i43) ⟨?_, bfx l13 (by omega) f9⟩
            have hE : dLE c = 2 := by rw [dL_is (by omega), chkL, if_neg hG]
            rw [dLS, hE]
            first | rfl | (rw [if_pos rfl, (lm_is (by omega)).2]; rfl) | (rw [if_neg (by decide)]; rfl)
end Go.Proofs.Ytacimelcmkhhlaa
