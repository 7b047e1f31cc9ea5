import Derived.Test.YtacimelcmkhhlaaKf
set_option linter.unusedVariables false
set_option linter.unusedSimpArgs false
namespace Go.Proofs.Ytacimelcmkhhlaa
open Go.RowKit

/-- The next bytes, zeros for those that are missing. -/
def tkB (r : List UInt8) (n : Nat) : List UInt8 := r.take n ++ List.replicate (n - r.length) 0
theorem tkB_len (r : List UInt8) (n : Nat) : (tkB r n).length = n := by simp [tkB]; omega
def ouB (r : List UInt8) (n t : Nat) : List UInt8 := (tkB r n).take t ++ List.replicate (n - t) 0
theorem ouB_len {r : List UInt8} {n t : Nat} (h : t ≤ n) : (ouB r n t).length = n := by simp [ouB, tkB_len]; omega
theorem ouB_zero (r : List UInt8) (n : Nat) : ouB r n 0 = List.replicate n 0 := by simp [ouB]
theorem ouB_all (r : List UInt8) (n : Nat) : ouB r n n = tkB r n := by
  unfold ouB
  rw [List.take_of_length_le (by rw [tkB_len]; exact Nat.le_refl _), Nat.sub_self]
  simp
theorem ouB_step {r : List UInt8} {n t : Nat} (h : t < n) {u : UInt8} (hu : (tkB r n)[t]? = some u) : (ouB r n t).set t u = ouB r n (t + 1) := by
  unfold ouB
  have hl : ((tkB r n).take t).length = t := by rw [List.length_take, tkB_len]; omega
  rw [List.set_append_right _ _ (by omega), hl, Nat.sub_self, show n - t = (n - (t + 1)) + 1 by omega, List.replicate_succ, List.set_cons_zero, List.take_add_one, hu]
  simp
theorem ouB_skip {r : List UInt8} {n t : Nat} (h : t < n) (hu : (tkB r n)[t]? = some 0) : ouB r n t = ouB r n (t + 1) := by
  unfold ouB
  rw [show n - t = (n - (t + 1)) + 1 by omega, List.replicate_succ, List.take_add_one, hu]
  simp
theorem tkB_at {r : List UInt8} {n t : Nat} (h : t < n) (hr : t < r.length) : (tkB r n)[t]? = r[t]? := by
  unfold tkB
  rw [List.getElem?_append_left (by rw [List.length_take]; omega), List.getElem?_take_of_lt h]
theorem tkB_pad {r : List UInt8} {n t : Nat} (h : t < n) (hr : r.length ≤ t) : (tkB r n)[t]? = some 0 := by
  unfold tkB
  rw [List.getElem?_append_right (by rw [List.length_take]; omega), List.getElem?_replicate, if_pos (by rw [List.length_take]; omega)]
structure Tk (w : World) (B q : Nat) (bv : Value) (r : List UInt8) (sh : Bool) : Prop where
  bl : Blk w q [bv, .bool sh] 115
  hs : Has w bv r
  of : ∀ k, B ≤ k → Off bv r k
  bq : B ≤ q
theorem Tk.below {w w' : World} {B q : Nat} {bv : Value} {r : List UInt8} {sh : Bool} (h : Tk w B q bv r sh) (hb : Below w.heap.size w w') : Tk w' B q bv r sh := ⟨h.bl.on hb, h.hs.below hb, h.of, h.bq⟩
theorem Tk.fx {w w' : World} {B q : Nat} {bv : Value} {r : List UInt8} {sh : Bool} (h : Tk w B q bv r sh) {S : Nat → Prop} (hf : Fx S w w') (hq : ¬ S q) (hS : ∀ k, S k → B ≤ k) : Tk w' B q bv r sh := ⟨h.bl.fx hf hq, h.hs.fxo hf (fun k hk => h.of k (hS k hk)), h.of, h.bq⟩
theorem f115_0 (q : Nat) (W : World) : (Instr.fieldAt 115 (.pointer (some ⟨q, 0, none⟩)) 0).run Try.prog W = .ok (.pointer (some ⟨q, 0, none⟩)) W := by
  go_simp
  try simp
  try rw [add_plain]
theorem f115_1 (q : Nat) (W : World) : (Instr.fieldAt 115 (.pointer (some ⟨q, 0, none⟩)) 1).run Try.prog W = .ok (.pointer (some ⟨q, 1, none⟩)) W := by
  go_simp
  try simp
  try rw [add_plain]
theorem stBo {w : World} {q j : Nat} {cs : List Value} {t : TypeId} (hb : Blk w q cs t) (hj : j < cs.length) (b : Bool) : ∃ w', (Instr.storeAt 4 (.pointer (some ⟨q, j, none⟩)) (.bool b)).run Try.prog w = .ok () w' ∧ Blk w' q (cs.set j (.bool b)) t ∧ Fx (fun k => k = q) w w' := by
  have h : w.cell? ⟨q, j, none⟩ = some (cs[j]) := by rw [hb.cell, List.getElem?_eq_getElem hj]
  have hf := hb.frozen j
  refine ⟨w.setCell ⟨q, j, none⟩ (.bool b), ?_, hb.set j _, Fx.setCell (S := fun k => k = q) _ _ _ _ rfl⟩
  go_simp
theorem ldBo {W : World} {q j : Nat} {cs : List Value} {t : TypeId} {b : Bool} (hb : Blk W q cs t) (hv : cs[j]? = some (.bool b)) : (Instr.loadAt 4 (.pointer (some ⟨q, j, none⟩))).run Try.prog W = .ok (.bool b) W := by
  have h : W.cell? ⟨q, j, none⟩ = some (.bool b) := by rw [hb.cell, hv]
  go_simp
theorem i_min (a b : Nat) (W : World) (ty : TypeId) (hty : ty = 3) : (Builtin.min_ #[3, 3] ty #[.int .i64 (a : Int), .int .i64 (b : Int)]).run Try.prog W = .ok (.int .i64 ((min a b : Nat) : Int)) W := by
  subst hty
  by_cases h : b < a
  · have e : min a b = b := by omega
    rw [e]
    go_simp
    try omega
  · have e : min a b = a := by omega
    rw [e]
    go_simp
    try omega
section
variable {P : Program} {n : Fm} {ops : Array Oper} {S : Nat → World → Prop} {K : List (Nat × Value) → (World → Prop) → Prop} {i c lv : Nat} {ty : TypeId} {ps : String} {af : Array Edge} {gd : Option (Nat × Bool)} {r : List (Oper × Nat × Nat)} {e : List (Nat × Value)} {C : World → Prop}
theorem ZE.min {x y : Operand} {ts : Array TypeId} {u u' v : Value} (h1 : decide (c = 1) = false) (hw : wantE ops e ⟨some i, .call { callee := .builtin .min, args := #[x, y], argTypes := ts }, ty, ps, af, gd⟩ = some true) (hi : decide (i < n.k) = true) (hx : evE e x = some u) (hy : evE e y = some u') (hc : ∀ w, C w → SZ S c lv C w) (hr : ∀ w, (Builtin.min_ ts ty #[u, u']).run P w = .ok v w) (k : wpZE P n ops S K r ((i, v) :: e) C) : wpZE P n ops S K ((⟨some i, .call { callee := .builtin .min, args := #[x, y], argTypes := ts }, ty, ps, af, gd⟩, c, lv) :: r) e C :=
  ZE.val h1 hw hi hc (fun a ha W hW => by simp [execOp, resolve, invoke, builtin, ha.ev hx, ha.ev hy, hr W, Result.andThen]) k
end
def takE (q : Nat) (n : Nat) (v : Value) (t : Nat) : List (Nat × Value) := [(0, .pointer (some ⟨q, 0, none⟩)), (1, .int .i64 (n : Int)), (5, v), (6, .int .i64 (t : Int))]
def TakI (w : World) (B q n : Nat) (bv v : Value) (r : List UInt8) (sh : Bool) (t : Nat) (W : World) : Prop := t ≤ n ∧ Ob W w.heap.size v (ouB r n t) ∧ Tk W B q bv r (sh || decide (r.length < t)) ∧ Fx (fun k => k = q) w W
section
variable {P : Program} {n : Fm} {ops : Array Oper} {Q : Exit → Act → World → Prop} {i : Nat} {ty : TypeId} {ps : String} {af : Array Edge} {gd : Option (Nat × Bool)} {r : List Oper} {e : List (Nat × Value)} {w w' : World}
theorem WL.mkSl {t : TypeId} {x y : Operand} {u u' v : Value} (hw : wantE ops e ⟨some i, .makeSlice t x y, ty, ps, af, gd⟩ = some true) (hi : decide (i < n.k) = true) (hx : evE e x = some u) (hy : evE e y = some u') (hr : (Instr.makeSlice t u u').run P w = .ok v w') (k : WL P n ops Q r ((i, v) :: e) w') : WL P n ops Q (⟨some i, .makeSlice t x y, ty, ps, af, gd⟩ :: r) e w :=
  WL.op i v hw rfl hi (fun a ha => by simp [execOp, ha.ev hx, ha.ev hy, hr, Result.andThen]) k
end
set_option maxRecDepth 100000 in
set_option maxHeartbeats 4000000 in
theorem tkr_any (B q n : Nat) (bv : Value) (r : List UInt8) (sh : Bool) (w : World) (tk : Tk w B q bv r sh) (hB : B ≤ w.heap.size) (hn : n ≤ 1000) (hrl' : r.length ≤ 140737488355328) : Calls Try.prog 66 #[.pointer (some ⟨q, 0, none⟩), .int .i64 (n : Int)] w fun e w' => ∃ v bv', e = .returned v ∧ Ob w' w.heap.size v (tkB r n) ∧ Tk w' B q bv' (r.drop n) (sh || decide (r.length < n)) ∧ Fx (fun k => k = q) w w' := by
  refine calls_of_args [.pointer (some ⟨q, 0, none⟩), .int .i64 (n : Int)] Try.func66 rfl 50 Try.ntmps66 (by show 2 ≤ 50; decide) ?_
  refine EW.seq ?_
  refine EW.region ?_
  first | refine WL.assign rfl rfl rfl ?_
  refine WL.done ?_
  refine EW.on ?_
  refine EW.seq ?_
  refine EW.region ?_
  first | refine WL.move rfl rfl rfl ?_
  refine WL.mkSl rfl rfl rfl rfl (run_mk22 w n (by omega)) ?_
  have ob0 := ob_new w (List.replicate n 0) (by rw [List.length_replicate]; omega) n (List.length_replicate) (by omega)
  have e0 := below_new w (.cells ((List.replicate n (0 : UInt8)).map byt).toArray 5)
  obtain ⟨w1, hw1⟩ : ∃ W, w.alloc (.cells ((List.replicate n (0 : UInt8)).map byt).toArray 5) = W := ⟨_, rfl⟩
  rw [hw1] at ob0 e0 ⊢
  rw [← ouB_zero r n] at ob0
  have tk0 := tk.below e0
  obtain ⟨v, hv⟩ : ∃ v, (Value.slice (some ⟨w.heap.size, 0, none⟩) n n) = v := ⟨_, rfl⟩
  rw [hv] at ob0 ⊢
  have hqw := tk.bl.lt
  first | refine WL.assign rfl rfl rfl ?_
  refine WL.done ?_
  refine EW.on ?_
  refine EW.seq ?_
  refine EW.seq ?_
  refine EW.region ?_
  first | refine WL.assign rfl rfl rfl ?_
  refine WL.done ?_
  refine EW.on ?_
  refine EW.block ?_
  refine EW.loop (takE q n v) (TakI w B q n bv v r sh) (fun t => n - t) 0 [0, 1, 5, 6] rfl ⟨Nat.zero_le _, ob0, by rw [decide_eq_false (by omega), Bool.or_false]; exact tk0, Fx.of_below e0⟩ ?_
  rintro t wi ⟨htn, obi, tki, fxi⟩
  show EW _ _ _ _ [(0, .pointer (some ⟨q, 0, none⟩)), (1, .int .i64 (n : Int)), (5, v), (6, .int .i64 (t : Int))] _
  refine EW.seq ?_
  refine EW.seq ?_
  refine EW.region ?_
  first | refine WL.move rfl rfl rfl ?_
  first | refine WL.move rfl rfl rfl ?_
  refine WL.bin rfl rfl rfl rfl (int_lt_d _ _ _ _ _) ?_
  refine WL.done ?_
  refine EW.on ?_
  refine EW.cond_d rfl (fun h11 => ?_) (fun h11 => ?_)
  · refine EW.skip ?_
    refine EW.on ?_
    refine EW.seq ?_
    refine EW.block ?_
    refine EW.seq ?_
    by_cases hrl : t < r.length
    · have hlt : t < n := by omega
      refine EW.region ?_
      first | refine WL.move rfl rfl rfl ?_
      first | refine WL.move rfl rfl rfl ?_
      first | refine WL.nilc rfl rfl rfl ?_
      refine WL.field rfl rfl rfl (f115_0 q _) ?_
      refine WL.load rfl rfl rfl (ldS tki.bl rfl) ?_
      refine WL.len rfl rfl rfl (tki.hs.len _ _) ?_
      refine WL.bin rfl rfl rfl rfl (int_lt_t (by omega) _ _ _) ?_
      refine WL.done ?_
      refine EW.on ?_
      refine EW.cond_t rfl ?_
      refine EW.region ?_
      first | refine WL.move rfl rfl rfl ?_
      first | refine WL.move rfl rfl rfl ?_
      first | refine WL.move rfl rfl rfl ?_
      first | refine WL.nilc rfl rfl rfl ?_
      refine WL.field rfl rfl rfl (f115_0 q _) ?_
      refine WL.load rfl rfl rfl (ldS tki.bl rfl) ?_
      first | refine WL.move rfl rfl rfl ?_
      obtain ⟨u, hu⟩ := ofset hrl
      obtain ⟨ad, iu, lu⟩ := tki.hs.item hu
      refine WL.index rfl rfl rfl rfl (iu _) ?_
      refine WL.load rfl rfl rfl lu ?_
      obtain ⟨ad2, w2, ix2, st2, ob2, f2⟩ := obi.setAtF t (by rw [ouB_len htn]; omega) u
      refine WL.index rfl rfl rfl rfl (ix2 _) ?_
      refine WL.store rfl rfl rfl st2 ?_
      have tk2 := tki.fx f2 (fun e => by have := obi.base _ e; omega) (fun k hk => by have := obi.base _ hk; have := tk.bq; omega)
      have fx2 := fxi.trans f2 (fun i hi e => by have := obi.base _ e; omega)
      rw [ouB_step hlt (by rw [tkB_at hlt hrl]; exact hu)] at ob2
      refine WL.done ?_
      refine pn_block ?_
      refine EW.on ?_
      refine EW.region ?_
      first | refine WL.move rfl rfl rfl ?_
      refine WL.bin rfl rfl rfl rfl (int_add (c := ((t + 1 : Nat) : Int)) (by rw [IntKind.wrap_i64]; omega) _ _ _) ?_
      first | refine WL.assign rfl rfl rfl ?_
      refine WL.done ?_
      have tk3 : Tk w2 B q bv r (sh || decide (r.length < t + 1)) := by rw [show (sh || decide (r.length < t + 1)) = (sh || decide (r.length < t)) by rw [decide_eq_false (show ¬ r.length < t + 1 by omega), decide_eq_false (show ¬ r.length < t by omega)]]; exact tk2
      exact EW.again (E := takE q n v) (R := TakI w B q n bv v r sh) (m := fun t => n - t) (x := t) (t + 1) [0, 1, 5, 6] rfl ⟨by omega, ob2, tk3, fx2⟩ (by show n - (t + 1) < n - t; omega)
    · have hlt : t < n := by omega
      refine EW.region ?_
      first | refine WL.move rfl rfl rfl ?_
      first | refine WL.move rfl rfl rfl ?_
      first | refine WL.nilc rfl rfl rfl ?_
      refine WL.field rfl rfl rfl (f115_0 q _) ?_
      refine WL.load rfl rfl rfl (ldS tki.bl rfl) ?_
      refine WL.len rfl rfl rfl (tki.hs.len _ _) ?_
      refine WL.bin rfl rfl rfl rfl (int_lt_f (by omega) _ _ _) ?_
      refine WL.done ?_
      refine EW.on ?_
      refine EW.cond_f rfl ?_
      refine EW.region ?_
      first | refine WL.move rfl rfl rfl ?_
      first | refine WL.nilc rfl rfl rfl ?_
      refine WL.field rfl rfl rfl (f115_1 q _) ?_
      obtain ⟨w2, st2, bl2, f2⟩ := stBo tki.bl (j := 1) (by show 1 < 2; decide) true
      refine WL.store rfl rfl rfl st2 ?_
      have ob2 := obi.fx f2 (fun k hk e => by have hk : k = q := hk; have := obi.base _ e; omega)
      rw [ouB_skip hlt (tkB_pad hlt (by omega))] at ob2
      have tk2 : Tk w2 B q bv r (sh || decide (r.length < t + 1)) := ⟨by rw [decide_eq_true (show r.length < t + 1 by omega), Bool.or_true]; exact bl2, tki.hs.fxo f2 (fun k hk => by have hk : k = q := hk; rw [hk]; exact tki.of q tki.bq), tki.of, tki.bq⟩
      have fx2 := fxi.and f2
      refine WL.done ?_
      refine pn_block ?_
      refine EW.on ?_
      refine EW.region ?_
      first | refine WL.move rfl rfl rfl ?_
      refine WL.bin rfl rfl rfl rfl (int_add (c := ((t + 1 : Nat) : Int)) (by rw [IntKind.wrap_i64]; omega) _ _ _) ?_
      first | refine WL.assign rfl rfl rfl ?_
      refine WL.done ?_
      have tk3 := tk2
      exact EW.again (E := takE q n v) (R := TakI w B q n bv v r sh) (m := fun t => n - t) (x := t) (t + 1) [0, 1, 5, 6] rfl ⟨by omega, ob2, tk3, fx2⟩ (by show n - (t + 1) < n - t; omega)
  · refine EW.exit ?_
    refine px_then ?_
    refine px_then ?_
    refine px_block ?_
    refine EW.on ?_
    refine EW.seq ?_
    have hte : t = n := by omega
    have obn : Ob wi w.heap.size v (tkB r n) := by
      have h := obi
      rw [hte, ouB_all] at h
      exact h
    refine EW.ordB [(0, 0, 0), (1, 0, 0), (2, 0, 0), (3, 0, 0), (4, 0, 1), (5, 0, 0), (6, 0, 0), (7, 0, 0), (8, 0, 0), (9, 0, 1), (10, 0, 0), (11, 0, 0), (12, 0, 0), (13, 0, 0), (14, 0, 0), (15, 1, 0)] (by kernel_rfl) rfl (by kernel_rfl) ?_
    simp only [opsZ, List.getD_cons_zero, List.getD_cons_succ]
    first | refine ZE.move rfl rfl rfl rfl sz0 ?_
    first | refine ZE.move rfl rfl rfl rfl sz0 ?_
    first | refine ZE.nilc rfl rfl rfl rfl sz0 ?_
    refine ZE.field rfl rfl rfl rfl sz0 (fun W => f115_0 q W) ?_
    refine ZE.load rfl rfl rfl rfl sz1 (fun W hW => ldS (tki.bl.on (sb_of hW)) rfl) ?_
    first | refine ZE.move rfl rfl rfl rfl sz0 ?_
    first | refine ZE.move rfl rfl rfl rfl sz0 ?_
    first | refine ZE.nilc rfl rfl rfl rfl sz0 ?_
    refine ZE.field rfl rfl rfl rfl sz0 (fun W => f115_0 q W) ?_
    refine ZE.load rfl rfl rfl rfl sz1 (fun W hW => ldS (tki.bl.on (sb_of hW)) rfl) ?_
    refine ZE.len rfl rfl rfl rfl sz0 (fun W => tki.hs.len W _) ?_
    refine ZE.min rfl rfl rfl rfl rfl sz0 (fun W => i_min n r.length W _ rfl) ?_
    refine ZE.sliceL rfl rfl rfl rfl rfl sz0 (fun W => by rw [sl22]; exact tki.hs.cutL (min n r.length) (Nat.min_le_right _ _) W) ?_
    first | refine ZE.nilc rfl rfl rfl rfl sz0 ?_
    refine ZE.field rfl rfl rfl rfl sz0 (fun W => f115_0 q W) ?_
    refine ZE.store (fun W => Ob W w.heap.size v (tkB r n) ∧ Tk W B q (cutV bv (min n r.length) r.length) (r.drop n) (sh || decide (r.length < n)) ∧ Fx (fun k => k = q) w W) rfl rfl rfl (fun _ _ => .inl rfl) (fun W hW => ?_) ?_
    · have hc : Has W (cutV bv (min n r.length) r.length) (r.drop n) := by
        have h1 := (tki.hs.below hW).cut (min n r.length) r.length (Nat.min_le_right _ _) (Nat.le_refl _)
        have e : (r.drop (min n r.length)).take (r.length - min n r.length) = r.drop n := by
          rw [List.take_of_length_le (by rw [List.length_drop]; omega)]
          rcases Nat.lt_or_ge n r.length with h | h
          · rw [Nat.min_eq_left (by omega)]
          · rw [Nat.min_eq_right h, List.drop_of_length_le (Nat.le_refl _), List.drop_of_length_le h]
        rw [e] at h1
        exact h1
      obtain ⟨ao, nn, cc, hsl⟩ := hc.sl
      have hof : ∀ k, B ≤ k → Off (cutV bv (min n r.length) r.length) (r.drop n) k := fun k hk => by
        rcases tki.of k hk with h | h
        · exact .inl (by rw [h]; exact List.drop_nil)
        · exact .inr (fun e => h (cut_own e))
      obtain ⟨W2, s2, b2, f2⟩ := stS (tki.bl.on hW) (j := 0) (by show 0 < 2; decide) ao nn cc
      rw [← hsl] at s2 b2
      refine ⟨W2, s2, (obn.below hW).fx f2 (fun k hk e => by have hk : k = q := hk; have := obi.base _ e; omega), ⟨by rw [show (sh || decide (r.length < n)) = (sh || decide (r.length < t)) by rw [hte]]; exact b2, hc.fxo f2 (fun k hk => by have hk : k = q := hk; rw [hk]; exact hof q tki.bq), hof, tki.bq⟩, (fxi.then_below hW).and f2⟩
    rintro w9 ⟨ob9, tk9, fx9⟩
    refine EW.on ?_
    refine EW.seq ?_
    refine EW.region ?_
    first | refine WL.move rfl rfl rfl ?_
    first | refine WL.assign rfl rfl rfl ?_
    refine WL.done ?_
    refine EW.on ?_
    refine EW.ret ?_
    exact EW.returns Try.results66 rfl ⟨v, _, rfl, ob9, tk9, fx9⟩
end Go.Proofs.Ytacimelcmkhhlaa
