import Derived.Test.YtoceepmehmacbaaDoorGdG
import Derived.Test.YtoceepmehmacbaaDoorCeG
import Derived.Lib.AppendZeros
set_option linter.unusedVariables false
set_option linter.unusedSimpArgs false
namespace Go.Proofs.YtoceepmehmacbaaDoor
open Go.RowKit

theorem appNone {w : World} {base : Nat} {v : Value} {bs : List UInt8} (ho : Own w base v bs) (ty : TypeId) : (Builtin.append_ #[40, 40] ty #[v, .slice none 0 0]).run Tryd.prog w = .ok v w := by
  obtain ⟨i0, hi, hz0, hz1, hz2⟩ := info_parts Tryd.info5
  exact run_append_owned_none (P := Tryd.prog) w base 40 ty 5 i0 1 Tryd.underlying40 hi v _ _ ho
/-- 'append' to bytes of the call's own, as a run. -/
theorem app40 {w : World} {base : Nat} {v : Value} {bs : List UInt8} (ho : Own w base v bs) {u : Value} {ys : List UInt8} (hu : Has w u ys) (hb : bs.length + ys.length ≤ 100000) (hbase : base ≤ w.heap.size) (ty : TypeId) : ∃ v' w', (Builtin.append_ #[40, 40] ty #[v, u]).run Tryd.prog w = .ok v' w' ∧ Own w' base v' (bs ++ ys) ∧ w.grownBy w' v.ownBlock := by
  obtain ⟨i0, hi, hz0, hz1, hz2⟩ := info_parts Tryd.info5
  rcases hu with ⟨rfl, rfl⟩ | ⟨ad, cap, rfl, h2, h3⟩
  · exact ⟨v, w, appNone ho ty, by simpa using ho, grown_refl _ _⟩
  · exact run_app w base v bs ho ad cap ys h3 (by omega) hbase ty
theorem grown_nil (n : Nat) (h0 : 0 < n) (hn : n ≤ 10000) (w : World) (ty : TypeId) : ∃ w' g c, (Builtin.append_ #[40, 3] ty #[.slice none 0 0, .int .i64 (n : Int)]).run Tryd.prog w = .ok (.slice (some ⟨g, 0, none⟩) n c) w' ∧ (∀ W, (Instr.sliceAt 40 (.slice (some ⟨g, 0, none⟩) n c) none (some (.int .i64 0)) none).run Tryd.prog W = .ok (.slice (some ⟨g, 0, none⟩) 0 c) W) ∧ Own w' w.heap.size (.slice (some ⟨g, 0, none⟩) 0 c) [] ∧ Below w.heap.size w w' := by
  obtain ⟨i0, hi, hz0, hz1, hz2⟩ := info_parts Tryd.info5
  have hr := Lib.run_append_nil_zeros (P := Tryd.prog) w 40 3 ty 5 i0 (.int .u8 0) .i64 .i64 Tryd.underlying40 Tryd.underlying3 hi hz0 n h0 (by rw [hz1]; decide) (by omega) (by rw [hz2]; omega)
  have hc : n ≤ grownCap w n 0 5 := by simpa using grownCap_ge w n 0 5
  have hm := grownCap_le_maxLen w n 0 5 (by unfold maxLen; omega)
  refine ⟨_, _, _, hr, fun W => ?_, ⟨rfl, .inr ⟨w.heap.size, _, _, rfl, Nat.le_refl _, heap_alloc_new w.drew _, Nat.zero_le _, hm, ?_, rfl⟩⟩, ?_⟩
  · generalize grownCap w n 0 5 = c at hc hm
    have hm' : (0 : Int) ≤ (c : Int) := by omega
    go_simp
    try simp
    try rw [add_plain]
    try simp
  · simp only [Array.size_append, size_zeroCells, Value.cells]
    simp
    omega
  · refine Below.trans (b := w.drew) ⟨rfl, rfl, rfl, Nat.le_refl _, fun _ _ => rfl⟩ ?_
    exact below_new w.drew _
theorem cap40 (ty : TypeId) (W : World) : (Builtin.cap_ #[40] ty #[.slice none 0 0]).run Tryd.prog W = .ok (.int .i64 0) W := by go_simp
theorem nil40 (W : World) : (Instr.sliceAt 40 (.slice none 0 0) none (some (.int .i64 0)) none).run Tryd.prog W = .ok (.slice none 0 0) W := by
  go_simp
section
variable {P : Program} {n : Nat} {ops : Array Oper} {Q : Exit → Act → World → Prop} {i : Nat} {ty : TypeId} {ps : String} {af : Array Edge} {gd : Option (Nat × Bool)} {r : List Oper} {e : List (Nat × Value)} {w w' : World}
theorem WL.cap {t : TypeId} {x : Operand} {u v : Value} (hw : wantE ops e ⟨some i, .call { callee := .builtin .cap, args := #[x], argTypes := #[t] }, ty, ps, af, gd⟩ = some true) (hi : decide (i < n) = true) (hx : evE e x = some u) (hr : (Builtin.cap_ #[t] ty #[u]).run P w = .ok v w) (k : WL P n ops Q r ((i, v) :: e) w) : WL P n ops Q (⟨some i, .call { callee := .builtin .cap, args := #[x], argTypes := #[t] }, ty, ps, af, gd⟩ :: r) e w :=
  WL.op i v hw rfl hi (fun a ha => by simp [execOp, resolve, invoke, builtin, ha.ev hx, hr, Result.andThen]) k
theorem WL.appN {t s : TypeId} {x y : Operand} {u u' v : Value} (hw : wantE ops e ⟨some i, .call { callee := .builtin .append, args := #[x, y], argTypes := #[t, s] }, ty, ps, af, gd⟩ = some true) (hi : decide (i < n) = true) (hx : evE e x = some u) (hy : evE e y = some u') (hr : (Builtin.append_ #[t, s] ty #[u, u']).run P w = .ok v w') (k : WL P n ops Q r ((i, v) :: e) w') : WL P n ops Q (⟨some i, .call { callee := .builtin .append, args := #[x, y], argTypes := #[t, s] }, ty, ps, af, gd⟩ :: r) e w :=
  WL.op i v hw rfl hi (fun a ha => by simp [execOp, resolve, invoke, builtin, ha.ev hx, ha.ev hy, hr, Result.andThen]) k
theorem WL.sliceH1 {t : TypeId} {x y : Operand} {u uy v : Value} (hw : wantE ops e ⟨some i, .slice t x none (some y) none, ty, ps, af, gd⟩ = some true) (hi : decide (i < n) = true) (hx : evE e x = some u) (hy : evE e y = some uy) (hr : (Instr.sliceAt t u none (some uy) none).run P w = .ok v w) (k : WL P n ops Q r ((i, v) :: e) w) : WL P n ops Q (⟨some i, .slice t x none (some y) none, ty, ps, af, gd⟩ :: r) e w :=
  WL.op i v hw rfl hi (fun a ha => by simp [execOp, ha.ev hx, ha.ev hy, hr, Result.andThen]) k
end
set_option maxRecDepth 100000 in
set_option maxHeartbeats 1000000 in
theorem grow_any (n : Nat) (h0 : 0 < n) (hn : n ≤ 10000) (w : World) : Calls Tryd.prog 68 #[.slice none 0 0, .int .i64 (n : Int)] w fun e w' => ∃ v, e = .returned v ∧ Own w' w.heap.size v [] ∧ Below w.heap.size w w' := by
  obtain ⟨w1, g, c, s1, s2, o1, l1⟩ := grown_nil n h0 hn w 40
  refine calls_of_args [.slice none 0 0, .int .i64 (n : Int)] Tryd.func68 rfl 27 Tryd.ntmps68 (by show 2 ≤ 27; decide) ?_
  refine EW.seq ?_
  refine EW.region ?_
  first | refine WL.assign rfl rfl rfl ?_
  refine WL.done ?_
  refine EW.on ?_
  refine EW.seq ?_
  refine EW.seq ?_
  refine EW.region ?_
  first | refine WL.move rfl rfl rfl ?_
  refine WL.bin rfl rfl rfl rfl (int_lt_f (by omega) _ _ _) ?_
  refine WL.done ?_
  refine EW.on ?_
  refine EW.cond_f rfl ?_
  refine EW.skip ?_
  refine EW.on ?_
  refine EW.seq ?_
  refine EW.seq ?_
  refine EW.region ?_
  first | refine WL.move rfl rfl rfl ?_
  first | refine WL.move rfl rfl rfl ?_
  refine WL.cap rfl rfl rfl (cap40 _ _) ?_
  first | refine WL.move rfl rfl rfl ?_
  refine WL.len rfl rfl rfl (Has.len (Has.nil w) _ _) ?_
  refine WL.bin rfl rfl rfl rfl (int_sub (c := 0) (by decide) _ _ _) ?_
  refine WL.bin rfl rfl rfl rfl (int_sub (c := (n : Int)) (by rw [IntKind.wrap_i64]; omega) _ _ _) ?_
  first | refine WL.assign rfl rfl rfl ?_
  refine WL.done ?_
  refine EW.on ?_
  refine EW.seq ?_
  refine EW.region ?_
  first | refine WL.move rfl rfl rfl ?_
  refine WL.bin rfl rfl rfl rfl (int_gt_t (by omega) _ _ _) ?_
  refine WL.done ?_
  refine EW.on ?_
  refine EW.cond_t rfl ?_
  refine EW.region ?_
  first | refine WL.move rfl rfl rfl ?_
  first | refine WL.move rfl rfl rfl ?_
  refine WL.cap rfl rfl rfl (cap40 _ _) ?_
  refine WL.sliceH1 rfl rfl rfl rfl (nil40 _) ?_
  first | refine WL.move rfl rfl rfl ?_
  refine WL.appN rfl rfl rfl rfl s1 ?_
  first | refine WL.move rfl rfl rfl ?_
  refine WL.len rfl rfl rfl (Has.len (Has.nil w) _ _) ?_
  refine WL.sliceH1 rfl rfl rfl rfl (s2 _) ?_
  first | refine WL.assign rfl rfl rfl ?_
  refine WL.done ?_
  refine EW.on ?_
  refine EW.seq ?_
  refine EW.region ?_
  first | refine WL.move rfl rfl rfl ?_
  first | refine WL.assign rfl rfl rfl ?_
  refine WL.done ?_
  refine EW.on ?_
  refine EW.ret ?_
  exact EW.returns Tryd.results68 rfl ⟨_, rfl, o1, l1⟩
def sumP (ps : List (Value × List UInt8)) (i : Nat) : Nat := ((ps.take i).flatMap (·.2)).length
theorem sumP_succ {ps : List (Value × List UInt8)} {k : Nat} (h : k < ps.length) : sumP ps (k + 1) = sumP ps k + ps[k].2.length := by
  unfold sumP
  rw [flat_take ps k h, List.length_append]
theorem sumP_le (ps : List (Value × List UInt8)) (k : Nat) : sumP ps k ≤ (ps.flatMap (·.2)).length := flat_len ps k
theorem Parts.at {w : World} {v : Value} {ps : List (Value × List UInt8)} (h : Parts w v ps) {k : Nat} (hk : k < ps.length) : ∃ ad, (∀ W, (Instr.indexAt 95 v (.int .i64 (k : Int))).run Tryd.prog W = .ok (.pointer (some ad)) W) ∧ (∀ W, Below w.heap.size w W → (Instr.loadAt 40 (.pointer (some ad))).run Tryd.prog W = .ok ps[k].1 W) ∧ Has w ps[k].1 ps[k].2 := by
  rcases h with ⟨rfl, rfl⟩ | ⟨ad, cap, rfl, h2, h3⟩
  · simp at hk
  · obtain ⟨h4, h5⟩ := h3 k ps[k] (List.getElem?_eq_getElem hk)
    refine ⟨ad.add k, fun W => idx24 ad _ cap k hk W, fun W hW => ?_, h5⟩
    have hc : W.cell? (ad.add k) = some ps[k].1 := (hW.cell (cell_lt h4)).trans h4
    obtain ⟨ao, c, e⟩ := h5.slice
    rw [e] at hc ⊢
    generalize ad.add k = a2 at hc ⊢
    go_simp
theorem Parts.len {w : World} {v : Value} {ps : List (Value × List UInt8)} (h : Parts w v ps) (W : World) (ty : TypeId) : (Builtin.len_ #[95] ty #[v]).run Tryd.prog W = .ok (.int .i64 (ps.length : Int)) W := by
  rcases h with ⟨rfl, rfl⟩ | ⟨ad, cap, rfl, h2, h3⟩ <;> go_simp
def c1E (v : Value) (ps : List (Value × List UInt8)) (i : Nat) : List (Nat × Value) := [(0, v), (3, .int .i64 (sumP ps i : Int)), (9, v), (10, .int .i64 (ps.length : Int)), (11, .int .i64 (i : Int))]
def c2E (v : Value) (ps : List (Value × List UInt8)) (x : Nat × Value) : List (Nat × Value) := [(6, x.2), (25, v), (26, .int .i64 (ps.length : Int)), (27, .int .i64 (x.1 : Int))]
def C2I (w : World) (ps : List (Value × List UInt8)) (x : Nat × Value) (W : World) : Prop := x.1 ≤ ps.length ∧ Own W w.heap.size x.2 ((ps.take x.1).flatMap (·.2)) ∧ Below w.heap.size w W
set_option maxRecDepth 100000 in
set_option maxHeartbeats 1000000 in
theorem concat_any (v : Value) (ps : List (Value × List UInt8)) (M : List UInt8) (hM : ps.flatMap (·.2) = M) (w : World) (hP : Parts w v ps) (h0 : 0 < M.length) (hn : M.length ≤ 10000) (hl : ps.length ≤ 1000) :
    Calls Tryd.prog 49 #[v] w fun e w' => ∃ u, e = .returned u ∧ Has w' u M ∧ Below w.heap.size w w' := by
  subst hM
  refine calls_of_args [v] Tryd.func49 rfl 36 Tryd.ntmps49 (by show 1 ≤ 36; decide) ?_
  refine EW.seq ?_
  refine EW.region ?_
  first | refine WL.assign rfl rfl rfl ?_
  refine WL.done ?_
  refine EW.on ?_
  refine EW.seq ?_
  refine EW.region ?_
  first | refine WL.assign rfl rfl rfl ?_
  refine WL.done ?_
  refine EW.on ?_
  refine EW.seq ?_
  refine EW.seq ?_
  refine EW.region ?_
  first | refine WL.move rfl rfl rfl ?_
  refine WL.len rfl rfl rfl (hP.len _ _) ?_
  first | refine WL.move rfl rfl rfl ?_
  refine WL.done ?_
  refine EW.on ?_
  refine EW.block ?_
  refine EW.loop (c1E v ps) (fun i W => i ≤ ps.length ∧ W = w) (fun i => ps.length - i) 0 [0, 3, 9, 10, 11] rfl ⟨Nat.zero_le _, rfl⟩ ?_
  rintro i wi ⟨hi, hw⟩
  rw [hw]
  show EW _ _ _ _ [(0, v), (3, .int .i64 (sumP ps i : Int)), (9, v), (10, .int .i64 (ps.length : Int)), (11, .int .i64 (i : Int))] _
  refine EW.seq ?_
  refine EW.region ?_
  refine WL.bin rfl rfl rfl rfl (int_lt_d _ _ _ _ _) ?_
  refine WL.done ?_
  refine EW.on ?_
  refine EW.seq ?_
  refine EW.cond_d rfl (fun h12 => ?_) (fun h12 => ?_)
  · refine EW.skip ?_
    refine EW.on ?_
    refine EW.seq ?_
    refine EW.block ?_
    refine EW.seq ?_
    have hlt : i < ps.length := by omega
    obtain ⟨ad, ix, ld, hh⟩ := hP.at hlt
    refine EW.region ?_
    refine WL.index rfl rfl rfl rfl (ix _) ?_
    refine WL.load rfl rfl rfl (ld _ (Below.refl _ _)) ?_
    first | refine WL.assign rfl rfl rfl ?_
    refine WL.done ?_
    refine EW.on ?_
    refine EW.seq ?_
    refine EW.region ?_
    first | refine WL.move rfl rfl rfl ?_
    first | refine WL.move rfl rfl rfl ?_
    refine WL.len rfl rfl rfl (hh.len _ _) ?_
    refine WL.bin rfl rfl rfl rfl (int_add (c := (sumP ps (i + 1) : Int)) (by rw [IntKind.wrap_i64, sumP_succ hlt]; have := sumP_le ps (i + 1); rw [sumP_succ hlt] at this; omega) _ _ _) ?_
    first | refine WL.assign rfl rfl rfl ?_
    refine WL.done ?_
    refine EW.on ?_
    refine EW.seq ?_
    refine EW.region ?_
    first | refine WL.move rfl rfl rfl ?_
    refine WL.bin rfl rfl rfl rfl (int_lt_f (by omega) _ _ _) ?_
    refine WL.done ?_
    refine EW.on ?_
    refine EW.cond_f rfl ?_
    refine EW.skip ?_
    refine pn_block ?_
    refine EW.on ?_
    refine EW.region ?_
    refine WL.bin rfl rfl rfl rfl (int_add (c := ((i + 1 : Nat) : Int)) (by rw [IntKind.wrap_i64]; omega) _ _ _) ?_
    first | refine WL.move rfl rfl rfl ?_
    refine WL.done ?_
    exact EW.again (E := c1E v ps) (R := fun i W => i ≤ ps.length ∧ W = w) (m := fun i => ps.length - i) (x := i) (i + 1) [0, 3, 9, 10, 11] rfl ⟨by omega, rfl⟩ (by show ps.length - (i + 1) < ps.length - i; omega)
  · refine EW.exit ?_
    refine px_then ?_
    refine px_then ?_
    refine px_block ?_
    refine EW.on ?_
    refine EW.seq ?_
    have hie : i = ps.length := by omega
    subst hie
    refine EW.region ?_
    first | refine WL.move rfl rfl rfl ?_
    refine WL.call [.slice none 0 0, .int .i64 (sumP ps ps.length : Int)] enter68 rfl rfl rfl (grow_any (sumP ps ps.length) (by unfold sumP; rw [List.take_length]; omega) (by have := sumP_le ps ps.length; omega) w) ?_
    rintro _ w1 ⟨v6, rfl, o6, l6⟩
    refine ⟨_, rfl, ?_⟩
    first | refine WL.assign rfl rfl rfl ?_
    refine WL.done ?_
    refine EW.on ?_
    refine EW.seq ?_
    refine EW.seq ?_
    refine EW.region ?_
    first | refine WL.move rfl rfl rfl ?_
    refine WL.len rfl rfl rfl (hP.len _ _) ?_
    first | refine WL.move rfl rfl rfl ?_
    refine WL.done ?_
    refine EW.on ?_
    refine EW.block ?_
    refine EW.loop (c2E v ps) (C2I w ps) (fun x => ps.length - x.1) (0, v6) [6, 25, 26, 27] rfl ⟨Nat.zero_le _, o6, l6⟩ ?_
    clear hi h12 hw wi
    rintro ⟨i, vN⟩ wi ⟨hi, hO, hbe⟩
    have hO : Own wi w.heap.size vN ((ps.take i).flatMap (·.2)) := hO
    show EW _ _ _ _ [(6, vN), (25, v), (26, .int .i64 (ps.length : Int)), (27, .int .i64 (i : Int))] _
    refine EW.seq ?_
    refine EW.region ?_
    refine WL.bin rfl rfl rfl rfl (int_lt_d _ _ _ _ _) ?_
    refine WL.done ?_
    refine EW.on ?_
    refine EW.seq ?_
    refine EW.cond_d rfl (fun h28 => ?_) (fun h28 => ?_)
    · refine EW.skip ?_
      refine EW.on ?_
      refine EW.seq ?_
      refine EW.block ?_
      refine EW.seq ?_
      have hlt : i < ps.length := by have h28 : (i : Int) < (ps.length : Int) := h28; omega
      obtain ⟨ad, ix, ld, hh⟩ := hP.at hlt
      refine EW.region ?_
      refine WL.index rfl rfl rfl rfl (ix _) ?_
      refine WL.load rfl rfl rfl (ld _ hbe) ?_
      first | refine WL.assign rfl rfl rfl ?_
      refine WL.done ?_
      refine EW.on ?_
      refine EW.region ?_
      first | refine WL.move rfl rfl rfl ?_
      first | refine WL.move rfl rfl rfl ?_
      obtain ⟨v', w2, s2, o2, g2⟩ := app40 hO (hh.below hbe) (by have := sumP_succ hlt; have := sumP_le ps (i + 1); unfold sumP at *; omega) hbe.size 40
      refine WL.appN rfl rfl rfl rfl s2 ?_
      first | refine WL.assign rfl rfl rfl ?_
      refine WL.done ?_
      refine pn_block ?_
      refine EW.on ?_
      refine EW.region ?_
      refine WL.bin rfl rfl rfl rfl (int_add (c := ((i + 1 : Nat) : Int)) (by rw [IntKind.wrap_i64]; omega) _ _ _) ?_
      first | refine WL.move rfl rfl rfl ?_
      refine WL.done ?_
      exact EW.again (E := c2E v ps) (R := C2I w ps) (m := fun x => ps.length - x.1) (x := (i, vN)) (i + 1, v') [6, 25, 26, 27] rfl ⟨by show i + 1 ≤ _; omega, by show Own _ _ _ ((ps.take (i + 1)).flatMap (·.2)); rw [flat_take ps i hlt]; exact o2, hbe.grown g2 hbe.size hO.ownBlock⟩ (by show ps.length - (i + 1) < ps.length - i; omega)
    · refine EW.exit ?_
      refine px_then ?_
      refine px_then ?_
      refine px_block ?_
      refine EW.on ?_
      refine EW.seq ?_
      have hie : i = ps.length := by have h28 : ¬ (i : Int) < (ps.length : Int) := h28; have hi : i ≤ ps.length := hi; omega
      subst hie
      have hO : Own wi w.heap.size vN ((ps.take ps.length).flatMap (·.2)) := hO
      rw [List.take_length] at hO
      refine EW.region ?_
      first | refine WL.move rfl rfl rfl ?_
      first | refine WL.assign rfl rfl rfl ?_
      refine WL.done ?_
      refine EW.on ?_
      refine EW.ret ?_
      exact EW.returns Tryd.results49 rfl ⟨_, rfl, hO.has, hbe⟩
end Go.Proofs.YtoceepmehmacbaaDoor
