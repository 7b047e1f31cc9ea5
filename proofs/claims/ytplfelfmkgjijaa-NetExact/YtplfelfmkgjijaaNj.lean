import Derived.Test.YtplfelfmkgjijaaNi
import Derived.Lib.ConvBytes
set_option linter.unusedVariables false
set_option linter.unusedSimpArgs false
namespace Go.Proofs.Ytplfelfmkgjijaa
open Go.RowKit

section
variable {P : Program} {n : Nat} {ops : Array Oper} {Q : Exit → Act → World → Prop} {i : Nat} {ty : TypeId} {ps : String} {af : Array Edge} {gd : Option (Nat × Bool)} {r : List Oper} {e : List (Nat × Value)} {w w' : World}
theorem WL.min {x y : Operand} {ts : Array TypeId} {u u' v : Value} (hw : wantE ops e ⟨some i, .call { callee := .builtin .min, args := #[x, y], argTypes := ts }, ty, ps, af, gd⟩ = some true) (hi : decide (i < n) = true) (hx : evE e x = some u) (hy : evE e y = some u') (hr : (Builtin.min_ ts ty #[u, u']).run P w = .ok v w) (k : WL P n ops Q r ((i, v) :: e) w) : WL P n ops Q (⟨some i, .call { callee := .builtin .min, args := #[x, y], argTypes := ts }, ty, ps, af, gd⟩ :: r) e w :=
  WL.op i v hw rfl hi (fun a ha => by simp [execOp, resolve, invoke, builtin, ha.ev hx, ha.ev hy, hr, Result.andThen]) k
end
theorem min_i (a b : Int) (ty : TypeId) (W : World) : (Builtin.min_ #[3, 3] ty #[.int .i64 a, .int .i64 b]).run Try.prog W = .ok (.int .i64 (min a b)) W := by
  go_simp
theorem str_ne_f {a b : List UInt8} (h : a = b) (W : World) (x y : Operand) : (do eqGuard .neq 9 x y (.string ⟨a.toArray⟩) (.string ⟨b.toArray⟩); binOp .neq 9 (.string ⟨a.toArray⟩) (.string ⟨b.toArray⟩) : Sem Value).run Try.prog W = .ok (.bool false) W := by
  subst h
  go_simp
theorem str_eq_t {a b : List UInt8} (h : a = b) (W : World) (x y : Operand) : (do eqGuard .eql 9 x y (.string ⟨a.toArray⟩) (.string ⟨b.toArray⟩); binOp .eql 9 (.string ⟨a.toArray⟩) (.string ⟨b.toArray⟩) : Sem Value).run Try.prog W = .ok (.bool true) W := by
  rw [str_eq_d, decide_eq_true h]
theorem str_cat (a b : List UInt8) (hl : a.length + b.length ≤ 1000000) (W : World) (x y : Operand) : (do eqGuard .add 9 x y (.string ⟨a.toArray⟩) (.string ⟨b.toArray⟩); binOp .add 9 (.string ⟨a.toArray⟩) (.string ⟨b.toArray⟩) : Sem Value).run Try.prog W = .ok (.string ⟨(a ++ b).toArray⟩) W := by
  have h1 : ¬ 9223372036854775807 < a.length + b.length := by omega
  go_simp
  apply ByteArray.ext
  simp [ByteArray.data_append]
theorem byte_ne_f (u : UInt8) (W : World) (x y : Operand) : (do eqGuard .neq 5 x y (byt u) (byt u); binOp .neq 5 (byt u) (byt u) : Sem Value).run Try.prog W = .ok (.bool false) W := by
  unfold byt
  go_simp
theorem idx29 (ad : Addr) (n cap m : Nat) (h : m < n) (W : World) : (Instr.indexAt 29 (.slice (some ad) n cap) (.int .i64 (m : Int))).run Try.prog W = .ok (.pointer (some (ad.add m))) W := by
  have hm : (m : Int) < (n : Int) := by omega
  go_simp
theorem ld5 {w : World} {ad : Addr} {u : UInt8} (h : w.cell? ad = some (byt u)) : (Instr.loadAt 5 (.pointer (some ad))).run Try.prog w = .ok (byt u) w := by
  unfold byt at *
  go_simp
theorem Has.get {w : World} {v : Value} {bs : List UInt8} (h : Has w v bs) {i : Nat} {u : UInt8} (hu : bs[i]? = some u) : ∃ ad, (∀ W, (Instr.indexAt 29 v (.int .i64 (i : Int))).run Try.prog W = .ok (.pointer (some ad)) W) ∧ ∀ W, Has W v bs → (Instr.loadAt 5 (.pointer (some ad))).run Try.prog W = .ok (byt u) W := by
  have hi : i < bs.length := (List.getElem?_eq_some_iff.1 hu).1
  rcases h with ⟨rfl, rfl⟩ | ⟨ad, cap, rfl, h2, h3⟩
  · simp at hi
  · refine ⟨ad.add i, fun W => idx29 ad _ cap i hi W, fun W hW => ?_⟩
    rcases hW with ⟨e, _⟩ | ⟨ad', cap', e, _, h4⟩
    · cases e
    · cases e
      exact ld5 (h4 i u hu)
theorem st5 {w : World} {ad : Addr} {v0 : Value} (u : UInt8) (hc : w.cell? ad = some v0) (hf : w.frozen? ad = false) : (Instr.storeAt 5 (.pointer (some ad)) (byt u)).run Try.prog w = .ok () (w.setCell ad (byt u)) := by
  unfold byt
  go_simp
/-- A byte is written. -/
theorem Own.setAt {w : World} {b : Nat} {v : Value} {bs : List UInt8} (h : Own w b v bs) {i : Nat} (hi : i < bs.length) (u : UInt8) : ∃ ad w', (∀ W, (Instr.indexAt 29 v (.int .i64 (i : Int))).run Try.prog W = .ok (.pointer (some ad)) W) ∧ (Instr.storeAt 5 (.pointer (some ad)) (byt u)).run Try.prog w = .ok () w' ∧ Own w' b v (bs.set i u) ∧ Fx (fun k => v.ownBlock = some k) w w' := by
  obtain ⟨hx, ⟨rfl, h0⟩ | ⟨g, cp, cur, rfl, hg, hh2, hnc, hc, hs, htk⟩⟩ := h
  · omega
  · have hcur : i < cur.size := by simp at hs; omega
    have hbl : Blk w g cur.toList 5 := by unfold Blk; simpa using hh2
    have hcell : w.cell? ⟨g, i, none⟩ = some cur[i] := by
      rw [hbl.cell i, Array.getElem?_toList, Array.getElem?_eq_getElem hcur]
    refine ⟨⟨g, i, none⟩, w.setCell ⟨g, i, none⟩ (byt u), fun W => ?_, st5 u hcell (hbl.frozen i), ?_, Fx.setCell (S := fun k => some g = some k) _ _ _ _ rfl⟩
    · have := idx29 ⟨g, 0, none⟩ bs.length cp i hi W
      rwa [add_plain] at this
    · refine ⟨by simp, .inr ⟨g, cp, (cur.toList.set i (byt u)).toArray, by simp, hg, ?_, by simpa using hnc, hc, by simpa using hs, ?_⟩⟩
      · have := hbl.set i (byt u)
        exact this
      · have e1 : (bs.set i u).map byt = (bs.map byt).set i (byt u) := by rw [List.map_set]
        rw [e1, List.length_set, ← htk]
        simp [List.take_set]
theorem Bx.setAt {w : World} {b : Nat} {v : Value} {bs : List UInt8} (h : Bx w b v bs) {i : Nat} (hi : i < bs.length) (u : UInt8) : ∃ ad w', (∀ W, (Instr.indexAt 29 v (.int .i64 (i : Int))).run Try.prog W = .ok (.pointer (some ad)) W) ∧ (Instr.storeAt 5 (.pointer (some ad)) (byt u)).run Try.prog w = .ok () w' ∧ Bx w' b v (bs.set i u) ∧ Fx (fun k => v.ownBlock = some k) w w' := by
  obtain ⟨g, hg, rfl, hbl⟩ := h
  have hcell : w.cell? ⟨g, i, none⟩ = some (byt bs[i]) := by
    rw [hbl.cell i, List.getElem?_map, List.getElem?_eq_getElem hi]; rfl
  refine ⟨⟨g, i, none⟩, w.setCell ⟨g, i, none⟩ (byt u), fun W => ?_, st5 u hcell (hbl.frozen i), ⟨g, hg, by rw [List.length_set], ?_⟩, Fx.setCell (S := fun k => some g = some k) _ _ _ _ rfl⟩
  · have := idx29 ⟨g, 0, none⟩ bs.length bs.length i hi W
    rwa [add_plain] at this
  · rw [List.map_set]
    exact hbl.set i (byt u)
/-- 'append' to bytes that have no spare room. -/
theorem Bx.grow {w : World} {b : Nat} {v : Value} {bs : List UInt8} (h : Bx w b v bs) {u : Value} {ys : List UInt8} (hu : Has w u ys) (hy : 0 < ys.length) (hb : bs.length + ys.length ≤ 1000000) (ty : TypeId) : ∃ v' w', (Builtin.append_ #[29, 29] ty #[v, u]).run Try.prog w = .ok v' w' ∧ Own w' w.heap.size v' (bs ++ ys) ∧ Below w.heap.size w w' := by
  obtain ⟨i0, hi, hz0, hz1, hz2⟩ := info_parts Try.info5
  have hown := h.own (by unfold maxLen; omega)
  obtain ⟨g, hg, rfl, hbl⟩ := h
  rcases hu with ⟨rfl, rfl⟩ | ⟨ad, cap, rfl, h2, h3⟩
  · simp at hy
  · have hnews : ∀ j u, (ys.map byt)[j]? = some u → w.cell? (ad.add j) = some u := by
      intro j u hj
      simp only [List.getElem?_map, Option.map_eq_some_iff] at hj
      obtain ⟨b, hb, rfl⟩ := hj
      exact h3 j b hb
    have hcap := nextcap_le (bs.length + ys.length) bs.length (by omega)
    have hr := run_append_grow (P := Try.prog) w 29 ty 5 i0 (.int .u8 0) Try.underlying29 hi hz0 ⟨g, 0, none⟩ bs.length bs.length (bs.map byt) (by simp [hz1]) (World.ownsRow.cells hown (g := g) rfl) ad ys.length cap (ys.map byt) (by simp [hz1]) hnews (by omega) (by omega) (by rw [hz2]; omega)
    refine ⟨_, _, hr, ?_, ⟨rfl, rfl, rfl, by simp, fun k hk => Below.heap_alloc w.drew _ k hk⟩⟩
    have hge := grownCap_ge w (bs.length + ys.length) bs.length 5
    refine ⟨by simp, .inr ⟨w.heap.size, _, _, by rw [List.length_append], Nat.le_refl _, heap_alloc_new w.drew _, by rw [List.length_append]; exact hge, grownCap_le_maxLen w _ bs.length 5 (by unfold maxLen; omega), ?_, ?_⟩⟩
    · simp only [Array.size_append, List.size_toArray, List.length_map, size_zeroCells, Value.cells]
      simp
      omega
    · simp only [Array.toList_append, Nat.mul_one, List.append_assoc]
      rw [← List.append_assoc, ← List.map_append, ← List.length_map (f := byt)]
      exact List.take_left
/-- 'append' of bytes to bytes of one's own. -/
theorem Own.app {w : World} {base : Nat} {v : Value} {bs : List UInt8} (h : Own w base v bs) {u : Value} {ys : List UInt8} (hu : Has w u ys) (hb : bs.length + ys.length ≤ 150000000000000) (hbase : base ≤ w.heap.size) (ty : TypeId) : ∃ v' w', (Builtin.append_ #[29, 29] ty #[v, u]).run Try.prog w = .ok v' w' ∧ Own w' base v' (bs ++ ys) ∧ Below base w w' ∧ Fx (fun k => v.ownBlock = some k) w w' := by
  obtain ⟨i0, hi, hz0, hz1, hz2⟩ := info_parts Try.info5
  rcases hu with ⟨rfl, rfl⟩ | ⟨ad, cap, rfl, h2, h3⟩
  · exact ⟨_, w, run_append_owned_none (P := Try.prog) w base 29 ty 5 i0 1 Try.underlying29 hi v _ _ h, by simpa using h, Below.refl _ _, Fx.refl _ _⟩
  · obtain ⟨v', w', r1, r2, r3⟩ := run_app w base v bs h ad cap ys h3 hb hbase ty
    exact ⟨v', w', r1, r2, (grown_fx r3).below (fun k hk e => by have := h.ownBlock k e; omega) hbase, grown_fx r3⟩
theorem bslB (bs : List UInt8) (w : World) (hl : bs.length ≤ 100000) (hr : (Instr.buildSlice 29 bs.length ((bs.map byt).zipIdx 0 |>.map fun x => (x.2, x.1)).toArray).run Try.prog w = .ok (.slice (some ⟨w.heap.size, 0, none⟩) bs.length bs.length) (w.alloc (.cells (bs.map byt).toArray 5))) : ∃ v w', (Instr.buildSlice 29 bs.length ((bs.map byt).zipIdx 0 |>.map fun x => (x.2, x.1)).toArray).run Try.prog w = .ok v w' ∧ Own w' w.heap.size v bs ∧ Below w.heap.size w w' :=
  ⟨_, _, hr, Own.ofBlk (Blk.new _ _ _) (Nat.le_refl _) (maxL hl), below_new _ _⟩
theorem bsl0 (w : World) : ∃ v w', (Instr.buildSlice 29 0 ([] : List (Nat × Value)).toArray).run Try.prog w = .ok v w' ∧ Own w' w.heap.size v [] ∧ Below w.heap.size w w' :=
  ⟨_, _, bsl22n w, Own.ofBlk (bs := []) (Blk.new _ _ _) (Nat.le_refl _) (Nat.zero_le _), below_new _ _⟩
theorem bsl2 (a b : UInt8) (w : World) : ∃ v w', (Instr.buildSlice 29 2 [(0, byt a), (1, byt b)].toArray).run Try.prog w = .ok v w' ∧ Own w' w.heap.size v [a, b] ∧ Below w.heap.size w w' :=
  bslB [a, b] w (by show 2 ≤ 100000; decide) (by unfold byt; go_simp; try rfl)
theorem bsl3 (a b c : UInt8) (w : World) : ∃ v w', (Instr.buildSlice 29 3 [(0, byt a), (1, byt b), (2, byt c)].toArray).run Try.prog w = .ok v w' ∧ Own w' w.heap.size v [a, b, c] ∧ Below w.heap.size w w' :=
  bslB [a, b, c] w (by show 3 ≤ 100000; decide) (by unfold byt; go_simp; try rfl)
set_option maxRecDepth 100000 in
set_option maxHeartbeats 4000000 in
theorem same_yes (x y : Fl) (w : World) (hx : Has w x.v x.b) (hy : Has w y.v y.b) (e : x.d = y.d) : Calls Try.prog 26 #[x.g, y.g] w fun e w' => e = .returned (.bool true) ∧ Below w.heap.size w w' := by
  unfold Fl.d at e
  simp only [Prod.mk.injEq] at e
  obtain ⟨e1, e2, e3, e4⟩ := e
  obtain ⟨w2, q2, r2, b2, l2, hq2, s2⟩ := box36 x w
  obtain ⟨w3, q3, r3, b3, l3, hq3, s3⟩ := box36 y w2
  replace b2 := b2.on l3
  have hx3 := hx.below (bt l2 l3)
  have hy3 := hy.below (bt l2 l3)
  refine calls_of_args [x.g, y.g] Try.func26 rfl 33 Try.ntmps26 (by show 2 ≤ 33; decide) ?_
  refine EW.seq ?_
  refine EW.region ?_
  refine WL.box rfl rfl rfl r2 ?_
  refine WL.box rfl rfl rfl r3 ?_
  first | refine WL.assign rfl rfl rfl ?_
  refine WL.done ?_
  refine EW.on ?_
  refine EW.seq ?_
  refine EW.region ?_
  refine WL.field rfl rfl rfl (g36_0 q2 _) ?_
  refine WL.load rfl rfl rfl (ldI b2 rfl) ?_
  refine WL.field rfl rfl rfl (g36_0 q3 _) ?_
  refine WL.load rfl rfl rfl (ldI b3 rfl) ?_
  refine WL.bin rfl rfl rfl rfl (int_eq_t e1 _ _ _) ?_
  first | refine WL.move rfl rfl rfl ?_
  refine WL.field rfl rfl rfl (g36_1 q2 _) ?_
  refine WL.load rfl rfl rfl (ldI b2 rfl) ?_
  refine WL.field rfl rfl rfl (g36_1 q3 _) ?_
  refine WL.load rfl rfl rfl (ldI b3 rfl) ?_
  refine WL.bin rfl rfl rfl rfl (int_eq_t e2 _ _ _) ?_
  first | refine WL.pick rfl rfl rfl rfl ?_
  first | refine WL.move rfl rfl rfl ?_
  refine WL.field rfl rfl rfl (g36_2 q2 _) ?_
  refine WL.load rfl rfl rfl (ldI b2 rfl) ?_
  refine WL.field rfl rfl rfl (g36_2 q3 _) ?_
  refine WL.load rfl rfl rfl (ldI b3 rfl) ?_
  refine WL.bin rfl rfl rfl rfl (int_eq_t e3 _ _ _) ?_
  first | refine WL.pick rfl rfl rfl rfl ?_
  first | refine WL.move rfl rfl rfl ?_
  refine WL.field rfl rfl rfl (g36_3 q2 _) ?_
  refine WL.load rfl rfl rfl (ldS b2 rfl) ?_
  refine WL.conv rfl rfl rfl hx3.convert ?_
  refine WL.field rfl rfl rfl (g36_3 q3 _) ?_
  refine WL.load rfl rfl rfl (ldS b3 rfl) ?_
  refine WL.conv rfl rfl rfl hy3.convert ?_
  refine WL.bin rfl rfl rfl rfl (str_eq_t e4 _ _ _) ?_
  first | refine WL.pick rfl rfl rfl rfl ?_
  first | refine WL.assign rfl rfl rfl ?_
  refine WL.done ?_
  refine EW.on ?_
  refine EW.ret ?_
  exact EW.returns Try.results26 rfl ⟨rfl, bt l2 l3⟩
theorem b36v (n f t : Int) (v : Value) (b : List UInt8) (hv : ∃ ao n c, v = .slice ao n c) (w : World) : (Instr.build 36 [(0, .int .i64 n), (1, .int .i64 f), (2, .int .i64 t), (3, v)].toArray).run Try.prog w = .ok (Fl.g ⟨n, f, t, v, b⟩) w := by
  obtain ⟨ao, l, c, rfl⟩ := hv
  exact b36 n f t ao l c b w
def three (b : List UInt8) : List (Int × Int × Int × List UInt8) := [(0, 1, 2, b), (1, 2, 1, b), (2, 1, 2, b)]
set_option maxRecDepth 100000 in
set_option maxHeartbeats 4000000 in
theorem right_yes (v vb : Value) (l : List Fl) (b : List UInt8) (w : World) (hl : Fs w v l) (hx : ∀ x ∈ l, Has w x.v x.b) (hb : Has w vb b) (e : l.map Fl.d = three b) : Calls Try.prog 13 #[v, vb] w fun e w' => e = .returned (.bool true) ∧ Below w.heap.size w w' := by
  obtain ⟨x0, x1, x2, rfl⟩ : ∃ x0 x1 x2, l = [x0, x1, x2] := by
    have h3 : l.length = 3 := by have := congrArg List.length e; simpa [three] using this
    match l, h3 with
    | [a, b, c], _ => exact ⟨a, b, c, rfl⟩
  simp only [three, List.map_cons, List.map_nil, List.cons.injEq, and_true] at e
  obtain ⟨d0, d1, d2⟩ := e
  have l0' := Below.refl w.heap.size w
  refine calls_of_args [v, vb] Try.func13 rfl 32 Try.ntmps13 (by show 2 ≤ 32; decide) ?_
  refine EW.seq ?_
  refine EW.region ?_
  first | refine WL.assign rfl rfl rfl ?_
  refine WL.done ?_
  refine EW.on ?_
  refine EW.seq ?_
  refine EW.region ?_
  first | refine WL.move rfl rfl rfl ?_
  refine WL.len rfl rfl rfl (hl.len _ _) ?_
  refine WL.bin rfl rfl rfl rfl (int_eq_t (by rfl) _ _ _) ?_
  first | refine WL.move rfl rfl rfl ?_
  first | refine WL.move rfl rfl rfl ?_ | refine WL.skip _ rfl rfl rfl ?_
  obtain ⟨ad0, ix0, lx0⟩ := (hl.on l0').get (i := 0) rfl
  refine WL.index rfl rfl rfl rfl (ix0 _) ?_
  refine WL.load rfl rfl rfl (lx0 _ (hl.on l0')).1 ?_
  first | refine WL.move rfl rfl rfl ?_ | refine WL.skip _ rfl rfl rfl ?_
  refine WL.buildN [(0, .int .i64 0), (1, .int .i64 1), (2, .int .i64 2), (3, vb)] rfl rfl rfl (b36v 0 1 2 vb b hb.sl _) ?_
  refine WL.call [Fl.g x0, Fl.g ⟨0, 1, 2, vb, b⟩] enter26 rfl rfl rfl (same_yes x0 ⟨0, 1, 2, vb, b⟩ _ ((hx x0 (by simp)).below l0') (hb.below l0') d0) ?_
  rintro y0 u0 ⟨rfl, m0⟩
  refine ⟨_, rfl, ?_⟩
  have l1' := bt l0' m0
  first | refine WL.pick rfl rfl rfl rfl ?_
  first | refine WL.move rfl rfl rfl ?_
  first | refine WL.move rfl rfl rfl ?_ | refine WL.skip _ rfl rfl rfl ?_
  obtain ⟨ad1, ix1, lx1⟩ := (hl.on l1').get (i := 1) rfl
  refine WL.index rfl rfl rfl rfl (ix1 _) ?_
  refine WL.load rfl rfl rfl (lx1 _ (hl.on l1')).1 ?_
  first | refine WL.move rfl rfl rfl ?_ | refine WL.skip _ rfl rfl rfl ?_
  refine WL.buildN [(0, .int .i64 1), (1, .int .i64 2), (2, .int .i64 1), (3, vb)] rfl rfl rfl (b36v 1 2 1 vb b hb.sl _) ?_
  refine WL.call [Fl.g x1, Fl.g ⟨1, 2, 1, vb, b⟩] enter26 rfl rfl rfl (same_yes x1 ⟨1, 2, 1, vb, b⟩ _ ((hx x1 (by simp)).below l1') (hb.below l1') d1) ?_
  rintro y1 u1 ⟨rfl, m1⟩
  refine ⟨_, rfl, ?_⟩
  have l2' := bt l1' m1
  first | refine WL.pick rfl rfl rfl rfl ?_
  first | refine WL.move rfl rfl rfl ?_
  first | refine WL.move rfl rfl rfl ?_ | refine WL.skip _ rfl rfl rfl ?_
  obtain ⟨ad2, ix2, lx2⟩ := (hl.on l2').get (i := 2) rfl
  refine WL.index rfl rfl rfl rfl (ix2 _) ?_
  refine WL.load rfl rfl rfl (lx2 _ (hl.on l2')).1 ?_
  first | refine WL.move rfl rfl rfl ?_ | refine WL.skip _ rfl rfl rfl ?_
  refine WL.buildN [(0, .int .i64 2), (1, .int .i64 1), (2, .int .i64 2), (3, vb)] rfl rfl rfl (b36v 2 1 2 vb b hb.sl _) ?_
  refine WL.call [Fl.g x2, Fl.g ⟨2, 1, 2, vb, b⟩] enter26 rfl rfl rfl (same_yes x2 ⟨2, 1, 2, vb, b⟩ _ ((hx x2 (by simp)).below l2') (hb.below l2') d2) ?_
  rintro y2 u2 ⟨rfl, m2⟩
  refine ⟨_, rfl, ?_⟩
  have l3' := bt l2' m2
  first | refine WL.pick rfl rfl rfl rfl ?_
  first | refine WL.assign rfl rfl rfl ?_
  refine WL.done ?_
  refine EW.on ?_
  refine EW.ret ?_
  exact EW.returns Try.results13 rfl ⟨rfl, l3'⟩
end Go.Proofs.Ytplfelfmkgjijaa
