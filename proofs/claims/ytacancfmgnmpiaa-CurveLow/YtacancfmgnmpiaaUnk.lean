import Derived.Test.YtacancfmgnmpiaaUnj
set_option linter.unusedVariables false
set_option linter.unusedSimpArgs false
namespace Go.Proofs.Ytacancfmgnmpiaa
open Go.RowKit
section
variable {P : Program} {ops : Array Oper} {Q : Exit → Act → World → Prop} {md : Region.Mode} {S : World → Prop}
/-- Operations of one value each, and two new variables, in whatever order. -/
theorem reg_new2SA {id : Nat} {l : List Oper} {o0 o1 s0o s1o ov0 ov1 : Oper} {a : Act} {w : World} (hm : P.follows .mixedOrders = true) (n : Nat) (hl : l.length = n + 6)
    (ho0 : l[n]? = some o0) (hs0 : l[n + 2]? = some s0o) (ho1 : l[n + 1]? = some o1) (hs1 : l[n + 3]? = some s1o) (hv0 : l[n + 4]? = some ov0) (hv1 : l[n + 5]? = some ov1)
    (hns : Region.noSelect l.toArray = true) (hlex : lexOkS .any l.toArray n 0 (none_ (n + 6)) = true)
    (r : Region.ready .any l.toArray (firstN n 0 (none_ (n + 6))) = [n, n + 1])
    (r0 : Region.ready .any l.toArray ((firstN n 0 (none_ (n + 6))).setIfInBounds n true) = [n + 1])
    (r1 : Region.ready .any l.toArray ((firstN n 0 (none_ (n + 6))).setIfInBounds (n + 1) true) = [n])
    (s0 : Region.ready .any l.toArray (((firstN n 0 (none_ (n + 6))).setIfInBounds n true).setIfInBounds (n + 1) true) = [n + 2])
    (s1 : Region.ready .any l.toArray ((((firstN n 0 (none_ (n + 6))).setIfInBounds n true).setIfInBounds (n + 1) true).setIfInBounds (n + 2) true) = [n + 3])
    (s2 : Region.ready .any l.toArray (((((firstN n 0 (none_ (n + 6))).setIfInBounds n true).setIfInBounds (n + 1) true).setIfInBounds (n + 2) true).setIfInBounds (n + 3) true) = [n + 4])
    (s3 : Region.ready .any l.toArray ((((((firstN n 0 (none_ (n + 6))).setIfInBounds n true).setIfInBounds (n + 1) true).setIfInBounds (n + 2) true).setIfInBounds (n + 3) true).setIfInBounds (n + 4) true) = [n + 5])
    (s4 : Region.ready .any l.toArray (((((((firstN n 0 (none_ (n + 6))).setIfInBounds n true).setIfInBounds (n + 1) true).setIfInBounds (n + 2) true).setIfInBounds (n + 3) true).setIfInBounds (n + 4) true).setIfInBounds (n + 5) true) = [])
    (t : TypeId) (zs : List Value) (hz : ∀ w, (zeroValue t).run P w = .ok (.agg zs.toArray) w) (hinf : (P.info? t).map (·.size) = some zs.length)
    (d0 : Nat) (ga0 : o0.guard = none) (da0 : o0.dst = some d0) (al0 : o0.op = .alloc t) (y0 : Operand) (gs0 : s0o.guard = none) (ds0 : s0o.dst = none) (st0 : s0o.op = .store t (.tmp d0) y0)
    (d1 : Nat) (ga1 : o1.guard = none) (da1 : o1.dst = some d1) (al1 : o1.op = .alloc t) (y1 : Operand) (gs1 : s1o.guard = none) (ds1 : s1o.dst = none) (st1 : s1o.op = .store t (.tmp d1) y1)
    (gv0 : ov0.guard = none) (p0 : Op) (op0 : ov0.op = p0) (gv1 : ov1.guard = none) (p1 : Op) (op1 : ov1.op = p1)
    (hne : d0 ≠ d1) (hyd : y0 ≠ .tmp d0 ∧ y0 ≠ .tmp d1 ∧ y1 ≠ .tmp d0 ∧ y1 ≠ .tmp d1)
    (h : wpLex P l.toArray (fun W => Below w.heap.size w W) (fun a' => ∃ (c0 c1 : List Value) (x0 x1 : Value), a'.eval y0 = .agg (List.toArray c0) ∧ zs.length = c0.length ∧ c0.toArray.all (·.oneCell') = true ∧ d0 < a'.tmps.size ∧ a'.eval y1 = .agg (List.toArray c1) ∧ zs.length = c1.length ∧ c1.toArray.all (·.oneCell') = true ∧ d1 < a'.tmps.size ∧
      (∀ g0 g1, ∀ o' : Oper, o'.op = p0 → ∀ W, (execOp ((a'.put (some d0) (.pointer (some ⟨g0, 0, none⟩))).put (some d1) (.pointer (some ⟨g1, 0, none⟩))).eval o').run P W = .ok (.value x0) W) ∧
      (∀ g0 g1, ∀ o' : Oper, o'.op = p1 → ∀ W, (execOp (((a'.put (some d0) (.pointer (some ⟨g0, 0, none⟩))).put (some d1) (.pointer (some ⟨g1, 0, none⟩))).put ov0.dst x0).eval o').run P W = .ok (.value x1) W) ∧
      ∀ g0 g1 W, w.heap.size ≤ g0 → w.heap.size ≤ g1 → g0 ≠ g1 → Below w.heap.size w W → Blk W g0 c0 t → Blk W g1 c1 t → Q .normal ((((a'.put (some d0) (.pointer (some ⟨g0, 0, none⟩))).put (some d1) (.pointer (some ⟨g1, 0, none⟩))).put ov0.dst x0).put ov1.dst x1) W) (l.take n) a) : (Code.region id l.toArray true).wp P Q a w := by
  obtain ⟨e00, e01, e10, e11⟩ := hyd
  have hn : (l.take n).length = n := by simp; omega
  have hi0 : l.toArray[n]? = some o0 := by simpa using ho0
  have hi1 : l.toArray[n + 1]? = some o1 := by simpa using ho1
  have hj0 : l.toArray[n + 2]? = some s0o := by simpa using hs0
  have hj1 : l.toArray[n + 3]? = some s1o := by simpa using hs1
  refine wp_region_any hm ?_
  refine wpAny_of_S (S := fun W => Below w.heap.size w W) _ _ _ (fun W => Below w.heap.size w W) (stable_below w) (fun _ h => h) ?_ _ (below_drawn w)
  have := wpAnyS_lex (P := P) (Q := Q) (md := .any) (S := fun W => Below w.heap.size w W) (ops := l.toArray) hns (fun W => Below w.heap.size w W) 6 (l.take n) 0 (none_ (n + 6)) a (by
      intro j hj
      rw [hn] at hj
      simp [List.getElem?_take, hj]) (by rw [hn]; exact hlex) ?_
  · rw [hn, Nat.add_comm] at this
    simpa [none_, hl] using this
  · refine wpLex_mono ?_ (l.take n) a h
    rintro a' ⟨c0, c1, x0, x1, v0, q0, u0, z0, v1, q1, u1, z1, hx0, hx1, hk⟩
    rw [hn]
    have tail : ∀ (g0 g1 : Nat) (C : World → Prop), w.heap.size ≤ g0 → w.heap.size ≤ g1 → g0 ≠ g1 → (∀ W, C W → (Below w.heap.size w W ∧ Blk W g0 zs t) ∧ Blk W g1 zs t) →
        wpAnyS P .any l.toArray Q (fun W => Below w.heap.size w W) 4 (((firstN n 0 (none_ (n + 6))).setIfInBounds n true).setIfInBounds (n + 1) true) ((a'.put (some d0) (.pointer (some ⟨g0, 0, none⟩))).put (some d1) (.pointer (some ⟨g1, 0, none⟩))) C := by
      intro g0 g1 C lo0 lo1 ne hC
      have ep0 : ((a'.put (some d0) (.pointer (some ⟨g0, 0, none⟩))).put (some d1) (.pointer (some ⟨g1, 0, none⟩))).eval (.tmp d0) = .pointer (some ⟨g0, 0, none⟩) := by
        simp [Act.eval, Act.put, z0, hne, Ne.symm hne, Array.getElem?_setIfInBounds]
      have ep1 : ((a'.put (some d0) (.pointer (some ⟨g0, 0, none⟩))).put (some d1) (.pointer (some ⟨g1, 0, none⟩))).eval (.tmp d1) = .pointer (some ⟨g1, 0, none⟩) := by
        simp [Act.eval, Act.put, z1, Array.getElem?_setIfInBounds]
      have ey0 : ((a'.put (some d0) (.pointer (some ⟨g0, 0, none⟩))).put (some d1) (.pointer (some ⟨g1, 0, none⟩))).eval y0 = .agg (List.toArray c0) := by
        rw [Act.eval_put (fun d hd hyd => e01 (by rw [hyd]; cases hd; rfl)), Act.eval_put (fun d hd hyd => e00 (by rw [hyd]; cases hd; rfl))]; exact v0
      have ey1 : ((a'.put (some d0) (.pointer (some ⟨g0, 0, none⟩))).put (some d1) (.pointer (some ⟨g1, 0, none⟩))).eval y1 = .agg (List.toArray c1) := by
        rw [Act.eval_put (fun d hd hyd => e11 (by rw [hyd]; cases hd; rfl)), Act.eval_put (fun d hd hyd => e10 (by rw [hyd]; cases hd; rfl))]; exact v1
      refine ⟨fun h => (by rw [h] at s0; cases s0), fun i hi => ?_⟩
      obtain rfl : i = n + 2 := by rw [s0] at hi; simpa using hi
      refine opS_row hj0 gs0 ds0 t (.tmp d0) y0 st0 g0 c0 zs t ep0 ey0 (fun W hW => (hC W hW).1.2) (by rw [hinf, q0]) q0 u0 (stable_2 (w0 := w) g0 g1 c0 zs t) (fun W h => h.1.1) (fun W hW => ⟨⟨below_setRow (hC W hW).1.1 _ _ lo0, (hC W hW).1.2.setRow _⟩, (hC W hW).2.setRowOther _ _ (Ne.symm ne)⟩) ?_
      refine ⟨fun h => (by rw [h] at s1; cases s1), fun i hi => ?_⟩
      obtain rfl : i = n + 3 := by rw [s1] at hi; simpa using hi
      refine opS_row hj1 gs1 ds1 t (.tmp d1) y1 st1 g1 c1 zs t ep1 ey1 (fun W hW => hW.2) (by rw [hinf, q1]) q1 u1 (stable_2 (w0 := w) g0 g1 c0 c1 t) (fun W h => h.1.1) (fun W hW => ⟨⟨below_setRow hW.1.1 _ _ lo1, hW.1.2.setRowOther _ _ ne⟩, hW.2.setRow _⟩) ?_
      refine ⟨fun h => (by rw [h] at s2; cases s2), fun i hi => ?_⟩
      obtain rfl : i = n + 4 := by rw [s2] at hi; simpa using hi
      refine ⟨ov0, by simpa using hv0, .inl ⟨x0, .inl ⟨by simp [Region.wanted, gv0], .inl fun W _ => hx0 g0 g1 ov0 op0 W⟩, ?_⟩⟩
      refine ⟨fun h => (by rw [h] at s3; cases s3), fun i hi => ?_⟩
      obtain rfl : i = n + 5 := by rw [s3] at hi; simpa using hi
      refine ⟨ov1, by simpa using hv1, .inl ⟨x1, .inl ⟨by simp [Region.wanted, gv1], .inl fun W _ => hx1 g0 g1 ov1 op1 W⟩, ?_⟩⟩
      exact ⟨s4, fun W hW => hk g0 g1 W lo0 lo1 ne hW.1.1 hW.1.2 hW.2⟩
    refine ⟨fun h => (by rw [h] at r; cases r), fun i hi => ?_⟩
    have hc : i = n ∨ i = n + 1 := by rw [r] at hi; simpa using hi
    rcases hc with hc | hc
    · rw [hc]
      clear hi hc
      refine ⟨o0, hi0, .inr (.inl ⟨ga0, t, zs, al0, hz, fun g0 ⟨W0, hc0, hg0⟩ => ?_⟩)⟩
      refine ⟨fun h => (by rw [h] at r0; cases r0), fun i hi => ?_⟩
      have hc : i = n + 1 := by rw [r0] at hi; simpa using hi
      rw [hc]
      clear hi hc
      refine ⟨o1, hi1, .inr (.inl ⟨ga1, t, zs, al1, hz, fun g1 ⟨W1, hc1, hg1⟩ => ?_⟩)⟩
      rw [da0, da1]
      have hlt : g0 < g1 := by rw [← hg1]; exact hc1.2.lt
      exact tail g0 g1 _ (by rw [← hg0]; exact hc0.size) (by rw [← hg1]; exact hc1.1.size) (by omega) (fun W hW => hW)
    · rw [hc]
      clear hi hc
      refine ⟨o1, hi1, .inr (.inl ⟨ga1, t, zs, al1, hz, fun g1 ⟨W1, hc1, hg1⟩ => ?_⟩)⟩
      refine ⟨fun h => (by rw [h] at r1; cases r1), fun i hi => ?_⟩
      have hc : i = n := by rw [r1] at hi; simpa using hi
      rw [hc]
      clear hi hc
      refine ⟨o0, hi0, .inr (.inl ⟨ga0, t, zs, al0, hz, fun g0 ⟨W0, hc0, hg0⟩ => ?_⟩)⟩
      rw [da0, da1]
      have hlt : g1 < g0 := by rw [← hg0]; exact hc0.2.lt
      have hp : ((a'.put (some d1) (.pointer (some ⟨g1, 0, none⟩))).put (some d0) (.pointer (some ⟨g0, 0, none⟩))) = ((a'.put (some d0) (.pointer (some ⟨g0, 0, none⟩))).put (some d1) (.pointer (some ⟨g1, 0, none⟩))) := by
        simp only [Act.put, Act.mk.injEq, true_and, and_true]
        exact Array.setIfInBounds_comm _ _ (Ne.symm hne)
      rw [hp, Array.setIfInBounds_comm _ _ (by omega)]
      exact tail g0 g1 _ (by rw [← hg0]; exact hc0.1.size) (by rw [← hg1]; exact hc1.size) (by omega) (fun W hW => ⟨⟨hW.1.1, hW.2⟩, hW.1.2⟩)
end
/-- The cells of a statement's input. -/
def lowS (k u : List UInt8) (z : Int) (b : Bool) : List Value := k.map byt ++ (u.map byt ++ [.int .i64 z, .bool b])
theorem lowS_0 {k u : List UInt8} {z : Int} {b : Bool} : ∀ j, j < (k.map byt).length → (lowS k u z b)[0 + j]? = (k.map byt)[j]? := fun j hj => by
  unfold lowS
  rw [Nat.zero_add, List.getElem?_append_left hj]
theorem lowS_1 {k u : List UInt8} {z : Int} {b : Bool} (hk : k.length = 32) : ∀ j, j < (u.map byt).length → (lowS k u z b)[32 + j]? = (u.map byt)[j]? := fun j hj => by
  have hl : (k.map byt).length = 32 := by simp [hk]
  unfold lowS
  rw [List.getElem?_append_right (by omega), hl, show 32 + j - 32 = j by omega, List.getElem?_append_left hj]
theorem lowS_2 {k u : List UInt8} {z : Int} {b : Bool} (hk : k.length = 32) (hu : u.length = 32) : (lowS k u z b)[64]? = some (.int .i64 z) ∧ (lowS k u z b)[65]? = some (.bool b) := by
  have hl : (k.map byt).length = 32 := by simp [hk]
  have hl2 : (u.map byt).length = 32 := by simp [hu]
  unfold lowS
  constructor
  · rw [List.getElem?_append_right (by omega), hl, List.getElem?_append_right (by omega), hl2]; rfl
  · rw [List.getElem?_append_right (by omega), hl, List.getElem?_append_right (by omega), hl2]; rfl
end Go.Proofs.Ytacancfmgnmpiaa
