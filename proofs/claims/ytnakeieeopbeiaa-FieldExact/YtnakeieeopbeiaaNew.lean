import Derived.Test.YtnakeieeopbeiaaEnt
set_option linter.unusedVariables false
set_option linter.unusedSimpArgs false
namespace Go.Proofs.Ytnakeieeopbeiaa
open Go.RowKit
theorem perm_10 (L : Array Bool) (n : Nat) : ((L.setIfInBounds (n + 1) true).setIfInBounds (n + 0) true) = ((L.setIfInBounds (n + 0) true).setIfInBounds (n + 1) true) := by
  rw [Array.setIfInBounds_comm (i := n + 1) (j := n + 0) true true (by omega)]
theorem fperm_10 (a : Act) {d0 d1 : Nat} (u0 u1 : Value) (n01 : d0 ≠ d1) : ((a.put (some d1) u1).put (some d0) u0) = ((a.put (some d0) u0).put (some d1) u1) := by
  rw [Act.put_comm (x := some d1) (y := some d0) _ u1 u0 (fun d h1 h2 => n01 (by cases h1; cases h2; rfl))]
theorem perm_021 (L : Array Bool) (n : Nat) : (((L.setIfInBounds (n + 0) true).setIfInBounds (n + 2) true).setIfInBounds (n + 1) true) = (((L.setIfInBounds (n + 0) true).setIfInBounds (n + 1) true).setIfInBounds (n + 2) true) := by
  rw [Array.setIfInBounds_comm (i := n + 2) (j := n + 1) true true (by omega)]
theorem fperm_021 (a : Act) {d0 d1 d2 : Nat} (u0 u1 u2 : Value) (n01 : d0 ≠ d1) (n02 : d0 ≠ d2) (n12 : d1 ≠ d2) : (((a.put (some d0) u0).put (some d2) u2).put (some d1) u1) = (((a.put (some d0) u0).put (some d1) u1).put (some d2) u2) := by
  rw [Act.put_comm (x := some d2) (y := some d1) _ u2 u1 (fun d h1 h2 => n12 (by cases h1; cases h2; rfl))]
theorem perm_102 (L : Array Bool) (n : Nat) : (((L.setIfInBounds (n + 1) true).setIfInBounds (n + 0) true).setIfInBounds (n + 2) true) = (((L.setIfInBounds (n + 0) true).setIfInBounds (n + 1) true).setIfInBounds (n + 2) true) := by
  rw [Array.setIfInBounds_comm (i := n + 1) (j := n + 0) true true (by omega)]
theorem fperm_102 (a : Act) {d0 d1 d2 : Nat} (u0 u1 u2 : Value) (n01 : d0 ≠ d1) (n02 : d0 ≠ d2) (n12 : d1 ≠ d2) : (((a.put (some d1) u1).put (some d0) u0).put (some d2) u2) = (((a.put (some d0) u0).put (some d1) u1).put (some d2) u2) := by
  rw [Act.put_comm (x := some d1) (y := some d0) _ u1 u0 (fun d h1 h2 => n01 (by cases h1; cases h2; rfl))]
theorem perm_120 (L : Array Bool) (n : Nat) : (((L.setIfInBounds (n + 1) true).setIfInBounds (n + 2) true).setIfInBounds (n + 0) true) = (((L.setIfInBounds (n + 0) true).setIfInBounds (n + 1) true).setIfInBounds (n + 2) true) := by
  rw [Array.setIfInBounds_comm (i := n + 2) (j := n + 0) true true (by omega), Array.setIfInBounds_comm (i := n + 1) (j := n + 0) true true (by omega)]
theorem fperm_120 (a : Act) {d0 d1 d2 : Nat} (u0 u1 u2 : Value) (n01 : d0 ≠ d1) (n02 : d0 ≠ d2) (n12 : d1 ≠ d2) : (((a.put (some d1) u1).put (some d2) u2).put (some d0) u0) = (((a.put (some d0) u0).put (some d1) u1).put (some d2) u2) := by
  rw [Act.put_comm (x := some d2) (y := some d0) _ u2 u0 (fun d h1 h2 => n02 (by cases h1; cases h2; rfl)), Act.put_comm (x := some d1) (y := some d0) _ u1 u0 (fun d h1 h2 => n01 (by cases h1; cases h2; rfl))]
theorem perm_201 (L : Array Bool) (n : Nat) : (((L.setIfInBounds (n + 2) true).setIfInBounds (n + 0) true).setIfInBounds (n + 1) true) = (((L.setIfInBounds (n + 0) true).setIfInBounds (n + 1) true).setIfInBounds (n + 2) true) := by
  rw [Array.setIfInBounds_comm (i := n + 2) (j := n + 0) true true (by omega), Array.setIfInBounds_comm (i := n + 2) (j := n + 1) true true (by omega)]
theorem fperm_201 (a : Act) {d0 d1 d2 : Nat} (u0 u1 u2 : Value) (n01 : d0 ≠ d1) (n02 : d0 ≠ d2) (n12 : d1 ≠ d2) : (((a.put (some d2) u2).put (some d0) u0).put (some d1) u1) = (((a.put (some d0) u0).put (some d1) u1).put (some d2) u2) := by
  rw [Act.put_comm (x := some d2) (y := some d0) _ u2 u0 (fun d h1 h2 => n02 (by cases h1; cases h2; rfl)), Act.put_comm (x := some d2) (y := some d1) _ u2 u1 (fun d h1 h2 => n12 (by cases h1; cases h2; rfl))]
theorem perm_210 (L : Array Bool) (n : Nat) : (((L.setIfInBounds (n + 2) true).setIfInBounds (n + 1) true).setIfInBounds (n + 0) true) = (((L.setIfInBounds (n + 0) true).setIfInBounds (n + 1) true).setIfInBounds (n + 2) true) := by
  rw [Array.setIfInBounds_comm (i := n + 2) (j := n + 1) true true (by omega), Array.setIfInBounds_comm (i := n + 2) (j := n + 0) true true (by omega), Array.setIfInBounds_comm (i := n + 1) (j := n + 0) true true (by omega)]
theorem fperm_210 (a : Act) {d0 d1 d2 : Nat} (u0 u1 u2 : Value) (n01 : d0 ≠ d1) (n02 : d0 ≠ d2) (n12 : d1 ≠ d2) : (((a.put (some d2) u2).put (some d1) u1).put (some d0) u0) = (((a.put (some d0) u0).put (some d1) u1).put (some d2) u2) := by
  rw [Act.put_comm (x := some d2) (y := some d1) _ u2 u1 (fun d h1 h2 => n12 (by cases h1; cases h2; rfl)), Act.put_comm (x := some d2) (y := some d0) _ u2 u0 (fun d h1 h2 => n02 (by cases h1; cases h2; rfl)), Act.put_comm (x := some d1) (y := some d0) _ u1 u0 (fun d h1 h2 => n01 (by cases h1; cases h2; rfl))]
section
variable {P : Program} {Q : Exit → Act → World → Prop}
theorem reg_new2 {id : Nat} {l : List Oper} {o0 o1 s0o s1o : Oper} {a : Act} {w : World} (hm : P.follows .mixedOrders = true) (n : Nat) (hl : l.length = n + 4)
    (ho0 : l[n + 0]? = some o0) (hs0 : l[n + 2]? = some s0o)
    (ho1 : l[n + 1]? = some o1) (hs1 : l[n + 3]? = some s1o)
    (hns : Region.noSelect l.toArray = true) (hlex : lexOk .any l.toArray (n + 2) n 0 (none_ (n + 4)) = true)
    (r : Region.ready .any l.toArray (firstN n 0 (none_ (n + 4))) = [n + 0, n + 1])
    (r0 : Region.ready .any l.toArray ((firstN n 0 (none_ (n + 4))).setIfInBounds (n + 0) true) = [n + 1])
    (r1 : Region.ready .any l.toArray ((firstN n 0 (none_ (n + 4))).setIfInBounds (n + 1) true) = [n + 0])
    (hful : full (n + 2) (((firstN n 0 (none_ (n + 4))).setIfInBounds (n + 0) true).setIfInBounds (n + 1) true) = true)
    (s0 : Region.ready .any l.toArray (((firstN n 0 (none_ (n + 4))).setIfInBounds (n + 0) true).setIfInBounds (n + 1) true) = [n + 2])
    (s1 : Region.ready .any l.toArray ((((firstN n 0 (none_ (n + 4))).setIfInBounds (n + 0) true).setIfInBounds (n + 1) true).setIfInBounds (n + 2) true) = [n + 3])
    (s2 : Region.ready .any l.toArray (((((firstN n 0 (none_ (n + 4))).setIfInBounds (n + 0) true).setIfInBounds (n + 1) true).setIfInBounds (n + 2) true).setIfInBounds (n + 3) true) = [])
    (t : TypeId) (zs : List Value) (hz : ∀ w, (zeroValue t).run P w = .ok (.agg zs.toArray) w) (hinf : (P.info? t).map (·.size) = some zs.length)
    (d0 : Nat) (ga0 : o0.guard = none) (da0 : o0.dst = some d0) (al0 : o0.op = .alloc t) (y0 : Operand) (gs0 : s0o.guard = none) (ds0 : s0o.dst = none) (st0 : s0o.op = .store t (.tmp d0) y0)
    (d1 : Nat) (ga1 : o1.guard = none) (da1 : o1.dst = some d1) (al1 : o1.op = .alloc t) (y1 : Operand) (gs1 : s1o.guard = none) (ds1 : s1o.dst = none) (st1 : s1o.op = .store t (.tmp d1) y1)
    (hne : d0 ≠ d1)
    (hyd : y0 ≠ .tmp d0 ∧ y0 ≠ .tmp d1 ∧ y1 ≠ .tmp d0 ∧ y1 ≠ .tmp d1)
    (h : wpLex P l.toArray (fun W => Below w.heap.size w W) (fun a' => ∃ c0 c1 : List Value, a'.eval y0 = .agg (List.toArray c0) ∧ zs.length = c0.length ∧ c0.toArray.all (·.oneCell') = true ∧ d0 < a'.tmps.size ∧ a'.eval y1 = .agg (List.toArray c1) ∧ zs.length = c1.length ∧ c1.toArray.all (·.oneCell') = true ∧ d1 < a'.tmps.size ∧ ∀ g0 g1 W, w.heap.size ≤ g0 → w.heap.size ≤ g1 → g0 ≠ g1 → Below w.heap.size w W → Blk W g0 c0 t → Blk W g1 c1 t → Q .normal ((a'.put (some d0) (.pointer (some ⟨g0, 0, none⟩))).put (some d1) (.pointer (some ⟨g1, 0, none⟩))) W) (l.take n) a) : (Code.region id l.toArray true).wp P Q a w := by
  have hi0 : l.toArray[n + 0]? = some o0 := by simpa using ho0
  have hj0 : l.toArray[n + 2]? = some s0o := by simpa using hs0
  have hi1 : l.toArray[n + 1]? = some o1 := by simpa using ho1
  have hj1 : l.toArray[n + 3]? = some s1o := by simpa using hs1
  have n01 := hne
  obtain ⟨e00, e01, e10, e11⟩ := hyd
  refine wp_region_any hm ?_
  refine wpAny_of_R (S := fun W => Below w.heap.size w W) (T := n + 2) _ _ _ (fun W => Below w.heap.size w W) (stable_below w) (fun _ h => h) ?_ _ (below_drawn w)
  have hlt : (l.take n).length = n := by simp; omega
  have := wpAnyR_lex (P := P) (Q := Q) (T := n + 2) (md := .any) (S := fun W => Below w.heap.size w W) (ops := l.toArray) hns (by simp; omega) (fun W => Below w.heap.size w W) 4 (l.take n) 0 (none_ (n + 4)) a (by
      intro j hj; rw [hlt] at hj; simp [List.getElem?_take, hj]) (by rw [hlt]; exact hlex) (closed_none _) (by simp [none_, hl]) ?_
  · rw [hlt, Nat.add_comm 4 n] at this
    simpa [none_, hl] using this
  · refine wpLex_mono ?_ _ a h
    rintro a' ⟨c0, c1, v0, q0, u0, z0, v1, q1, u1, z1, hk⟩
    rw [hlt]
    have tail : ∀ g0 g1 (W : World), w.heap.size ≤ g0 → w.heap.size ≤ g1 → g0 ≠ g1 → Below w.heap.size w W → Blk W g0 zs t → Blk W g1 zs t → wpAny P .any l.toArray Q 2 (((firstN n 0 (none_ (n + 4))).setIfInBounds (n + 0) true).setIfInBounds (n + 1) true) ((a'.put (some d0) (.pointer (some ⟨g0, 0, none⟩))).put (some d1) (.pointer (some ⟨g1, 0, none⟩))) W := by
      intro g0 g1 W lo0 lo1 x01 hW b0 b1
      have ep0 : (((a'.put (some d0) (.pointer (some ⟨g0, 0, none⟩))).put (some d1) (.pointer (some ⟨g1, 0, none⟩)))).eval (.tmp d0) = .pointer (some ⟨g0, 0, none⟩) := by simp [Act.eval, Act.put, z0, n01, Ne.symm n01, Array.getElem?_setIfInBounds]
      have ey0 : (((a'.put (some d0) (.pointer (some ⟨g0, 0, none⟩))).put (some d1) (.pointer (some ⟨g1, 0, none⟩)))).eval y0 = .agg (List.toArray c0) := by
        rw [Act.eval_put (fun d hd hyd => e01 (by rw [hyd]; cases hd; rfl)), Act.eval_put (fun d hd hyd => e00 (by rw [hyd]; cases hd; rfl))]; exact v0
      have ep1 : (((a'.put (some d0) (.pointer (some ⟨g0, 0, none⟩))).put (some d1) (.pointer (some ⟨g1, 0, none⟩)))).eval (.tmp d1) = .pointer (some ⟨g1, 0, none⟩) := by simp [Act.eval, Act.put, z1, n01, Ne.symm n01, Array.getElem?_setIfInBounds]
      have ey1 : (((a'.put (some d0) (.pointer (some ⟨g0, 0, none⟩))).put (some d1) (.pointer (some ⟨g1, 0, none⟩)))).eval y1 = .agg (List.toArray c1) := by
        rw [Act.eval_put (fun d hd hyd => e11 (by rw [hyd]; cases hd; rfl)), Act.eval_put (fun d hd hyd => e10 (by rw [hyd]; cases hd; rfl))]; exact v1
      refine only_one s0 ?_
      refine op_row hj0 (by simp [Region.wanted, gs0]) ds0 t (.tmp d0) y0 st0 g0 c0 zs t ep0 ey0 b0 (by rw [← q0]; exact hinf) q0 u0 ?_
      refine only_one s1 ?_
      refine op_row hj1 (by simp [Region.wanted, gs1]) ds1 t (.tmp d1) y1 st1 g1 c1 zs t ep1 ey1 ((b1).setRowOther g0 c0.toArray (Ne.symm x01)) (by rw [← q1]; exact hinf) q1 u1 ?_
      exact wpAny_done s2 (hk g0 g1 _ lo0 lo1 x01 (below_setRow (below_setRow hW g0 c0.toArray lo0) g1 c1.toArray lo1) ((((b0).setRow c0)).setRowOther g1 c1.toArray x01) ((((b1).setRowOther g0 c0.toArray (Ne.symm x01))).setRow c1)) 0
    unfold wpAnyR
    have hnf := not_full (md := .any) (ops := l.toArray) (T := n + 2) (l := (firstN n 0 (none_ (n + 4)))) (i := n + 0) (by omega) (by rw [r]; simp)
    rw [if_neg (by rw [hnf]; simp), r]
    refine ⟨by simp, fun i hi => ?_⟩
    have hc : i = n + 0 ∨ i = n + 1 := by simpa using hi
    rcases hc with hc | hc
    · rw [hc]
      clear hc
      refine ⟨o0, hi0, .inr ⟨ga0, t, zs, al0, hz, fun g0 ⟨W0, hc0, hg0⟩ => ?_⟩⟩
      clear hi hnf
      show wpAnyR P .any l.toArray Q (fun W => Below w.heap.size w W) (n + 2) 3 ((firstN n 0 (none_ (n + 4))).setIfInBounds (n + 0) true) _ _
      unfold wpAnyR
      have hnf := not_full (md := .any) (ops := l.toArray) (T := n + 2) (l := ((firstN n 0 (none_ (n + 4))).setIfInBounds (n + 0) true)) (i := n + 1) (by omega) (by rw [r0]; simp)
      rw [if_neg (by rw [hnf]; simp), r0]
      refine ⟨by simp, fun i hi => ?_⟩
      have hc : i = n + 1 := by simpa using hi
      skip
      · rw [hc]
        clear hc
        refine ⟨o1, hi1, .inr ⟨ga1, t, zs, al1, hz, fun g1 ⟨W1, hc1, hg1⟩ => ?_⟩⟩
        clear hi hnf
        show wpAnyR P .any l.toArray Q (fun W => Below w.heap.size w W) (n + 2) 2 (((firstN n 0 (none_ (n + 4))).setIfInBounds (n + 0) true).setIfInBounds (n + 1) true) _ _
        unfold wpAnyR
        rw [if_pos hful]
        rintro W ⟨⟨hC, bb0⟩, bb1⟩
        have l01 : g0 < g1 := by rw [← hg1]; exact (hc1.2).lt
        have hfr : ((a'.put (some d0) (.pointer (some ⟨g0, 0, none⟩))).put (some d1) (.pointer (some ⟨g1, 0, none⟩))) = ((a'.put (some d0) (.pointer (some ⟨g0, 0, none⟩))).put (some d1) (.pointer (some ⟨g1, 0, none⟩))) := by
          rfl
        simp only [da0, da1]
        rw [hfr]
        exact tail g0 g1 W (by rw [← hg0]; exact (hc0).size) (by rw [← hg1]; exact (hc1.1).size) (Nat.ne_of_lt l01) hC bb0 bb1
    · rw [hc]
      clear hc
      refine ⟨o1, hi1, .inr ⟨ga1, t, zs, al1, hz, fun g1 ⟨W1, hc1, hg1⟩ => ?_⟩⟩
      clear hi hnf
      show wpAnyR P .any l.toArray Q (fun W => Below w.heap.size w W) (n + 2) 3 ((firstN n 0 (none_ (n + 4))).setIfInBounds (n + 1) true) _ _
      unfold wpAnyR
      have hnf := not_full (md := .any) (ops := l.toArray) (T := n + 2) (l := ((firstN n 0 (none_ (n + 4))).setIfInBounds (n + 1) true)) (i := n + 0) (by omega) (by rw [r1]; simp)
      rw [if_neg (by rw [hnf]; simp), r1]
      refine ⟨by simp, fun i hi => ?_⟩
      have hc : i = n + 0 := by simpa using hi
      skip
      · rw [hc]
        clear hc
        refine ⟨o0, hi0, .inr ⟨ga0, t, zs, al0, hz, fun g0 ⟨W0, hc0, hg0⟩ => ?_⟩⟩
        clear hi hnf
        show wpAnyR P .any l.toArray Q (fun W => Below w.heap.size w W) (n + 2) 2 (((firstN n 0 (none_ (n + 4))).setIfInBounds (n + 1) true).setIfInBounds (n + 0) true) _ _
        have hperm : (((firstN n 0 (none_ (n + 4))).setIfInBounds (n + 1) true).setIfInBounds (n + 0) true) = (((firstN n 0 (none_ (n + 4))).setIfInBounds (n + 0) true).setIfInBounds (n + 1) true) := perm_10 _ n
        rw [hperm]
        unfold wpAnyR
        rw [if_pos hful]
        rintro W ⟨⟨hC, bb1⟩, bb0⟩
        have l10 : g1 < g0 := by rw [← hg0]; exact (hc0.2).lt
        have hfr : ((a'.put (some d1) (.pointer (some ⟨g1, 0, none⟩))).put (some d0) (.pointer (some ⟨g0, 0, none⟩))) = ((a'.put (some d0) (.pointer (some ⟨g0, 0, none⟩))).put (some d1) (.pointer (some ⟨g1, 0, none⟩))) := by
          exact fperm_10 a' _ _ n01
        simp only [da0, da1]
        rw [hfr]
        exact tail g0 g1 W (by rw [← hg0]; exact (hc0.1).size) (by rw [← hg1]; exact (hc1).size) (Nat.ne_of_gt l10) hC bb0 bb1
theorem reg_new3 {id : Nat} {l : List Oper} {o0 o1 o2 s0o s1o s2o : Oper} {a : Act} {w : World} (hm : P.follows .mixedOrders = true) (n : Nat) (hl : l.length = n + 6)
    (ho0 : l[n + 0]? = some o0) (hs0 : l[n + 3]? = some s0o)
    (ho1 : l[n + 1]? = some o1) (hs1 : l[n + 4]? = some s1o)
    (ho2 : l[n + 2]? = some o2) (hs2 : l[n + 5]? = some s2o)
    (hns : Region.noSelect l.toArray = true) (hlex : lexOk .any l.toArray (n + 3) n 0 (none_ (n + 6)) = true)
    (r : Region.ready .any l.toArray (firstN n 0 (none_ (n + 6))) = [n + 0, n + 1, n + 2])
    (r0 : Region.ready .any l.toArray ((firstN n 0 (none_ (n + 6))).setIfInBounds (n + 0) true) = [n + 1, n + 2])
    (r1 : Region.ready .any l.toArray ((firstN n 0 (none_ (n + 6))).setIfInBounds (n + 1) true) = [n + 0, n + 2])
    (r2 : Region.ready .any l.toArray ((firstN n 0 (none_ (n + 6))).setIfInBounds (n + 2) true) = [n + 0, n + 1])
    (r01 : Region.ready .any l.toArray (((firstN n 0 (none_ (n + 6))).setIfInBounds (n + 0) true).setIfInBounds (n + 1) true) = [n + 2])
    (r02 : Region.ready .any l.toArray (((firstN n 0 (none_ (n + 6))).setIfInBounds (n + 0) true).setIfInBounds (n + 2) true) = [n + 1])
    (r10 : Region.ready .any l.toArray (((firstN n 0 (none_ (n + 6))).setIfInBounds (n + 1) true).setIfInBounds (n + 0) true) = [n + 2])
    (r12 : Region.ready .any l.toArray (((firstN n 0 (none_ (n + 6))).setIfInBounds (n + 1) true).setIfInBounds (n + 2) true) = [n + 0])
    (r20 : Region.ready .any l.toArray (((firstN n 0 (none_ (n + 6))).setIfInBounds (n + 2) true).setIfInBounds (n + 0) true) = [n + 1])
    (r21 : Region.ready .any l.toArray (((firstN n 0 (none_ (n + 6))).setIfInBounds (n + 2) true).setIfInBounds (n + 1) true) = [n + 0])
    (hful : full (n + 3) ((((firstN n 0 (none_ (n + 6))).setIfInBounds (n + 0) true).setIfInBounds (n + 1) true).setIfInBounds (n + 2) true) = true)
    (s0 : Region.ready .any l.toArray ((((firstN n 0 (none_ (n + 6))).setIfInBounds (n + 0) true).setIfInBounds (n + 1) true).setIfInBounds (n + 2) true) = [n + 3])
    (s1 : Region.ready .any l.toArray (((((firstN n 0 (none_ (n + 6))).setIfInBounds (n + 0) true).setIfInBounds (n + 1) true).setIfInBounds (n + 2) true).setIfInBounds (n + 3) true) = [n + 4])
    (s2 : Region.ready .any l.toArray ((((((firstN n 0 (none_ (n + 6))).setIfInBounds (n + 0) true).setIfInBounds (n + 1) true).setIfInBounds (n + 2) true).setIfInBounds (n + 3) true).setIfInBounds (n + 4) true) = [n + 5])
    (s3 : Region.ready .any l.toArray (((((((firstN n 0 (none_ (n + 6))).setIfInBounds (n + 0) true).setIfInBounds (n + 1) true).setIfInBounds (n + 2) true).setIfInBounds (n + 3) true).setIfInBounds (n + 4) true).setIfInBounds (n + 5) true) = [])
    (t : TypeId) (zs : List Value) (hz : ∀ w, (zeroValue t).run P w = .ok (.agg zs.toArray) w) (hinf : (P.info? t).map (·.size) = some zs.length)
    (d0 : Nat) (ga0 : o0.guard = none) (da0 : o0.dst = some d0) (al0 : o0.op = .alloc t) (y0 : Operand) (gs0 : s0o.guard = none) (ds0 : s0o.dst = none) (st0 : s0o.op = .store t (.tmp d0) y0)
    (d1 : Nat) (ga1 : o1.guard = none) (da1 : o1.dst = some d1) (al1 : o1.op = .alloc t) (y1 : Operand) (gs1 : s1o.guard = none) (ds1 : s1o.dst = none) (st1 : s1o.op = .store t (.tmp d1) y1)
    (d2 : Nat) (ga2 : o2.guard = none) (da2 : o2.dst = some d2) (al2 : o2.op = .alloc t) (y2 : Operand) (gs2 : s2o.guard = none) (ds2 : s2o.dst = none) (st2 : s2o.op = .store t (.tmp d2) y2)
    (hne : d0 ≠ d1 ∧ d0 ≠ d2 ∧ d1 ≠ d2)
    (hyd : y0 ≠ .tmp d0 ∧ y0 ≠ .tmp d1 ∧ y0 ≠ .tmp d2 ∧ y1 ≠ .tmp d0 ∧ y1 ≠ .tmp d1 ∧ y1 ≠ .tmp d2 ∧ y2 ≠ .tmp d0 ∧ y2 ≠ .tmp d1 ∧ y2 ≠ .tmp d2)
    (h : wpLex P l.toArray (fun W => Below w.heap.size w W) (fun a' => ∃ c0 c1 c2 : List Value, a'.eval y0 = .agg (List.toArray c0) ∧ zs.length = c0.length ∧ c0.toArray.all (·.oneCell') = true ∧ d0 < a'.tmps.size ∧ a'.eval y1 = .agg (List.toArray c1) ∧ zs.length = c1.length ∧ c1.toArray.all (·.oneCell') = true ∧ d1 < a'.tmps.size ∧ a'.eval y2 = .agg (List.toArray c2) ∧ zs.length = c2.length ∧ c2.toArray.all (·.oneCell') = true ∧ d2 < a'.tmps.size ∧ ∀ g0 g1 g2 W, w.heap.size ≤ g0 → w.heap.size ≤ g1 → w.heap.size ≤ g2 → g0 ≠ g1 → g0 ≠ g2 → g1 ≠ g2 → Below w.heap.size w W → Blk W g0 c0 t → Blk W g1 c1 t → Blk W g2 c2 t → Q .normal (((a'.put (some d0) (.pointer (some ⟨g0, 0, none⟩))).put (some d1) (.pointer (some ⟨g1, 0, none⟩))).put (some d2) (.pointer (some ⟨g2, 0, none⟩))) W) (l.take n) a) : (Code.region id l.toArray true).wp P Q a w := by
  have hi0 : l.toArray[n + 0]? = some o0 := by simpa using ho0
  have hj0 : l.toArray[n + 3]? = some s0o := by simpa using hs0
  have hi1 : l.toArray[n + 1]? = some o1 := by simpa using ho1
  have hj1 : l.toArray[n + 4]? = some s1o := by simpa using hs1
  have hi2 : l.toArray[n + 2]? = some o2 := by simpa using ho2
  have hj2 : l.toArray[n + 5]? = some s2o := by simpa using hs2
  obtain ⟨n01, n02, n12⟩ := hne
  obtain ⟨e00, e01, e02, e10, e11, e12, e20, e21, e22⟩ := hyd
  refine wp_region_any hm ?_
  refine wpAny_of_R (S := fun W => Below w.heap.size w W) (T := n + 3) _ _ _ (fun W => Below w.heap.size w W) (stable_below w) (fun _ h => h) ?_ _ (below_drawn w)
  have hlt : (l.take n).length = n := by simp; omega
  have := wpAnyR_lex (P := P) (Q := Q) (T := n + 3) (md := .any) (S := fun W => Below w.heap.size w W) (ops := l.toArray) hns (by simp; omega) (fun W => Below w.heap.size w W) 6 (l.take n) 0 (none_ (n + 6)) a (by
      intro j hj; rw [hlt] at hj; simp [List.getElem?_take, hj]) (by rw [hlt]; exact hlex) (closed_none _) (by simp [none_, hl]) ?_
  · rw [hlt, Nat.add_comm 6 n] at this
    simpa [none_, hl] using this
  · refine wpLex_mono ?_ _ a h
    rintro a' ⟨c0, c1, c2, v0, q0, u0, z0, v1, q1, u1, z1, v2, q2, u2, z2, hk⟩
    rw [hlt]
    have tail : ∀ g0 g1 g2 (W : World), w.heap.size ≤ g0 → w.heap.size ≤ g1 → w.heap.size ≤ g2 → g0 ≠ g1 → g0 ≠ g2 → g1 ≠ g2 → Below w.heap.size w W → Blk W g0 zs t → Blk W g1 zs t → Blk W g2 zs t → wpAny P .any l.toArray Q 3 ((((firstN n 0 (none_ (n + 6))).setIfInBounds (n + 0) true).setIfInBounds (n + 1) true).setIfInBounds (n + 2) true) (((a'.put (some d0) (.pointer (some ⟨g0, 0, none⟩))).put (some d1) (.pointer (some ⟨g1, 0, none⟩))).put (some d2) (.pointer (some ⟨g2, 0, none⟩))) W := by
      intro g0 g1 g2 W lo0 lo1 lo2 x01 x02 x12 hW b0 b1 b2
      have ep0 : ((((a'.put (some d0) (.pointer (some ⟨g0, 0, none⟩))).put (some d1) (.pointer (some ⟨g1, 0, none⟩))).put (some d2) (.pointer (some ⟨g2, 0, none⟩)))).eval (.tmp d0) = .pointer (some ⟨g0, 0, none⟩) := by simp [Act.eval, Act.put, z0, n01, n02, n12, Ne.symm n01, Ne.symm n02, Ne.symm n12, Array.getElem?_setIfInBounds]
      have ey0 : ((((a'.put (some d0) (.pointer (some ⟨g0, 0, none⟩))).put (some d1) (.pointer (some ⟨g1, 0, none⟩))).put (some d2) (.pointer (some ⟨g2, 0, none⟩)))).eval y0 = .agg (List.toArray c0) := by
        rw [Act.eval_put (fun d hd hyd => e02 (by rw [hyd]; cases hd; rfl)), Act.eval_put (fun d hd hyd => e01 (by rw [hyd]; cases hd; rfl)), Act.eval_put (fun d hd hyd => e00 (by rw [hyd]; cases hd; rfl))]; exact v0
      have ep1 : ((((a'.put (some d0) (.pointer (some ⟨g0, 0, none⟩))).put (some d1) (.pointer (some ⟨g1, 0, none⟩))).put (some d2) (.pointer (some ⟨g2, 0, none⟩)))).eval (.tmp d1) = .pointer (some ⟨g1, 0, none⟩) := by simp [Act.eval, Act.put, z1, n01, n02, n12, Ne.symm n01, Ne.symm n02, Ne.symm n12, Array.getElem?_setIfInBounds]
      have ey1 : ((((a'.put (some d0) (.pointer (some ⟨g0, 0, none⟩))).put (some d1) (.pointer (some ⟨g1, 0, none⟩))).put (some d2) (.pointer (some ⟨g2, 0, none⟩)))).eval y1 = .agg (List.toArray c1) := by
        rw [Act.eval_put (fun d hd hyd => e12 (by rw [hyd]; cases hd; rfl)), Act.eval_put (fun d hd hyd => e11 (by rw [hyd]; cases hd; rfl)), Act.eval_put (fun d hd hyd => e10 (by rw [hyd]; cases hd; rfl))]; exact v1
      have ep2 : ((((a'.put (some d0) (.pointer (some ⟨g0, 0, none⟩))).put (some d1) (.pointer (some ⟨g1, 0, none⟩))).put (some d2) (.pointer (some ⟨g2, 0, none⟩)))).eval (.tmp d2) = .pointer (some ⟨g2, 0, none⟩) := by simp [Act.eval, Act.put, z2, n01, n02, n12, Ne.symm n01, Ne.symm n02, Ne.symm n12, Array.getElem?_setIfInBounds]
      have ey2 : ((((a'.put (some d0) (.pointer (some ⟨g0, 0, none⟩))).put (some d1) (.pointer (some ⟨g1, 0, none⟩))).put (some d2) (.pointer (some ⟨g2, 0, none⟩)))).eval y2 = .agg (List.toArray c2) := by
        rw [Act.eval_put (fun d hd hyd => e22 (by rw [hyd]; cases hd; rfl)), Act.eval_put (fun d hd hyd => e21 (by rw [hyd]; cases hd; rfl)), Act.eval_put (fun d hd hyd => e20 (by rw [hyd]; cases hd; rfl))]; exact v2
      refine only_one s0 ?_
      refine op_row hj0 (by simp [Region.wanted, gs0]) ds0 t (.tmp d0) y0 st0 g0 c0 zs t ep0 ey0 b0 (by rw [← q0]; exact hinf) q0 u0 ?_
      refine only_one s1 ?_
      refine op_row hj1 (by simp [Region.wanted, gs1]) ds1 t (.tmp d1) y1 st1 g1 c1 zs t ep1 ey1 ((b1).setRowOther g0 c0.toArray (Ne.symm x01)) (by rw [← q1]; exact hinf) q1 u1 ?_
      refine only_one s2 ?_
      refine op_row hj2 (by simp [Region.wanted, gs2]) ds2 t (.tmp d2) y2 st2 g2 c2 zs t ep2 ey2 ((((b2).setRowOther g0 c0.toArray (Ne.symm x02))).setRowOther g1 c1.toArray (Ne.symm x12)) (by rw [← q2]; exact hinf) q2 u2 ?_
      exact wpAny_done s3 (hk g0 g1 g2 _ lo0 lo1 lo2 x01 x02 x12 (below_setRow (below_setRow (below_setRow hW g0 c0.toArray lo0) g1 c1.toArray lo1) g2 c2.toArray lo2) ((((((b0).setRow c0)).setRowOther g1 c1.toArray x01)).setRowOther g2 c2.toArray x02) ((((((b1).setRowOther g0 c0.toArray (Ne.symm x01))).setRow c1)).setRowOther g2 c2.toArray x12) ((((((b2).setRowOther g0 c0.toArray (Ne.symm x02))).setRowOther g1 c1.toArray (Ne.symm x12))).setRow c2)) 0
    unfold wpAnyR
    have hnf := not_full (md := .any) (ops := l.toArray) (T := n + 3) (l := (firstN n 0 (none_ (n + 6)))) (i := n + 0) (by omega) (by rw [r]; simp)
    rw [if_neg (by rw [hnf]; simp), r]
    refine ⟨by simp, fun i hi => ?_⟩
    have hc : i = n + 0 ∨ i = n + 1 ∨ i = n + 2 := by simpa using hi
    rcases hc with hc | hc | hc
    · rw [hc]
      clear hc
      refine ⟨o0, hi0, .inr ⟨ga0, t, zs, al0, hz, fun g0 ⟨W0, hc0, hg0⟩ => ?_⟩⟩
      clear hi hnf
      show wpAnyR P .any l.toArray Q (fun W => Below w.heap.size w W) (n + 3) 5 ((firstN n 0 (none_ (n + 6))).setIfInBounds (n + 0) true) _ _
      unfold wpAnyR
      have hnf := not_full (md := .any) (ops := l.toArray) (T := n + 3) (l := ((firstN n 0 (none_ (n + 6))).setIfInBounds (n + 0) true)) (i := n + 1) (by omega) (by rw [r0]; simp)
      rw [if_neg (by rw [hnf]; simp), r0]
      refine ⟨by simp, fun i hi => ?_⟩
      have hc : i = n + 1 ∨ i = n + 2 := by simpa using hi
      rcases hc with hc | hc
      · rw [hc]
        clear hc
        refine ⟨o1, hi1, .inr ⟨ga1, t, zs, al1, hz, fun g1 ⟨W1, hc1, hg1⟩ => ?_⟩⟩
        clear hi hnf
        show wpAnyR P .any l.toArray Q (fun W => Below w.heap.size w W) (n + 3) 4 (((firstN n 0 (none_ (n + 6))).setIfInBounds (n + 0) true).setIfInBounds (n + 1) true) _ _
        unfold wpAnyR
        have hnf := not_full (md := .any) (ops := l.toArray) (T := n + 3) (l := (((firstN n 0 (none_ (n + 6))).setIfInBounds (n + 0) true).setIfInBounds (n + 1) true)) (i := n + 2) (by omega) (by rw [r01]; simp)
        rw [if_neg (by rw [hnf]; simp), r01]
        refine ⟨by simp, fun i hi => ?_⟩
        have hc : i = n + 2 := by simpa using hi
        skip
        · rw [hc]
          clear hc
          refine ⟨o2, hi2, .inr ⟨ga2, t, zs, al2, hz, fun g2 ⟨W2, hc2, hg2⟩ => ?_⟩⟩
          clear hi hnf
          show wpAnyR P .any l.toArray Q (fun W => Below w.heap.size w W) (n + 3) 3 ((((firstN n 0 (none_ (n + 6))).setIfInBounds (n + 0) true).setIfInBounds (n + 1) true).setIfInBounds (n + 2) true) _ _
          unfold wpAnyR
          rw [if_pos hful]
          rintro W ⟨⟨⟨hC, bb0⟩, bb1⟩, bb2⟩
          have l01 : g0 < g1 := by rw [← hg1]; exact (hc1.2).lt
          have l02 : g0 < g2 := by rw [← hg2]; exact (hc2.1.2).lt
          have l12 : g1 < g2 := by rw [← hg2]; exact (hc2.2).lt
          have hfr : (((a'.put (some d0) (.pointer (some ⟨g0, 0, none⟩))).put (some d1) (.pointer (some ⟨g1, 0, none⟩))).put (some d2) (.pointer (some ⟨g2, 0, none⟩))) = (((a'.put (some d0) (.pointer (some ⟨g0, 0, none⟩))).put (some d1) (.pointer (some ⟨g1, 0, none⟩))).put (some d2) (.pointer (some ⟨g2, 0, none⟩))) := by
            rfl
          simp only [da0, da1, da2]
          rw [hfr]
          exact tail g0 g1 g2 W (by rw [← hg0]; exact (hc0).size) (by rw [← hg1]; exact (hc1.1).size) (by rw [← hg2]; exact (hc2.1.1).size) (Nat.ne_of_lt l01) (Nat.ne_of_lt l02) (Nat.ne_of_lt l12) hC bb0 bb1 bb2
      · rw [hc]
        clear hc
        refine ⟨o2, hi2, .inr ⟨ga2, t, zs, al2, hz, fun g2 ⟨W2, hc2, hg2⟩ => ?_⟩⟩
        clear hi hnf
        show wpAnyR P .any l.toArray Q (fun W => Below w.heap.size w W) (n + 3) 4 (((firstN n 0 (none_ (n + 6))).setIfInBounds (n + 0) true).setIfInBounds (n + 2) true) _ _
        unfold wpAnyR
        have hnf := not_full (md := .any) (ops := l.toArray) (T := n + 3) (l := (((firstN n 0 (none_ (n + 6))).setIfInBounds (n + 0) true).setIfInBounds (n + 2) true)) (i := n + 1) (by omega) (by rw [r02]; simp)
        rw [if_neg (by rw [hnf]; simp), r02]
        refine ⟨by simp, fun i hi => ?_⟩
        have hc : i = n + 1 := by simpa using hi
        skip
        · rw [hc]
          clear hc
          refine ⟨o1, hi1, .inr ⟨ga1, t, zs, al1, hz, fun g1 ⟨W1, hc1, hg1⟩ => ?_⟩⟩
          clear hi hnf
          show wpAnyR P .any l.toArray Q (fun W => Below w.heap.size w W) (n + 3) 3 ((((firstN n 0 (none_ (n + 6))).setIfInBounds (n + 0) true).setIfInBounds (n + 2) true).setIfInBounds (n + 1) true) _ _
          have hperm : ((((firstN n 0 (none_ (n + 6))).setIfInBounds (n + 0) true).setIfInBounds (n + 2) true).setIfInBounds (n + 1) true) = ((((firstN n 0 (none_ (n + 6))).setIfInBounds (n + 0) true).setIfInBounds (n + 1) true).setIfInBounds (n + 2) true) := perm_021 _ n
          rw [hperm]
          unfold wpAnyR
          rw [if_pos hful]
          rintro W ⟨⟨⟨hC, bb0⟩, bb2⟩, bb1⟩
          have l02 : g0 < g2 := by rw [← hg2]; exact (hc2.2).lt
          have l01 : g0 < g1 := by rw [← hg1]; exact (hc1.1.2).lt
          have l21 : g2 < g1 := by rw [← hg1]; exact (hc1.2).lt
          have hfr : (((a'.put (some d0) (.pointer (some ⟨g0, 0, none⟩))).put (some d2) (.pointer (some ⟨g2, 0, none⟩))).put (some d1) (.pointer (some ⟨g1, 0, none⟩))) = (((a'.put (some d0) (.pointer (some ⟨g0, 0, none⟩))).put (some d1) (.pointer (some ⟨g1, 0, none⟩))).put (some d2) (.pointer (some ⟨g2, 0, none⟩))) := by
            exact fperm_021 a' _ _ _ n01 n02 n12
          simp only [da0, da1, da2]
          rw [hfr]
          exact tail g0 g1 g2 W (by rw [← hg0]; exact (hc0).size) (by rw [← hg1]; exact (hc1.1.1).size) (by rw [← hg2]; exact (hc2.1).size) (Nat.ne_of_lt l01) (Nat.ne_of_lt l02) (Nat.ne_of_gt l21) hC bb0 bb1 bb2
    · rw [hc]
      clear hc
      refine ⟨o1, hi1, .inr ⟨ga1, t, zs, al1, hz, fun g1 ⟨W1, hc1, hg1⟩ => ?_⟩⟩
      clear hi hnf
      show wpAnyR P .any l.toArray Q (fun W => Below w.heap.size w W) (n + 3) 5 ((firstN n 0 (none_ (n + 6))).setIfInBounds (n + 1) true) _ _
      unfold wpAnyR
      have hnf := not_full (md := .any) (ops := l.toArray) (T := n + 3) (l := ((firstN n 0 (none_ (n + 6))).setIfInBounds (n + 1) true)) (i := n + 0) (by omega) (by rw [r1]; simp)
      rw [if_neg (by rw [hnf]; simp), r1]
      refine ⟨by simp, fun i hi => ?_⟩
      have hc : i = n + 0 ∨ i = n + 2 := by simpa using hi
      rcases hc with hc | hc
      · rw [hc]
        clear hc
        refine ⟨o0, hi0, .inr ⟨ga0, t, zs, al0, hz, fun g0 ⟨W0, hc0, hg0⟩ => ?_⟩⟩
        clear hi hnf
        show wpAnyR P .any l.toArray Q (fun W => Below w.heap.size w W) (n + 3) 4 (((firstN n 0 (none_ (n + 6))).setIfInBounds (n + 1) true).setIfInBounds (n + 0) true) _ _
        unfold wpAnyR
        have hnf := not_full (md := .any) (ops := l.toArray) (T := n + 3) (l := (((firstN n 0 (none_ (n + 6))).setIfInBounds (n + 1) true).setIfInBounds (n + 0) true)) (i := n + 2) (by omega) (by rw [r10]; simp)
        rw [if_neg (by rw [hnf]; simp), r10]
        refine ⟨by simp, fun i hi => ?_⟩
        have hc : i = n + 2 := by simpa using hi
        skip
        · rw [hc]
          clear hc
          refine ⟨o2, hi2, .inr ⟨ga2, t, zs, al2, hz, fun g2 ⟨W2, hc2, hg2⟩ => ?_⟩⟩
          clear hi hnf
          show wpAnyR P .any l.toArray Q (fun W => Below w.heap.size w W) (n + 3) 3 ((((firstN n 0 (none_ (n + 6))).setIfInBounds (n + 1) true).setIfInBounds (n + 0) true).setIfInBounds (n + 2) true) _ _
          have hperm : ((((firstN n 0 (none_ (n + 6))).setIfInBounds (n + 1) true).setIfInBounds (n + 0) true).setIfInBounds (n + 2) true) = ((((firstN n 0 (none_ (n + 6))).setIfInBounds (n + 0) true).setIfInBounds (n + 1) true).setIfInBounds (n + 2) true) := perm_102 _ n
          rw [hperm]
          unfold wpAnyR
          rw [if_pos hful]
          rintro W ⟨⟨⟨hC, bb1⟩, bb0⟩, bb2⟩
          have l10 : g1 < g0 := by rw [← hg0]; exact (hc0.2).lt
          have l12 : g1 < g2 := by rw [← hg2]; exact (hc2.1.2).lt
          have l02 : g0 < g2 := by rw [← hg2]; exact (hc2.2).lt
          have hfr : (((a'.put (some d1) (.pointer (some ⟨g1, 0, none⟩))).put (some d0) (.pointer (some ⟨g0, 0, none⟩))).put (some d2) (.pointer (some ⟨g2, 0, none⟩))) = (((a'.put (some d0) (.pointer (some ⟨g0, 0, none⟩))).put (some d1) (.pointer (some ⟨g1, 0, none⟩))).put (some d2) (.pointer (some ⟨g2, 0, none⟩))) := by
            exact fperm_102 a' _ _ _ n01 n02 n12
          simp only [da0, da1, da2]
          rw [hfr]
          exact tail g0 g1 g2 W (by rw [← hg0]; exact (hc0.1).size) (by rw [← hg1]; exact (hc1).size) (by rw [← hg2]; exact (hc2.1.1).size) (Nat.ne_of_gt l10) (Nat.ne_of_lt l02) (Nat.ne_of_lt l12) hC bb0 bb1 bb2
      · rw [hc]
        clear hc
        refine ⟨o2, hi2, .inr ⟨ga2, t, zs, al2, hz, fun g2 ⟨W2, hc2, hg2⟩ => ?_⟩⟩
        clear hi hnf
        show wpAnyR P .any l.toArray Q (fun W => Below w.heap.size w W) (n + 3) 4 (((firstN n 0 (none_ (n + 6))).setIfInBounds (n + 1) true).setIfInBounds (n + 2) true) _ _
        unfold wpAnyR
        have hnf := not_full (md := .any) (ops := l.toArray) (T := n + 3) (l := (((firstN n 0 (none_ (n + 6))).setIfInBounds (n + 1) true).setIfInBounds (n + 2) true)) (i := n + 0) (by omega) (by rw [r12]; simp)
        rw [if_neg (by rw [hnf]; simp), r12]
        refine ⟨by simp, fun i hi => ?_⟩
        have hc : i = n + 0 := by simpa using hi
        skip
        · rw [hc]
          clear hc
          refine ⟨o0, hi0, .inr ⟨ga0, t, zs, al0, hz, fun g0 ⟨W0, hc0, hg0⟩ => ?_⟩⟩
          clear hi hnf
          show wpAnyR P .any l.toArray Q (fun W => Below w.heap.size w W) (n + 3) 3 ((((firstN n 0 (none_ (n + 6))).setIfInBounds (n + 1) true).setIfInBounds (n + 2) true).setIfInBounds (n + 0) true) _ _
          have hperm : ((((firstN n 0 (none_ (n + 6))).setIfInBounds (n + 1) true).setIfInBounds (n + 2) true).setIfInBounds (n + 0) true) = ((((firstN n 0 (none_ (n + 6))).setIfInBounds (n + 0) true).setIfInBounds (n + 1) true).setIfInBounds (n + 2) true) := perm_120 _ n
          rw [hperm]
          unfold wpAnyR
          rw [if_pos hful]
          rintro W ⟨⟨⟨hC, bb1⟩, bb2⟩, bb0⟩
          have l12 : g1 < g2 := by rw [← hg2]; exact (hc2.2).lt
          have l10 : g1 < g0 := by rw [← hg0]; exact (hc0.1.2).lt
          have l20 : g2 < g0 := by rw [← hg0]; exact (hc0.2).lt
          have hfr : (((a'.put (some d1) (.pointer (some ⟨g1, 0, none⟩))).put (some d2) (.pointer (some ⟨g2, 0, none⟩))).put (some d0) (.pointer (some ⟨g0, 0, none⟩))) = (((a'.put (some d0) (.pointer (some ⟨g0, 0, none⟩))).put (some d1) (.pointer (some ⟨g1, 0, none⟩))).put (some d2) (.pointer (some ⟨g2, 0, none⟩))) := by
            exact fperm_120 a' _ _ _ n01 n02 n12
          simp only [da0, da1, da2]
          rw [hfr]
          exact tail g0 g1 g2 W (by rw [← hg0]; exact (hc0.1.1).size) (by rw [← hg1]; exact (hc1).size) (by rw [← hg2]; exact (hc2.1).size) (Nat.ne_of_gt l10) (Nat.ne_of_gt l20) (Nat.ne_of_lt l12) hC bb0 bb1 bb2
    · rw [hc]
      clear hc
      refine ⟨o2, hi2, .inr ⟨ga2, t, zs, al2, hz, fun g2 ⟨W2, hc2, hg2⟩ => ?_⟩⟩
      clear hi hnf
      show wpAnyR P .any l.toArray Q (fun W => Below w.heap.size w W) (n + 3) 5 ((firstN n 0 (none_ (n + 6))).setIfInBounds (n + 2) true) _ _
      unfold wpAnyR
      have hnf := not_full (md := .any) (ops := l.toArray) (T := n + 3) (l := ((firstN n 0 (none_ (n + 6))).setIfInBounds (n + 2) true)) (i := n + 0) (by omega) (by rw [r2]; simp)
      rw [if_neg (by rw [hnf]; simp), r2]
      refine ⟨by simp, fun i hi => ?_⟩
      have hc : i = n + 0 ∨ i = n + 1 := by simpa using hi
      rcases hc with hc | hc
      · rw [hc]
        clear hc
        refine ⟨o0, hi0, .inr ⟨ga0, t, zs, al0, hz, fun g0 ⟨W0, hc0, hg0⟩ => ?_⟩⟩
        clear hi hnf
        show wpAnyR P .any l.toArray Q (fun W => Below w.heap.size w W) (n + 3) 4 (((firstN n 0 (none_ (n + 6))).setIfInBounds (n + 2) true).setIfInBounds (n + 0) true) _ _
        unfold wpAnyR
        have hnf := not_full (md := .any) (ops := l.toArray) (T := n + 3) (l := (((firstN n 0 (none_ (n + 6))).setIfInBounds (n + 2) true).setIfInBounds (n + 0) true)) (i := n + 1) (by omega) (by rw [r20]; simp)
        rw [if_neg (by rw [hnf]; simp), r20]
        refine ⟨by simp, fun i hi => ?_⟩
        have hc : i = n + 1 := by simpa using hi
        skip
        · rw [hc]
          clear hc
          refine ⟨o1, hi1, .inr ⟨ga1, t, zs, al1, hz, fun g1 ⟨W1, hc1, hg1⟩ => ?_⟩⟩
          clear hi hnf
          show wpAnyR P .any l.toArray Q (fun W => Below w.heap.size w W) (n + 3) 3 ((((firstN n 0 (none_ (n + 6))).setIfInBounds (n + 2) true).setIfInBounds (n + 0) true).setIfInBounds (n + 1) true) _ _
          have hperm : ((((firstN n 0 (none_ (n + 6))).setIfInBounds (n + 2) true).setIfInBounds (n + 0) true).setIfInBounds (n + 1) true) = ((((firstN n 0 (none_ (n + 6))).setIfInBounds (n + 0) true).setIfInBounds (n + 1) true).setIfInBounds (n + 2) true) := perm_201 _ n
          rw [hperm]
          unfold wpAnyR
          rw [if_pos hful]
          rintro W ⟨⟨⟨hC, bb2⟩, bb0⟩, bb1⟩
          have l20 : g2 < g0 := by rw [← hg0]; exact (hc0.2).lt
          have l21 : g2 < g1 := by rw [← hg1]; exact (hc1.1.2).lt
          have l01 : g0 < g1 := by rw [← hg1]; exact (hc1.2).lt
          have hfr : (((a'.put (some d2) (.pointer (some ⟨g2, 0, none⟩))).put (some d0) (.pointer (some ⟨g0, 0, none⟩))).put (some d1) (.pointer (some ⟨g1, 0, none⟩))) = (((a'.put (some d0) (.pointer (some ⟨g0, 0, none⟩))).put (some d1) (.pointer (some ⟨g1, 0, none⟩))).put (some d2) (.pointer (some ⟨g2, 0, none⟩))) := by
            exact fperm_201 a' _ _ _ n01 n02 n12
          simp only [da0, da1, da2]
          rw [hfr]
          exact tail g0 g1 g2 W (by rw [← hg0]; exact (hc0.1).size) (by rw [← hg1]; exact (hc1.1.1).size) (by rw [← hg2]; exact (hc2).size) (Nat.ne_of_lt l01) (Nat.ne_of_gt l20) (Nat.ne_of_gt l21) hC bb0 bb1 bb2
      · rw [hc]
        clear hc
        refine ⟨o1, hi1, .inr ⟨ga1, t, zs, al1, hz, fun g1 ⟨W1, hc1, hg1⟩ => ?_⟩⟩
        clear hi hnf
        show wpAnyR P .any l.toArray Q (fun W => Below w.heap.size w W) (n + 3) 4 (((firstN n 0 (none_ (n + 6))).setIfInBounds (n + 2) true).setIfInBounds (n + 1) true) _ _
        unfold wpAnyR
        have hnf := not_full (md := .any) (ops := l.toArray) (T := n + 3) (l := (((firstN n 0 (none_ (n + 6))).setIfInBounds (n + 2) true).setIfInBounds (n + 1) true)) (i := n + 0) (by omega) (by rw [r21]; simp)
        rw [if_neg (by rw [hnf]; simp), r21]
        refine ⟨by simp, fun i hi => ?_⟩
        have hc : i = n + 0 := by simpa using hi
        skip
        · rw [hc]
          clear hc
          refine ⟨o0, hi0, .inr ⟨ga0, t, zs, al0, hz, fun g0 ⟨W0, hc0, hg0⟩ => ?_⟩⟩
          clear hi hnf
          show wpAnyR P .any l.toArray Q (fun W => Below w.heap.size w W) (n + 3) 3 ((((firstN n 0 (none_ (n + 6))).setIfInBounds (n + 2) true).setIfInBounds (n + 1) true).setIfInBounds (n + 0) true) _ _
          have hperm : ((((firstN n 0 (none_ (n + 6))).setIfInBounds (n + 2) true).setIfInBounds (n + 1) true).setIfInBounds (n + 0) true) = ((((firstN n 0 (none_ (n + 6))).setIfInBounds (n + 0) true).setIfInBounds (n + 1) true).setIfInBounds (n + 2) true) := perm_210 _ n
          rw [hperm]
          unfold wpAnyR
          rw [if_pos hful]
          rintro W ⟨⟨⟨hC, bb2⟩, bb1⟩, bb0⟩
          have l21 : g2 < g1 := by rw [← hg1]; exact (hc1.2).lt
          have l20 : g2 < g0 := by rw [← hg0]; exact (hc0.1.2).lt
          have l10 : g1 < g0 := by rw [← hg0]; exact (hc0.2).lt
          have hfr : (((a'.put (some d2) (.pointer (some ⟨g2, 0, none⟩))).put (some d1) (.pointer (some ⟨g1, 0, none⟩))).put (some d0) (.pointer (some ⟨g0, 0, none⟩))) = (((a'.put (some d0) (.pointer (some ⟨g0, 0, none⟩))).put (some d1) (.pointer (some ⟨g1, 0, none⟩))).put (some d2) (.pointer (some ⟨g2, 0, none⟩))) := by
            exact fperm_210 a' _ _ _ n01 n02 n12
          simp only [da0, da1, da2]
          rw [hfr]
          exact tail g0 g1 g2 W (by rw [← hg0]; exact (hc0.1.1).size) (by rw [← hg1]; exact (hc1.1).size) (by rw [← hg2]; exact (hc2).size) (Nat.ne_of_gt l10) (Nat.ne_of_gt l20) (Nat.ne_of_gt l21) hC bb0 bb1 bb2
theorem lst_new2 {id : Nat} {l : List Oper} {o0 o1 s0o s1o : Oper} {a : Act} {w : World} (n : Nat) (hl : l.length = n + 4)
    (ho0 : l[n + 0]? = some o0) (hs0 : l[n + 2]? = some s0o) (ho1 : l[n + 1]? = some o1) (hs1 : l[n + 3]? = some s1o)
    (t : TypeId) (zs : List Value) (hz : ∀ w, (zeroValue t).run P w = .ok (.agg zs.toArray) w) (hinf : (P.info? t).map (·.size) = some zs.length)
    (d0 : Nat) (ga0 : o0.guard = none) (da0 : o0.dst = some d0) (al0 : o0.op = .alloc t) (y0 : Operand) (gs0 : s0o.guard = none) (ds0 : s0o.dst = none) (st0 : s0o.op = .store t (.tmp d0) y0)
    (d1 : Nat) (ga1 : o1.guard = none) (da1 : o1.dst = some d1) (al1 : o1.op = .alloc t) (y1 : Operand) (gs1 : s1o.guard = none) (ds1 : s1o.dst = none) (st1 : s1o.op = .store t (.tmp d1) y1)
    (hne : d0 ≠ d1) (hyd : y0 ≠ .tmp d0 ∧ y0 ≠ .tmp d1 ∧ y1 ≠ .tmp d0 ∧ y1 ≠ .tmp d1)
    (h : wpLex P l.toArray (fun W => Below w.heap.size w W) (fun a' => ∃ c0 c1 : List Value, a'.eval y0 = .agg (List.toArray c0) ∧ zs.length = c0.length ∧ c0.toArray.all (·.oneCell') = true ∧ d0 < a'.tmps.size ∧ a'.eval y1 = .agg (List.toArray c1) ∧ zs.length = c1.length ∧ c1.toArray.all (·.oneCell') = true ∧ d1 < a'.tmps.size ∧
      ∀ g0 g1 W, w.heap.size ≤ g0 → w.heap.size ≤ g1 → g0 ≠ g1 → Below w.heap.size w W → Blk W g0 c0 t → Blk W g1 c1 t → Q .normal ((a'.put (some d0) (.pointer (some ⟨g0, 0, none⟩))).put (some d1) (.pointer (some ⟨g1, 0, none⟩))) W) (l.take n) a) : (Code.region id l.toArray false).wp P Q a w := by
  obtain ⟨e00, e01, e10, e11⟩ := hyd
  have hcut : l = l.take n ++ [o0, o1, s0o, s1o] := by
    have h := List.take_append_drop n l
    have hd : l.drop n = [o0, o1, s0o, s1o] := by
      rw [List.drop_eq_getElem_cons (by omega), List.drop_eq_getElem_cons (by omega), List.drop_eq_getElem_cons (by omega), List.drop_eq_getElem_cons (by omega), List.drop_eq_nil_of_le (by omega)]
      rw [List.getElem?_eq_getElem (by omega)] at ho0 ho1 hs0 hs1
      simp at ho0 ho1 hs0 hs1
      rw [ho0, ho1, hs0, hs1]
    rw [hd] at h
    exact h.symm
  refine wp_region_lit ?_
  have := wpList_of_lex (P := P) (Q := Q) (stable_below w) _ [o0, o1, s0o, s1o] (fun a' W ⟨c0, c1, v0, q0, u0, z0, v1, q1, u1, z1, hk⟩ hW => by
    have hs : (W.alloc (.cells zs.toArray t)).heap.size = W.heap.size + 1 := by simp
    have hlow := hW.size
    refine wpList_new ga0 t al0 zs hz ?_
    refine wpList_newAt ga1 t al1 zs hz (W.heap.size + 1) hs ?_
    have b0 : Blk ((W.alloc (.cells zs.toArray t)).alloc (.cells zs.toArray t)) W.heap.size zs t := (Blk.new W zs t).alloc _
    have b1 : Blk ((W.alloc (.cells zs.toArray t)).alloc (.cells zs.toArray t)) (W.heap.size + 1) zs t := by
      have := Blk.new (W.alloc (.cells zs.toArray t)) zs t
      rwa [hs] at this
    have hB : Below w.heap.size w ((W.alloc (.cells zs.toArray t)).alloc (.cells zs.toArray t)) := (hW.alloc hlow _).alloc (by rw [hs]; omega) _
    generalize (W.alloc (.cells zs.toArray t)).alloc (.cells zs.toArray t) = W2 at b0 b1 hB ⊢
    rw [da0, da1]
    have ep0 : ((a'.put (some d0) (.pointer (some ⟨W.heap.size, 0, none⟩))).put (some d1) (.pointer (some ⟨W.heap.size + 1, 0, none⟩))).eval (.tmp d0) = .pointer (some ⟨W.heap.size, 0, none⟩) := by
      simp [Act.eval, Act.put, z0, hne, Ne.symm hne, Array.getElem?_setIfInBounds]
    have ep1 : ((a'.put (some d0) (.pointer (some ⟨W.heap.size, 0, none⟩))).put (some d1) (.pointer (some ⟨W.heap.size + 1, 0, none⟩))).eval (.tmp d1) = .pointer (some ⟨W.heap.size + 1, 0, none⟩) := by
      simp [Act.eval, Act.put, z1, Array.getElem?_setIfInBounds]
    have ey0 : ((a'.put (some d0) (.pointer (some ⟨W.heap.size, 0, none⟩))).put (some d1) (.pointer (some ⟨W.heap.size + 1, 0, none⟩))).eval y0 = .agg (List.toArray c0) := by
      rw [Act.eval_put (fun d hd hyd => e01 (by rw [hyd]; cases hd; rfl)), Act.eval_put (fun d hd hyd => e00 (by rw [hyd]; cases hd; rfl))]; exact v0
    have ey1 : ((a'.put (some d0) (.pointer (some ⟨W.heap.size, 0, none⟩))).put (some d1) (.pointer (some ⟨W.heap.size + 1, 0, none⟩))).eval y1 = .agg (List.toArray c1) := by
      rw [Act.eval_put (fun d hd hyd => e11 (by rw [hyd]; cases hd; rfl)), Act.eval_put (fun d hd hyd => e10 (by rw [hyd]; cases hd; rfl))]; exact v1
    refine wpList_store_row gs0 t (.tmp d0) y0 st0 W.heap.size c0.toArray ep0 ey0 t zs.toArray b0 (by rw [hinf, q0]; simp) (by simpa using q0) u0 ?_
    rw [ds0]
    refine wpList_store_row gs1 t (.tmp d1) y1 st1 (W.heap.size + 1) c1.toArray ep1 ey1 t zs.toArray (b1.setRowOther _ _ (by omega)) (by rw [hinf, q1]; simp) (by simpa using q1) u1 (wpList_nil ?_)
    rw [ds1]
    exact hk _ _ _ hlow (by omega) (by omega) (below_setRow (below_setRow hB _ _ hlow) _ _ (by omega)) ((b0.setRow _).setRowOther _ _ (by omega)) ((b1.setRowOther _ _ (by omega)).setRow _)) (l.take n) a w (Below.refl _ _) h
  rw [← hcut] at this
  exact this

end
end Go.Proofs.Ytnakeieeopbeiaa
