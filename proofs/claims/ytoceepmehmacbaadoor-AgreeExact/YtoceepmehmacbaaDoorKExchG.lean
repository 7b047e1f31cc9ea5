import Derived.Test.YtoceepmehmacbaaDoorKMidG
set_option linter.unusedVariables false
set_option linter.unusedSimpArgs false
namespace Go.Proofs.YtoceepmehmacbaaDoor.Cv
open Go.RowKit

theorem byts_at (L : List UInt8) (i : Nat) (h : i < L.length) : (L.map byt)[i]? = some (.int .u8 ((L.getD i 0).toNat : Int)) := by
  rw [List.getElem?_map, List.getElem?_eq_getElem h, List.getD_eq_getElem?_getD, List.getElem?_eq_getElem h]
  rfl

section
variable {P : Program} {ops : Array Oper} {Q : Exit → Act → World → Prop} {md : Region.Mode} {S : World → Prop}

/-- One operation: of one value everywhere, a new variable, or a change of the world that S outlives. -/
def opS (P : Program) (ops : Array Oper) (S : World → Prop) (i : Nat) (K : Act → (World → Prop) → Prop) (a : Act) (C : World → Prop) : Prop :=
  ∃ o, ops[i]? = some o ∧ ((∃ v, Uni P ops S o v a ∧ K (a.put o.dst v) C) ∨
    (o.guard = none ∧ ∃ t zs, o.op = .alloc t ∧ (∀ w, (zeroValue t).run P w = .ok (.agg (List.toArray zs)) w) ∧
      ∀ g, (∃ w, C w ∧ w.heap.size = g) → K (a.put o.dst (.pointer (some ⟨g, 0, none⟩))) (fun w => C w ∧ Blk w g zs t)) ∨
    (o.guard = none ∧ ∃ (F : World → World) (C' : World → Prop), Stable C' ∧ (∀ w, C' w → S w) ∧ (∀ w, C w → (execOp a.eval o).run P w = .ok .skip (F w) ∧ C' (F w)) ∧ K (a.put o.dst undef) C'))

def wpAnyS (P : Program) (md : Region.Mode) (ops : Array Oper) (Q : Exit → Act → World → Prop) (S : World → Prop) : Nat → Array Bool → Act → (World → Prop) → Prop
  | 0, listed, a, C => Region.ready md ops listed = [] ∧ ∀ w, C w → Q .normal a w
  | n + 1, listed, a, C => (Region.ready md ops listed = [] → ∀ w, C w → Q .normal a w) ∧ ∀ i ∈ Region.ready md ops listed, opS P ops S i (fun a' C' => wpAnyS P md ops Q S n (listed.setIfInBounds i true) a' C') a C

theorem opS_mono {i : Nat} {K K' : Act → (World → Prop) → Prop} (hK : ∀ a C, K a C → K' a C) {a : Act} {C : World → Prop} (h : opS P ops S i K a C) : opS P ops S i K' a C := by
  obtain ⟨o, ho, ⟨v, hv, h⟩ | ⟨hg, t, zs, ht, hz, h⟩ | ⟨hg, F, C', h1, h2, h3, h4⟩⟩ := h
  · exact ⟨o, ho, .inl ⟨v, hv, hK _ _ h⟩⟩
  · exact ⟨o, ho, .inr (.inl ⟨hg, t, zs, ht, hz, fun g hg => hK _ _ (h g hg)⟩)⟩
  · exact ⟨o, ho, .inr (.inr ⟨hg, F, C', h1, h2, h3, hK _ _ h4⟩)⟩

theorem wpAny_of_S : ∀ (n : Nat) (listed : Array Bool) (a : Act) (C : World → Prop), Stable C → (∀ w, C w → S w) → wpAnyS P md ops Q S n listed a C → ∀ w, C w → wpAny P md ops Q n listed a w
  | 0, _, _, _, _, _, h, w, hw => ⟨h.1, h.2 w hw⟩
  | n + 1, listed, a, C, hC, hS, h, w, hw => by
    refine ⟨fun h0 => h.1 h0 w hw, fun i hi => ?_⟩
    obtain ⟨o, ho, ⟨v, hv, hk⟩ | ⟨hg, t, zs, ht, hz, hk⟩ | ⟨hg, F, C', h1, h2, h3, hk⟩⟩ := h.2 i hi
    · unfold wpOp
      simp only [ho]
      rcases hv with ⟨hwa, hv | ⟨f, args, hv, hc⟩⟩ | ⟨hwa, rfl⟩
      · simp only [hwa, if_true, Oper.wp, hv w (hS w hw), Oper.upon]
        exact .inl (wpAny_of_S n _ _ C hC hS hk w hw)
      · simp only [hwa, if_true, Oper.wp, hv w (hS w hw), Oper.upon]
        refine .inl ((hc w (hS w hw)).mono fun e w' ⟨he, hb⟩ => ?_)
        subst he
        exact wpAny_of_S n _ _ C hC hS hk w' (hC w w' hw hb)
      · simp only [hwa, Bool.false_eq_true, if_false]
        exact wpAny_of_S n _ _ C hC hS hk w hw
    · unfold wpOp
      have hwa : Region.wanted o (yielded ops a.tmps) = true := by simp [Region.wanted, hg]
      simp only [ho, hwa, if_true, Oper.wp, run_new t ht zs hz w, Oper.upon]
      refine .inl (wpAny_of_S n _ _ _ (hC.blk w.heap.size zs t) (fun w h => hS w h.1) (hk _ ⟨w, hw, rfl⟩) _ ⟨hC w _ hw ?_, Blk.new w zs t⟩)
      exact (Below.refl _ _).alloc (Nat.le_refl _) _
    · unfold wpOp
      have hwa : Region.wanted o (yielded ops a.tmps) = true := by simp [Region.wanted, hg]
      simp only [ho, hwa, if_true, Oper.wp, (h3 w hw).1, Oper.upon]
      exact .inl (wpAny_of_S n _ _ C' h1 h2 hk _ (h3 w hw).2)

theorem opS_put {j : Nat} {oi oj : Oper} {v : Value} (hj : ops[j]? = some oj) (hap : oi.apart ops oj = true)
    (hsi : ∀ cs b, oi.op ≠ .select cs b) (hsj : ∀ cs b, oj.op ≠ .select cs b) {K : Act → (World → Prop) → Prop} {a : Act} {C : World → Prop}
    (hy : Uni P ops S oi v a) (h : opS P ops S j K (a.put oi.dst v) C) :
    opS P ops S j (fun a' C' => Uni P ops S oi v a' ∧ K (a'.put oi.dst v) C') a C := by
  obtain ⟨h1, h2, h3⟩ := Oper.apart_spec hap
  have keep : ∀ u, Uni P ops S oi v (a.put oj.dst u) := fun u => hy.of_same (execOp_put oi hsi a oj.dst u h3) (wanted_put oi a oj.dst u h3)
  obtain ⟨o, ho, h⟩ := h
  obtain rfl : oj = o := Option.some.inj (hj.symm.trans ho)
  refine ⟨oj, hj, ?_⟩
  rcases h with ⟨u, hu, hk⟩ | ⟨hg, t, zs, ht, hz, hk⟩ | ⟨hg, F, C', k1, k2, k3, hk⟩
  · refine .inl ⟨u, hu.of_same (execOp_put oj hsj a oi.dst v h1).symm (wanted_put oj a oi.dst v h1).symm, keep u, ?_⟩
    rw [← Act.put_comm a v u h2]; exact hk
  · refine .inr (.inl ⟨hg, t, zs, ht, hz, fun g hgw => ⟨keep _, ?_⟩⟩)
    rw [← Act.put_comm a v _ h2]; exact hk g hgw
  · refine .inr (.inr ⟨hg, F, C', k1, k2, fun w hw => ?_, keep _, ?_⟩)
    · have := k3 w hw
      rw [execOp_put oj hsj a oi.dst v h1] at this
      exact this
    · rw [← Act.put_comm a v undef h2]; exact hk

/-- An operation of one value everywhere may be taken first. -/
theorem wpAnyS_first {i : Nat} {oi : Oper} {v : Value} (hi : ops[i]? = some oi) (hsel : ∀ (j : Nat) (o : Oper) cs b, ops[j]? = some o → o.op ≠ .select cs b) :
    ∀ (fuel : Nat) (listed : Array Bool) (a : Act) (C : World → Prop),
      (∀ j oj, ops[j]? = some oj → j ≠ i → listed.getD j true = false → (∀ e ∈ oj.after, Region.binds md e = true → e.on ≠ i) → oi.apart ops oj = true) →
      i ∈ Region.ready md ops listed →
      Uni P ops S oi v a →
      wpAnyS P md ops Q S fuel (listed.setIfInBounds i true) (a.put oi.dst v) C → wpAnyS P md ops Q S (fuel + 1) listed a C := by
  intro fuel
  induction fuel with
  | zero =>
    intro listed a C _ hr hy H
    refine ⟨fun h => (by rw [h] at hr; cases hr), fun j hj => ?_⟩
    by_cases hji : j = i
    · subst hji; exact ⟨oi, hi, .inl ⟨v, hy, H⟩⟩
    · have := ready_mono hj hji
      rw [H.1] at this
      cases this
  | succ fuel ih =>
    intro listed a C hfree hr hy H
    refine ⟨fun h => (by rw [h] at hr; cases hr), fun j hj => ?_⟩
    by_cases hji : j = i
    · subst hji; exact ⟨oi, hi, .inl ⟨v, hy, H⟩⟩
    · have h1 := H.2 j (ready_mono hj hji)
      obtain ⟨hjun, oj, hoj, hall⟩ := mem_ready.1 hj
      have hnot : ∀ e ∈ oj.after, Region.binds md e = true → e.on ≠ i := fun e he hb heq => by
        exact getD_no (mem_ready.1 hr).1 (heq ▸ hall e he hb)
      have h2 := opS_put hoj (hfree j oj hoj hji hjun hnot) (fun cs b => hsel i oi cs b hi) (fun cs b => hsel j oj cs b hoj) hy h1
      have hfree' : ∀ k ok, ops[k]? = some ok → k ≠ i → (listed.setIfInBounds j true).getD k true = false →
          (∀ e ∈ ok.after, Region.binds md e = true → e.on ≠ i) → oi.apart ops ok = true := fun k ok hk hki hun hno => by
        refine hfree k ok hk hki ?_ hno
        by_cases hjk : j = k
        · subst hjk; exact hjun
        · rw [getD_set_ne true hjk] at hun; exact hun
      have hr' := ready_mono hr (Ne.symm hji)
      refine opS_mono (fun a' C' h3 => ih (listed.setIfInBounds j true) a' C' hfree' hr' h3.1 ?_) h2
      rw [Array.setIfInBounds_comm _ _ hji]
      exact h3.2

def lexOkS (md : Region.Mode) (ops : Array Oper) : Nat → Nat → Array Bool → Bool
  | 0, _, _ => true
  | n + 1, k, listed => (Region.ready md ops listed).contains k && Region.free md ops listed k && lexOkS md ops n (k + 1) (listed.setIfInBounds k true)

theorem wpAnyS_lex (hs : Region.noSelect ops = true) (C : World → Prop) (F : Nat) : ∀ (l : List Oper) (k : Nat) (listed : Array Bool) (a : Act), (∀ j, j < l.length → l[j]? = ops[k + j]?) →
    lexOkS md ops l.length k listed = true →
    wpLex P ops S (fun a' => wpAnyS P md ops Q S F (firstN l.length k listed) a' C) l a → wpAnyS P md ops Q S (F + l.length) listed a C
  | [], _, _, _, _, _, h => h
  | o :: l, k, listed, a, hl, hB, ⟨v, hv, h⟩ => by
    have h0 : ops[k]? = some o := by simpa using (hl 0 (by simp)).symm
    simp only [List.length_cons, lexOkS, Bool.and_eq_true] at hB
    obtain ⟨⟨hr, hf⟩, hB'⟩ := hB
    have hr' : k ∈ Region.ready md ops listed := by simpa using hr
    exact wpAnyS_first h0 (Region.noSelect_spec hs) (F + l.length) listed a C (Region.free_spec h0 hf) hr' hv
      (wpAnyS_lex hs C F l (k + 1) _ _ (fun j hj => by have := hl (j + 1) (by simpa using hj); simpa [Nat.add_assoc, Nat.add_comm 1 j] using this) hB' h)

/-- A row is stored into a block that lies there. -/
theorem opS_row {i : Nat} {o : Oper} (hi : ops[i]? = some o) (hg : o.guard = none) (hd : o.dst = none) (t : TypeId) (x y : Operand) (ho : o.op = .store t x y) {K : Act → (World → Prop) → Prop} {a : Act} {C C' : World → Prop}
    (g : Nat) (cs old : List Value) (t' : TypeId) (hx : a.eval x = .pointer (some ⟨g, 0, none⟩)) (hy : a.eval y = .agg (List.toArray cs)) (hb : ∀ w, C w → Blk w g old t') (hin : (P.info? t).map (·.size) = some cs.length) (hl : old.length = cs.length) (h1 : cs.toArray.all (·.oneCell') = true)
    (hC : Stable C') (hS : ∀ w, C' w → S w) (hCC : ∀ w, C w → C' (w.setRow g cs.toArray)) (h : K a C') : opS P ops S i K a C := by
  refine ⟨o, hi, .inr (.inr ⟨hg, fun w => w.setRow g cs.toArray, C', hC, hS, fun w hw => ⟨?_, hCC w hw⟩, ?_⟩)⟩
  · unfold execOp
    simp only [ho, hx, hy, Instr.storeAt, Instr.sureAddr, Sem.run_bind, Sem.run_pure, Result.andThen_ok, run_storeVar_row w g t' t old.toArray cs.toArray (hb w hw) (by simpa using hin) (by simpa using hl) h1]
  · rw [hd]; exact h

theorem stable_2 {w0 : World} (g0 g1 : Nat) (c0 c1 : List Value) (t : TypeId) : Stable (fun w => (Below w0.heap.size w0 w ∧ Blk w g0 c0 t) ∧ Blk w g1 c1 t) := ((stable_below w0).blk g0 c0 t).blk g1 c1 t

/-- Operations of one value each, and two new variables, in whatever order. -/
theorem reg_new2S {id : Nat} {l : List Oper} {o0 o1 s0o s1o : Oper} {a : Act} {w : World} (hm : P.follows .mixedOrders = true) (n : Nat) (hl : l.length = n + 4)
    (ho0 : l[n]? = some o0) (hs0 : l[n + 2]? = some s0o) (ho1 : l[n + 1]? = some o1) (hs1 : l[n + 3]? = some s1o)
    (hns : Region.noSelect l.toArray = true) (hlex : lexOkS .any l.toArray n 0 (none_ (n + 4)) = true)
    (r : Region.ready .any l.toArray (firstN n 0 (none_ (n + 4))) = [n, n + 1])
    (r0 : Region.ready .any l.toArray ((firstN n 0 (none_ (n + 4))).setIfInBounds n true) = [n + 1])
    (r1 : Region.ready .any l.toArray ((firstN n 0 (none_ (n + 4))).setIfInBounds (n + 1) true) = [n])
    (s0 : Region.ready .any l.toArray (((firstN n 0 (none_ (n + 4))).setIfInBounds n true).setIfInBounds (n + 1) true) = [n + 2])
    (s1 : Region.ready .any l.toArray ((((firstN n 0 (none_ (n + 4))).setIfInBounds n true).setIfInBounds (n + 1) true).setIfInBounds (n + 2) true) = [n + 3])
    (s2 : Region.ready .any l.toArray (((((firstN n 0 (none_ (n + 4))).setIfInBounds n true).setIfInBounds (n + 1) true).setIfInBounds (n + 2) true).setIfInBounds (n + 3) true) = [])
    (t : TypeId) (zs : List Value) (hz : ∀ w, (zeroValue t).run P w = .ok (.agg zs.toArray) w) (hinf : (P.info? t).map (·.size) = some zs.length)
    (d0 : Nat) (ga0 : o0.guard = none) (da0 : o0.dst = some d0) (al0 : o0.op = .alloc t) (y0 : Operand) (gs0 : s0o.guard = none) (ds0 : s0o.dst = none) (st0 : s0o.op = .store t (.tmp d0) y0)
    (d1 : Nat) (ga1 : o1.guard = none) (da1 : o1.dst = some d1) (al1 : o1.op = .alloc t) (y1 : Operand) (gs1 : s1o.guard = none) (ds1 : s1o.dst = none) (st1 : s1o.op = .store t (.tmp d1) y1)
    (hne : d0 ≠ d1) (hyd : y0 ≠ .tmp d0 ∧ y0 ≠ .tmp d1 ∧ y1 ≠ .tmp d0 ∧ y1 ≠ .tmp d1)
    (h : wpLex P l.toArray (fun W => Below w.heap.size w W) (fun a' => ∃ c0 c1 : List Value, a'.eval y0 = .agg (List.toArray c0) ∧ zs.length = c0.length ∧ c0.toArray.all (·.oneCell') = true ∧ d0 < a'.tmps.size ∧ a'.eval y1 = .agg (List.toArray c1) ∧ zs.length = c1.length ∧ c1.toArray.all (·.oneCell') = true ∧ d1 < a'.tmps.size ∧
      ∀ g0 g1 W, w.heap.size ≤ g0 → w.heap.size ≤ g1 → g0 ≠ g1 → Below w.heap.size w W → Blk W g0 c0 t → Blk W g1 c1 t → Q .normal ((a'.put (some d0) (.pointer (some ⟨g0, 0, none⟩))).put (some d1) (.pointer (some ⟨g1, 0, none⟩))) W) (l.take n) a) : (Code.region id l.toArray true).wp P Q a w := by
  obtain ⟨e00, e01, e10, e11⟩ := hyd
  have hn : (l.take n).length = n := by simp; omega
  have hi0 : l.toArray[n]? = some o0 := by simpa using ho0
  have hi1 : l.toArray[n + 1]? = some o1 := by simpa using ho1
  have hj0 : l.toArray[n + 2]? = some s0o := by simpa using hs0
  have hj1 : l.toArray[n + 3]? = some s1o := by simpa using hs1
  refine wp_region_any hm ?_; refine wpAny_of_S (S := fun W => Below w.heap.size w W) _ _ _ (fun W => Below w.heap.size w W) (stable_below w) (fun _ h => h) ?_ _ (below_drawn w)
  have := wpAnyS_lex (P := P) (Q := Q) (md := .any) (S := fun W => Below w.heap.size w W) (ops := l.toArray) hns (fun W => Below w.heap.size w W) 4 (l.take n) 0 (none_ (n + 4)) a (by
      intro j hj
      rw [hn] at hj
      simp [List.getElem?_take, hj]) (by rw [hn]; exact hlex) ?_
  · rw [hn, Nat.add_comm] at this
    simpa [none_, hl] using this
  · refine wpLex_mono ?_ (l.take n) a h
    rintro a' ⟨c0, c1, v0, q0, u0, z0, v1, q1, u1, z1, hk⟩
    rw [hn]
    have tail : ∀ (g0 g1 : Nat) (C : World → Prop), w.heap.size ≤ g0 → w.heap.size ≤ g1 → g0 ≠ g1 → (∀ W, C W → (Below w.heap.size w W ∧ Blk W g0 zs t) ∧ Blk W g1 zs t) →
        wpAnyS P .any l.toArray Q (fun W => Below w.heap.size w W) 2 (((firstN n 0 (none_ (n + 4))).setIfInBounds n true).setIfInBounds (n + 1) true) ((a'.put (some d0) (.pointer (some ⟨g0, 0, none⟩))).put (some d1) (.pointer (some ⟨g1, 0, none⟩))) C := by
      intro g0 g1 C lo0 lo1 ne hC
      have ep0 : ((a'.put (some d0) (.pointer (some ⟨g0, 0, none⟩))).put (some d1) (.pointer (some ⟨g1, 0, none⟩))).eval (.tmp d0) = .pointer (some ⟨g0, 0, none⟩) := by
        simp [Act.eval, Act.put, z0, hne, Ne.symm hne, Array.getElem?_setIfInBounds]
      have ep1 : ((a'.put (some d0) (.pointer (some ⟨g0, 0, none⟩))).put (some d1) (.pointer (some ⟨g1, 0, none⟩))).eval (.tmp d1) = .pointer (some ⟨g1, 0, none⟩) := by
        simp [Act.eval, Act.put, z1, Array.getElem?_setIfInBounds]
      have ey0 : ((a'.put (some d0) (.pointer (some ⟨g0, 0, none⟩))).put (some d1) (.pointer (some ⟨g1, 0, none⟩))).eval y0 = .agg (List.toArray c0) := by
        rw [Act.eval_put (fun d hd hyd => e01 (by rw [hyd]; cases hd; rfl)), Act.eval_put (fun d hd hyd => e00 (by rw [hyd]; cases hd; rfl))]; exact v0
      have ey1 : ((a'.put (some d0) (.pointer (some ⟨g0, 0, none⟩))).put (some d1) (.pointer (some ⟨g1, 0, none⟩))).eval y1 = .agg (List.toArray c1) := by
        rw [Act.eval_put (fun d hd hyd => e11 (by rw [hyd]; cases hd; rfl)), Act.eval_put (fun d hd hyd => e10 (by rw [hyd]; cases hd; rfl))]; exact v1
      refine ⟨fun h => (by rw [h] at s0; cases s0), fun i hi => ?_⟩
      obtain rfl : i = n + 2 := by rw [s0] at hi; simpa using hi
      refine opS_row hj0 gs0 ds0 t (.tmp d0) y0 st0 g0 c0 zs t ep0 ey0 (fun W hW => (hC W hW).1.2) (by rw [hinf, q0]) q0 u0 (stable_2 (w0 := w) g0 g1 c0 zs t) (fun W h => h.1.1) (fun W hW => ⟨⟨below_setRow (hC W hW).1.1 _ _ lo0, (hC W hW).1.2.setRow _⟩, (hC W hW).2.setRowOther _ _ (Ne.symm ne)⟩) ?_; refine ⟨fun h => (by rw [h] at s1; cases s1), fun i hi => ?_⟩
      obtain rfl : i = n + 3 := by rw [s1] at hi; simpa using hi
      refine opS_row hj1 gs1 ds1 t (.tmp d1) y1 st1 g1 c1 zs t ep1 ey1 (fun W hW => hW.2) (by rw [hinf, q1]) q1 u1 (stable_2 (w0 := w) g0 g1 c0 c1 t) (fun W h => h.1.1) (fun W hW => ⟨⟨below_setRow hW.1.1 _ _ lo1, hW.1.2.setRowOther _ _ ne⟩, hW.2.setRow _⟩) ?_
      exact ⟨s2, fun W hW => hk g0 g1 W lo0 lo1 ne hW.1.1 hW.1.2 hW.2⟩
    refine ⟨fun h => (by rw [h] at r; cases r), fun i hi => ?_⟩
    have hc : i = n ∨ i = n + 1 := by rw [r] at hi; simpa using hi
    rcases hc with hc | hc
    · rw [hc]
      clear hi hc
      refine ⟨o0, hi0, .inr (.inl ⟨ga0, t, zs, al0, hz, fun g0 ⟨W0, hc0, hg0⟩ => ?_⟩)⟩; refine ⟨fun h => (by rw [h] at r0; cases r0), fun i hi => ?_⟩
      have hc : i = n + 1 := by rw [r0] at hi; simpa using hi
      rw [hc]
      clear hi hc
      refine ⟨o1, hi1, .inr (.inl ⟨ga1, t, zs, al1, hz, fun g1 ⟨W1, hc1, hg1⟩ => ?_⟩)⟩
      rw [da0, da1]
      have hlt : g0 < g1 := by rw [← hg1]; exact hc1.2.lt
      exact tail g0 g1 _ (by rw [← hg0]; exact hc0.size) (by rw [← hg1]; exact hc1.1.size) (by omega) (fun W hW => hW)
    · rw [hc]
      clear hi hc
      refine ⟨o1, hi1, .inr (.inl ⟨ga1, t, zs, al1, hz, fun g1 ⟨W1, hc1, hg1⟩ => ?_⟩)⟩; refine ⟨fun h => (by rw [h] at r1; cases r1), fun i hi => ?_⟩
      have hc : i = n := by rw [r1] at hi; simpa using hi
      rw [hc]
      clear hi hc
      refine ⟨o0, hi0, .inr (.inl ⟨ga0, t, zs, al0, hz, fun g0 ⟨W0, hc0, hg0⟩ => ?_⟩)⟩
      rw [da0, da1]
      have hlt : g1 < g0 := by rw [← hg0]; exact hc0.2.lt
      have hp : ((a'.put (some d1) (.pointer (some ⟨g1, 0, none⟩))).put (some d0) (.pointer (some ⟨g0, 0, none⟩))) = ((a'.put (some d0) (.pointer (some ⟨g0, 0, none⟩))).put (some d1) (.pointer (some ⟨g1, 0, none⟩))) := by
        simp only [Act.put, Act.mk.injEq, true_and, and_true]
        exact Array.setIfInBounds_comm _ _ (Ne.symm hne)
      rw [hp, Array.setIfInBounds_comm _ _ (by omega)]
      exact tail g0 g1 _ (by rw [← hg0]; exact hc0.1.size) (by rw [← hg1]; exact hc1.size) (by omega) (fun W hW => ⟨⟨hW.1.1, hW.2⟩, hW.1.2⟩)
end
set_option maxRecDepth 100000 in
set_option maxHeartbeats 4000000 in
theorem exch_walk (z : Int) (r s : R2) (A B C D : L5)
    (h1 : ∀ W, Calls Tryd.prog 51 #[.int .i64 z, r.x.v, s.x.v] W fun e w' => e = .returned (.tuple #[A.v, B.v]) ∧ Below W.heap.size W w')
    (h2 : ∀ W, Calls Tryd.prog 51 #[.int .i64 z, r.z.v, s.z.v] W fun e w' => e = .returned (.tuple #[C.v, D.v]) ∧ Below W.heap.size W w')
    (w : World) : Calls Tryd.prog 35 #[.int .i64 z, r.v, s.v] w fun e w' => e = .returned (.tuple #[(R2.mk A C).v, (R2.mk B D).v]) ∧ Below w.heap.size w w' := by
  go_enter Tryd.func35, Tryd.ntmps35
  go_upto_region 1 with (first | (refine wpList_boxAt rfl 73 (.tmp 1) rfl (r.cs) rfl (w.heap.size) rfl ?_) | (refine wpList_boxAt rfl 73 (.tmp 2) rfl (s.cs) rfl (w.heap.size + 1) (by simp) ?_) | (refine wpList_newAt rfl 73 rfl zero10.cs zero55 (w.heap.size + 1 + 1) (size2 _ _ _) ?_) | (refine wpList_newAt rfl 73 rfl zero10.cs zero55 (w.heap.size + 1 + 1 + 1) (size3 _ _ _ _) ?_))
  have b0 : Blk ((((w.alloc (.cells (r.cs).toArray 73)).alloc (.cells (s.cs).toArray 73)).alloc (.cells (zero10.cs).toArray 73)).alloc (.cells (zero10.cs).toArray 73)) (w.heap.size) (r.cs) 73 := by
    have := (((Blk.new w (r.cs) 73).alloc (.cells (s.cs).toArray 73)).alloc (.cells (zero10.cs).toArray 73)).alloc (.cells (zero10.cs).toArray 73)
    simpa using this
  have b1 : Blk ((((w.alloc (.cells (r.cs).toArray 73)).alloc (.cells (s.cs).toArray 73)).alloc (.cells (zero10.cs).toArray 73)).alloc (.cells (zero10.cs).toArray 73)) (w.heap.size + 1) (s.cs) 73 := by
    have := ((Blk.new (w.alloc (.cells (r.cs).toArray 73)) (s.cs) 73).alloc (.cells (zero10.cs).toArray 73)).alloc (.cells (zero10.cs).toArray 73)
    simpa using this
  have b2 : Blk ((((w.alloc (.cells (r.cs).toArray 73)).alloc (.cells (s.cs).toArray 73)).alloc (.cells (zero10.cs).toArray 73)).alloc (.cells (zero10.cs).toArray 73)) (w.heap.size + 1 + 1) (zero10.cs) 73 := by
    have := (Blk.new ((w.alloc (.cells (r.cs).toArray 73)).alloc (.cells (s.cs).toArray 73)) (zero10.cs) 73).alloc (.cells (zero10.cs).toArray 73)
    simpa using this
  have b3 : Blk ((((w.alloc (.cells (r.cs).toArray 73)).alloc (.cells (s.cs).toArray 73)).alloc (.cells (zero10.cs).toArray 73)).alloc (.cells (zero10.cs).toArray 73)) (w.heap.size + 1 + 1 + 1) (zero10.cs) 73 := by
    have := Blk.new (((w.alloc (.cells (r.cs).toArray 73)).alloc (.cells (s.cs).toArray 73)).alloc (.cells (zero10.cs).toArray 73)) (zero10.cs) 73
    simpa using this
  have be : Below w.heap.size w ((((w.alloc (.cells (r.cs).toArray 73)).alloc (.cells (s.cs).toArray 73)).alloc (.cells (zero10.cs).toArray 73)).alloc (.cells (zero10.cs).toArray 73)) := by go_grown
  generalize ((((w.alloc (.cells (r.cs).toArray 73)).alloc (.cells (s.cs).toArray 73)).alloc (.cells (zero10.cs).toArray 73)).alloc (.cells (zero10.cs).toArray 73)) = w1 at b0 b1 b2 b3 be ⊢
  obtain ⟨n, hn⟩ : ∃ n, w.heap.size = n := ⟨_, rfl⟩
  rw [hn] at b0 b1 b2 b3 be ⊢
  try simp only [Act.put, List.setIfInBounds_toArray, List.set_cons_zero, List.set_cons_succ]
  refine lst_then 10 ?_
  simp only [List.take_succ_cons, List.take_zero]
  refine wpLex_cons2 _ (uni_val (by rfl) (Op.move (Operand.tmp 0)) rfl (.int .i64 z) (fun o' ho W _ => by go_simp)) (by simp only [Act.put, List.setIfInBounds_toArray, List.set_cons_zero, List.set_cons_succ]; rfl) ?_; refine wpLex_cons2 _ (uni_val (by rfl) (Op.fieldAddr 73 (Operand.tmp 4) 0) rfl (.pointer (some ⟨n, 0, none⟩)) (fun o' ho W _ => by go_simp)) (by simp only [Act.put, List.setIfInBounds_toArray, List.set_cons_zero, List.set_cons_succ]; rfl) ?_; refine wpLex_cons2 _ (uni_mid rfl 71 (.tmp 10) rfl (n) 0 r.x.cs rfl (fun W hW => (b0.on hW).range (at_x r)) Tryd.underlying71 rfl (cs_info _)) (by simp only [Act.put, List.setIfInBounds_toArray, List.set_cons_zero, List.set_cons_succ]; rfl) ?_; refine wpLex_cons2 _ (uni_val (by rfl) (Op.fieldAddr 73 (Operand.tmp 5) 0) rfl (.pointer (some ⟨n + 1, 0, none⟩)) (fun o' ho W _ => by go_simp)) (by simp only [Act.put, List.setIfInBounds_toArray, List.set_cons_zero, List.set_cons_succ]; rfl) ?_; refine wpLex_cons2 _ (uni_mid rfl 71 (.tmp 12) rfl (n + 1) 0 s.x.cs rfl (fun W hW => (b1.on hW).range (at_x s)) Tryd.underlying71 rfl (cs_info _)) (by simp only [Act.put, List.setIfInBounds_toArray, List.set_cons_zero, List.set_cons_succ]; rfl) ?_; refine wpLex_cons2 _ (uni_callF (by rfl) 51 [Operand.tmp 9, Operand.tmp 11, Operand.tmp 13] #[3, 71, 71] rfl [.int .i64 z, r.x.v, s.x.v] (.tuple #[A.v, B.v]) rfl enter51 (fun W hW => h1 W)) (by simp only [Act.put, List.setIfInBounds_toArray, List.set_cons_zero, List.set_cons_succ]; rfl) ?_; refine wpLex_cons2 _ (uni_val (by rfl) (Op.move (Operand.tmp 14)) rfl ((.tuple #[A.v, B.v])) (fun o' ho W _ => by go_simp)) (by simp only [Act.put, List.setIfInBounds_toArray, List.set_cons_zero, List.set_cons_succ]; rfl) ?_; refine wpLex_cons2 _ (uni_val (by rfl) (Op.extract (Operand.tmp 8) 0) rfl (A.v) (fun o' ho W _ => by go_simp)) (by simp only [Act.put, List.setIfInBounds_toArray, List.set_cons_zero, List.set_cons_succ]; rfl) ?_; refine wpLex_cons2 _ (uni_val (by rfl) (Op.extract (Operand.tmp 8) 1) rfl (B.v) (fun o' ho W _ => by go_simp)) (by simp only [Act.put, List.setIfInBounds_toArray, List.set_cons_zero, List.set_cons_succ]; rfl) ?_; refine wpLex_cons2 _ (uni_val (by rfl) (Op.fieldAddr 73 (Operand.tmp 4) 0) rfl (.pointer (some ⟨n, 0, none⟩)) (fun o' ho W _ => by go_simp)) (by simp only [Act.put, List.setIfInBounds_toArray, List.set_cons_zero, List.set_cons_succ]; rfl) ?_
  intro wy hW
  simp only [List.drop_succ_cons, List.drop_zero]
  replace b0 := b0.on hW
  replace b1 := b1.on hW
  replace b2 := b2.on hW
  replace b3 := b3.on hW
  replace be := be.trans (hW.mono (by have := be.size; omega))
  clear hW
  refine lst_store rfl rfl 71 (.tmp 17) (.tmp 15) rfl n 0 A.cs rfl rfl (b0.there (le_x _ _)) (cs_info _) (cs_one _) ?_; refine lst_val rfl (Op.fieldAddr 73 (Operand.tmp 5) 0) rfl (.pointer (some ⟨n + 1, 0, none⟩)) (fun o' ho => by go_simp) (by simp only [Act.put, List.setIfInBounds_toArray, List.set_cons_zero, List.set_cons_succ]; rfl) ?_
  replace b0 := b0.setCells A.cs 0
  rw [over_x r A] at b0
  replace b1 := b1.setCellsOther (k := n) (by omega) A.cs 0
  replace b2 := b2.setCellsOther (k := n) (by omega) A.cs 0
  replace b3 := b3.setCellsOther (k := n) (by omega) A.cs 0
  replace be := below_setCells (g := n) (by omega) A.cs 0 be
  generalize wy.setCells n 0 A.cs = wv at b0 b1 b2 b3 be ⊢
  refine lst_store rfl rfl 71 (.tmp 18) (.tmp 16) rfl (n + 1) 0 B.cs rfl rfl (b1.there (le_x _ _)) (cs_info _) (cs_one _) ?_
  replace b1 := b1.setCells B.cs 0
  rw [over_x s B] at b1
  replace b0 := b0.setCellsOther (k := n + 1) (by omega) B.cs 0
  replace b2 := b2.setCellsOther (k := n + 1) (by omega) B.cs 0
  replace b3 := b3.setCellsOther (k := n + 1) (by omega) B.cs 0
  replace be := below_setCells (g := n + 1) (by omega) B.cs 0 be
  generalize wv.setCells (n + 1) 0 B.cs = w2 at b0 b1 b2 b3 be ⊢
  clear wv wy w1
  refine wpList_nil ?_
  go_upto_region 2 with fail
  refine lst_then 10 ?_
  simp only [List.take_succ_cons, List.take_zero]
  refine wpLex_cons2 _ (uni_val (by rfl) (Op.move (Operand.tmp 0)) rfl (.int .i64 z) (fun o' ho W _ => by go_simp)) (by simp only [Act.put, List.setIfInBounds_toArray, List.set_cons_zero, List.set_cons_succ]; rfl) ?_; refine wpLex_cons2 _ (uni_val (by rfl) (Op.fieldAddr 73 (Operand.tmp 4) 1) rfl (.pointer (some ⟨n, 5, none⟩)) (fun o' ho W _ => by go_simp)) (by simp only [Act.put, List.setIfInBounds_toArray, List.set_cons_zero, List.set_cons_succ]; rfl) ?_; refine wpLex_cons2 _ (uni_mid rfl 71 (.tmp 21) rfl (n) 5 (R2.mk A r.z).z.cs rfl (fun W hW => (b0.on hW).range (at_z (R2.mk A r.z))) Tryd.underlying71 rfl (cs_info _)) (by simp only [Act.put, List.setIfInBounds_toArray, List.set_cons_zero, List.set_cons_succ]; rfl) ?_; refine wpLex_cons2 _ (uni_val (by rfl) (Op.fieldAddr 73 (Operand.tmp 5) 1) rfl (.pointer (some ⟨n + 1, 5, none⟩)) (fun o' ho W _ => by go_simp)) (by simp only [Act.put, List.setIfInBounds_toArray, List.set_cons_zero, List.set_cons_succ]; rfl) ?_; refine wpLex_cons2 _ (uni_mid rfl 71 (.tmp 23) rfl (n + 1) 5 (R2.mk B s.z).z.cs rfl (fun W hW => (b1.on hW).range (at_z (R2.mk B s.z))) Tryd.underlying71 rfl (cs_info _)) (by simp only [Act.put, List.setIfInBounds_toArray, List.set_cons_zero, List.set_cons_succ]; rfl) ?_; refine wpLex_cons2 _ (uni_callF (by rfl) 51 [Operand.tmp 20, Operand.tmp 22, Operand.tmp 24] #[3, 71, 71] rfl [.int .i64 z, (R2.mk A r.z).z.v, (R2.mk B s.z).z.v] (.tuple #[C.v, D.v]) rfl enter51 (fun W hW => h2 W)) (by simp only [Act.put, List.setIfInBounds_toArray, List.set_cons_zero, List.set_cons_succ]; rfl) ?_; refine wpLex_cons2 _ (uni_val (by rfl) (Op.move (Operand.tmp 25)) rfl ((.tuple #[C.v, D.v])) (fun o' ho W _ => by go_simp)) (by simp only [Act.put, List.setIfInBounds_toArray, List.set_cons_zero, List.set_cons_succ]; rfl) ?_; refine wpLex_cons2 _ (uni_val (by rfl) (Op.extract (Operand.tmp 19) 0) rfl (C.v) (fun o' ho W _ => by go_simp)) (by simp only [Act.put, List.setIfInBounds_toArray, List.set_cons_zero, List.set_cons_succ]; rfl) ?_; refine wpLex_cons2 _ (uni_val (by rfl) (Op.extract (Operand.tmp 19) 1) rfl (D.v) (fun o' ho W _ => by go_simp)) (by simp only [Act.put, List.setIfInBounds_toArray, List.set_cons_zero, List.set_cons_succ]; rfl) ?_; refine wpLex_cons2 _ (uni_val (by rfl) (Op.fieldAddr 73 (Operand.tmp 4) 1) rfl (.pointer (some ⟨n, 5, none⟩)) (fun o' ho W _ => by go_simp)) (by simp only [Act.put, List.setIfInBounds_toArray, List.set_cons_zero, List.set_cons_succ]; rfl) ?_
  intro wy hW
  simp only [List.drop_succ_cons, List.drop_zero]
  replace b0 := b0.on hW
  replace b1 := b1.on hW
  replace b2 := b2.on hW
  replace b3 := b3.on hW
  replace be := be.trans (hW.mono (by have := be.size; omega))
  clear hW
  refine lst_store rfl rfl 71 (.tmp 28) (.tmp 26) rfl n 5 C.cs rfl rfl (b0.there (le_z _ _)) (cs_info _) (cs_one _) ?_; refine lst_val rfl (Op.fieldAddr 73 (Operand.tmp 5) 1) rfl (.pointer (some ⟨n + 1, 5, none⟩)) (fun o' ho => by go_simp) (by simp only [Act.put, List.setIfInBounds_toArray, List.set_cons_zero, List.set_cons_succ]; rfl) ?_
  replace b0 := b0.setCells C.cs 5
  rw [over_z (R2.mk A r.z) C] at b0
  replace b1 := b1.setCellsOther (k := n) (by omega) C.cs 5
  replace b2 := b2.setCellsOther (k := n) (by omega) C.cs 5
  replace b3 := b3.setCellsOther (k := n) (by omega) C.cs 5
  replace be := below_setCells (g := n) (by omega) C.cs 5 be
  generalize wy.setCells n 5 C.cs = wv at b0 b1 b2 b3 be ⊢
  refine lst_store rfl rfl 71 (.tmp 29) (.tmp 27) rfl (n + 1) 5 D.cs rfl rfl (b1.there (le_z _ _)) (cs_info _) (cs_one _) ?_
  replace b1 := b1.setCells D.cs 5
  rw [over_z (R2.mk B s.z) D] at b1
  replace b0 := b0.setCellsOther (k := n + 1) (by omega) D.cs 5
  replace b2 := b2.setCellsOther (k := n + 1) (by omega) D.cs 5
  replace b3 := b3.setCellsOther (k := n + 1) (by omega) D.cs 5
  replace be := below_setCells (g := n + 1) (by omega) D.cs 5 be
  generalize wv.setCells (n + 1) 5 D.cs = w3 at b0 b1 b2 b3 be ⊢
  clear wv wy w2
  refine wpList_nil ?_
  go_upto_region 3 with fail
  obtain ⟨X, hX⟩ : ∃ X, X = (R2.mk A C) := ⟨_, rfl⟩
  obtain ⟨Y, hY⟩ : ∃ Y, Y = (R2.mk B D) := ⟨_, rfl⟩
  replace b0 : Blk w3 n X.cs 73 := by rw [hX]; exact b0
  replace b1 : Blk w3 (n + 1) Y.cs 73 := by rw [hY]; exact b1
  have rx : ∀ W, (Blk W n X.cs 73 ∧ Blk W (n + 1) Y.cs 73) → W.rangeAt n 0 X.cs := fun W hW j v hv => by
    rw [hW.1.cell, Nat.zero_add]; exact hv
  have ry : ∀ W, (Blk W n X.cs 73 ∧ Blk W (n + 1) Y.cs 73) → W.rangeAt (n + 1) 0 Y.cs := fun W hW j v hv => by
    rw [hW.2.cell, Nat.zero_add]; exact hv
  have H0 : Blk { w3 with drawn := w3.drawn + 1 } n X.cs 73 ∧ Blk { w3 with drawn := w3.drawn + 1 } (n + 1) Y.cs 73 := ⟨b0, b1⟩
  have ce : Below n w { w3 with drawn := w3.drawn + 1 } := be.drew
  have c2 : Blk { w3 with drawn := w3.drawn + 1 } (n + 1 + 1) zero10.cs 73 := b2
  have c3 : Blk { w3 with drawn := w3.drawn + 1 } (n + 1 + 1 + 1) zero10.cs 73 := b3
  refine wp_region_noPanic ?_; refine wp_region_held (S := fun W => Blk W n X.cs 73 ∧ Blk W (n + 1) Y.cs 73) (by kernel_rfl) ?_; refine takeH_load (i := 0) rfl 30 rfl 73 (.tmp 4) rfl (by kernel_rfl) (by kernel_rfl) (by kernel_rfl) (fun _ _ _ h => h) (by rfl) n 0 rfl X.cs rfl rx Tryd.underlying73 rfl (rs_info _) H0 ?_
  simp only [Act.put, List.setIfInBounds_toArray, List.set_cons_zero, List.set_cons_succ]
  refine takeH_load (i := 1) rfl 31 rfl 73 (.tmp 5) rfl (by kernel_rfl) (by kernel_rfl) (by kernel_rfl) (fun _ _ _ h => h) (by rfl) (n + 1) 0 rfl Y.cs rfl ry Tryd.underlying73 rfl (rs_info _) H0 ?_
  simp only [Act.put, List.setIfInBounds_toArray, List.set_cons_zero, List.set_cons_succ]
  generalize ({ w3 with drawn := w3.drawn + 1 } : World) = wd at H0 c2 c3 ce ⊢
  refine onlyH (i := 2) (by kernel_rfl) ?_; refine op_row rfl (by rfl) rfl 73 (.tmp 6) (.tmp 30) rfl (n + 1 + 1) X.cs zero10.cs 73 rfl rfl c2 (rs_info _) (rs_len _ _) (rs_one _) ?_
  have H1 : Blk (wd.setRow (n + 1 + 1) X.cs.toArray) n X.cs 73 ∧ Blk (wd.setRow (n + 1 + 1) X.cs.toArray) (n + 1) Y.cs 73 := ⟨H0.1.setRowOther _ _ (by omega), H0.2.setRowOther _ _ (by omega)⟩
  refine ⟨H1, ?_⟩; refine onlyH (i := 3) (by kernel_rfl) ?_; refine op_row rfl (by rfl) rfl 73 (.tmp 7) (.tmp 31) rfl (n + 1 + 1 + 1) Y.cs zero10.cs 73 rfl rfl (c3.setRowOther _ _ (by omega)) (rs_info _) (rs_len _ _) (rs_one _) ?_
  have d2 := (c2.setRow X.cs).setRowOther (n + 1 + 1 + 1) Y.cs.toArray (by omega)
  have d3 := (c3.setRowOther (n + 1 + 1) X.cs.toArray (by omega)).setRow Y.cs
  have de := below_setRow (below_setRow ce (n + 1 + 1) X.cs.toArray (by omega)) (n + 1 + 1 + 1) Y.cs.toArray (by omega)
  refine ⟨⟨H1.1.setRowOther _ _ (by omega), H1.2.setRowOther _ _ (by omega)⟩, ?_⟩
  generalize (wd.setRow (n + 1 + 1) X.cs.toArray).setRow (n + 1 + 1 + 1) Y.cs.toArray = we at d2 d3 de ⊢
  refine wpAnyH_done (by kernel_rfl) ?_ _; refine NoPanic.normal ?_
  go_wp2
  refine bodyPost_ret (results_cells Tryd.results35 _ _ (n + 1 + 1) (n + 1 + 1 + 1) 73 X.cs.toArray Y.cs.toArray _ rfl rfl d2 d3 Tryd.underlying73 rfl (rs_infoA _) (rs_infoA _)) rfl ?_
  exact ⟨by rw [hX, hY]; rfl, by first | (rw [hn]; exact de) | exact de⟩
theorem exch_odd {z : Int} (h : z % 2 = 1) (r s : R2) (w : World) : Calls Tryd.prog 35 #[.int .i64 z, r.v, s.v] w fun e w' => e = .returned (.tuple #[s.v, r.v]) ∧ Below w.heap.size w w' :=
  exch_walk z r s s.x r.x s.z r.z (fun W => swap_odd h r.x s.x W) (fun W => swap_odd h r.z s.z W) w
theorem exch_even {z : Int} (h : z % 2 = 0) (r s : R2) (w : World) : Calls Tryd.prog 35 #[.int .i64 z, r.v, s.v] w fun e w' => e = .returned (.tuple #[r.v, s.v]) ∧ Below w.heap.size w w' :=
  exch_walk z r s r.x s.x r.z s.z (fun W => swap_even h r.x s.x W) (fun W => swap_even h r.z s.z W) w

set_option maxRecDepth 100000 in
set_option maxHeartbeats 4000000 in
theorem whole_any (r : R2) (w : World) : Calls Tryd.prog 27 #[r.v] w fun e w' => e = .returned (mulE r.x (invE r.z)).v ∧ Below w.heap.size w w' := by
  obtain ⟨I, hI⟩ : ∃ I, I = invE r.z := ⟨_, rfl⟩
  obtain ⟨M, hM⟩ : ∃ M, M = mulE r.x I := ⟨_, rfl⟩
  have h1 : ∀ W, Calls Tryd.prog 39 #[r.z.v] W fun e w' => e = .returned I.v ∧ Below W.heap.size W w' := fun W => by rw [hI]; exact inv_any r.z W
  have h2 : ∀ W, Calls Tryd.prog 38 #[r.x.v, I.v] W fun e w' => e = .returned M.v ∧ Below W.heap.size W w' := fun W => by rw [hM]; exact mul_any r.x I W
  have HM := hide hM
  have HI := hide hI
  rw [← hI, ← hM]
  clear hI hM
  go_enter Tryd.func27, Tryd.ntmps27
  go_upto_region 1 with (first | (refine wpList_boxAt rfl 73 (.tmp 0) rfl (r.cs) rfl (w.heap.size) rfl ?_) | (refine wpList_newAt rfl 71 rfl z5 zero27 (w.heap.size + 1) (size1 _ _) ?_))
  have b0 : Blk ((w.alloc (.cells (r.cs).toArray 73)).alloc (.cells (z5).toArray 71)) (w.heap.size) (r.cs) 73 := by
    have := (Blk.new w (r.cs) 73).alloc (.cells (z5).toArray 71)
    simpa using this
  have b1 : Blk ((w.alloc (.cells (r.cs).toArray 73)).alloc (.cells (z5).toArray 71)) (w.heap.size + 1) (z5) 71 := by
    have := Blk.new (w.alloc (.cells (r.cs).toArray 73)) (z5) 71
    simpa using this
  have be : Below w.heap.size w ((w.alloc (.cells (r.cs).toArray 73)).alloc (.cells (z5).toArray 71)) := by go_grown
  generalize ((w.alloc (.cells (r.cs).toArray 73)).alloc (.cells (z5).toArray 71)) = w1 at b0 b1 be ⊢
  obtain ⟨n, hn⟩ : ∃ n, w.heap.size = n := ⟨_, rfl⟩
  rw [hn] at b0 b1 be ⊢
  try simp only [Act.put, List.setIfInBounds_toArray, List.set_cons_zero, List.set_cons_succ]
  refine reg_putT (by kernel_rfl) 6 rfl rfl (by kernel_rfl) rfl rfl 71 (.tmp 2) (.tmp 8) rfl ?_
  simp only [List.take_succ_cons, List.take_zero]
  refine wpLex_cons2 _ (uni_val (by rfl) (Op.fieldAddr 73 (Operand.tmp 1) 0) rfl (.pointer (some ⟨n, 0, none⟩)) (fun o' ho W _ => by go_simp)) (by simp only [Act.put, List.setIfInBounds_toArray, List.set_cons_zero, List.set_cons_succ]; rfl) ?_; refine wpLex_cons2 _ (uni_mid rfl 71 (.tmp 3) rfl (n) 0 r.x.cs rfl (fun W hW => (b0.on hW).range (at_x r)) Tryd.underlying71 rfl (cs_info _)) (by simp only [Act.put, List.setIfInBounds_toArray, List.set_cons_zero, List.set_cons_succ]; rfl) ?_; refine wpLex_cons2 _ (uni_val (by rfl) (Op.fieldAddr 73 (Operand.tmp 1) 1) rfl (.pointer (some ⟨n, 5, none⟩)) (fun o' ho W _ => by go_simp)) (by simp only [Act.put, List.setIfInBounds_toArray, List.set_cons_zero, List.set_cons_succ]; rfl) ?_; refine wpLex_cons2 _ (uni_mid rfl 71 (.tmp 5) rfl (n) 5 r.z.cs rfl (fun W hW => (b0.on hW).range (at_z r)) Tryd.underlying71 rfl (cs_info _)) (by simp only [Act.put, List.setIfInBounds_toArray, List.set_cons_zero, List.set_cons_succ]; rfl) ?_; refine wpLex_cons2 _ (uni_callF (by rfl) 39 [Operand.tmp 6] #[71] rfl [r.z.v] (I.v) rfl enter39 (fun W hW => h1 W)) (by simp only [Act.put, List.setIfInBounds_toArray, List.set_cons_zero, List.set_cons_succ]; rfl) ?_; refine wpLex_cons2 _ (uni_callF (by rfl) 38 [Operand.tmp 4, Operand.tmp 7] #[71, 71] rfl [r.x.v, (I.v)] (M.v) rfl enter38 (fun W hW => h2 W)) (by simp only [Act.put, List.setIfInBounds_toArray, List.set_cons_zero, List.set_cons_succ]; rfl) ?_; refine ⟨n + 1, M.cs, z5, 71, rfl, rfl, b1, cs_info _, cs_len _, cs_one _, fun wz hW => ?_⟩
  go_wp2
  refine bodyPost_ret (results_cell_row Tryd.results27 _ _ (n + 1) 71 M.cs.toArray (0, 0) _ rfl ((b1.on hW).setRow _) Tryd.underlying71 rfl (cs_infoA _)) rfl ?_
  exact ⟨rfl, by first | (rw [hn]; exact below_setRow (be.trans (hW.mono (by have := be.size; omega))) _ _ (by omega)) | exact below_setRow (be.trans (hW.mono (by have := be.size; omega))) _ _ (by omega)⟩
end Go.Proofs.YtoceepmehmacbaaDoor.Cv
