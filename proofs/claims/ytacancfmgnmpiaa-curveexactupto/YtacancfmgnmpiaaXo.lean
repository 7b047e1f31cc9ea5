import Derived.Test.YtacancfmgnmpiaaXn
set_option linter.unusedVariables false
set_option linter.unusedSimpArgs false
namespace Go.Proofs.Ytacancfmgnmpiaa
open Go.RowKit

section
variable {P : Program} {ops : Array Oper} {Q : Exit → Act → World → Prop} {md : Region.Mode} {S : Nat → World → Prop}

theorem uni_sub {S C : World → Prop} {o : Oper} {v : Value} {a : Act} (hS : ∀ w, C w → S w) (h : Uni P ops S o v a) : Uni P ops C o v a := by
  rcases h with ⟨hw, h | ⟨f, args, h1, h2⟩⟩ | h
  · exact .inl ⟨hw, .inl fun w hc => h w (hS w hc)⟩
  · exact .inl ⟨hw, .inr ⟨f, args, fun w hc => h1 w (hS w hc), fun w hc => h2 w (hS w hc)⟩⟩
  · exact .inr h
/-- One operation: of one value everywhere, a new variable, or a change of the world that S outlives. -/
def opC (P : Program) (ops : Array Oper) (S : Nat → World → Prop) (i : Nat) (K : Act → (World → Prop) → Prop) (a : Act) (C : World → Prop) : Prop :=
  ∃ o, ops[i]? = some o ∧ ((∃ v, Uni P ops C o v a ∧ K (a.put o.dst v) C) ∨
    (o.guard = none ∧ ∃ t zs, o.op = .alloc t ∧ (∀ w, (zeroValue t).run P w = .ok (.agg (List.toArray zs)) w) ∧
      ∀ g, (∃ w, C w ∧ w.heap.size = g) → K (a.put o.dst (.pointer (some ⟨g, 0, none⟩))) (fun w => C w ∧ Blk w g zs t)) ∨
    (o.guard = none ∧ ∃ (F : World → World) (C' : World → Prop), Stable C' ∧ (∀ w, C' w → S i w) ∧ (∀ w, C w → (execOp a.eval o).run P w = .ok .skip (F w) ∧ C' (F w)) ∧ K (a.put o.dst undef) C'))

def wpAnyC (P : Program) (md : Region.Mode) (ops : Array Oper) (Q : Exit → Act → World → Prop) (S : Nat → World → Prop) : Nat → Array Bool → Act → (World → Prop) → Prop
  | 0, listed, a, C => Region.ready md ops listed = [] ∧ ∀ w, C w → Q .normal a w
  | n + 1, listed, a, C => (Region.ready md ops listed = [] → ∀ w, C w → Q .normal a w) ∧ ∀ i ∈ Region.ready md ops listed, opC P ops S i (fun a' C' => wpAnyC P md ops Q S n (listed.setIfInBounds i true) a' C') a C

theorem opC_mono {i : Nat} {K K' : Act → (World → Prop) → Prop} (hK : ∀ a C, K a C → K' a C) {a : Act} {C : World → Prop} (h : opC P ops S i K a C) : opC P ops S i K' a C := by
  obtain ⟨o, ho, ⟨v, hv, h⟩ | ⟨hg, t, zs, ht, hz, h⟩ | ⟨hg, F, C', h1, h2, h3, h4⟩⟩ := h
  · exact ⟨o, ho, .inl ⟨v, hv, hK _ _ h⟩⟩
  · exact ⟨o, ho, .inr (.inl ⟨hg, t, zs, ht, hz, fun g hg => hK _ _ (h g hg)⟩)⟩
  · exact ⟨o, ho, .inr (.inr ⟨hg, F, C', h1, h2, h3, hK _ _ h4⟩)⟩

theorem wpAny_of_C : ∀ (n : Nat) (listed : Array Bool) (a : Act) (C : World → Prop), Stable C → wpAnyC P md ops Q S n listed a C → ∀ w, C w → wpAny P md ops Q n listed a w
  | 0, _, _, _, _, h, w, hw => ⟨h.1, h.2 w hw⟩
  | n + 1, listed, a, C, hC, h, w, hw => by
    refine ⟨fun h0 => h.1 h0 w hw, fun i hi => ?_⟩
    obtain ⟨o, ho, ⟨v, hv, hk⟩ | ⟨hg, t, zs, ht, hz, hk⟩ | ⟨hg, F, C', h1, h2, h3, hk⟩⟩ := h.2 i hi
    · unfold wpOp
      simp only [ho]
      rcases hv with ⟨hwa, hv | ⟨f, args, hv, hc⟩⟩ | ⟨hwa, rfl⟩
      · simp only [hwa, if_true, Oper.wp, hv w hw, Oper.upon]
        exact .inl (wpAny_of_C n _ _ C hC hk w hw)
      · simp only [hwa, if_true, Oper.wp, hv w hw, Oper.upon]
        refine .inl ((hc w hw).mono fun e w' ⟨he, hb⟩ => ?_)
        subst he
        exact wpAny_of_C n _ _ C hC hk w' (hC w w' hw hb)
      · simp only [hwa, Bool.false_eq_true, if_false]
        exact wpAny_of_C n _ _ C hC hk w hw
    · unfold wpOp
      have hwa : Region.wanted o (yielded ops a.tmps) = true := by simp [Region.wanted, hg]
      simp only [ho, hwa, if_true, Oper.wp, run_new t ht zs hz w, Oper.upon]
      refine .inl (wpAny_of_C n _ _ _ (hC.blk w.heap.size zs t) (hk _ ⟨w, hw, rfl⟩) _ ⟨hC w _ hw ?_, Blk.new w zs t⟩)
      exact (Below.refl _ _).alloc (Nat.le_refl _) _
    · unfold wpOp
      have hwa : Region.wanted o (yielded ops a.tmps) = true := by simp [Region.wanted, hg]
      simp only [ho, hwa, if_true, Oper.wp, (h3 w hw).1, Oper.upon]
      exact .inl (wpAny_of_C n _ _ C' h1 hk _ (h3 w hw).2)

theorem opC_put {S0 : World → Prop} {j : Nat} {oi oj : Oper} {v : Value} (hj : ops[j]? = some oj) (hap : oi.apart ops oj = true)
    (hsi : ∀ cs b, oi.op ≠ .select cs b) (hsj : ∀ cs b, oj.op ≠ .select cs b) {K : Act → (World → Prop) → Prop} {a : Act} {C : World → Prop}
    (hSj : ∀ w, S j w → S0 w) (hS : ∀ w, C w → S0 w) (hy : Uni P ops S0 oi v a) (h : opC P ops S j K (a.put oi.dst v) C) :
    opC P ops S j (fun a' C' => Uni P ops S0 oi v a' ∧ (∀ w, C' w → S0 w) ∧ K (a'.put oi.dst v) C') a C := by
  obtain ⟨h1, h2, h3⟩ := Oper.apart_spec hap
  have keep : ∀ u, Uni P ops S0 oi v (a.put oj.dst u) := fun u => hy.of_same (execOp_put oi hsi a oj.dst u h3) (wanted_put oi a oj.dst u h3)
  obtain ⟨o, ho, h⟩ := h
  obtain rfl : oj = o := Option.some.inj (hj.symm.trans ho)
  refine ⟨oj, hj, ?_⟩
  rcases h with ⟨u, hu, hk⟩ | ⟨hg, t, zs, ht, hz, hk⟩ | ⟨hg, F, C', k1, k2, k3, hk⟩
  · refine .inl ⟨u, hu.of_same (execOp_put oj hsj a oi.dst v h1).symm (wanted_put oj a oi.dst v h1).symm, keep u, hS, ?_⟩
    rw [← Act.put_comm a v u h2]; exact hk
  · refine .inr (.inl ⟨hg, t, zs, ht, hz, fun g hgw => ⟨keep _, fun w h => hS w h.1, ?_⟩⟩)
    rw [← Act.put_comm a v _ h2]; exact hk g hgw
  · refine .inr (.inr ⟨hg, F, C', k1, k2, fun w hw => ?_, keep _, fun w h => hSj w (k2 w h), ?_⟩)
    · have := k3 w hw
      rw [execOp_put oj hsj a oi.dst v h1] at this
      exact this
    · rw [← Act.put_comm a v undef h2]; exact hk

/-- An operation of one value everywhere may be taken first. -/
theorem wpAnyC_first {S0 : World → Prop} {i : Nat} {oi : Oper} {v : Value} (hi : ops[i]? = some oi) (hsel : ∀ (j : Nat) (o : Oper) cs b, ops[j]? = some o → o.op ≠ .select cs b)
    (hSS : ∀ j oj, ops[j]? = some oj → j ≠ i → (∀ e ∈ oj.after, Region.binds md e = true → e.on ≠ i) → ∀ w, S j w → S0 w) :
    ∀ (fuel : Nat) (listed : Array Bool) (a : Act) (C : World → Prop),
      (∀ j oj, ops[j]? = some oj → j ≠ i → listed.getD j true = false → (∀ e ∈ oj.after, Region.binds md e = true → e.on ≠ i) → oi.apart ops oj = true) →
      i ∈ Region.ready md ops listed →
      Uni P ops S0 oi v a → (∀ w, C w → S0 w) →
      wpAnyC P md ops Q S fuel (listed.setIfInBounds i true) (a.put oi.dst v) C → wpAnyC P md ops Q S (fuel + 1) listed a C := by
  intro fuel
  induction fuel with
  | zero =>
    intro listed a C _ hr hy hS H
    refine ⟨fun h => (by rw [h] at hr; cases hr), fun j hj => ?_⟩
    by_cases hji : j = i
    · subst hji; exact ⟨oi, hi, .inl ⟨v, uni_sub hS hy, H⟩⟩
    · have := ready_mono hj hji
      rw [H.1] at this
      cases this
  | succ fuel ih =>
    intro listed a C hfree hr hy hS H
    refine ⟨fun h => (by rw [h] at hr; cases hr), fun j hj => ?_⟩
    by_cases hji : j = i
    · subst hji; exact ⟨oi, hi, .inl ⟨v, uni_sub hS hy, H⟩⟩
    · have h1 := H.2 j (ready_mono hj hji)
      obtain ⟨hjun, oj, hoj, hall⟩ := mem_ready.1 hj
      have hnot : ∀ e ∈ oj.after, Region.binds md e = true → e.on ≠ i := fun e he hb heq => by
        exact getD_no (mem_ready.1 hr).1 (heq ▸ hall e he hb)
      have h2 := opC_put hoj (hfree j oj hoj hji hjun hnot) (fun cs b => hsel i oi cs b hi) (fun cs b => hsel j oj cs b hoj) (hSS j oj hoj hji hnot) hS hy h1
      have hfree' : ∀ k ok, ops[k]? = some ok → k ≠ i → (listed.setIfInBounds j true).getD k true = false →
          (∀ e ∈ ok.after, Region.binds md e = true → e.on ≠ i) → oi.apart ops ok = true := fun k ok hk hki hun hno => by
        refine hfree k ok hk hki ?_ hno
        by_cases hjk : j = k
        · subst hjk; exact hjun
        · rw [getD_set_ne true hjk] at hun; exact hun
      have hr' := ready_mono hr (Ne.symm hji)
      refine opC_mono (fun a' C' h3 => ih (listed.setIfInBounds j true) a' C' hfree' hr' h3.1 h3.2.1 ?_) h2
      rw [Array.setIfInBounds_comm _ _ hji]
      exact h3.2.2

/-- A row is stored into a block that lies there. -/
theorem opC_row {i : Nat} {o : Oper} (hi : ops[i]? = some o) (hg : o.guard = none) (hd : o.dst = none) (t : TypeId) (x y : Operand) (ho : o.op = .store t x y) {K : Act → (World → Prop) → Prop} {a : Act} {C C' : World → Prop}
    (g : Nat) (cs old : List Value) (t' : TypeId) (hx : a.eval x = .pointer (some ⟨g, 0, none⟩)) (hy : a.eval y = .agg (List.toArray cs)) (hb : ∀ w, C w → Blk w g old t') (hin : (P.info? t).map (·.size) = some cs.length) (hl : old.length = cs.length) (h1 : cs.toArray.all (·.oneCell') = true)
    (hC : Stable C') (hS : ∀ w, C' w → S i w) (hCC : ∀ w, C w → C' (w.setRow g cs.toArray)) (h : K a C') : opC P ops S i K a C := by
  refine ⟨o, hi, .inr (.inr ⟨hg, fun w => w.setRow g cs.toArray, C', hC, hS, fun w hw => ⟨?_, hCC w hw⟩, ?_⟩)⟩
  · unfold execOp
    simp only [ho, hx, hy, Instr.storeAt, Instr.sureAddr, Sem.run_bind, Sem.run_pure, Result.andThen_ok, run_storeVar_row w g t' t old.toArray cs.toArray (hb w hw) (by simpa using hin) (by simpa using hl) h1]
  · rw [hd]; exact h

/-- Values, in whatever order, in worlds of one kind. -/
def putVals (dst : Nat → Nat) (val : Nat → Value) : List Nat → Act → Act
  | [], a => a
  | i :: R, a => putVals dst val R (a.put (some (dst i)) (val i))
theorem putVals_erase (dst : Nat → Nat) (val : Nat → Value) (i : Nat) : ∀ (R : List Nat) (a : Act), i ∈ R → (∀ j ∈ R, j ≠ i → dst j ≠ dst i) →
    putVals dst val (R.erase i) (a.put (some (dst i)) (val i)) = putVals dst val R a
  | [], _, h, _ => by cases h
  | j :: R, a, h, hd => by
    by_cases hj : j = i
    · subst hj
      rw [List.erase_cons_head]
      rfl
    · rw [List.erase_cons_tail (by simpa using hj)]
      show putVals dst val (R.erase i) ((a.put _ _).put (some (dst j)) _) = putVals dst val R (a.put (some (dst j)) _)
      rw [put_comm2 a _ _ (Ne.symm (hd j (by simp) hj))]
      refine putVals_erase dst val i R _ ?_ (fun k hk => hd k (by simp [hk]))
      simp only [List.mem_cons] at h
      rcases h with h | h
      · exact absurd h.symm hj
      · exact h
theorem wpAnyC_vals (dst : Nat → Nat) (val : Nat → Value) (fin : Array Bool) (F lim : Nat) (C : World → Prop) :
    ∀ (m : Nat) (R : List Nat) (listed : Array Bool) (a : Act), newsOk md ops fin m R listed = true → R.Nodup → (∀ i ∈ R, lim ≤ dst i) →
      (∀ i ∈ R, ∃ o, ops[i]? = some o ∧ o.dst = some (dst i) ∧ ∀ a', (∀ d, d < lim → a'.eval (.tmp d) = a.eval (.tmp d)) → Uni P ops C o (val i) a') → (∀ i ∈ R, ∀ j ∈ R, i ≠ j → dst i ≠ dst j) →
      wpAnyC P md ops Q S F fin (putVals dst val R a) C → wpAnyC P md ops Q S (F + m) listed a C
  | 0, R, listed, a, hB, hN, hlim, ho, hd, h => by
    simp only [newsOk, Bool.and_eq_true, beq_iff_eq, List.isEmpty_iff] at hB
    obtain ⟨rfl, rfl⟩ := hB
    exact h
  | m + 1, R, listed, a, hB, hN, hlim, ho, hd, h => by
    simp only [newsOk, Bool.and_eq_true, beq_iff_eq, Bool.not_eq_true', List.isEmpty_eq_false_iff, List.all_eq_true] at hB
    obtain ⟨⟨hne, hr⟩, hall⟩ := hB
    refine ⟨fun h0 => absurd (hr.symm.trans h0) hne, fun i hi => ?_⟩
    rw [hr] at hi
    obtain ⟨o, hoi, hdst, hU⟩ := ho i hi
    refine ⟨o, hoi, .inl ⟨val i, hU a (fun _ _ => rfl), ?_⟩⟩
    rw [hdst]
    have sub : ∀ k, k ∈ R.erase i → k ∈ R := fun k hk => List.mem_of_mem_erase hk
    have same : ∀ d, d < lim → (a.put (some (dst i)) (val i)).eval (.tmp d) = a.eval (.tmp d) := fun d hdl => by
      refine Act.eval_put (fun d' hd' hyd => ?_)
      have e1 : dst i = d' := Option.some.inj hd'
      have e2 : d = d' := by injection hyd
      have := hlim i hi
      omega
    refine wpAnyC_vals dst val fin F lim C m (R.erase i) _ _ (hall i hi) (hN.erase i) (fun k hk => hlim k (sub k hk)) (fun k hk => ?_) (fun k hk j hj => hd k (sub k hk) j (sub j hj)) ?_
    · obtain ⟨ok, h1, h2, h3⟩ := ho k (sub k hk)
      exact ⟨ok, h1, h2, fun a' ha' => h3 a' (fun d hdl => (ha' d hdl).trans (same d hdl))⟩
    · rw [putVals_erase dst val i R a hi (fun j hj hji => hd j hj i hi hji)]
      exact h
end
end Go.Proofs.Ytacancfmgnmpiaa
