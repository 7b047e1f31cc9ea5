import Derived.Test.YtiefgmgjlhjjhaaDoorRunG
import Derived.Orders
set_option linter.unusedVariables false
set_option linter.unusedSimpArgs false
namespace Go.Proofs.YtiefgmgjlhjjhaaDoor
open Go.RowKit
theorem Blk.on {w w' : World} {g : Nat} {cs : List Value} {t : TypeId} (h : Blk w g cs t) (hb : Below w.heap.size w w') : Blk w' g cs t := h.below hb h.lt

section
variable {P : Program} {ops : Array Oper} {Q : Exit → Act → World → Prop} {md : Region.Mode} {S : World → Prop} {T : Nat}

/-- In state a the operation o yields v in every world of S; a call may make blocks. -/
def Uni (P : Program) (ops : Array Oper) (S : World → Prop) (o : Oper) (v : Value) (a : Act) : Prop :=
  (Region.wanted o (yielded ops a.tmps) = true ∧ ((∀ w, S w → (execOp a.eval o).run P w = .ok (.value v) w) ∨
    ∃ f args, (∀ w, S w → (execOp a.eval o).run P w = .ok (.enter f args) w) ∧ ∀ w, S w → Calls P f args w (fun e w' => e = .returned v ∧ Below w.heap.size w w'))) ∨
  (Region.wanted o (yielded ops a.tmps) = false ∧ v = undef)

theorem Uni.of_same {o : Oper} {v : Value} {a a' : Act} (hy : Uni P ops S o v a) (he : execOp a'.eval o = execOp a.eval o)
    (hw : Region.wanted o (yielded ops a'.tmps) = Region.wanted o (yielded ops a.tmps)) : Uni P ops S o v a' := by
  unfold Uni at *
  rw [he, hw]
  exact hy

/-- One operation: of one value everywhere, or a new variable. -/
def opR (P : Program) (ops : Array Oper) (S : World → Prop) (i : Nat) (K : Act → (World → Prop) → Prop) (a : Act) (C : World → Prop) : Prop :=
  ∃ o, ops[i]? = some o ∧ ((∃ v, Uni P ops S o v a ∧ K (a.put o.dst v) C) ∨
    (o.guard = none ∧ ∃ t zs, o.op = .alloc t ∧ (∀ w, (zeroValue t).run P w = .ok (.agg (List.toArray zs)) w) ∧
      ∀ g, (∃ w, C w ∧ w.heap.size = g) → K (a.put o.dst (.pointer (some ⟨g, 0, none⟩))) (fun w => C w ∧ Blk w g zs t)))

/-- Have the first T come up? -/
def full (T : Nat) (listed : Array Bool) : Bool := (List.range T).all fun i => listed.getD i true

def wpAnyR (P : Program) (md : Region.Mode) (ops : Array Oper) (Q : Exit → Act → World → Prop) (S : World → Prop) (T : Nat) : Nat → Array Bool → Act → (World → Prop) → Prop
  | 0, listed, a, C => full T listed = true ∧ ∀ w, C w → wpAny P md ops Q 0 listed a w
  | n + 1, listed, a, C => if full T listed = true then ∀ w, C w → wpAny P md ops Q (n + 1) listed a w
      else Region.ready md ops listed ≠ [] ∧ ∀ i ∈ Region.ready md ops listed, opR P ops S i (fun a' C' => wpAnyR P md ops Q S T n (listed.setIfInBounds i true) a' C') a C

theorem opR_mono {i : Nat} {K K' : Act → (World → Prop) → Prop} (hK : ∀ a C, K a C → K' a C) {a : Act} {C : World → Prop} (h : opR P ops S i K a C) : opR P ops S i K' a C := by
  obtain ⟨o, ho, ⟨v, hv, h⟩ | ⟨hg, t, zs, ht, hz, h⟩⟩ := h
  · exact ⟨o, ho, .inl ⟨v, hv, hK _ _ h⟩⟩
  · exact ⟨o, ho, .inr ⟨hg, t, zs, ht, hz, fun g hg => hK _ _ (h g hg)⟩⟩

def Stable (C : World → Prop) : Prop := ∀ w w', C w → Below w.heap.size w w' → C w'

theorem Stable.blk {C : World → Prop} (h : Stable C) (g : Nat) (zs : List Value) (t : TypeId) : Stable (fun w => C w ∧ Blk w g zs t) :=
  fun w w' hc hb => ⟨h w w' hc.1 hb, hc.2.on hb⟩

theorem wpAny_of_R : ∀ (n : Nat) (listed : Array Bool) (a : Act) (C : World → Prop), Stable C → (∀ w, C w → S w) → wpAnyR P md ops Q S T n listed a C → ∀ w, C w → wpAny P md ops Q n listed a w
  | 0, _, _, _, _, _, h, w, hw => h.2 w hw
  | n + 1, listed, a, C, hC, hS, h, w, hw => by
    unfold wpAnyR at h
    split at h
    · exact h w hw
    · refine ⟨fun h0 => absurd h0 h.1, fun i hi => ?_⟩
      obtain ⟨o, ho, ⟨v, hv, hk⟩ | ⟨hg, t, zs, ht, hz, hk⟩⟩ := h.2 i hi
      · unfold wpOp
        simp only [ho]
        rcases hv with ⟨hwa, hv | ⟨f, args, hv, hc⟩⟩ | ⟨hwa, rfl⟩
        · simp only [hwa, if_true, Oper.wp, hv w (hS w hw), Oper.upon]
          exact .inl (wpAny_of_R n _ _ C hC hS hk w hw)
        · simp only [hwa, if_true, Oper.wp, hv w (hS w hw), Oper.upon]
          refine .inl ((hc w (hS w hw)).mono fun e w' ⟨he, hb⟩ => ?_)
          subst he
          exact wpAny_of_R n _ _ C hC hS hk w' (hC w w' hw hb)
        · simp only [hwa, Bool.false_eq_true, if_false]
          exact wpAny_of_R n _ _ C hC hS hk w hw
      · unfold wpOp
        have hwa : Region.wanted o (yielded ops a.tmps) = true := by simp [Region.wanted, hg]
        simp only [ho, hwa, if_true, Oper.wp, run_new t ht zs hz w, Oper.upon]
        refine .inl (wpAny_of_R n _ _ _ (hC.blk w.heap.size zs t) (fun w h => hS w h.1) (hk _ ⟨w, hw, rfl⟩) _ ⟨hC w _ hw ?_, Blk.new w zs t⟩)
        exact (Below.refl _ _).alloc (Nat.le_refl _) _

/-- One operation oj, apart from oi. -/
theorem opR_put {j : Nat} {oi oj : Oper} {v : Value} (hj : ops[j]? = some oj) (hap : oi.apart ops oj = true)
    (hsi : ∀ cs b, oi.op ≠ .select cs b) (hsj : ∀ cs b, oj.op ≠ .select cs b) {K : Act → (World → Prop) → Prop} {a : Act} {C : World → Prop}
    (hy : Uni P ops S oi v a) (h : opR P ops S j K (a.put oi.dst v) C) :
    opR P ops S j (fun a' C' => Uni P ops S oi v a' ∧ K (a'.put oi.dst v) C') a C := by
  obtain ⟨h1, h2, h3⟩ := Oper.apart_spec hap
  have keep : ∀ u, Uni P ops S oi v (a.put oj.dst u) := fun u => hy.of_same (execOp_put oi hsi a oj.dst u h3) (wanted_put oi a oj.dst u h3)
  obtain ⟨o, ho, h⟩ := h
  obtain rfl : oj = o := Option.some.inj (hj.symm.trans ho)
  refine ⟨oj, hj, ?_⟩
  rcases h with ⟨u, hu, hk⟩ | ⟨hg, t, zs, ht, hz, hk⟩
  · refine .inl ⟨u, hu.of_same (execOp_put oj hsj a oi.dst v h1).symm (wanted_put oj a oi.dst v h1).symm, keep u, ?_⟩
    rw [← Act.put_comm a v u h2]; exact hk
  · refine .inr ⟨hg, t, zs, ht, hz, fun g hgw => ⟨keep _, ?_⟩⟩
    rw [← Act.put_comm a v _ h2]; exact hk g hgw

theorem full_set {listed : Array Bool} {i : Nat} (h : full T listed = true) : full T (listed.setIfInBounds i true) = true := by
  simp only [full, List.all_eq_true, List.mem_range] at *
  intro j hj
  by_cases hij : i = j
  · subst hij
    rcases Nat.lt_or_ge i listed.size with hl | hl
    · simp [hl]
    · simp [hl]
  · rw [getD_set_ne true hij]; exact h j hj

/-- Does number k wait for number i? -/
def waits (md : Region.Mode) (ops : Array Oper) (k i : Nat) : Bool := match ops[k]? with
  | some o => o.after.any fun e => Region.binds md e && e.on == i
  | none => false
/-- Where i is the last of the first T to come up, none of the others can come ahead of it. -/
def lastOk (md : Region.Mode) (ops : Array Oper) (T i : Nat) : Bool :=
  (List.range T).any (fun k => k != i && waits md ops k i) ||
    (List.range ops.size).all fun j => decide (j < T) || waits md ops j i || (List.range j).any fun k => decide (T ≤ k) && waits md ops j k

def Closed (md : Region.Mode) (ops : Array Oper) (listed : Array Bool) : Prop :=
  ∀ j o, ops[j]? = some o → listed.getD j false = true → ∀ e ∈ o.after, Region.binds md e = true → listed.getD e.on false = true

theorem waits_spec {k i : Nat} (h : waits md ops k i = true) : ∃ o, ops[k]? = some o ∧ ∃ e ∈ o.after, Region.binds md e = true ∧ e.on = i := by
  unfold waits at h
  split at h
  · rename_i o ho
    obtain ⟨e, he, hb⟩ := Array.any_eq_true'.1 h
    simp only [Bool.and_eq_true, beq_iff_eq] at hb
    exact ⟨o, ho, e, he, hb⟩
  · cases h

theorem getD_conv {l : Array Bool} {k : Nat} (hk : k < l.size) (h : l.getD k true = true) : l.getD k false = true := by
  simpa [hk] using h
theorem getD_no {l : Array Bool} {k : Nat} (h : l.getD k true = false) : ¬ l.getD k false = true := by
  rcases Nat.lt_or_ge k l.size with hl | hl
  · simp [hl] at h ⊢; exact h
  · simp [hl] at h

theorem Closed.set {l : Array Bool} {i : Nat} (h : Closed md ops l) (hi : i ∈ Region.ready md ops l) : Closed md ops (l.setIfInBounds i true) := by
  intro j o hj hl e he hb
  obtain ⟨hun, oi, hoi, hall⟩ := mem_ready.1 hi
  by_cases hij : i = j
  · subst hij
    obtain rfl : oi = o := Option.some.inj (hoi.symm.trans hj)
    exact getD_set_true (hall e he hb)
  · rw [getD_set_ne false hij] at hl
    exact getD_set_true (h j o hj hl e he hb)

theorem last_one {l : Array Bool} {i : Nat} (hc : Closed md ops l) (hsz : l.size = ops.size) (hT : T ≤ ops.size) (hok : lastOk md ops T i = true) (hr : i ∈ Region.ready md ops l) (hfl : full T (l.setIfInBounds i true) = true) :
    ∀ j ∈ Region.ready md ops l, j = i := by
  have hun := (mem_ready.1 hr).1
  have hno := getD_no hun
  have hall : ∀ k, k < T → k ≠ i → l.getD k false = true := fun k hk hki => by
    simp only [full, List.all_eq_true, List.mem_range] at hfl
    have := hfl k hk
    rw [getD_set_ne true (Ne.symm hki)] at this
    exact getD_conv (by omega) this
  unfold lastOk at hok
  rw [Bool.or_eq_true] at hok
  rcases hok with hok | hok
  · obtain ⟨k, hk, hkw⟩ := List.any_eq_true.1 hok
    simp only [Bool.and_eq_true, bne_iff_ne, List.mem_range] at hkw hk
    obtain ⟨o, ho, e, he, hb, hon⟩ := waits_spec hkw.2
    exact absurd (hon ▸ hc k o ho (hall k hk hkw.1) e he hb) hno
  · have tail : ∀ n j, j < n → T ≤ j → ∀ o, ops[j]? = some o → (∀ e ∈ o.after, Region.binds md e = true → l.getD e.on false = true) → False := by
      intro n
      induction n with
      | zero => intro j hj; omega
      | succ n ih =>
        intro j hj hTj o ho hal
        have hlt : j < ops.size := (Array.getElem?_eq_some_iff.1 ho).1
        have := List.all_eq_true.1 hok j (List.mem_range.2 hlt)
        simp only [Bool.or_eq_true, decide_eq_true_eq] at this
        rcases this with (h | h) | h
        · omega
        · obtain ⟨o', ho', e, he, hb, hon⟩ := waits_spec h
          obtain rfl : o = o' := Option.some.inj (ho.symm.trans ho')
          exact hno (hon ▸ hal e he hb)
        · obtain ⟨k, hk, hkw⟩ := List.any_eq_true.1 h
          simp only [Bool.and_eq_true, decide_eq_true_eq, List.mem_range] at hkw hk
          obtain ⟨o', ho', e, he, hb, hon⟩ := waits_spec hkw.2
          obtain rfl : o = o' := Option.some.inj (ho.symm.trans ho')
          have hkl := hon ▸ hal e he hb
          obtain ⟨ok, hok'⟩ : ∃ ok, ops[k]? = some ok := ⟨ops[k]'(by omega), by simp [show k < ops.size by omega]⟩
          exact ih k (by omega) hkw.1 ok hok' (hc k ok hok' hkl)
    intro j hj
    obtain ⟨hjun, oj, hoj, hja⟩ := mem_ready.1 hj
    by_cases hji : j = i
    · exact hji
    · exfalso
      rcases Nat.lt_or_ge j T with hjT | hjT
      · exact getD_no hjun (hall j hjT hji)
      · exact tail (j + 1) j (by omega) hjT oj hoj hja

theorem not_full {l : Array Bool} {i : Nat} (hi : i < T) (hr : i ∈ Region.ready md ops l) : full T l = false := by
  cases h : full T l with
  | false => rfl
  | true =>
    simp only [full, List.all_eq_true, List.mem_range] at h
    have h1 := h i hi
    rw [(mem_ready.1 hr).1] at h1
    cases h1

/-- An operation of one value everywhere may be taken first. -/
theorem wpAnyR_first {i : Nat} {oi : Oper} {v : Value} (hi : ops[i]? = some oi) (hsel : ∀ (j : Nat) (o : Oper) cs b, ops[j]? = some o → o.op ≠ .select cs b)
    (hiT : i < T) (hT : T ≤ ops.size) (hok : lastOk md ops T i = true) :
    ∀ (fuel : Nat) (listed : Array Bool) (a : Act) (C : World → Prop),
      (∀ j oj, ops[j]? = some oj → j ≠ i → listed.getD j true = false → (∀ e ∈ oj.after, Region.binds md e = true → e.on ≠ i) → oi.apart ops oj = true) →
      i ∈ Region.ready md ops listed → Closed md ops listed → listed.size = ops.size →
      Uni P ops S oi v a →
      wpAnyR P md ops Q S T fuel (listed.setIfInBounds i true) (a.put oi.dst v) C → wpAnyR P md ops Q S T (fuel + 1) listed a C := by
  intro fuel
  induction fuel with
  | zero =>
    intro listed a C _ hr hcl hsz hy H
    have hone := last_one hcl hsz hT hok hr H.1
    have hf := not_full hiT hr
    unfold wpAnyR
    rw [if_neg (by rw [hf]; simp)]
    refine ⟨fun h => (by rw [h] at hr; cases hr), fun j hj => ?_⟩
    obtain rfl : j = i := hone j hj
    exact ⟨oi, hi, .inl ⟨v, hy, H⟩⟩
  | succ fuel ih =>
    intro listed a C hfree hr hcl hsz hy H
    have hf := not_full hiT hr
    unfold wpAnyR
    rw [if_neg (by rw [hf]; simp)]
    refine ⟨fun h => (by rw [h] at hr; cases hr), fun j hj => ?_⟩
    by_cases hji : j = i
    · subst hji; exact ⟨oi, hi, .inl ⟨v, hy, H⟩⟩
    · by_cases hfl : full T (listed.setIfInBounds i true) = true
      · exact absurd (last_one hcl hsz hT hok hr hfl j hj) hji
      · unfold wpAnyR at H
        rw [if_neg hfl] at H
        have h1 := H.2 j (ready_mono hj hji)
        obtain ⟨hjun, oj, hoj, hall⟩ := mem_ready.1 hj
        have hnot : ∀ e ∈ oj.after, Region.binds md e = true → e.on ≠ i := fun e he hb heq => by
          exact getD_no (mem_ready.1 hr).1 (heq ▸ hall e he hb)
        have h2 := opR_put hoj (hfree j oj hoj hji hjun hnot) (fun cs b => hsel i oi cs b hi) (fun cs b => hsel j oj cs b hoj) hy h1
        have hfree' : ∀ k ok, ops[k]? = some ok → k ≠ i → (listed.setIfInBounds j true).getD k true = false →
            (∀ e ∈ ok.after, Region.binds md e = true → e.on ≠ i) → oi.apart ops ok = true := fun k ok hk hki hun hno => by
          refine hfree k ok hk hki ?_ hno
          by_cases hjk : j = k
          · subst hjk; exact hjun
          · rw [getD_set_ne true hjk] at hun; exact hun
        have hr' := ready_mono hr (Ne.symm hji)
        refine opR_mono (fun a' C' h3 => ih (listed.setIfInBounds j true) a' C' hfree' hr' (hcl.set hj) (by simpa using hsz) h3.1 ?_) h2
        rw [Array.setIfInBounds_comm _ _ hji]
        exact h3.2

/-- The first operations, of one value each, in the text's order. -/
def wpLex (P : Program) (ops : Array Oper) (S : World → Prop) (K : Act → Prop) : List Oper → Act → Prop
  | [], a => K a
  | o :: rest, a => ∃ v, Uni P ops S o v a ∧ wpLex P ops S K rest (a.put o.dst v)

/-- May the operations from number k on, n of them, be taken in the text's order? -/
def lexOk (md : Region.Mode) (ops : Array Oper) (T : Nat) : Nat → Nat → Array Bool → Bool
  | 0, _, _ => true
  | n + 1, k, listed => (Region.ready md ops listed).contains k && Region.free md ops listed k && lastOk md ops T k && decide (k < T) && lexOk md ops T n (k + 1) (listed.setIfInBounds k true)

def firstN : Nat → Nat → Array Bool → Array Bool
  | 0, _, listed => listed
  | n + 1, k, listed => firstN n (k + 1) (listed.setIfInBounds k true)

theorem wpAnyR_lex (hs : Region.noSelect ops = true) (hT : T ≤ ops.size) (C : World → Prop) (F : Nat) : ∀ (l : List Oper) (k : Nat) (listed : Array Bool) (a : Act), (∀ j, j < l.length → l[j]? = ops[k + j]?) →
    lexOk md ops T l.length k listed = true → Closed md ops listed → listed.size = ops.size →
    wpLex P ops S (fun a' => wpAnyR P md ops Q S T F (firstN l.length k listed) a' C) l a → wpAnyR P md ops Q S T (F + l.length) listed a C
  | [], _, _, _, _, _, _, _, h => h
  | o :: l, k, listed, a, hl, hB, hcl, hsz, ⟨v, hv, h⟩ => by
    have h0 : ops[k]? = some o := by simpa using (hl 0 (by simp)).symm
    simp only [List.length_cons, lexOk, Bool.and_eq_true, decide_eq_true_eq] at hB
    obtain ⟨⟨⟨⟨hr, hf⟩, hok⟩, hkT⟩, hB'⟩ := hB
    have hr' : k ∈ Region.ready md ops listed := by simpa using hr
    exact wpAnyR_first h0 (Region.noSelect_spec hs) hkT hT hok (F + l.length) listed a C (Region.free_spec h0 hf) hr' hcl hsz hv
      (wpAnyR_lex hs hT C F l (k + 1) _ _ (fun j hj => by have := hl (j + 1) (by simpa using hj); simpa [Nat.add_assoc, Nat.add_comm 1 j] using this) hB' (hcl.set hr') (by simpa using hsz) h)

theorem closed_none (n : Nat) : Closed md ops (Array.replicate n false) := fun j o _ h => by
  rcases Nat.lt_or_ge j n with hl | hl
  · simp [hl] at h
  · simp [hl] at h
end
end Go.Proofs.YtiefgmgjlhjjhaaDoor
