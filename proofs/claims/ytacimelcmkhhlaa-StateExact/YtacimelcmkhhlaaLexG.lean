import Derived.Test.YtacimelcmkhhlaaWordsG
import Derived.Orders
import Derived.OrdersHeld
import Derived.Deep.MidRow
import Derived.Deep.RegionHeld3
set_option linter.unusedVariables false
set_option linter.unusedSimpArgs false
namespace Go.Proofs.Ytacimelcmkhhlaa
open Go.RowKit

section
variable {P : Program} {ops : Array Oper} {Q : Exit → Act → World → Prop} {md : Region.Mode} {S : World → Prop} {T : Nat}

/-- Have the first T come up? -/
def full (T : Nat) (listed : Array Bool) : Bool := (List.range T).all fun i => listed.getD i true

theorem full_set {listed : Array Bool} {i : Nat} (h : full T listed = true) : full T (listed.setIfInBounds i true) = true := by
  simp only [full, List.all_eq_true, List.mem_range] at *
  intro j hj
  by_cases hij : i = j
  · subst hij
    rcases Nat.lt_or_ge i listed.size with hl | hl
    · simp [hl]
    · simp [hl]
  · rw [getD_set_ne true hij]; exact h j hj

/-- Does number k wait for number i? -/
def waits (md : Region.Mode) (ops : Array Oper) (k i : Nat) : Bool := match ops[k]? with
  | some o => o.after.any fun e => Region.binds md e && e.on == i
  | none => false
/-- Where i is the last of the first T to come up, none of the others can come ahead of it. -/
def lastOk (md : Region.Mode) (ops : Array Oper) (T i : Nat) : Bool :=
  (List.range T).any (fun k => k != i && waits md ops k i) ||
    (List.range ops.size).all fun j => decide (j < T) || waits md ops j i || (List.range j).any fun k => decide (T ≤ k) && waits md ops j k

def Closed (md : Region.Mode) (ops : Array Oper) (listed : Array Bool) : Prop :=
  ∀ j o, ops[j]? = some o → listed.getD j false = true → ∀ e ∈ o.after, Region.binds md e = true → listed.getD e.on false = true

theorem waits_spec {k i : Nat} (h : waits md ops k i = true) : ∃ o, ops[k]? = some o ∧ ∃ e ∈ o.after, Region.binds md e = true ∧ e.on = i := by
  unfold waits at h
  split at h
  · rename_i o ho
    obtain ⟨e, he, hb⟩ := Array.any_eq_true'.1 h
    simp only [Bool.and_eq_true, beq_iff_eq] at hb
    exact ⟨o, ho, e, he, hb⟩
  · cases h

theorem getD_conv {l : Array Bool} {k : Nat} (hk : k < l.size) (h : l.getD k true = true) : l.getD k false = true := by
  simpa [hk] using h
theorem getD_no {l : Array Bool} {k : Nat} (h : l.getD k true = false) : ¬ l.getD k false = true := by
  rcases Nat.lt_or_ge k l.size with hl | hl
  · simp [hl] at h ⊢; exact h
  · simp [hl] at h

theorem Closed.set {l : Array Bool} {i : Nat} (h : Closed md ops l) (hi : i ∈ Region.ready md ops l) : Closed md ops (l.setIfInBounds i true) := by
  intro j o hj hl e he hb
  obtain ⟨hun, oi, hoi, hall⟩ := mem_ready.1 hi
  by_cases hij : i = j
  · subst hij
    obtain rfl : oi = o := Option.some.inj (hoi.symm.trans hj)
    exact getD_set_true (hall e he hb)
  · rw [getD_set_ne false hij] at hl
    exact getD_set_true (h j o hj hl e he hb)

theorem last_one {l : Array Bool} {i : Nat} (hc : Closed md ops l) (hsz : l.size = ops.size) (hT : T ≤ ops.size) (hok : lastOk md ops T i = true) (hr : i ∈ Region.ready md ops l) (hfl : full T (l.setIfInBounds i true) = true) :
    ∀ j ∈ Region.ready md ops l, j = i := by
  have hun := (mem_ready.1 hr).1
  have hno := getD_no hun
  have hall : ∀ k, k < T → k ≠ i → l.getD k false = true := fun k hk hki => by
    simp only [full, List.all_eq_true, List.mem_range] at hfl
    have := hfl k hk
    rw [getD_set_ne true (Ne.symm hki)] at this
    exact getD_conv (by omega) this
  unfold lastOk at hok
  rw [Bool.or_eq_true] at hok
  rcases hok with hok | hok
  · obtain ⟨k, hk, hkw⟩ := List.any_eq_true.1 hok
    simp only [Bool.and_eq_true, bne_iff_ne, List.mem_range] at hkw hk
    obtain ⟨o, ho, e, he, hb, hon⟩ := waits_spec hkw.2
    exact absurd (hon ▸ hc k o ho (hall k hk hkw.1) e he hb) hno
  · have tail : ∀ n j, j < n → T ≤ j → ∀ o, ops[j]? = some o → (∀ e ∈ o.after, Region.binds md e = true → l.getD e.on false = true) → False := by
      intro n
      induction n with
      | zero => intro j hj; omega
      | succ n ih =>
        intro j hj hTj o ho hal
        have hlt : j < ops.size := (Array.getElem?_eq_some_iff.1 ho).1
        have := List.all_eq_true.1 hok j (List.mem_range.2 hlt)
        simp only [Bool.or_eq_true, decide_eq_true_eq] at this
        rcases this with (h | h) | h
        · omega
        · obtain ⟨o', ho', e, he, hb, hon⟩ := waits_spec h
          obtain rfl : o = o' := Option.some.inj (ho.symm.trans ho')
          exact hno (hon ▸ hal e he hb)
        · obtain ⟨k, hk, hkw⟩ := List.any_eq_true.1 h
          simp only [Bool.and_eq_true, decide_eq_true_eq, List.mem_range] at hkw hk
          obtain ⟨o', ho', e, he, hb, hon⟩ := waits_spec hkw.2
          obtain rfl : o = o' := Option.some.inj (ho.symm.trans ho')
          have hkl := hon ▸ hal e he hb
          obtain ⟨ok, hok'⟩ : ∃ ok, ops[k]? = some ok := ⟨ops[k]'(by omega), by simp [show k < ops.size by omega]⟩
          exact ih k (by omega) hkw.1 ok hok' (hc k ok hok' hkl)
    intro j hj
    obtain ⟨hjun, oj, hoj, hja⟩ := mem_ready.1 hj
    by_cases hji : j = i
    · exact hji
    · exfalso
      rcases Nat.lt_or_ge j T with hjT | hjT
      · exact getD_no hjun (hall j hjT hji)
      · exact tail (j + 1) j (by omega) hjT oj hoj hja

theorem not_full {l : Array Bool} {i : Nat} (hi : i < T) (hr : i ∈ Region.ready md ops l) : full T l = false := by
  cases h : full T l with
  | false => rfl
  | true =>
    simp only [full, List.all_eq_true, List.mem_range] at h
    have h1 := h i hi
    rw [(mem_ready.1 hr).1] at h1
    cases h1

theorem closed_none (n : Nat) : Closed md ops (Array.replicate n false) := fun j o _ h => by
  rcases Nat.lt_or_ge j n with hl | hl
  · simp [hl] at h
  · simp [hl] at h
end
end Go.Proofs.Ytacimelcmkhhlaa
namespace Go.Proofs.Ytacimelcmkhhlaa
open Go.RowKit

section
variable {P : Program} {ops : Array Oper} {Q : Exit → Act → World → Prop} {md : Region.Mode}

end
section
variable {P : Program} {ops : Array Oper} {Q : Exit → Act → World → Prop} {md : Region.Mode} {S : World → Prop}

end
section
variable {P : Program} {ops : Array Oper} {Q : Exit → Act → World → Prop} {md : Region.Mode} {S : World → Prop}
end
section
variable {P : Program} {ops : Array Oper} {Q : Exit → Act → World → Prop} {md : Region.Mode} {S : World → Prop}

theorem run_enter {f : FuncId} {fn : Func} (hf : P.funcs[f]? = some fn) (hname : (fn.name == "runtime.NumGoroutine") = false) (hb : fn.body.isNone = false) (args : Array Value) (w : World) :
    (callFunc f args).run P w = .ok (.enter f args) w := by
  have h1 : fn.name ≠ "runtime.NumGoroutine" := by simpa using hname
  have h2 : ¬ fn.body = none := by intro h; simp [h] at hb
  simp [callFunc, hf, h1, h2]
theorem below_drawn (w : World) : Below w.heap.size w { w with drawn := w.drawn + 1 } := (Below.refl _ _).drew

def none_ (n : Nat) : Array Bool := Array.replicate n false

end
end Go.Proofs.Ytacimelcmkhhlaa
