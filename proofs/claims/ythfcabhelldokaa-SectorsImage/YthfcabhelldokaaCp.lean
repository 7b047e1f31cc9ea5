import Derived.Test.YthfcabhelldokaaCn
set_option linter.unusedVariables false
set_option linter.unusedSimpArgs false
namespace Go.Proofs.Ythfcabhelldokaa
open Go.RowKit

/-- A step's error. -/
def callE (D : Dv) (s : Stp) : Int :=
  if s.kind = 1 then refE D (pickN s.i 5 : Nat)
  else if s.kind = 4 then (if D.down then 80 else changedE D)
  else if s.kind = 7 then crashE D
  else if s.kind = 8 then 0
  else if s.kind = 9 then 0
  else if s.kind = 5 ∨ s.kind = 6 then (if D.down then 80 else 0)
  else if refE D (pickN s.i 5 : Nat) ≠ 0 then refE D (pickN s.i 5 : Nat) else changedE D
/-- What it tells. -/
def callS (D : Dv) (s : Stp) : List UInt8 :=
  if s.kind = 1 then (if refE D (pickN s.i 5 : Nat) = 0 then readB D (pickN s.i 5) else []) else if s.kind = 9 then D.img else []
/-- The device behind it. -/
def callD (D : Dv) (s : Stp) : Dv :=
  if s.kind = 1 then D
  else if s.kind = 4 then (if D.down then D else if D.left = 1 then changedD D else flushD D)
  else if s.kind = 7 then (if D.down then D else crashD D s.ks s.torn s.off)
  else if s.kind = 8 then upD D
  else if s.kind = 9 then D
  else if s.kind = 5 ∨ s.kind = 6 then (if D.down then D else if s.fill.toNat % 8 = 0 then armD D 0 [] 0 0 else armD D (s.fill.toNat % 8) s.ks s.torn s.off)
  else if refE D (pickN s.i 5 : Nat) ≠ 0 then D else changedD (pushD D (pickN s.i 5) (secL s.fill s.b))
theorem refE_zero {D : Dv} {i : Nat} (h : refE D (i : Nat) = 0) : D.down = false ∧ i < D.n := by
  unfold refE at h
  cases hd : D.down with
  | true => rw [hd, if_pos rfl] at h; omega
  | false =>
    rw [hd, if_neg (by decide)] at h
    refine ⟨rfl, ?_⟩
    by_cases h1 : (i : Int) < 0 ∨ (D.n : Int) ≤ (i : Int)
    · rw [if_pos h1] at h; omega
    · omega
theorem call_any {W0 W : World} {L : Lay} {D : Dv} (h : Mine W0 W L D) (s : Stp) (hs : s.ok W0) (few : D.pen.length < 1000000) (hcal : D.calls < 1000000000000) (hleft : D.left < 9223372036854775808) :
    Calls Try.prog 21 #[.pointer (some ⟨L.p, 0, none⟩), .agg (stC s).toArray] W fun e w' => e = .returned (.tuple #[.int .i64 (callE D s), .string ⟨(callS D s).toArray⟩]) ∧ ∃ L', Turn W w' L L' ∧ Dev w' L' (callD D s) := by
  unfold callE callS callD
  by_cases n1 : s.kind = 1
  · by_cases hr : refE D (pickN s.i 5 : Nat) = 0
    · obtain ⟨hd, hi⟩ := refE_zero hr
      simp only [if_pos n1, if_pos hr]
      rw [hr]
      exact call_read h s hs n1 hd hi
    · simp only [if_pos n1, if_neg hr]
      exact call_read_no h s hs n1 hr
  by_cases n4 : s.kind = 4
  · have n9 : ¬ s.kind = 9 := by omega
    cases hd : D.down with
    | true =>
      simp only [if_neg n1, if_pos n4, if_neg n9, if_true]
      exact call_flush_no h s hs n4 hd
    | false =>
      simp only [if_neg n1, if_pos n4, if_neg n9, Bool.false_eq_true, if_false]
      by_cases h1 : D.left = 1
      · rw [if_pos h1, show changedE D = 80 from if_pos h1]; exact call_flush_crash h s hs n4 hd hcal h1
      · rw [if_neg h1, show changedE D = 0 from if_neg h1]; exact call_flush h s hs n4 hd hcal hleft h1
  by_cases n7 : s.kind = 7
  · have n9 : ¬ s.kind = 9 := by omega
    unfold crashE
    cases hd : D.down with
    | true =>
      simp only [if_neg n1, if_neg n4, if_pos n7, if_neg n9, if_true]
      exact call_crash_no h s hs n7 hd
    | false =>
      simp only [if_neg n1, if_neg n4, if_pos n7, if_neg n9, Bool.false_eq_true, if_false]
      exact call_crash h s hs n7 hd
  by_cases n8 : s.kind = 8
  · have n9 : ¬ s.kind = 9 := by omega
    simp only [if_neg n1, if_neg n4, if_neg n7, if_pos n8, if_neg n9]
    exact call_up h s hs n8
  by_cases n9 : s.kind = 9
  · simp only [if_neg n1, if_neg n4, if_neg n7, if_neg n8, if_pos n9]
    exact call_tell h s hs n9
  by_cases n56 : s.kind = 5 ∨ s.kind = 6
  · simp only [if_neg n1, if_neg n4, if_neg n7, if_neg n8, if_neg n9, if_pos n56]
    cases hd : D.down with
    | true =>
      simp only [if_true]
      rcases n56 with k | k
      · exact call_arm5_no h s hs k hd
      · exact call_arm6_no h s hs k hd
    | false =>
      simp only [Bool.false_eq_true, if_false]
      by_cases hz : s.fill.toNat % 8 = 0
      · rw [if_pos hz]
        rcases n56 with k | k
        · exact call_arm5_zero h s hs k hd hz
        · exact call_arm6_zero h s hs k hd hz
      · rw [if_neg hz]
        rcases n56 with k | k
        · exact call_arm5 h s hs k hd hz
        · exact call_arm6 h s hs k hd hz
  have n5 : ¬ s.kind = 5 := fun e => n56 (.inl e)
  have n6 : ¬ s.kind = 6 := fun e => n56 (.inr e)
  by_cases hr : refE D (pickN s.i 5 : Nat) = 0
  · obtain ⟨hd, hi⟩ := refE_zero hr
    have hr' : ¬ refE D (pickN s.i 5 : Nat) ≠ 0 := fun e => e hr
    simp only [if_neg n1, if_neg n4, if_neg n7, if_neg n8, if_neg n9, if_neg n56, if_neg hr']
    exact call_write h s hs n1 n4 n5 n6 n7 n8 n9 hd hi few hcal hleft
  · have hr' : refE D (pickN s.i 5 : Nat) ≠ 0 := hr
    simp only [if_neg n1, if_neg n4, if_neg n7, if_neg n8, if_neg n9, if_neg n56, if_pos hr']
    exact call_write_no h s hs n1 n4 n5 n6 n7 n8 n9 hr

theorem armD_refE (C : Dv) (k : Nat) (ks : List (BitVec 64)) (t o : Int) (i : Int) : refE (armD C k ks t o) i = refE C i := rfl
theorem armD_readB (C : Dv) (k : Nat) (ks : List (BitVec 64)) (t o : Int) (i : Nat) : readB (armD C k ks t o) i = readB C i := rfl
/-- Is it a changing call? -/
def chg (s : Stp) : Bool := decide (s.kind ≠ 1) && decide (s.kind ≠ 9) && (decide (s.kind = 4) || decide (pickN s.i 5 < 4))
theorem call_quiet (D : Dv) (hn : D.n = 4) (s : Stp) (n5 : ¬ s.kind = 5) (n6 : ¬ s.kind = 6) (n7 : ¬ s.kind = 7) (n8 : ¬ s.kind = 8) (hc : chg s = false) : callD D s = D := by
  unfold callD
  by_cases n1 : s.kind = 1
  · rw [if_pos n1]
  rw [if_neg n1]
  by_cases n9 : s.kind = 9
  · rw [if_neg (by omega), if_neg n7, if_neg n8, if_pos n9]
  have h : ¬ s.kind = 4 ∧ ¬ pickN s.i 5 < 4 := by
    simp only [chg, decide_eq_true n1, decide_eq_true n9, Bool.true_and, Bool.or_eq_false_iff, decide_eq_false_iff_not] at hc
    exact hc
  have hr : refE D (pickN s.i 5 : Nat) ≠ 0 := fun e => by have := (refE_zero e).2; omega
  rw [if_neg h.1, if_neg n7, if_neg n8, if_neg n9, if_neg (by omega), if_pos hr]
/-- An armed device answers as one that is not, and stays so, while there is a call left. -/
theorem armed_same (C : Dv) (hn : C.n = 4) (hz : C.left = 0) (k : Nat) (hk : 1 ≤ k) (ks : List (BitVec 64)) (t o : Int) (s : Stp) (n5 : ¬ s.kind = 5) (n6 : ¬ s.kind = 6) (n7 : ¬ s.kind = 7) (n8 : ¬ s.kind = 8) (hd : C.down = false)
    (h : chg s = true → k ≠ 1) :
    callE (armD C k ks t o) s = callE C s ∧ callS (armD C k ks t o) s = callS C s ∧ callD (armD C k ks t o) s = armD (callD C s) (if chg s = true then k - 1 else k) ks t o ∧ (callD C s).left = 0 ∧ (callD C s).n = 4 ∧ (callD C s).down = false := by
  have n56 : ¬ (s.kind = 5 ∨ s.kind = 6) := by omega
  have hda : (armD C k ks t o).down = false := hd
  have hla : (armD C k ks t o).left = k := rfl
  cases hc : chg s with
  | false =>
    rw [call_quiet C hn s n5 n6 n7 n8 hc, call_quiet (armD C k ks t o) hn s n5 n6 n7 n8 hc, if_neg (by decide)]
    refine ⟨?_, ?_, rfl, hz, hn, hd⟩
    · unfold callE
      by_cases n1 : s.kind = 1
      · simp only [if_pos n1, armD_refE]
      by_cases n9 : s.kind = 9
      · have n4 : ¬ s.kind = 4 := by omega
        simp only [if_neg n1, if_neg n4, if_neg n7, if_neg n8, if_pos n9]
      have h : ¬ s.kind = 4 ∧ ¬ pickN s.i 5 < 4 := by
        simp only [chg, decide_eq_true n1, decide_eq_true n9, Bool.true_and, Bool.or_eq_false_iff, decide_eq_false_iff_not] at hc
        exact hc
      have hr : refE C (pickN s.i 5 : Nat) ≠ 0 := fun e => by have := (refE_zero e).2; omega
      simp only [armD_refE, if_neg n1, if_neg h.1, if_neg n7, if_neg n8, if_neg n9, if_neg n56, if_pos hr]
      exact if_pos hr
    · unfold callS
      rw [armD_refE, armD_readB]
      rfl
  | true =>
    have hk1 := h hc
    rw [if_pos rfl]
    have hcc : (¬ s.kind = 1 ∧ ¬ s.kind = 9) ∧ (s.kind = 4 ∨ pickN s.i 5 < 4) := by simpa [chg] using hc
    obtain ⟨⟨n1, n9⟩, h4⟩ := hcc
    have hla1 : ¬ (armD C k ks t o).left = 1 := hk1
    have hl1 : ¬ C.left = 1 := by omega
    have hcA : changedE (armD C k ks t o) = 0 := if_neg hla1
    have hcC : changedE C = 0 := if_neg hl1
    unfold callE callS callD
    by_cases n4 : s.kind = 4
    · simp only [if_neg n1, if_pos n4, if_neg n9, hd, hda, Bool.false_eq_true, if_false, if_neg hla1, if_neg hl1, hcA, hcC]
      refine ⟨trivial, trivial, ?_, ?_, hn, hd⟩
      · unfold flushD tickD armD
        rfl
      · show C.left - 1 = 0
        omega
    · have hi : pickN s.i 5 < 4 := h4.resolve_left n4
      have hr : refE C (pickN s.i 5 : Nat) = 0 := by
        unfold refE
        rw [hd, if_neg (by decide), if_neg (by omega)]
      have hr' : ¬ refE C (pickN s.i 5 : Nat) ≠ 0 := fun e => e hr
      have e1 : changedD (pushD C (pickN s.i 5) (secL s.fill s.b)) = tickD (pushD C (pickN s.i 5) (secL s.fill s.b)) := if_neg hl1
      have e2 : changedD (pushD (armD C k ks t o) (pickN s.i 5) (secL s.fill s.b)) = tickD (pushD (armD C k ks t o) (pickN s.i 5) (secL s.fill s.b)) := if_neg hla1
      simp only [armD_refE, if_neg n1, if_neg n4, if_neg n7, if_neg n8, if_neg n9, if_neg n56, if_neg hr', hcA, hcC, e1, e2]
      refine ⟨trivial, trivial, ?_, ?_, hn, hd⟩
      · unfold tickD pushD armD
        rfl
      · show C.left - 1 = 0
        omega
theorem call_calls (D : Dv) (s : Stp) (n7 : ¬ s.kind = 7) (n8 : ¬ s.kind = 8) (n5 : ¬ s.kind = 5) (n6 : ¬ s.kind = 6) : (callD D s).calls ≤ D.calls + 1 ∧ (callD D s).pen.length ≤ D.pen.length + 1 := by
  unfold callD
  have hch : ∀ D : Dv, (changedD D).calls ≤ D.calls + 1 ∧ (changedD D).pen.length ≤ D.pen.length := fun D => by
    unfold changedD
    split
    · exact ⟨Nat.le_refl _, Nat.zero_le _⟩
    · exact ⟨Nat.le_refl _, Nat.le_refl _⟩
  rw [if_neg n7, if_neg n8, if_neg (show ¬ (s.kind = 5 ∨ s.kind = 6) by omega)]
  split
  · exact ⟨by omega, by omega⟩
  split
  · split
    · exact ⟨by omega, by omega⟩
    split
    · exact ⟨(hch D).1, by have := (hch D).2; omega⟩
    · exact ⟨Nat.le_refl _, Nat.zero_le _⟩
  split
  · exact ⟨by omega, by omega⟩
  split
  · exact ⟨by omega, by omega⟩
  · have := hch (pushD D (pickN s.i 5) (secL s.fill s.b))
    have e : (pushD D (pickN s.i 5) (secL s.fill s.b)).pen.length = D.pen.length + 1 := by simp [pushD]
    rw [e] at this
    exact this
/-- The call at which it gives up. -/
theorem armed_last (C : Dv) (hn : C.n = 4) (hz : C.left = 0) (ks : List (BitVec 64)) (t o : Int) (s : Stp) (n5 : ¬ s.kind = 5) (n6 : ¬ s.kind = 6) (n7 : ¬ s.kind = 7) (n8 : ¬ s.kind = 8) (hd : C.down = false) (hc : chg s = true) :
    callE (armD C 1 ks t o) s = 80 ∧ (callD C s).down = false ∧ ∃ n c, callD (armD C 1 ks t o) s = ⟨n, (crashD (if s.kind = 4 then C else callD C s) ks t o).img, [], 0, [], 0, 0, true, c⟩ := by
  have hcc : (¬ s.kind = 1 ∧ ¬ s.kind = 9) ∧ (s.kind = 4 ∨ pickN s.i 5 < 4) := by simpa [chg] using hc
  obtain ⟨⟨n1, n9⟩, h4⟩ := hcc
  have n56 : ¬ (s.kind = 5 ∨ s.kind = 6) := by omega
  have hcA : changedE (armD C 1 ks t o) = 80 := if_pos rfl
  have hda : (armD C 1 ks t o).down = false := hd
  have hl1 : ¬ C.left = 1 := by omega
  have hdn : (callD C s).down = false := (armed_same C hn hz 2 (by decide) ks t o s n5 n6 n7 n8 hd (fun _ => by decide)).2.2.2.2.2
  by_cases n4 : s.kind = 4
  · have e2 : changedD (armD C 1 ks t o) = ⟨C.n, (crashD C ks t o).img, [], 0, [], 0, 0, true, C.calls + 1⟩ := if_pos rfl
    refine ⟨?_, hdn, C.n, C.calls + 1, ?_⟩
    · unfold callE
      simp only [if_neg n1, if_pos n4, hda, Bool.false_eq_true, if_false, hcA]
    · rw [if_pos n4]
      unfold callD
      simp only [if_neg n1, if_pos n4, hda, Bool.false_eq_true, if_false, if_pos (show (armD C 1 ks t o).left = 1 from rfl), e2]
  · have hi : pickN s.i 5 < 4 := h4.resolve_left n4
    have hr : refE C (pickN s.i 5 : Nat) = 0 := by
      unfold refE
      rw [hd, if_neg (by decide), if_neg (by omega)]
    have hr' : ¬ refE C (pickN s.i 5 : Nat) ≠ 0 := fun e => e hr
    have e1 : changedD (pushD C (pickN s.i 5) (secL s.fill s.b)) = tickD (pushD C (pickN s.i 5) (secL s.fill s.b)) := if_neg hl1
    have e2 : changedD (pushD (armD C 1 ks t o) (pickN s.i 5) (secL s.fill s.b)) = ⟨C.n, (crashD (tickD (pushD C (pickN s.i 5) (secL s.fill s.b))) ks t o).img, [], 0, [], 0, 0, true, C.calls + 1⟩ := if_pos rfl
    refine ⟨?_, hdn, C.n, C.calls + 1, ?_⟩
    · unfold callE
      simp only [armD_refE, if_neg n1, if_neg n4, if_neg n7, if_neg n8, if_neg n9, if_neg n56, if_neg hr', hcA]
    · rw [if_neg n4]
      unfold callD
      simp only [armD_refE, if_neg n1, if_neg n4, if_neg n7, if_neg n8, if_neg n9, if_neg n56, if_neg hr', e1, e2]
end Go.Proofs.Ythfcabhelldokaa
