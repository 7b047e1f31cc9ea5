import Derived.Test.YthlpfpggjkocmaaYb
set_option linter.unusedVariables false
set_option linter.unusedSimpArgs false
namespace Go.Proofs.Ythlpfpggjkocmaa
open Go.RowKit

/-- Two ways meet: what is known there. -/
theorem EW.join {P : Program} {n : Fm} {Q : Exit → Act → World → Prop} {e : List (Nat × Value)} {w : World} {α : Type} {x y : Code} (E : α → List (Nat × Value)) (R : α → World → Prop) (h : EW P n x (Exit.then (fun a w => ∃ d, Env n a (E d) ∧ R d w) Q) e w) (k : ∀ d w, R d w → EW P n y Q (E d) w) : EW P n (.seq x y) Q e w :=
  EW.seq (fun a ha => wp_mono (h a ha) (fun ex a' w' hq => by
    cases ex with
    | normal =>
      obtain ⟨d, h1, h2⟩ := hq
      exact k d w' h2 a' h1
    | _ => exact hq))
theorem EW.met {n : Fm} {Q : Exit → Act → World → Prop} {e : List (Nat × Value)} {w : World} {α : Type} {E : α → List (Nat × Value)} {R : α → World → Prop} (d : α) (l : List Nat) (he : keepE e l = E d) (hR : R d w) : ∀ a, Env n a e → Exit.then (fun a w => ∃ d, Env n a (E d) ∧ R d w) Q .normal a w := fun a ha => ⟨d, by rw [← he]; exact ha.less (keepE_sub e l), hR⟩
/-- Sectors behind pages that went home. -/
theorem hom1_low (p : Nat) (s : Nat → List UInt8) (x j : Nat) (hj : j < 1 + 2 * p) : hom1 p s x j = s j := by
  unfold hom1 setS
  rw [if_neg (by omega), if_neg (by omega)]
theorem homT_low (p : Nat) : ∀ (l : List Nat) (s : Nat → List UInt8) (j : Nat), j < 1 + 2 * p → homT p s l j = s j
  | [], _, _, _ => rfl
  | x :: r, s, j, hj => by
    show homT p (hom1 p s x) r j = s j
    rw [homT_low p r _ j hj, hom1_low p s x j hj]
theorem homT_home (p : Nat) : ∀ (l : List Nat) (s : Nat → List UInt8) (n e : Nat), n < p → e < 2 → (∀ x ∈ l, x < p) → homT p s l (1 + 2 * (p + n) + e) = if n ∈ l then s (1 + 2 * n + e) else s (1 + 2 * (p + n) + e)
  | [], _, _, _, _, _, _ => by simp [homT]
  | x :: r, s, n, e, hn, he, hl => by
    show homT p (hom1 p s x) r _ = _
    rw [homT_home p r (hom1 p s x) n e hn he (fun y hy => hl y (List.mem_cons_of_mem _ hy)), hom1_low p s x (1 + 2 * n + e) (by omega)]
    by_cases h1 : n ∈ r
    · rw [if_pos h1, if_pos (List.mem_cons_of_mem _ h1)]
    · rw [if_neg h1]
      by_cases h2 : n = x
      · subst h2
        rw [if_pos (List.mem_cons_self ..)]
        unfold hom1 setS
        by_cases h3 : e = 0
        · subst h3
          rw [if_neg (by omega), if_pos (by omega)]
          rfl
        · have : e = 1 := by omega
          subst this
          rw [if_pos rfl]
      · rw [if_neg (fun h => (List.mem_cons.1 h).elim h2 h1)]
        unfold hom1 setS
        rw [if_neg (by omega), if_neg (by omega)]
theorem homT_high (p : Nat) : ∀ (l : List Nat) (s : Nat → List UInt8) (j : Nat), 1 + 4 * p ≤ j → (∀ x ∈ l, x < p) → homT p s l j = s j
  | [], _, _, _, _ => rfl
  | x :: r, s, j, hj, hl => by
    show homT p (hom1 p s x) r j = s j
    rw [homT_high p r _ j hj (fun y hy => hl y (List.mem_cons_of_mem _ hy))]
    have := hl x (List.mem_cons_self ..)
    unfold hom1 setS
    rw [if_neg (by omega), if_neg (by omega)]
/-- An image in three parts: the log, the homes, what is beyond. -/
theorem pairs_flat (g : Nat → List UInt8) (p : Nat) : (List.range (2 * p)).flatMap g = (List.range p).flatMap (fun n => g (2 * n) ++ g (2 * n + 1)) := by
  induction p with
  | zero => rfl
  | succ p ih =>
    rw [show 2 * (p + 1) = 2 * p + 1 + 1 by omega, List.range_succ, List.range_succ, List.range_succ, List.flatMap_append, List.flatMap_append, List.flatMap_append, ih]
    simp
theorem range_split (a b : Nat) : List.range (a + b) = List.range a ++ (List.range b).map (a + ·) := by
  rw [List.range_add]
theorem img_parts (p more : Nat) (f : Nat → List UInt8) : imgS (4 * p + 1 + more) f = imgS (1 + 2 * p) f ++ ((List.range p).map (fun n => f (1 + 2 * (p + n)) ++ f (1 + 2 * (p + n) + 1))).flatten ++ (List.range more).flatMap (fun i => f (1 + 4 * p + i)) := by
  unfold imgS
  rw [show 4 * p + 1 + more = (1 + 2 * p) + 2 * p + more by omega, range_split, range_split, List.flatMap_append, List.flatMap_append, List.flatMap_map, List.flatMap_map, pairs_flat, List.flatten_eq_flatMap, List.flatMap_map]
  congr 1
  · congr 1
    rw [List.flatMap_def, List.flatMap_def]
    congr 1
    apply List.map_congr_left
    intro n _
    show f (1 + 2 * p + 2 * n) ++ f (1 + 2 * p + (2 * n + 1)) = id (f (1 + 2 * (p + n)) ++ f (1 + 2 * (p + n) + 1))
    rw [show 1 + 2 * p + 2 * n = 1 + 2 * (p + n) by omega, show 1 + 2 * p + (2 * n + 1) = 1 + 2 * (p + n) + 1 by omega]
    rfl
  · rw [List.flatMap_def, List.flatMap_def]
    congr 1
    apply List.map_congr_left
    intro n _
    show f (1 + 2 * p + 2 * p + n) = f (1 + 4 * p + n)
    rw [show 1 + 2 * p + 2 * p + n = 1 + 4 * p + n by omega]
def cutL (img : List UInt8) (a k : Nat) : List UInt8 := (img.drop a).take k
theorem sec_two (img : List UInt8) (i : Nat) : secB img i ++ secB img (i + 1) = cutL img (512 * i) 1024 := by
  unfold secB cutL
  rw [show 512 * i = i * 512 by omega, show (i + 1) * 512 = i * 512 + 512 by omega, ← List.drop_drop, show (1024 : Nat) = 512 + 512 by rfl, List.take_add]
theorem flat_len2 (f : Nat → List UInt8) (p : Nat) (h : ∀ n, n < p → (f n).length = 1024) : ((List.range p).map f).flatten.length = 1024 * p := by
  induction p with
  | zero => rfl
  | succ p ih =>
    rw [List.range_succ, List.map_append, List.flatten_append, List.length_append, ih (fun n hn => h n (by omega))]
    simp [h p (by omega)]
    omega
/-- The three parts of what was loaded. -/
theorem img_own (img : List UInt8) (p more : Nat) (hl : img.length = (4 * p + 1 + more) * 512) : ((List.range p).map (fun n => cutL img (512 * (1 + 2 * (p + n))) 1024)).flatten = cutL img (512 * (1 + 2 * p)) (1024 * p) ∧ (List.range more).flatMap (fun i => secB img (1 + 4 * p + i)) = img.drop (512 * (4 * p + 1)) := by
  have h1 := img_parts p more (secB img)
  rw [img_sec _ img hl] at h1
  have hsl : ∀ i, i < 4 * p + 1 + more → (secB img i).length = 512 := fun i hi => by
    unfold secB
    rw [List.length_take, List.length_drop]
    omega
  have hA : (imgS (1 + 2 * p) (secB img)).length = 512 * (1 + 2 * p) := by rw [imgS_len _ _ (fun i hi => hsl i (by omega))]; omega
  have hB : ((List.range p).map (fun n => secB img (1 + 2 * (p + n)) ++ secB img (1 + 2 * (p + n) + 1))).flatten.length = 1024 * p := flat_len2 _ p (fun n hn => by rw [List.length_append, hsl _ (by omega), hsl _ (by omega)])
  have e : (fun n => cutL img (512 * (1 + 2 * (p + n))) 1024) = (fun n => secB img (1 + 2 * (p + n)) ++ secB img (1 + 2 * (p + n) + 1)) := funext fun n => (sec_two img _).symm
  rw [e]
  generalize imgS (1 + 2 * p) (secB img) = A at *
  generalize ((List.range p).map (fun n => secB img (1 + 2 * (p + n)) ++ secB img (1 + 2 * (p + n) + 1))).flatten = B at *
  generalize (List.range more).flatMap (fun i => secB img (1 + 4 * p + i)) = D at *
  unfold cutL
  rw [h1]
  constructor
  · rw [List.append_assoc, List.drop_left' hA, List.take_left' hB]
  · rw [show 512 * (4 * p + 1) = (A ++ B).length by rw [List.length_append, hA, hB]; omega, List.drop_left]
theorem cov1 (p j : Nat) : covB [(0, 1 + 2 * p)] j = decide (j < 1 + 2 * p) := by
  unfold covB
  simp
theorem imgS_zero (f : Nat → List UInt8) (k : Nat) (h : ∀ i, i < k → f i = zS) : imgS k f = zerL (512 * k) := by
  induction k with
  | zero => rfl
  | succ k ih =>
    have := ih (fun i hi => h i (by omega))
    unfold imgS at *
    rw [List.range_succ, List.flatMap_append, this, List.flatMap_cons, List.flatMap_nil, List.append_nil, h k (by omega)]
    unfold zerL zS
    rw [List.replicate_append_replicate]
    congr 1
/-- Page n as an Open must leave it. -/
def pgL (img : List UInt8) (p b n : Nat) : List UInt8 := if n < 8 ∧ b / 2 ^ n % 2 = 1 then cutL img (512 + 1024 * n) 1024 else cutL img (512 + 1024 * p + 1024 * n) 1024
theorem open_img (img : List UInt8) (p more b : Nat) (hl : img.length = (4 * p + 1 + more) * 512) (S2 : Nat → List UInt8)
    (h1 : ∀ n, n < p → S2 (1 + 2 * (p + n)) ++ S2 (1 + 2 * (p + n) + 1) = pgL img p b n) (h2 : ∀ i, S2 (1 + 4 * p + i) = secB img (1 + 4 * p + i)) :
    imgS (4 * p + 1 + more) (wipS [(0, 1 + 2 * p)] S2) = zerL (512 * (1 + 2 * p)) ++ ((List.range p).map (pgL img p b)).flatten ++ img.drop (512 * (4 * p + 1)) := by
  rw [img_parts]
  have e1 : imgS (1 + 2 * p) (wipS [(0, 1 + 2 * p)] S2) = zerL (512 * (1 + 2 * p)) := imgS_zero _ _ (fun i hi => by unfold wipS; rw [cov1, if_pos (decide_eq_true hi)])
  have e0 : ∀ j, 1 + 2 * p ≤ j → wipS [(0, 1 + 2 * p)] S2 j = S2 j := fun j hj => by unfold wipS; rw [cov1, if_neg (by simp; omega)]
  have e2 : (List.range p).map (fun n => wipS [(0, 1 + 2 * p)] S2 (1 + 2 * (p + n)) ++ wipS [(0, 1 + 2 * p)] S2 (1 + 2 * (p + n) + 1)) = (List.range p).map (pgL img p b) := by
    apply List.map_congr_left
    intro n hn
    have hn := List.mem_range.1 hn
    rw [e0 _ (by omega), e0 _ (by omega), h1 n hn]
  have e3 : (List.range more).flatMap (fun i => wipS [(0, 1 + 2 * p)] S2 (1 + 4 * p + i)) = img.drop (512 * (4 * p + 1)) := by
    rw [← (img_own img p more hl).2, List.flatMap_def, List.flatMap_def]
    congr 1
    apply List.map_congr_left
    intro i _
    rw [e0 _ (by omega), h2]
  rw [e1, e2, e3]
theorem clear_img (img : List UInt8) (p more : Nat) (hl : img.length = (4 * p + 1 + more) * 512) : imgS (4 * p + 1 + more) (wipS [(0, 1 + 2 * p), (1 + 2 * (p + p), 4 * p + 1 + more)] (secB img)) = zerL (512 * (1 + 2 * p)) ++ cutL img (512 * (1 + 2 * p)) (1024 * p) ++ zerL (512 * more) := by
  rw [img_parts]
  have hc : ∀ j, covB [(0, 1 + 2 * p), (1 + 2 * (p + p), 4 * p + 1 + more)] j = decide (j < 1 + 2 * p ∨ (1 + 2 * (p + p) ≤ j ∧ j < 4 * p + 1 + more)) := fun j => by
    unfold covB
    simp
  have e1 : imgS (1 + 2 * p) (wipS [(0, 1 + 2 * p), (1 + 2 * (p + p), 4 * p + 1 + more)] (secB img)) = zerL (512 * (1 + 2 * p)) := imgS_zero _ _ (fun i hi => by unfold wipS; rw [hc, if_pos (decide_eq_true (.inl hi))])
  have e2 : (List.range p).map (fun n => wipS [(0, 1 + 2 * p), (1 + 2 * (p + p), 4 * p + 1 + more)] (secB img) (1 + 2 * (p + n)) ++ wipS [(0, 1 + 2 * p), (1 + 2 * (p + p), 4 * p + 1 + more)] (secB img) (1 + 2 * (p + n) + 1)) = (List.range p).map (fun n => cutL img (512 * (1 + 2 * (p + n))) 1024) := by
    apply List.map_congr_left
    intro n hn
    have hn := List.mem_range.1 hn
    rw [← sec_two]
    unfold wipS
    rw [hc, hc, if_neg (by simp; omega), if_neg (by simp; omega)]
  have e3 : (List.range more).flatMap (fun i => wipS [(0, 1 + 2 * p), (1 + 2 * (p + p), 4 * p + 1 + more)] (secB img) (1 + 4 * p + i)) = zerL (512 * more) := by
    have : imgS more (fun i => wipS [(0, 1 + 2 * p), (1 + 2 * (p + p), 4 * p + 1 + more)] (secB img) (1 + 4 * p + i)) = zerL (512 * more) := imgS_zero _ _ (fun i hi => by unfold wipS; rw [hc, if_pos (decide_eq_true (.inr ⟨by omega, by omega⟩))])
    exact this
  rw [e1, e2, e3, (img_own img p more hl).1]
end Go.Proofs.Ythlpfpggjkocmaa
