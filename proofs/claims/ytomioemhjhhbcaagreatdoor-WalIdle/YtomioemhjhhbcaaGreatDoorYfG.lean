import Derived.Test.YtomioemhjhhbcaaGreatDoorYb
set_option linter.unusedVariables false
set_option linter.unusedSimpArgs false
namespace Go.Proofs.YtomioemhjhhbcaaGreatDoor
open Go.RowKit

/-- Two ways meet: what is known there. -/
theorem EW.join {P : Program} {n : Fm} {Q : Exit → Act → World → Prop} {e : List (Nat × Value)} {w : World} {α : Type} {x y : Code} (E : α → List (Nat × Value)) (R : α → World → Prop) (h : EW P n x (Exit.then (fun a w => ∃ d, Env n a (E d) ∧ R d w) Q) e w) (k : ∀ d w, R d w → EW P n y Q (E d) w) : EW P n (.seq x y) Q e w :=
  EW.seq (fun a ha => wp_mono (h a ha) (fun ex a' w' hq => by
    cases ex with
    | normal =>
      obtain ⟨d, h1, h2⟩ := hq
      exact k d w' h2 a' h1
    | _ => exact hq))
theorem EW.met {n : Fm} {Q : Exit → Act → World → Prop} {e : List (Nat × Value)} {w : World} {α : Type} {E : α → List (Nat × Value)} {R : α → World → Prop} (d : α) (l : List Nat) (he : keepE e l = E d) (hR : R d w) : ∀ a, Env n a e → Exit.then (fun a w => ∃ d, Env n a (E d) ∧ R d w) Q .normal a w := fun a ha => ⟨d, by rw [← he]; exact ha.less (keepE_sub e l), hR⟩
/-- Sectors behind pages that went home. -/
theorem hom1_low (p : Nat) (s : Nat → List UInt8) (x j : Nat) (hj : j < 1 + 2 * p) : hom1 p s x j = s j := by
  unfold hom1 setS
  rw [if_neg (by omega), if_neg (by omega)]
theorem homT_low (p : Nat) : ∀ (l : List Nat) (s : Nat → List UInt8) (j : Nat), j < 1 + 2 * p → homT p s l j = s j
  | [], _, _, _ => rfl
  | x :: r, s, j, hj => by
    show homT p (hom1 p s x) r j = s j
    rw [homT_low p r _ j hj, hom1_low p s x j hj]
theorem homT_home (p : Nat) : ∀ (l : List Nat) (s : Nat → List UInt8) (n e : Nat), n < p → e < 2 → (∀ x ∈ l, x < p) → homT p s l (1 + 2 * (p + n) + e) = if n ∈ l then s (1 + 2 * n + e) else s (1 + 2 * (p + n) + e)
  | [], _, _, _, _, _, _ => by simp [homT]
  | x :: r, s, n, e, hn, he, hl => by
    show homT p (hom1 p s x) r _ = _
    rw [homT_home p r (hom1 p s x) n e hn he (fun y hy => hl y (List.mem_cons_of_mem _ hy)), hom1_low p s x (1 + 2 * n + e) (by omega)]
    by_cases h1 : n ∈ r
    · rw [if_pos h1, if_pos (List.mem_cons_of_mem _ h1)]
    · rw [if_neg h1]
      by_cases h2 : n = x
      · subst h2
        rw [if_pos (List.mem_cons_self ..)]
        unfold hom1 setS
        by_cases h3 : e = 0
        · subst h3
          rw [if_neg (by omega), if_pos (by omega)]
          rfl
        · have : e = 1 := by omega
          subst this
          rw [if_pos rfl]
      · rw [if_neg (fun h => (List.mem_cons.1 h).elim h2 h1)]
        unfold hom1 setS
        rw [if_neg (by omega), if_neg (by omega)]
theorem homT_high (p : Nat) : ∀ (l : List Nat) (s : Nat → List UInt8) (j : Nat), 1 + 4 * p ≤ j → (∀ x ∈ l, x < p) → homT p s l j = s j
  | [], _, _, _, _ => rfl
  | x :: r, s, j, hj, hl => by
    show homT p (hom1 p s x) r j = s j
    rw [homT_high p r _ j hj (fun y hy => hl y (List.mem_cons_of_mem _ hy))]
    have := hl x (List.mem_cons_self ..)
    unfold hom1 setS
    rw [if_neg (by omega), if_neg (by omega)]
/-- An image in three parts: the log, the homes, what is beyond. -/
theorem pairs_flat (g : Nat → List UInt8) (p : Nat) : (List.range (2 * p)).flatMap g = (List.range p).flatMap (fun n => g (2 * n) ++ g (2 * n + 1)) := by
  induction p with
  | zero => rfl
  | succ p ih =>
    rw [show 2 * (p + 1) = 2 * p + 1 + 1 by omega, List.range_succ, List.range_succ, List.range_succ, List.flatMap_append, List.flatMap_append, List.flatMap_append, ih]
    simp
theorem range_split (a b : Nat) : List.range (a + b) = List.range a ++ (List.range b).map (a + ·) := by
  rw [List.range_add]
theorem img_parts (p more : Nat) (f : Nat → List UInt8) : imgS (4 * p + 1 + more) f = imgS (1 + 2 * p) f ++ ((List.range p).map (fun n => f (1 + 2 * (p + n)) ++ f (1 + 2 * (p + n) + 1))).flatten ++ (List.range more).flatMap (fun i => f (1 + 4 * p + i)) := by
  unfold imgS
  rw [show 4 * p + 1 + more = (1 + 2 * p) + 2 * p + more by omega, range_split, range_split, List.flatMap_append, List.flatMap_append, List.flatMap_map, List.flatMap_map, pairs_flat, List.flatten_eq_flatMap, List.flatMap_map]
  congr 1
  · congr 1
    rw [List.flatMap_def, List.flatMap_def]
    congr 1
    apply List.map_congr_left
    intro n _
    show f (1 + 2 * p + 2 * n) ++ f (1 + 2 * p + (2 * n + 1)) = id (f (1 + 2 * (p + n)) ++ f (1 + 2 * (p + n) + 1))
    rw [show 1 + 2 * p + 2 * n = 1 + 2 * (p + n) by omega, show 1 + 2 * p + (2 * n + 1) = 1 + 2 * (p + n) + 1 by omega]
    rfl
  · rw [List.flatMap_def, List.flatMap_def]
    congr 1
    apply List.map_congr_left
    intro n _
    show f (1 + 2 * p + 2 * p + n) = f (1 + 4 * p + n)
    rw [show 1 + 2 * p + 2 * p + n = 1 + 4 * p + n by omega]
def cutL (img : List UInt8) (a k : Nat) : List UInt8 := (img.drop a).take k
theorem sec_two (img : List UInt8) (i : Nat) : secB img i ++ secB img (i + 1) = cutL img (512 * i) 1024 := by
  unfold secB cutL
  rw [show 512 * i = i * 512 by omega, show (i + 1) * 512 = i * 512 + 512 by omega, ← List.drop_drop, show (1024 : Nat) = 512 + 512 by rfl, List.take_add]
theorem flat_len2 (f : Nat → List UInt8) (p : Nat) (h : ∀ n, n < p → (f n).length = 1024) : ((List.range p).map f).flatten.length = 1024 * p := by
  induction p with
  | zero => rfl
  | succ p ih =>
    rw [List.range_succ, List.map_append, List.flatten_append, List.length_append, ih (fun n hn => h n (by omega))]
    simp [h p (by omega)]
    omega
/-- The three parts of what was loaded. -/
theorem img_own (img : List UInt8) (p more : Nat) (hl : img.length = (4 * p + 1 + more) * 512) : ((List.range p).map (fun n => cutL img (512 * (1 + 2 * (p + n))) 1024)).flatten = cutL img (512 * (1 + 2 * p)) (1024 * p) ∧ (List.range more).flatMap (fun i => secB img (1 + 4 * p + i)) = img.drop (512 * (4 * p + 1)) := by
  have h1 := img_parts p more (secB img)
  rw [img_sec _ img hl] at h1
  have hsl : ∀ i, i < 4 * p + 1 + more → (secB img i).length = 512 := fun i hi => by
    unfold secB
    rw [List.length_take, List.length_drop]
    omega
  have hA : (imgS (1 + 2 * p) (secB img)).length = 512 * (1 + 2 * p) := by rw [imgS_len _ _ (fun i hi => hsl i (by omega))]; omega
  have hB : ((List.range p).map (fun n => secB img (1 + 2 * (p + n)) ++ secB img (1 + 2 * (p + n) + 1))).flatten.length = 1024 * p := flat_len2 _ p (fun n hn => by rw [List.length_append, hsl _ (by omega), hsl _ (by omega)])
  have e : (fun n => cutL img (512 * (1 + 2 * (p + n))) 1024) = (fun n => secB img (1 + 2 * (p + n)) ++ secB img (1 + 2 * (p + n) + 1)) := funext fun n => (sec_two img _).symm
  rw [e]
  generalize imgS (1 + 2 * p) (secB img) = A at *
  generalize ((List.range p).map (fun n => secB img (1 + 2 * (p + n)) ++ secB img (1 + 2 * (p + n) + 1))).flatten = B at *
  generalize (List.range more).flatMap (fun i => secB img (1 + 4 * p + i)) = D at *
  unfold cutL
  rw [h1]
  constructor
  · rw [List.append_assoc, List.drop_left' hA, List.take_left' hB]
  · rw [show 512 * (4 * p + 1) = (A ++ B).length by rw [List.length_append, hA, hB]; omega, List.drop_left]
theorem cov1 (p j : Nat) : covB [(0, 1 + 2 * p)] j = decide (j < 1 + 2 * p) := by
  unfold covB
  simp
theorem imgS_zero (f : Nat → List UInt8) (k : Nat) (h : ∀ i, i < k → f i = zS) : imgS k f = zerL (512 * k) := by
  induction k with
  | zero => rfl
  | succ k ih =>
    have := ih (fun i hi => h i (by omega))
    unfold imgS at *
    rw [List.range_succ, List.flatMap_append, this, List.flatMap_cons, List.flatMap_nil, List.append_nil, h k (by omega)]
    unfold zerL zS
    rw [List.replicate_append_replicate]
    congr 1
/-- Page n as an Open must leave it. -/
def pgL (img : List UInt8) (p b n : Nat) : List UInt8 := if n < 8 ∧ b / 2 ^ n % 2 = 1 then cutL img (512 + 1024 * n) 1024 else cutL img (512 + 1024 * p + 1024 * n) 1024
theorem open_img (img : List UInt8) (p more b : Nat) (hl : img.length = (4 * p + 1 + more) * 512) (S2 : Nat → List UInt8)
    (h1 : ∀ n, n < p → S2 (1 + 2 * (p + n)) ++ S2 (1 + 2 * (p + n) + 1) = pgL img p b n) (h2 : ∀ i, S2 (1 + 4 * p + i) = secB img (1 + 4 * p + i)) :
    imgS (4 * p + 1 + more) (wipS [(0, 1 + 2 * p)] S2) = zerL (512 * (1 + 2 * p)) ++ ((List.range p).map (pgL img p b)).flatten ++ img.drop (512 * (4 * p + 1)) := by
  rw [img_parts]
  have e1 : imgS (1 + 2 * p) (wipS [(0, 1 + 2 * p)] S2) = zerL (512 * (1 + 2 * p)) := imgS_zero _ _ (fun i hi => by unfold wipS; rw [cov1, if_pos (decide_eq_true hi)])
  have e0 : ∀ j, 1 + 2 * p ≤ j → wipS [(0, 1 + 2 * p)] S2 j = S2 j := fun j hj => by unfold wipS; rw [cov1, if_neg (by simp; omega)]
  have e2 : (List.range p).map (fun n => wipS [(0, 1 + 2 * p)] S2 (1 + 2 * (p + n)) ++ wipS [(0, 1 + 2 * p)] S2 (1 + 2 * (p + n) + 1)) = (List.range p).map (pgL img p b) := by
    apply List.map_congr_left
    intro n hn
    have hn := List.mem_range.1 hn
    rw [e0 _ (by omega), e0 _ (by omega), h1 n hn]
  have e3 : (List.range more).flatMap (fun i => wipS [(0, 1 + 2 * p)] S2 (1 + 4 * p + i)) = img.drop (512 * (4 * p + 1)) := by
    rw [← (img_own img p more hl).2, List.flatMap_def, List.flatMap_def]
    congr 1
    apply List.map_congr_left
    intro i _
    rw [e0 _ (by omega), h2]
  rw [e1, e2, e3]
theorem clear_img (img : List UInt8) (p more : Nat) (hl : img.length = (4 * p + 1 + more) * 512) : imgS (4 * p + 1 + more) (wipS [(0, 1 + 2 * p), (1 + 2 * (p + p), 4 * p + 1 + more)] (secB img)) = zerL (512 * (1 + 2 * p)) ++ cutL img (512 * (1 + 2 * p)) (1024 * p) ++ zerL (512 * more) := by
  rw [img_parts]
  have hc : ∀ j, covB [(0, 1 + 2 * p), (1 + 2 * (p + p), 4 * p + 1 + more)] j = decide (j < 1 + 2 * p ∨ (1 + 2 * (p + p) ≤ j ∧ j < 4 * p + 1 + more)) := fun j => by
    unfold covB
    simp
  have e1 : imgS (1 + 2 * p) (wipS [(0, 1 + 2 * p), (1 + 2 * (p + p), 4 * p + 1 + more)] (secB img)) = zerL (512 * (1 + 2 * p)) := imgS_zero _ _ (fun i hi => by unfold wipS; rw [hc, if_pos (decide_eq_true (.inl hi))])
  have e2 : (List.range p).map (fun n => wipS [(0, 1 + 2 * p), (1 + 2 * (p + p), 4 * p + 1 + more)] (secB img) (1 + 2 * (p + n)) ++ wipS [(0, 1 + 2 * p), (1 + 2 * (p + p), 4 * p + 1 + more)] (secB img) (1 + 2 * (p + n) + 1)) = (List.range p).map (fun n => cutL img (512 * (1 + 2 * (p + n))) 1024) := by
    apply List.map_congr_left
    intro n hn
    have hn := List.mem_range.1 hn
    rw [← sec_two]
    unfold wipS
    rw [hc, hc, if_neg (by simp; omega), if_neg (by simp; omega)]
  have e3 : (List.range more).flatMap (fun i => wipS [(0, 1 + 2 * p), (1 + 2 * (p + p), 4 * p + 1 + more)] (secB img) (1 + 4 * p + i)) = zerL (512 * more) := by
    have : imgS more (fun i => wipS [(0, 1 + 2 * p), (1 + 2 * (p + p), 4 * p + 1 + more)] (secB img) (1 + 4 * p + i)) = zerL (512 * more) := imgS_zero _ _ (fun i hi => by unfold wipS; rw [hc, if_pos (decide_eq_true (.inr ⟨by omega, by omega⟩))])
    exact this
  rw [e1, e2, e3, (img_own img p more hl).1]
end Go.Proofs.YtomioemhjhhbcaaGreatDoor

set_option linter.unusedVariables false
set_option linter.unusedSimpArgs false
namespace Go.Proofs.YtomioemhjhhbcaaGreatDoor
open Go.RowKit

/-- The head of an image: no marker stands, or one for the pages of the bits b. -/
def Mrk (img : List UInt8) (p b : Nat) : Prop := (b = 0 ∧ bAt img 511 = 0) ∨ (b ≠ 0 ∧ b < 2 ^ min p 8 ∧ bAt img 0 = b ∧ (∀ j, 1 ≤ j → j < 511 → bAt img j = 0) ∧ bAt img 511 = 1)
theorem sec0_at (img : List UInt8) (j : Nat) (hj : j < 512) : bAt (secB img 0) j = bAt img j := by
  unfold bAt secB
  rw [Nat.zero_mul, List.drop_zero, List.getD_eq_getElem?_getD, List.getD_eq_getElem?_getD, List.getElem?_take_of_lt hj]
theorem zB_of (bs : List UInt8) (h : ∀ j, j < bs.length → bAt bs j = 0) : zB bs = true := by
  unfold zB
  rw [List.all_eq_true]
  intro x hx
  obtain ⟨j, hj⟩ := List.getElem?_of_mem hx
  have hlt := (List.getElem?_eq_some_iff.1 hj).1
  have := h j hlt
  unfold bAt at this
  rw [List.getD_eq_getElem?_getD, hj, Option.getD_some] at this
  have e : x = 0 := UInt8.toNat_inj.1 this
  rw [e]
  rfl
set_option maxRecDepth 100000 in
theorem bit_some : ∀ b : Fin 256, b.val ≠ 0 → (List.range 8).any (fun n => b.val / 2 ^ n % 2 == 1) = true := by decide
theorem bit_le {b n : Nat} (h : b / 2 ^ n % 2 = 1) : 2 ^ n ≤ b := by
  rcases Nat.lt_or_ge b (2 ^ n) with h1 | h1
  · rw [Nat.div_eq_of_lt h1] at h
    cases h
  · exact h1
theorem bit_min {b n p : Nat} (hb : b < 2 ^ min p 8) (h : b / 2 ^ n % 2 = 1) : n < min p 8 := by
  rcases Nat.lt_or_ge n (min p 8) with h1 | h1
  · exact h1
  · have := Nat.pow_le_pow_right (show 0 < 2 by decide) h1
    have := bit_le h
    omega
theorem mem_nums {img : List UInt8} {b : Nat} (h0 : bAt img 0 = b) (hz : ∀ j, 1 ≤ j → j < 511 → bAt img j = 0) (n : Nat) : n ∈ numsT (secB img 0) 256 ↔ (n < 8 ∧ b / 2 ^ n % 2 = 1) := by
  unfold numsT
  rw [List.mem_filter, List.mem_range]
  unfold bitB
  rw [decide_eq_true_eq]
  constructor
  · rintro ⟨h1, h2⟩
    rw [sec0_at img _ (by omega)] at h2
    by_cases h8 : n < 8
    · rw [show n / 8 = 0 by omega, show n % 8 = n by omega, h0] at h2
      exact ⟨h8, h2⟩
    · rw [hz (n / 8) (by omega) (by omega), Nat.zero_div] at h2
      cases h2
  · rintro ⟨h1, h2⟩
    refine ⟨by omega, ?_⟩
    rw [sec0_at img _ (by omega), show n / 8 = 0 by omega, show n % 8 = n by omega, h0]
    exact h2
theorem last_some {l : List Nat} (h : l ≠ []) : ∃ x, l[l.length - 1]? = some x ∧ x ∈ l := by
  have hp : l.length - 1 < l.length := by
    have := List.length_pos_iff.2 h
    omega
  exact ⟨_, List.getElem?_eq_getElem hp, List.getElem_mem hp⟩
theorem pgL_no (img : List UInt8) (p b n : Nat) (h : ¬ (n < 8 ∧ b / 2 ^ n % 2 = 1)) : secB img (1 + 2 * (p + n)) ++ secB img (1 + 2 * (p + n) + 1) = pgL img p b n := by
  unfold pgL
  rw [if_neg h, sec_two, show 512 * (1 + 2 * (p + n)) = 512 + 1024 * p + 1024 * n by omega]
theorem pgL_yes (img : List UInt8) (p b n : Nat) (h : n < 8 ∧ b / 2 ^ n % 2 = 1) : secB img (1 + 2 * n) ++ secB img (1 + 2 * n + 1) = pgL img p b n := by
  unfold pgL
  rw [if_pos h, sec_two, show 512 * (1 + 2 * n) = 512 + 1024 * n by omega]
/-- Open of a disk whose log holds anything. -/
theorem open_any {w : World} {L : Lay} {img : List UInt8} {p more b : Nat} (h : Dk w L (4 * p + 1 + more) (secB img) 0 0) (hp : 1 ≤ p) (hp2 : p ≤ 100) (hmore : more ≤ 3) (hl : img.length = (4 * p + 1 + more) * 512) (hm : Mrk img p b) : Calls Tryz.prog 16 #[.pointer (some ⟨L.p, 0, none⟩)] w fun e w' => ∃ ql L' c' s', e = .returned (.tuple #[.pointer (some ⟨ql, 0, none⟩), .bool (decide (¬ b = 0)), .nilIface]) ∧ Turn w w' L L' ∧ Dk w' L' (4 * p + 1 + more) s' 0 c' ∧ imgS (4 * p + 1 + more) s' = zerL (512 * (1 + 2 * p)) ++ ((List.range p).map (pgL img p b)).flatten ++ img.drop (512 * (4 * p + 1)) := by
  obtain ⟨N, hN⟩ : ∃ N, 4 * p + 1 + more = N := ⟨_, rfl⟩
  have hroom : roomD (N : Int) = (p : Int) := by
    unfold roomD
    rw [if_neg (by omega), Int.tdiv_eq_ediv_of_nonneg (by omega), Int.min_eq_left (by omega)]
    omega
  rw [hN] at h
  rcases hm with ⟨hb, h0⟩ | ⟨hb, hlt, h0, hz, h1⟩
  · refine (open_zero h p (by omega) hroom hp (by omega) (by omega) (by rw [sec0_at img 511 (by decide)]; exact h0)).mono ?_
    rintro e w' ⟨vg, L', c', rfl, ⟨q, rfl, _⟩, _, t, d, _, _⟩
    refine ⟨q, L', c', _, by rw [decide_eq_false (fun h => h hb)], t, by rw [hN]; exact d, ?_⟩
    exact open_img img p more b hl (secB img) (fun n hn => pgL_no img p b n (fun h => by rw [hb, Nat.zero_div] at h; exact absurd h.2 (by decide))) (fun i => rfl)
  · have hmem := mem_nums h0 hz
    have hnum : ∀ x ∈ numsT (secB img 0) 256, x < p := fun x hx => by
      have := bit_min hlt ((hmem x).1 hx).2
      omega
    have hlt2 : b < 256 := Nat.lt_of_lt_of_le hlt (Nat.pow_le_pow_right (by decide) (Nat.min_le_right p 8))
    have hne : numsT (secB img 0) 256 ≠ [] := fun he => by
      have := bit_some ⟨b, hlt2⟩ hb
      rw [List.any_eq_true] at this
      obtain ⟨n, h2, h3⟩ := this
      have h4 := (hmem n).2 ⟨List.mem_range.1 h2, by simpa using h3⟩
      rw [he] at h4
      cases h4
    obtain ⟨x, hx, hxm⟩ := last_some hne
    refine (open_stands h p (by omega) hroom hp (by omega) (by omega) x (by rw [sec0_at img 511 (by decide)]; exact h1) ?_ hx (hnum x hxm) hnum).mono ?_
    · refine zB_of _ (fun j hj => ?_)
      rw [List.length_take] at hj
      have hj2 : j < 479 := by omega
      have : bAt ((List.drop 32 (secB img 0)).take (511 - 32)) j = bAt (secB img 0) (32 + j) := by
        unfold bAt
        rw [List.getD_eq_getElem?_getD, List.getD_eq_getElem?_getD, List.getElem?_take_of_lt (by omega), List.getElem?_drop]
      rw [this, sec0_at img _ (by omega)]
      exact hz _ (by omega) (by omega)
    · rintro e w' ⟨vg, L', c', rfl, ⟨q, rfl, _⟩, _, t, d, _, _⟩
      refine ⟨q, L', c', _, by rw [decide_eq_true hb], t, by rw [hN]; exact d, ?_⟩
      refine open_img img p more b hl _ (fun n hn => ?_) (fun i => ?_)
      · have g0 := homT_home p (numsT (secB img 0) 256) (secB img) n 0 hn (by decide) hnum
        have g1 := homT_home p (numsT (secB img 0) 256) (secB img) n 1 hn (by decide) hnum
        rw [Nat.add_zero, Nat.add_zero] at g0
        unfold setS
        rw [if_neg (by omega), if_neg (by omega), g0, g1]
        by_cases hb2 : n ∈ numsT (secB img 0) 256
        · rw [if_pos hb2, if_pos hb2]
          exact pgL_yes img p b n ((hmem n).1 hb2)
        · rw [if_neg hb2, if_neg hb2]
          exact pgL_no img p b n (fun h => hb2 ((hmem n).2 h))
      · unfold setS
        rw [if_neg (by omega)]
        exact homT_high p _ _ _ (by omega) hnum
end Go.Proofs.YtomioemhjhhbcaaGreatDoor

set_option linter.unusedVariables false
set_option linter.unusedSimpArgs false
namespace Go.Proofs.YtomioemhjhhbcaaGreatDoor
open Go.RowKit

theorem ZE.min {P : Program} {n : Fm} {ops : Array Oper} {S : Nat → World → Prop} {K : List (Nat × Value) → (World → Prop) → Prop} {i c lv : Nat} {ty : TypeId} {ps : String} {af : Array Edge} {gd : Option (Nat × Bool)} {r : List (Oper × Nat × Nat)} {e : List (Nat × Value)} {C : World → Prop} {x y : Operand} {ts : Array TypeId} {u u' v : Value} (h1 : decide (c = 1) = false) (hw : wantE ops e ⟨some i, .call { callee := .builtin .min, args := #[x, y], argTypes := ts }, ty, ps, af, gd⟩ = some true) (hi : decide (i < n.k) = true) (hx : evE e x = some u) (hy : evE e y = some u') (hc : ∀ w, C w → SZ S c lv C w) (hr : ∀ w, (Builtin.min_ ts ty #[u, u']).run P w = .ok v w) (k : wpZE P n ops S K r ((i, v) :: e) C) : wpZE P n ops S K ((⟨some i, .call { callee := .builtin .min, args := #[x, y], argTypes := ts }, ty, ps, af, gd⟩, c, lv) :: r) e C :=
  ZE.val h1 hw hi hc (fun a ha W _ => by simp [execOp, resolve, invoke, builtin, ha.ev hx, ha.ev hy, hr, Result.andThen]) k
theorem Ob.at37 {w : World} {b : Nat} {v : Value} {bs : List UInt8} (h : Ob w b v bs) {i : Nat} (hi : i < bs.length) : ∃ ad, (∀ W, (Instr.indexAt 50 v (.int .i64 (i : Int))).run Tryz.prog W = .ok (.pointer (some ad)) W) ∧ ∀ W, Below w.heap.size w W → (Instr.loadAt 5 (.pointer (some ad))).run Tryz.prog W = .ok (byt (bs.getD i 0)) W := by
  have hg : bs[i]? = some (bs.getD i 0) := by rw [List.getD_eq_getElem?_getD, List.getElem?_eq_getElem hi]; rfl
  obtain ⟨ad, ix, _⟩ := h.has.item hg
  refine ⟨ad, ix, fun W hW => ?_⟩
  obtain ⟨a2, i2, l2⟩ := (h.has.below hW).item hg
  have e := (ix W).symm.trans (i2 W)
  simp only [Result.ok.injEq, Value.pointer.injEq, Option.some.injEq, and_true] at e
  rw [e]
  exact l2
theorem Dk.fx {S : Nat → Prop} {w w' : World} {L : Lay} {N : Nat} {s : Nat → List UInt8} {m c : Nat} (h : Dk w L N s m c) (hf : Fx S w w') (hd : ∀ k, L.F k → ¬ S k) : Dk w' L N s m c := by
  obtain ⟨D, h1, h2⟩ := h.ex
  exact ⟨D, h1.fx hf hd, h2⟩
theorem info36 (a m : Int) (v : Value) : (Tryz.prog.info? 24).map (·.size) = some (lfC a m v).length := by kernel_rfl
theorem ld36 {W : World} {q : Nat} {a m : Int} {v : Value} (hb : Blk W q (lfC a m v) 24) : (Instr.loadAt 24 (.pointer (some ⟨q, 0, none⟩))).run Tryz.prog W = .ok (.agg (lfC a m v).toArray) W := run_loadR hb Tryz.underlying24 rfl (info36 a m v)
theorem quo512 (n : Nat) (hn : n < 100000000) (W : World) (x y : Operand) : (do eqGuard .quo 3 x y (.int .i64 (n : Int)) (.int .i64 512); binOp .quo 3 (.int .i64 (n : Int)) (.int .i64 512) : Sem Value).run Tryz.prog W = .ok (.int .i64 ((n / 512 : Nat) : Int)) W := by
  go_simp
  rw [IntKind.wrap_i64]
  omega
theorem rem_nat (n k : Nat) (hk : 0 < k) (W : World) (x y : Operand) : (do eqGuard .rem 3 x y (.int .i64 (n : Int)) (.int .i64 (k : Int)); binOp .rem 3 (.int .i64 (n : Int)) (.int .i64 (k : Int)) : Sem Value).run Tryz.prog W = .ok (.int .i64 ((n % k : Nat) : Int)) W := by
  rw [int_rem _ _ (by omega), Int.tmod_eq_emod_of_nonneg (by omega)]
  rfl
theorem shl8 (k : Nat) (hk : k ≤ 8) (W : World) (x y : Operand) : (do eqGuard .shl 5 x y (.int .u8 1) (.int .i64 (k : Int)); binOp .shl 5 (.int .u8 1) (.int .i64 (k : Int)) : Sem Value).run Tryz.prog W = .ok (byt (UInt8.ofNat (2 ^ k))) W := by
  have e : byt (UInt8.ofNat (2 ^ k)) = .int .u8 (IntKind.u8.wrap (2 ^ k)) := by
    have h : k = 0 ∨ k = 1 ∨ k = 2 ∨ k = 3 ∨ k = 4 ∨ k = 5 ∨ k = 6 ∨ k = 7 ∨ k = 8 := by omega
    rcases h with rfl | rfl | rfl | rfl | rfl | rfl | rfl | rfl | rfl <;> rfl
  have h0 : ¬ (k : Int) < 0 := by omega
  rw [e]
  clear e
  go_simp
theorem sub8 (k : Nat) (hk : k ≤ 8) (W : World) (x y : Operand) : (do eqGuard .sub 5 x y (byt (UInt8.ofNat (2 ^ k))) (.int .u8 1); binOp .sub 5 (byt (UInt8.ofNat (2 ^ k))) (.int .u8 1) : Sem Value).run Tryz.prog W = .ok (byt (UInt8.ofNat (2 ^ k - 1))) W := by
  have e : byt (UInt8.ofNat (2 ^ k - 1)) = .int .u8 (IntKind.u8.wrap ((UInt8.ofNat (2 ^ k)).toNat - 1)) := by
    have h : k = 0 ∨ k = 1 ∨ k = 2 ∨ k = 3 ∨ k = 4 ∨ k = 5 ∨ k = 6 ∨ k = 7 ∨ k = 8 := by omega
    rcases h with rfl | rfl | rfl | rfl | rfl | rfl | rfl | rfl | rfl <;> rfl
  rw [e]
  clear e
  generalize UInt8.ofNat (2 ^ k) = z
  unfold byt
  go_simp
theorem and5 (a b : UInt8) (W : World) (x y : Operand) : (do eqGuard .and 5 x y (byt a) (byt b); binOp .and 5 (byt a) (byt b) : Sem Value).run Tryz.prog W = .ok (byt (a &&& b)) W := by
  unfold byt
  go_simp
  rw [and_u8, UInt8.toNat_and]
theorem mask_mod (x : UInt8) (k : Nat) (hk : k ≤ 8) : (x &&& UInt8.ofNat (2 ^ k - 1)).toNat = x.toNat % 2 ^ k := by
  have h : 2 ^ k - 1 < 256 := by
    have := Nat.pow_le_pow_right (show 0 < 2 by decide) hk
    have : (2 : Nat) ^ 8 = 256 := by decide
    omega
  rw [UInt8.toNat_and, UInt8.toNat_ofNat', Nat.mod_eq_of_lt h, Nat.and_two_pow_sub_one_eq_mod]
theorem neb (b : Bool) (W : World) (x y : Operand) : (do eqGuard .neq 4 x y (.bool b) (.bool b); binOp .neq 4 (.bool b) (.bool b) : Sem Value).run Tryz.prog W = .ok (.bool false) W := by go_simp
theorem len9s (bs : List UInt8) (W : World) (ty : TypeId) : (Builtin.len_ #[9] ty #[strV bs]).run Tryz.prog W = .ok (.int .i64 (bs.length : Int)) W := by
  unfold strV
  go_simp
/-- What the second loop has done to the head of the image. -/
def Hd2 (st : Bool) (p : Nat) (bs : List UInt8) (b : UInt8) (i : Nat) : Prop := (st = true → (i = 0 → b = 0) ∧ (0 < i → bAt bs 0 = b.toNat ∧ b.toNat < 2 ^ min p 8 ∧ ∀ j, 1 ≤ j → j < i → bAt bs j = 0)) ∧ (st = false → b = 0 ∧ (i = 512 → bAt bs 511 = 0))
theorem bAt_set (bs : List UInt8) (i j : Nat) (u : UInt8) (hi : i < bs.length) : bAt (bs.set i u) j = if i = j then u.toNat else bAt bs j := by
  unfold bAt
  rw [List.getD_eq_getElem?_getD, List.getD_eq_getElem?_getD, List.getElem?_set]
  by_cases e : i = j
  · rw [if_pos e, if_pos e, if_pos (by omega)]
    rfl
  · rw [if_neg e, if_neg e]
theorem st_cases (i : Nat) (st : Bool) (h : i < 512) : (i = 0 ∧ st = true) ∨ (i = 0 ∧ st = false) ∨ ((0 < i ∧ i < 511) ∧ st = true) ∨ ((0 < i ∧ i < 511) ∧ st = false) ∨ i = 511 := by
  cases st
  · by_cases h0 : i = 0
    · exact .inr (.inl ⟨h0, rfl⟩)
    · by_cases h1 : i = 511
      · exact .inr (.inr (.inr (.inr h1)))
      · exact .inr (.inr (.inr (.inl ⟨by omega, rfl⟩)))
  · by_cases h0 : i = 0
    · exact .inl ⟨h0, rfl⟩
    · by_cases h1 : i = 511
      · exact .inr (.inr (.inr (.inr h1)))
      · exact .inr (.inr (.inl ⟨by omega, rfl⟩))
theorem Hd2.begin (st : Bool) (p : Nat) (bs : List UInt8) : Hd2 st p bs 0 0 := ⟨fun _ => ⟨fun _ => rfl, fun h => by omega⟩, fun _ => ⟨rfl, fun h => by omega⟩⟩
theorem Hd2.first {p : Nat} {bs : List UInt8} {b : UInt8} (hl : 0 < bs.length) (x : UInt8) (hx : x.toNat < 2 ^ min p 8) : Hd2 true p (bs.set 0 x) x 1 := ⟨fun _ => ⟨fun h => by omega, fun _ => ⟨by rw [bAt_set _ _ _ _ hl, if_pos rfl], hx, fun j h1 h2 => by omega⟩⟩, fun h => by cases h⟩
theorem Hd2.zero {st : Bool} {p : Nat} {bs : List UInt8} {b : UInt8} {i : Nat} (h : Hd2 st p bs b i) (hi : 0 < i) (hl : i < bs.length) (h5 : i = 511 ∨ st = true) : Hd2 st p (bs.set i 0) b (i + 1) := by
  refine ⟨fun hs => ⟨fun h0 => by omega, fun _ => ?_⟩, fun hs => ⟨(h.2 hs).1, fun h0 => ?_⟩⟩
  · obtain ⟨h1, h2, h3⟩ := (h.1 hs).2 hi
    refine ⟨by rw [bAt_set _ _ _ _ hl, if_neg (by omega)]; exact h1, h2, fun j hj1 hj2 => ?_⟩
    rw [bAt_set _ _ _ _ hl]
    by_cases e : i = j
    · rw [if_pos e]; rfl
    · rw [if_neg e]; exact h3 j hj1 (by omega)
  · rw [bAt_set _ _ _ _ hl, if_pos (by omega)]
    rfl
theorem Hd2.same {p : Nat} {bs : List UInt8} {b : UInt8} {i : Nat} (h : Hd2 false p bs b i) (hi : i < 511) : Hd2 false p bs b (i + 1) := ⟨fun h => (by cases h), fun _ => ⟨(h.2 rfl).1, fun h0 => by omega⟩⟩
theorem Mrk.stands {p : Nat} {bs : List UInt8} {b : UInt8} (h : Hd2 true p bs b 512) (hl : 512 ≤ bs.length) (hb : ¬ b.toNat = 0) : Mrk (bs.set 511 1) p b.toNat := by
  obtain ⟨h1, h2, h3⟩ := (h.1 rfl).2 (by decide)
  refine .inr ⟨hb, h2, by rw [bAt_set _ _ _ _ (by omega), if_neg (by decide)]; exact h1, fun j hj1 hj2 => ?_, by rw [bAt_set _ _ _ _ (by omega), if_pos rfl]; rfl⟩
  rw [bAt_set _ _ _ _ (by omega), if_neg (by omega)]
  exact h3 j hj1 (by omega)
theorem Mrk.none {st : Bool} {p : Nat} {bs : List UInt8} {b : UInt8} (h : Hd2 st p bs b 512) (hb : st = false ∨ b.toNat = 0) : Mrk bs p b.toNat := by
  cases st with
  | false =>
    obtain ⟨h1, h2⟩ := h.2 rfl
    exact .inl ⟨by rw [h1]; rfl, h2 rfl⟩
  | true =>
    obtain ⟨h1, h2, h3⟩ := (h.1 rfl).2 (by decide)
    exact .inl ⟨hb.elim (fun h => by cases h) id, h3 511 (by decide) (by decide)⟩
/-- The pages so far. -/
def psT (img : List UInt8) (p b n : Nat) : List (List UInt8) := (List.range n).map (pgL img p b) ++ List.replicate (p - n) (zerL 1024)
theorem psT_len (img : List UInt8) (p b n : Nat) (h : n ≤ p) : (psT img p b n).length = p := by
  unfold psT
  rw [List.length_append, List.length_map, List.length_range, List.length_replicate]
  omega
theorem psT_set (img : List UInt8) (p b n : Nat) (h : n < p) : (psT img p b n).set n (pgL img p b n) = psT img p b (n + 1) := by
  unfold psT
  rw [List.set_append_right _ _ (by rw [List.length_map, List.length_range]; exact Nat.le_refl _), List.length_map, List.length_range, Nat.sub_self, show p - n = (p - (n + 1)) + 1 by omega, List.replicate_succ, List.set_cons_zero, List.range_succ, List.map_append]
  simp
theorem pgL_len (img : List UInt8) (p more b n : Nat) (hl : img.length = (4 * p + 1 + more) * 512) (hn : n < p) : (pgL img p b n).length = 1024 := by
  unfold pgL cutL
  split <;> (rw [List.length_take, List.length_drop]; omega)
end Go.Proofs.YtomioemhjhhbcaaGreatDoor

set_option linter.unusedVariables false
set_option linter.unusedSimpArgs false
namespace Go.Proofs.YtomioemhjhhbcaaGreatDoor
open Go.RowKit

def g0E (vj : Value) (st : Bool) (q : Nat) (u : Value) (i : Nat) : List (Nat × Value) := [(1, vj), (2, .bool st), (7, .pointer (some ⟨q, 0, none⟩)), (9, u), (10, .int .i64 (i : Int))]
structure G0 (w3 : World) (K : Nat) (u : Value) (i : Nat) (W : World) : Prop where
  e : Below w3.heap.size w3 W
  o : ∃ bs, Ob W w3.heap.size u bs ∧ bs.length = K
  le : i ≤ K
def g1E (st : Bool) (q : Nat) (u : Value) (b : UInt8) : List (Nat × Value) := [(2, .bool st), (7, .pointer (some ⟨q, 0, none⟩)), (9, u), (11, byt b)]
structure G2 (w3 : World) (K : Nat) (st : Bool) (p : Nat) (u : Value) (b : UInt8) (i : Nat) (W : World) : Prop where
  e : Below w3.heap.size w3 W
  o : ∃ bs, Ob W w3.heap.size u bs ∧ bs.length = K ∧ Hd2 st p bs b i
  le : i ≤ 512
def g2E (st : Bool) (q : Nat) (u : Value) (x : UInt8 × Nat) : List (Nat × Value) := [(2, .bool st), (7, .pointer (some ⟨q, 0, none⟩)), (9, u), (11, byt x.1), (12, .int .i64 (x.2 : Int))]
def g3E (q : Nat) (u : Value) (b : UInt8) : List (Nat × Value) := [(7, .pointer (some ⟨q, 0, none⟩)), (9, u), (11, byt b)]
structure G3 (w3 : World) (K p : Nat) (u : Value) (b : UInt8) (W : World) : Prop where
  e : Below w3.heap.size w3 W
  o : ∃ img, Ob W w3.heap.size u img ∧ img.length = K ∧ Mrk img p b.toNat
def g4E (q : Nat) (u : Value) (b : UInt8) (n : Nat) : List (Nat × Value) := [(7, .pointer (some ⟨q, 0, none⟩)), (9, u), (11, byt b), (13, .int .i64 (n : Int))]
structure G4 (wC : World) (bb p : Nat) (vp : Value) (img : List UInt8) (b n : Nat) (W : World) : Prop where
  f : Fx (fun k => vp.ownBlock = some k) wC W
  o : Os W bb vp (psT img p b n)
  le : n ≤ p
def g6E (q p : Nat) (u d1 d2 : Value) (ps : List (List UInt8)) (t : Nat) : List (Nat × Value) := [(7, .pointer (some ⟨q, 0, none⟩)), (9, u), (16, d1), (18, d2), (24, strV (zerL (512 * (1 + 2 * p)))), (25, strV (ps.take t).flatten), (26, .int .i64 (t : Int))]
theorem below_w3 {w3 W W' : World} {u : Value} {bs : List UInt8} (e : Below w3.heap.size w3 W) (o : Ob W w3.heap.size u bs) (x : Fx (fun k => u.ownBlock = some k) W W') : Below w3.heap.size w3 W' := below_of_new e x (fun k hk => o.base k hk)
end Go.Proofs.YtomioemhjhhbcaaGreatDoor
