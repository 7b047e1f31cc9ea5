import Derived.Test.YthfcabhelldokaaBi
set_option linter.unusedVariables false
set_option linter.unusedSimpArgs false
namespace Go.Proofs.Ythfcabhelldokaa
open Go.RowKit

theorem getD_at {l : List UInt8} {x : Nat} {u : UInt8} (h : l[x]? = some u) : l.getD x 0 = u := by rw [List.getD_eq_getElem?_getD, h]; rfl
theorem settle_at (img : List UInt8) (s c n : Nat) (b : List UInt8) (hl : img.length = n * 512) (hs : s < n) (hc : c ≤ 512) (hb : b.length = 512) (x : Nat) (hx : x < n * 512) :
    (settleL img s c b).getD x 0 = if x / 512 = s ∧ x % 512 < c then b.getD (x % 512) 0 else img.getD x 0 := by
  unfold settleL
  have l1 : (img.take (s * 512)).length = s * 512 := by rw [List.length_take]; omega
  have l2 : (b.take c).length = c := by rw [List.length_take]; omega
  rw [List.getD_eq_getElem?_getD, List.append_assoc]
  by_cases h1 : x < s * 512
  · rw [List.getElem?_append_left (by rw [l1]; exact h1), List.getElem?_take_of_lt h1, if_neg (by omega), List.getD_eq_getElem?_getD]
  · rw [List.getElem?_append_right (by rw [l1]; omega), l1]
    by_cases h2 : x - s * 512 < c
    · rw [List.getElem?_append_left (by rw [l2]; exact h2), List.getElem?_take_of_lt h2, if_pos (by omega), List.getD_eq_getElem?_getD, show x - s * 512 = x % 512 by omega]
    · rw [List.getElem?_append_right (by rw [l2]; omega), l2, List.getElem?_drop, if_neg (by omega), List.getD_eq_getElem?_getD]
      congr 2
      omega
/-- The writes of a turn: of two sectors in turns, each full of its number. -/
def pensL (m : Nat) : List (Nat × List UInt8) := (List.range m).map fun j => (j % 2, secL (UInt8.ofNat (1 + j)) [])
theorem pensL_succ (m : Nat) : pensL (m + 1) = pensL m ++ [(m % 2, secL (UInt8.ofNat (1 + m)) [])] := by simp [pensL, List.range_succ]
theorem pensL_length (m : Nat) : (pensL m).length = m := by simp [pensL]
theorem pensL_at (m t : Nat) (h : t < m) : (pensL m).getD t (0, []) = (t % 2, secL (UInt8.ofNat (1 + t)) []) := by
  simp [pensL, List.getD_eq_getElem?_getD, h]
theorem pensL_mem (m : Nat) : ∀ x ∈ pensL m, x.1 < 4 ∧ x.2.length = 512 := fun x hx => by
  unfold pensL at hx
  rw [List.mem_map] at hx
  obtain ⟨j, _, hj⟩ := hx
  have h1 : x.1 = j % 2 := by rw [← hj]
  have h2 : x.2 = secL (UInt8.ofNat (1 + j)) [] := by rw [← hj]
  rw [h1, h2]
  exact ⟨by omega, secL_length _ _⟩
theorem secL_fill (f : UInt8) (j : Nat) (h : j < 512) : (secL f []).getD j 0 = f := by
  rw [secL_full, List.getD_eq_getElem?_getD, List.getElem?_replicate_of_lt h]; rfl
/-- The byte number x behind t writes. -/
def byB (f : Nat → Nat) (x : Nat) : Nat → UInt8
  | 0 => 0
  | t + 1 => if x / 512 = t % 2 ∧ x % 512 < f t then UInt8.ofNat (1 + t) else byB f x t
theorem byB_is (f : Nat → Nat) (hf : ∀ k, f k ≤ 512) (m x : Nat) (hx : x < 2048) : ∀ t, t ≤ m → (imgT f (pensL m) (zer 4) t).getD x 0 = byB f x t
  | 0, _ => by rw [imgT, byB, zer, List.getD_eq_getElem?_getD, List.getElem?_replicate_of_lt (by omega)]; rfl
  | t + 1, ht => by
    have ih := byB_is f hf m x hx t (by omega)
    have hl := imgT_length f (pensL m) (zer 4) 4 (zer_length 4) hf (pensL_mem m) t (by rw [pensL_length]; omega)
    rw [imgT, pensL_at m t (by omega), byB]
    dsimp only
    rw [settle_at _ _ _ 4 _ hl (by omega) (hf t) (secL_length _ _) x (by omega), secL_fill _ _ (Nat.mod_lt _ (by decide)), ih]
theorem byB_none (f : Nat → Nat) (x : Nat) : ∀ t, (∀ j, j < t → f j = 0) → byB f x t = 0
  | 0, _ => rfl
  | t + 1, h => by rw [byB, h t (by omega), if_neg (by omega)]; exact byB_none f x t (fun j hj => h j (by omega))
theorem byB_one (f : Nat → Nat) (x k c : Nat) (hk : f k = c) : ∀ t, k < t → (∀ j, j < t → j ≠ k → f j = 0) → byB f x t = if x / 512 = k % 2 ∧ x % 512 < c then UInt8.ofNat (1 + k) else 0
  | 0, h, _ => by omega
  | t + 1, h, hf => by
    rw [byB]
    by_cases hkt : t = k
    · subst hkt
      rw [hk, byB_none f x t (fun j hj => hf j (by omega) (by omega))]
    · rw [hf t (by omega) hkt, if_neg (by omega)]
      exact byB_one f x k c hk t (by omega) (fun j hj => hf j (by omega))
theorem byB_all (f : Nat → Nat) (x : Nat) (t : Nat) (hf : ∀ j, j < t → f j = 512) : byB f x t = if x < 1024 then (if x / 512 = (t + 1) % 2 ∧ 0 < t then UInt8.ofNat t else if 1 < t ∧ x / 512 = t % 2 then UInt8.ofNat (t - 1) else 0) else 0 := by
  have hm : x % 512 < 512 := Nat.mod_lt _ (by decide)
  have gen : ∀ s, s ≤ t → byB f x s = if x < 1024 then (if x / 512 = (s + 1) % 2 ∧ 0 < s then UInt8.ofNat s else if 1 < s ∧ x / 512 = s % 2 then UInt8.ofNat (s - 1) else 0) else 0 := by
    intro s
    induction s with
    | zero => intro _; rw [byB]; split <;> simp
    | succ s ih =>
      intro hs
      rw [byB, hf s (by omega), ih (by omega)]
      by_cases h1 : x < 1024
      · rw [if_pos h1, if_pos h1]
        by_cases h2 : x / 512 = s % 2
        · rw [if_pos ⟨h2, hm⟩, if_pos (by omega), Nat.add_comm]
        · rw [if_neg (fun h => h2 h.1), if_neg (show ¬ (x / 512 = (s + 1 + 1) % 2 ∧ 0 < s + 1) by omega)]
          by_cases h3 : 0 < s
          · rw [if_pos (by omega), if_pos (by omega), Nat.add_sub_cancel]
          · rw [if_neg (by omega), if_neg (by omega), if_neg (by omega)]
      · rw [if_neg h1, if_neg h1, if_neg (by omega)]
  exact gen t (Nat.le_refl _)
/-- The device behind j writes. -/
def dvW (j : Nat) : Dv := ⟨4, zer 4, pensL j, 0, [], 0, 0, false, j⟩
theorem dvW_zero : freshD 4 (zer 4) = dvW 0 := rfl
theorem dvW_succ (j : Nat) : changedD (pushD (dvW j) (j % 2) (secL (UInt8.ofNat (1 + j)) [])) = dvW (j + 1) := by
  rw [changedD_zero rfl]
  unfold pushD dvW
  rw [pensL_succ]
/-- The image behind the crash. -/
def imgW (ks : List (BitVec 64)) (torn off : Int) (m : Nat) : List UInt8 := imgT (survN ks torn off) (pensL m) (zer 4) m
theorem imgW_len (ks : List (BitVec 64)) (torn off : Int) (m : Nat) : (imgW ks torn off m).length = 2048 :=
  imgT_length _ (pensL m) (zer 4) 4 (zer_length 4) (surv_le ks torn off) (pensL_mem m) m (by rw [pensL_length]; exact Nat.le_refl _)
theorem crashW (ks : List (BitVec 64)) (torn off : Int) (m : Nat) : crashD (dvW m) ks torn off = ⟨4, imgW ks torn off m, [], 0, [], 0, 0, true, m⟩ := by
  unfold crashD dvW imgW
  simp only [pensL_length]
theorem img0 (m x : Nat) (hx : x < 2048) : (imgW [] (-1) 0 m).getD x 0 = 0 := by
  unfold imgW
  rw [byB_is _ (surv_le _ _ _) m x hx m (Nat.le_refl _), byB_none]
  intro j _
  unfold survN
  rw [nil_kept, if_neg (by decide), if_neg (by omega)]
theorem img1 (m x : Nat) (hm : m ≤ 100) (h1 : 1 ≤ m) (hx : x < 2048) : (imgW allK (-1) 0 m).getD x 0 = if x < 1024 then (if x / 512 = (m + 1) % 2 then UInt8.ofNat m else if 1 < m then UInt8.ofNat (m - 1) else 0) else 0 := by
  unfold imgW
  rw [byB_is _ (surv_le _ _ _) m x hx m (Nat.le_refl _), byB_all]
  · by_cases h : x < 1024
    · rw [if_pos h, if_pos h]
      by_cases h2 : x / 512 = (m + 1) % 2
      · rw [if_pos ⟨h2, by omega⟩, if_pos h2]
      · rw [if_neg (fun h => h2 h.1), if_neg h2]
        by_cases h3 : 1 < m
        · rw [if_pos (by omega), if_pos h3]
        · rw [if_neg (by omega), if_neg h3]
    · rw [if_neg h, if_neg h]
  · intro j hj
    unfold survN
    rw [all_kept j (by omega), if_pos rfl]
theorem img2 (m k x : Nat) (hm : m ≤ 100) (hk : k < m) (hx : x < 2048) : (imgW (bitK k) (-1) 0 m).getD x 0 = if x / 512 = k % 2 then UInt8.ofNat (1 + k) else 0 := by
  unfold imgW
  rw [byB_is _ (surv_le _ _ _) m x hx m (Nat.le_refl _), byB_one _ x k 512 _ m hk]
  · have : x % 512 < 512 := Nat.mod_lt _ (by decide)
    simp [this]
  · intro j hj hjk
    unfold survN
    rw [bit_kept k (by omega) j (by omega), decide_eq_false hjk, if_neg (by decide), if_neg (by omega)]
  · unfold survN
    rw [bit_kept k (by omega) k (by omega), decide_eq_true rfl, if_pos rfl]
theorem img3 (m k x : Nat) (n : Int) (hm : m ≤ 100) (hk : k < m) (hx : x < 2048) : (imgW [] (k : Int) n m).getD x 0 = if x / 512 = k % 2 ∧ x % 512 < (min (max n 0) 512).toNat then UInt8.ofNat (1 + k) else 0 := by
  unfold imgW
  rw [byB_is _ (surv_le _ _ _) m x hx m (Nat.le_refl _), byB_one _ x k _ rfl m hk]
  · rw [show survN [] (k : Int) n k = (min (max n 0) 512).toNat by unfold survN; rw [nil_kept, if_neg (by decide), if_pos rfl]]
  · intro j hj hjk
    unfold survN
    rw [nil_kept, if_neg (by decide), if_neg (by omega)]
end Go.Proofs.Ythfcabhelldokaa
