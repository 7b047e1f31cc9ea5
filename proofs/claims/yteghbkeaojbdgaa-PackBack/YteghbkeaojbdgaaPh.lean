import Derived.Test.YteghbkeaojbdgaaPg
set_option linter.unusedVariables false
set_option linter.unusedSimpArgs false
namespace Go.Proofs.Yteghbkeaojbdgaa
open Go.RowKit

theorem cb_refl : ∀ a : List UInt8, Lib.compareBytes a a = 0
  | [] => rfl
  | x :: a => by
    rw [Lib.compareBytes, if_neg (by simp), if_neg (by simp)]
    exact cb_refl a
theorem cb_anti : ∀ a b : List UInt8, Lib.compareBytes a b = -Lib.compareBytes b a
  | [], [] => rfl
  | [], _ :: _ => rfl
  | _ :: _, [] => rfl
  | x :: a, y :: b => by
    rw [Lib.compareBytes, Lib.compareBytes]
    have ih := cb_anti a b
    by_cases h1 : x < y
    · have h2 : ¬ y < x := by simp only [UInt8.lt_iff_toNat_lt] at *; omega
      rw [if_pos h1, if_neg h2, if_pos h1]
    · by_cases h2 : y < x
      · rw [if_neg h1, if_pos h2, if_pos h2]; rfl
      · rw [if_neg h1, if_neg h2, if_neg h2, if_neg h1]; exact ih
theorem cb_eq : ∀ a b : List UInt8, Lib.compareBytes a b = 0 → a = b
  | [], [], _ => rfl
  | [], _ :: _, h => by cases h
  | _ :: _, [], h => by cases h
  | x :: a, y :: b, h => by
    rw [Lib.compareBytes] at h
    by_cases h1 : x < y
    · rw [if_pos h1] at h; cases h
    · by_cases h2 : y < x
      · rw [if_neg h1, if_pos h2] at h; cases h
      · rw [if_neg h1, if_neg h2] at h
        have e : x = y := by
          apply UInt8.toNat_inj.1
          simp only [UInt8.lt_iff_toNat_lt] at *; omega
        rw [e, cb_eq a b h]
theorem cb_trans : ∀ a b c : List UInt8, Lib.compareBytes a b < 0 → Lib.compareBytes b c < 0 → Lib.compareBytes a c < 0
  | [], [], c, h, _ => absurd h (by decide)
  | [], _ :: _, [], _, h => absurd h (by simp [Lib.compareBytes])
  | [], _ :: _, _ :: _, _, _ => by simp [Lib.compareBytes]
  | _ :: _, [], _, h, _ => absurd h (by simp [Lib.compareBytes])
  | _ :: _, _ :: _, [], _, h => absurd h (by simp [Lib.compareBytes])
  | x :: a, y :: b, z :: c, h1, h2 => by
    rw [Lib.compareBytes] at h1 h2 ⊢
    simp only [UInt8.lt_iff_toNat_lt] at *
    by_cases e1 : x.toNat < y.toNat
    · by_cases e2 : y.toNat < z.toNat
      · rw [if_pos (by omega)]; decide
      · rw [if_neg e2] at h2
        by_cases e3 : z.toNat < y.toNat
        · rw [if_pos e3] at h2; exact absurd h2 (by decide)
        · rw [if_pos (by omega)]; decide
    · rw [if_neg e1] at h1
      by_cases e4 : y.toNat < x.toNat
      · rw [if_pos e4] at h1; exact absurd h1 (by decide)
      · rw [if_neg e4] at h1
        by_cases e2 : y.toNat < z.toNat
        · rw [if_pos (by omega)]; decide
        · rw [if_neg e2] at h2
          by_cases e3 : z.toNat < y.toNat
          · rw [if_pos e3] at h2; exact absurd h2 (by decide)
          · rw [if_neg e3] at h2
            rw [if_neg (by omega), if_neg (by omega)]
            exact cb_trans a b c h1 h2
theorem cb_vals : ∀ a b : List UInt8, Lib.compareBytes a b = -1 ∨ Lib.compareBytes a b = 0 ∨ Lib.compareBytes a b = 1
  | [], [] => .inr (.inl rfl)
  | [], _ :: _ => .inl rfl
  | _ :: _, [] => .inr (.inr rfl)
  | x :: a, y :: b => by
    rw [Lib.compareBytes]
    split
    · exact .inl rfl
    · split
      · exact .inr (.inr rfl)
      · exact cb_vals a b
theorem cmpD_if (r s : Rc) : cmpD r s = if r.t < s.t then -1 else if s.t < r.t then 1 else Lib.compareBytes r.k s.k := by
  unfold cmpD cmpI
  by_cases h1 : r.t < s.t
  · rw [if_pos h1, if_pos h1]; rfl
  · by_cases h2 : s.t < r.t
    · rw [if_neg h1, if_pos h2, if_neg h1, if_pos h2]; rfl
    · rw [if_neg h1, if_neg h2, if_neg h1, if_neg h2]
      show (if (0 : Int) = 0 then orL [_] else 0) = _
      rw [if_pos rfl, orL, orL]
      split
      · rename_i h; exact h.symm
      · rfl
theorem cd_refl (r : Rc) : cmpD r r = 0 := by rw [cmpD_if, if_neg (by omega), if_neg (by omega), cb_refl]
theorem cd_anti (r s : Rc) : cmpD r s = -cmpD s r := by
  rw [cmpD_if, cmpD_if]
  have := cb_anti r.k s.k
  split <;> split <;> (try split) <;> omega
theorem cd_eq {r s : Rc} (h : cmpD r s = 0) : r.t = s.t ∧ r.k = s.k := by
  rw [cmpD_if] at h
  split at h
  · cases h
  · split at h
    · cases h
    · exact ⟨by omega, cb_eq _ _ h⟩
theorem cd_of {r s : Rc} (h1 : r.t = s.t) (h2 : r.k = s.k) : cmpD r s = 0 := by rw [cmpD_if, if_neg (by omega), if_neg (by omega), h2, cb_refl]
theorem cd_congr {r s x : Rc} (h1 : r.t = s.t) (h2 : r.k = s.k) : cmpD r x = cmpD s x ∧ cmpD x r = cmpD x s := by
  rw [cmpD_if, cmpD_if s, cmpD_if x r, cmpD_if x s, h1, h2]; exact ⟨rfl, rfl⟩
theorem cd_trans {r s x : Rc} (h1 : cmpD r s < 0) (h2 : cmpD s x < 0) : cmpD r x < 0 := by
  rw [cmpD_if] at *
  by_cases a1 : r.t < s.t
  · by_cases a2 : s.t < x.t
    · rw [if_pos (by omega)]; decide
    · rw [if_neg a2] at h2
      by_cases a3 : x.t < s.t
      · rw [if_pos a3] at h2; exact absurd h2 (by decide)
      · rw [if_pos (by omega)]; decide
  · rw [if_neg a1] at h1
    by_cases a4 : s.t < r.t
    · rw [if_pos a4] at h1; exact absurd h1 (by decide)
    · rw [if_neg a4] at h1
      by_cases a2 : s.t < x.t
      · rw [if_pos (by omega)]; decide
      · rw [if_neg a2] at h2
        by_cases a3 : x.t < s.t
        · rw [if_pos a3] at h2; exact absurd h2 (by decide)
        · rw [if_neg a3] at h2
          rw [if_neg (by omega), if_neg (by omega)]
          exact cb_trans _ _ _ h1 h2
theorem cd_vals (r s : Rc) : cmpD r s = -1 ∨ cmpD r s = 0 ∨ cmpD r s = 1 := by
  rw [cmpD_if]
  split
  · exact .inl rfl
  · split
    · exact .inr (.inr rfl)
    · exact cb_vals _ _
/-- In a sorted list each stands ahead of every later one. -/
theorem Srt.far {ds : List Rc} (h : Srt ds) (i : Nat) (a : Rc) (hi : ds[i]? = some a) : ∀ (m : Nat) (b : Rc), ds[i + m + 1]? = some b → cmpD a b < 0
  | 0, b, hb => h.lt i a b hi hb
  | m + 1, b, hb => by
    obtain ⟨c, hc⟩ : ∃ c, ds[i + m + 1]? = some c := ⟨_, List.getElem?_eq_getElem (by have := (List.getElem?_eq_some_iff.1 hb).1; omega)⟩
    exact cd_trans (h.far i a hi m c hc) (h.lt (i + m + 1) c b hc hb)
theorem Srt.less {ds : List Rc} (h : Srt ds) {i j : Nat} {a b : Rc} (hi : ds[i]? = some a) (hj : ds[j]? = some b) (hij : i < j) : cmpD a b < 0 :=
  h.far i a hi (j - i - 1) b (by rw [show i + (j - i - 1) + 1 = j by omega]; exact hj)
theorem Srt.mono {ds : List Rc} (h : Srt ds) {x : Rc} {i j : Nat} {a b : Rc} (hi : ds[i]? = some a) (hj : ds[j]? = some b) (hij : i ≤ j) (ha : 0 ≤ cmpD a x) : 0 ≤ cmpD b x := by
  rcases Nat.lt_or_ge i j with e | e
  · refine Int.not_lt.1 fun hc => ?_
    have := cd_trans (h.less hi hj e) hc
    omega
  · have : i = j := by omega
    subst this
    rw [hi] at hj
    cases hj
    exact ha
end Go.Proofs.Yteghbkeaojbdgaa
