import Derived.Test.YthlpfpggjkocmaaYc
set_option linter.unusedVariables false
set_option linter.unusedSimpArgs false
namespace Go.Proofs.Ythlpfpggjkocmaa
open Go.RowKit

/-- The head of an image: no marker stands, or one for the pages of the bits b. -/
def Mrk (img : List UInt8) (p b : Nat) : Prop := (b = 0 ∧ bAt img 511 = 0) ∨ (b ≠ 0 ∧ b < 2 ^ min p 8 ∧ bAt img 0 = b ∧ (∀ j, 1 ≤ j → j < 511 → bAt img j = 0) ∧ bAt img 511 = 1)
theorem sec0_at (img : List UInt8) (j : Nat) (hj : j < 512) : bAt (secB img 0) j = bAt img j := by
  unfold bAt secB
  rw [Nat.zero_mul, List.drop_zero, List.getD_eq_getElem?_getD, List.getD_eq_getElem?_getD, List.getElem?_take_of_lt hj]
theorem zB_of (bs : List UInt8) (h : ∀ j, j < bs.length → bAt bs j = 0) : zB bs = true := by
  unfold zB
  rw [List.all_eq_true]
  intro x hx
  obtain ⟨j, hj⟩ := List.getElem?_of_mem hx
  have hlt := (List.getElem?_eq_some_iff.1 hj).1
  have := h j hlt
  unfold bAt at this
  rw [List.getD_eq_getElem?_getD, hj, Option.getD_some] at this
  have e : x = 0 := UInt8.toNat_inj.1 this
  rw [e]
  rfl
set_option maxRecDepth 100000 in
theorem bit_some : ∀ b : Fin 256, b.val ≠ 0 → (List.range 8).any (fun n => b.val / 2 ^ n % 2 == 1) = true := by decide
theorem bit_le {b n : Nat} (h : b / 2 ^ n % 2 = 1) : 2 ^ n ≤ b := by
  rcases Nat.lt_or_ge b (2 ^ n) with h1 | h1
  · rw [Nat.div_eq_of_lt h1] at h
    cases h
  · exact h1
theorem bit_min {b n p : Nat} (hb : b < 2 ^ min p 8) (h : b / 2 ^ n % 2 = 1) : n < min p 8 := by
  rcases Nat.lt_or_ge n (min p 8) with h1 | h1
  · exact h1
  · have := Nat.pow_le_pow_right (show 0 < 2 by decide) h1
    have := bit_le h
    omega
theorem mem_nums {img : List UInt8} {b : Nat} (h0 : bAt img 0 = b) (hz : ∀ j, 1 ≤ j → j < 511 → bAt img j = 0) (n : Nat) : n ∈ numsT (secB img 0) 256 ↔ (n < 8 ∧ b / 2 ^ n % 2 = 1) := by
  unfold numsT
  rw [List.mem_filter, List.mem_range]
  unfold bitB
  rw [decide_eq_true_eq]
  constructor
  · rintro ⟨h1, h2⟩
    rw [sec0_at img _ (by omega)] at h2
    by_cases h8 : n < 8
    · rw [show n / 8 = 0 by omega, show n % 8 = n by omega, h0] at h2
      exact ⟨h8, h2⟩
    · rw [hz (n / 8) (by omega) (by omega), Nat.zero_div] at h2
      cases h2
  · rintro ⟨h1, h2⟩
    refine ⟨by omega, ?_⟩
    rw [sec0_at img _ (by omega), show n / 8 = 0 by omega, show n % 8 = n by omega, h0]
    exact h2
theorem last_some {l : List Nat} (h : l ≠ []) : ∃ x, l[l.length - 1]? = some x ∧ x ∈ l := by
  have hp : l.length - 1 < l.length := by
    have := List.length_pos_iff.2 h
    omega
  exact ⟨_, List.getElem?_eq_getElem hp, List.getElem_mem hp⟩
theorem pgL_no (img : List UInt8) (p b n : Nat) (h : ¬ (n < 8 ∧ b / 2 ^ n % 2 = 1)) : secB img (1 + 2 * (p + n)) ++ secB img (1 + 2 * (p + n) + 1) = pgL img p b n := by
  unfold pgL
  rw [if_neg h, sec_two, show 512 * (1 + 2 * (p + n)) = 512 + 1024 * p + 1024 * n by omega]
theorem pgL_yes (img : List UInt8) (p b n : Nat) (h : n < 8 ∧ b / 2 ^ n % 2 = 1) : secB img (1 + 2 * n) ++ secB img (1 + 2 * n + 1) = pgL img p b n := by
  unfold pgL
  rw [if_pos h, sec_two, show 512 * (1 + 2 * n) = 512 + 1024 * n by omega]
/-- Open of a disk whose log holds anything. -/
theorem open_any {w : World} {L : Lay} {img : List UInt8} {p more b : Nat} (h : Dk w L (4 * p + 1 + more) (secB img) 0 0) (hp : 1 ≤ p) (hp2 : p ≤ 100) (hmore : more ≤ 3) (hl : img.length = (4 * p + 1 + more) * 512) (hm : Mrk img p b) : Calls Try.prog 5 #[.pointer (some ⟨L.p, 0, none⟩)] w fun e w' => ∃ ql L' c' s', e = .returned (.tuple #[.pointer (some ⟨ql, 0, none⟩), .bool (decide (¬ b = 0)), .nilIface]) ∧ Turn w w' L L' ∧ Dk w' L' (4 * p + 1 + more) s' 0 c' ∧ imgS (4 * p + 1 + more) s' = zerL (512 * (1 + 2 * p)) ++ ((List.range p).map (pgL img p b)).flatten ++ img.drop (512 * (4 * p + 1)) := by
  obtain ⟨N, hN⟩ : ∃ N, 4 * p + 1 + more = N := ⟨_, rfl⟩
  have hroom : roomD (N : Int) = (p : Int) := by
    unfold roomD
    rw [if_neg (by omega), Int.tdiv_eq_ediv_of_nonneg (by omega), Int.min_eq_left (by omega)]
    omega
  rw [hN] at h
  rcases hm with ⟨hb, h0⟩ | ⟨hb, hlt, h0, hz, h1⟩
  · refine (open_zero h p (by omega) hroom hp (by omega) (by omega) (by rw [sec0_at img 511 (by decide)]; exact h0)).mono ?_
    rintro e w' ⟨vg, L', c', rfl, ⟨q, rfl, _⟩, _, t, d, _, _⟩
    refine ⟨q, L', c', _, by rw [decide_eq_false (fun h => h hb)], t, by rw [hN]; exact d, ?_⟩
    exact open_img img p more b hl (secB img) (fun n hn => pgL_no img p b n (fun h => by rw [hb, Nat.zero_div] at h; exact absurd h.2 (by decide))) (fun i => rfl)
  · have hmem := mem_nums h0 hz
    have hnum : ∀ x ∈ numsT (secB img 0) 256, x < p := fun x hx => by
      have := bit_min hlt ((hmem x).1 hx).2
      omega
    have hlt2 : b < 256 := Nat.lt_of_lt_of_le hlt (Nat.pow_le_pow_right (by decide) (Nat.min_le_right p 8))
    have hne : numsT (secB img 0) 256 ≠ [] := fun he => by
      have := bit_some ⟨b, hlt2⟩ hb
      rw [List.any_eq_true] at this
      obtain ⟨n, h2, h3⟩ := this
      have h4 := (hmem n).2 ⟨List.mem_range.1 h2, by simpa using h3⟩
      rw [he] at h4
      cases h4
    obtain ⟨x, hx, hxm⟩ := last_some hne
    refine (open_stands h p (by omega) hroom hp (by omega) (by omega) x (by rw [sec0_at img 511 (by decide)]; exact h1) ?_ hx (hnum x hxm) hnum).mono ?_
    · refine zB_of _ (fun j hj => ?_)
      rw [List.length_take] at hj
      have hj2 : j < 479 := by omega
      have : bAt ((List.drop 32 (secB img 0)).take (511 - 32)) j = bAt (secB img 0) (32 + j) := by
        unfold bAt
        rw [List.getD_eq_getElem?_getD, List.getD_eq_getElem?_getD, List.getElem?_take_of_lt (by omega), List.getElem?_drop]
      rw [this, sec0_at img _ (by omega)]
      exact hz _ (by omega) (by omega)
    · rintro e w' ⟨vg, L', c', rfl, ⟨q, rfl, _⟩, _, t, d, _, _⟩
      refine ⟨q, L', c', _, by rw [decide_eq_true hb], t, by rw [hN]; exact d, ?_⟩
      refine open_img img p more b hl _ (fun n hn => ?_) (fun i => ?_)
      · have g0 := homT_home p (numsT (secB img 0) 256) (secB img) n 0 hn (by decide) hnum
        have g1 := homT_home p (numsT (secB img 0) 256) (secB img) n 1 hn (by decide) hnum
        rw [Nat.add_zero, Nat.add_zero] at g0
        unfold setS
        rw [if_neg (by omega), if_neg (by omega), g0, g1]
        by_cases hb2 : n ∈ numsT (secB img 0) 256
        · rw [if_pos hb2, if_pos hb2]
          exact pgL_yes img p b n ((hmem n).1 hb2)
        · rw [if_neg hb2, if_neg hb2]
          exact pgL_no img p b n (fun h => hb2 ((hmem n).2 h))
      · unfold setS
        rw [if_neg (by omega)]
        exact homT_high p _ _ _ (by omega) hnum
theorem clear_any {w : World} {L : Lay} {img : List UInt8} {p more : Nat} (h : Dk w L (4 * p + 1 + more) (secB img) 0 0) (hp : 1 ≤ p) (hp2 : p ≤ 100) (hmore : more ≤ 3) (hl : img.length = (4 * p + 1 + more) * 512) : Calls Try.prog 6 #[.pointer (some ⟨L.p, 0, none⟩)] w fun e w' => ∃ L' c' s', e = .returned .nilIface ∧ Turn w w' L L' ∧ Dk w' L' (4 * p + 1 + more) s' 0 c' ∧ imgS (4 * p + 1 + more) s' = zerL (512 * (1 + 2 * p)) ++ cutL img (512 * (1 + 2 * p)) (1024 * p) ++ zerL (512 * more) := by
  obtain ⟨N, hN⟩ : ∃ N, 4 * p + 1 + more = N := ⟨_, rfl⟩
  have hroom : roomD (N : Int) = (p : Int) := by
    unfold roomD
    rw [if_neg (by omega), Int.tdiv_eq_ediv_of_nonneg (by omega), Int.min_eq_left (by omega)]
    omega
  rw [hN] at h
  refine (clear_ok h p (by omega) hroom hp (by omega) (by omega)).mono ?_
  rintro e w' ⟨L', c', rfl, t, d, _⟩
  refine ⟨L', c', _, rfl, t, by rw [hN]; exact d, ?_⟩
  have := clear_img img p more hl
  rw [hN] at this ⊢
  exact this
end Go.Proofs.Ythlpfpggjkocmaa
