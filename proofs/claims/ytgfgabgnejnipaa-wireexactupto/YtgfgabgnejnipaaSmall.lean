import Derived.Test.YtgfgabgnejnipaaBase
import Derived.Deep.QuietTactic
import Derived.BigQuiet
namespace Go.Proofs.Ytgfgabgnejnipaa
open Go.RowKit

theorem rest_eq (n m : Int) (hm : 0 < m) (hm2 : m ≤ 1000000000000000000) : (wrap64 (n.tmod m + m)).tmod m = n % m := by
  have h1 : n.tmod m < m := Int.tmod_lt_of_pos n hm
  have h2 : -m < n.tmod m := by
    have := Int.tmod_lt_of_pos (-n) hm
    rw [Int.neg_tmod] at this; omega
  rw [Go.IntWalk.wrap64_in _ (by omega), Int.tmod_eq_emod_of_nonneg (by omega), Int.add_emod_right]
  rw [Int.tmod_eq_emod]
  split
  · simp
  · have : (m.natAbs : Int) = m := by omega
    rw [this]
    rw [Int.sub_emod, Int.emod_self]; simp

set_option maxHeartbeats 400000 in
theorem rest_any (n m : Int) (w : World) (hm : 0 < m) (hm2 : m ≤ 1000000000000000000) :
    Calls Try.prog 11 #[.int .i64 n, .int .i64 m] w fun e w' => e = .returned (.int .i64 (n % m)) ∧ w' = w := by
  have he := rest_eq n m hm hm2
  go_enter Try.func11, Try.ntmps11
  go_wp2
  go_ret
  exact ⟨rfl, rfl⟩

set_option maxHeartbeats 400000 in
theorem eq_any (a b : Value) (xs ys : List UInt8) (w : World) (ha : Has w a xs) (hb : Has w b ys) :
    Calls Try.prog 10 #[a, b] w fun e w' => e = .returned (.bool (xs == ys)) ∧ w' = w := by
  have h1 := ha.convert
  have h2 := hb.convert
  clear ha hb
  go_enter Try.func10, Try.ntmps10
  go_wp2
  go_ret
  exact ⟨rfl, rfl⟩

theorem all_step (bs : List UInt8) (k : Nat) (x : UInt8) (h : k < bs.length) (hx : (x == 0) = (bs.take k).all (· == 0)) : ((x ||| bs[k]) == 0) = (bs.take (k + 1)).all (· == 0) := by
  rw [List.take_succ_eq_append_getElem h, List.all_append, ← hx]
  rw [Bool.eq_iff_iff]
  simp [UInt8.or_eq_zero_iff]

theorem u8_zero (x : UInt8) : (((x.toNat : Nat) : Int) == 0) = (x == 0) := by
  rw [Bool.eq_iff_iff]
  simp only [beq_iff_eq]
  constructor
  · intro h
    apply UInt8.toNat_inj.1
    simp; omega
  · rintro rfl; rfl

set_option maxHeartbeats 400000 in
theorem blank_some (ad : Addr) (cap : Nat) (bs : List UInt8) (w : World) (hl : bs.length ≤ 150000000000000) (hc : ∀ i u, bs[i]? = some u → w.cell? (ad.add i) = some (byt u)) :
    Calls Try.prog 14 #[.slice (some ad) bs.length cap] w fun e w' => e = .returned (.bool (bs.all (· == 0))) ∧ w' = w := by
  go_enter Try.func14, Try.ntmps14
  go_wp2
  go_loop [3, 8] (fun t i => ∃ k : Nat, k ≤ bs.length ∧ i = .int .i64 k ∧ ∃ x : UInt8, t = .int .u8 (x.toNat : Int) ∧ (x == 0) = (bs.take k).all (· == 0)) (fun _ i => bs.length - (intOf i).toNat)
  case atStart => exact ⟨0, Nat.zero_le _, rfl, 0, rfl, by simp⟩
  case round =>
    obtain ⟨k, hk, rfl, x, rfl, hx⟩ := hrel
    have HX : Hid ((x == 0) = (bs.take k).all (· == 0)) := hx
    clear hx
    by_cases hlt : k < bs.length
    · have hcell := hc k bs[k] (List.getElem?_eq_getElem hlt)
      unfold byt at hcell
      clear hc
      go_wp2
      go_round
      case rel => exact ⟨k + 1, by omega, by go_num, x ||| bs[k], by rw [or_u8], all_step bs k x hlt HX.out⟩
      case measure => simp [intOf]; omega
    · go_wp2
      go_ret
      have h := HX.out
      rw [List.take_of_length_le (by omega)] at h
      exact ⟨by rw [u8_zero, h]; rfl, rfl⟩

set_option maxHeartbeats 400000 in
theorem blank_nil (w : World) : Calls Try.prog 14 #[.slice none 0 0] w fun e w' => e = .returned (.bool true) ∧ w' = w := by
  go_enter Try.func14, Try.ntmps14
  go_wp2
  refine wp_loop_rounds 1 ?_
  rw [rounds_succ]
  go_wp2
  go_ret
  exact ⟨rfl, rfl⟩

theorem blank_any (v : Value) (bs : List UInt8) (w : World) (hl : bs.length ≤ 150000000000000) (h : Has w v bs) :
    Calls Try.prog 14 #[v] w fun e w' => e = .returned (.bool (bs.all (· == 0))) ∧ w' = w := by
  rcases h with ⟨rfl, rfl⟩ | ⟨ad, cap, rfl, h2, h3⟩
  · exact blank_nil w
  · exact blank_some ad cap bs w hl h3

theorem same_step (xs ys : List UInt8) (k : Nat) (x : UInt8) (h : k < xs.length) (h' : k < ys.length) (hx : (x == 0) = (xs.take k == ys.take k)) : ((x ||| (xs[k] ^^^ ys[k])) == 0) = (xs.take (k + 1) == ys.take (k + 1)) := by
  have hl : (xs.take k).length = (ys.take k).length := by simp; omega
  rw [List.take_succ_eq_append_getElem h, List.take_succ_eq_append_getElem h', Bool.eq_iff_iff]
  rw [Bool.eq_iff_iff] at hx
  simp only [beq_iff_eq] at hx
  simp only [beq_iff_eq, UInt8.or_eq_zero_iff, hx, UInt8.xor_eq_zero_iff]
  constructor
  · rintro ⟨e1, e2⟩; rw [e1, e2]
  · intro e
    have := List.append_inj e hl
    simpa using this

set_option maxHeartbeats 400000 in
theorem same_unlike (a b : Option Addr) (n m c d : Nat) (w : World) (hnm : ((n : Int) == (m : Int)) = false) :
    Calls Try.prog 13 #[.slice a n c, .slice b m d] w fun e w' => e = .returned (.bool false) ∧ w' = w := by
  go_enter Try.func13, Try.ntmps13
  go_wp2
  go_ret
  exact ⟨rfl, rfl⟩

set_option maxHeartbeats 400000 in
theorem same_some (ad bd : Addr) (c d : Nat) (xs ys : List UInt8) (w : World) (hlen : ys.length = xs.length) (hl : xs.length ≤ 150000000000000) (hc : ∀ i u, xs[i]? = some u → w.cell? (ad.add i) = some (byt u)) (hd : ∀ i u, ys[i]? = some u → w.cell? (bd.add i) = some (byt u)) :
    Calls Try.prog 13 #[.slice (some ad) xs.length c, .slice (some bd) xs.length d] w fun e w' => e = .returned (.bool (xs == ys)) ∧ ∃ q, w' = w.drewN q := by
  go_enter Try.func13, Try.ntmps13
  go_wp2
  go_loopw [5, 14] (fun t i wr => ∃ k : Nat, k ≤ xs.length ∧ i = .int .i64 k ∧ (∃ x : UInt8, t = .int .u8 (x.toNat : Int) ∧ (x == 0) = (xs.take k == ys.take k)) ∧ ∃ q, wr = w.drewN q) (fun _ i _ => xs.length - (intOf i).toNat)
  case atStart => exact ⟨0, Nat.zero_le _, rfl, ⟨0, rfl, by simp⟩, 0, rfl⟩
  case round =>
    obtain ⟨k, hk, rfl, ⟨x, rfl, hx⟩, q, rfl⟩ := hrel
    have HX : Hid ((x == 0) = (xs.take k == ys.take k)) := hx
    have HL : Hid (ys.length = xs.length) := hlen
    clear hx hlen
    by_cases hlt : k < xs.length
    · have hlt' : k < ys.length := by have := HL.out; omega
      have hcell := hc k xs[k] (List.getElem?_eq_getElem hlt)
      have hdell := hd k ys[k] (List.getElem?_eq_getElem hlt')
      unfold byt at hcell hdell
      clear hc hd
      have hi : (k : Int) < (xs.length : Int) := by omega
      go_wp2
      go_quiet (fail)
      go_wp2
      go_roundw
      case rel => exact ⟨k + 1, by omega, by go_num, ⟨x ||| (xs[k] ^^^ ys[k]), by rw [xor_u8, or_u8], same_step xs ys k x hlt hlt' HX.out⟩, _, rfl⟩
      case measure => simp [intOf]; omega
    · go_wp2
      go_ret
      have h := HX.out
      have hh := HL.out
      rw [List.take_of_length_le (by omega), List.take_of_length_le (by omega)] at h
      exact ⟨by rw [u8_zero, h]; rfl, q, rfl⟩

set_option maxHeartbeats 400000 in
theorem same_empty (a b : Option Addr) (c d : Nat) (w : World) :
    Calls Try.prog 13 #[.slice a 0 c, .slice b 0 d] w fun e w' => e = .returned (.bool true) ∧ w' = w := by
  go_enter Try.func13, Try.ntmps13
  go_wp2
  refine wp_loop_rounds 1 ?_
  rw [rounds_succ]
  go_wp2
  go_ret
  exact ⟨rfl, rfl⟩

theorem Has.slice {w : World} {v : Value} {bs : List UInt8} (h : Has w v bs) : ∃ ao cap, v = .slice ao bs.length cap := by
  rcases h with ⟨rfl, rfl⟩ | ⟨ad, cap, rfl, _⟩
  · exact ⟨none, 0, rfl⟩
  · exact ⟨some ad, cap, rfl⟩

theorem same_any (a b : Value) (xs ys : List UInt8) (w : World) (ha : Has w a xs) (hb : Has w b ys) (hl : xs.length ≤ 150000000000000) :
    Calls Try.prog 13 #[a, b] w fun e w' => e = .returned (.bool (xs == ys)) ∧ ∃ q, w' = w.drewN q := by
  by_cases hlen : ys.length = xs.length
  · by_cases h0 : xs.length = 0
    · obtain rfl := List.eq_nil_of_length_eq_zero h0
      obtain rfl := List.eq_nil_of_length_eq_zero (hlen.trans h0)
      obtain ⟨ao, c, rfl⟩ := ha.slice
      obtain ⟨bo, d, rfl⟩ := hb.slice
      exact (same_empty ao bo c d w).mono fun e w' ⟨h1, h2⟩ => ⟨h1, 0, h2⟩
    · rcases ha with ⟨rfl, rfl⟩ | ⟨ad, c, rfl, h2, h3⟩
      · simp at h0
      · rcases hb with ⟨rfl, rfl⟩ | ⟨bd, d, rfl, g2, g3⟩
        · simp at hlen; omega
        · rw [hlen]
          exact same_some ad bd c d xs ys w hlen hl h3 g3
  · obtain ⟨ao, c, rfl⟩ := ha.slice
    obtain ⟨bo, d, rfl⟩ := hb.slice
    have e : (xs == ys) = false := by
      rw [beq_eq_false_iff_ne]
      intro h; subst h; exact hlen rfl
    rw [e]
    exact (same_unlike ao bo _ _ c d w (beq_eq_false_iff_ne.2 (by omega))).mono fun e w' ⟨h1, h2⟩ => ⟨h1, 0, h2⟩

end Go.Proofs.Ytgfgabgnejnipaa
