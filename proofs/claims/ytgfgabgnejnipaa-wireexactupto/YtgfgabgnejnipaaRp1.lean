import Derived.Test.YtgfgabgnejnipaaWp4
import Derived.BigQuiet
namespace Go.Proofs.Ytgfgabgnejnipaa
open Go.RowKit

set_option maxRecDepth 100000 in
set_option maxHeartbeats 4000000 in
theorem reads13 (T n : Nat) (X : Nat → Thing) (which N : Int) (B C : Value) (S : ByteArray) (w : World) (fw fr : Nat → Prop) (ht : Tab w T X n fw fr) (hfr : ∀ k, k < 2 → fr k) :
    Calls Try.prog 36 #[.pointer (some ⟨T, 0, none⟩), .agg #[.int .i64 13, .int .i64 which, .int .i64 N, B, C, .string S]] w fun e w' => e = .returned (.bool true) ∧ Left w' T X n fw fr := by
  obtain ⟨k, hk, hkk⟩ := and1 which
  obtain ⟨cs, L, V, ls, vs, hX, hn, hs, hr⟩ := ht.bk
  obtain ⟨p, v, q, u, all, at_, f, c1, c2, xa, xb, hall⟩ := hr k hk (hfr k hk)
  obtain ⟨X1, h1⟩ := ht.start (4 + k) (6 + k) (by omega) (by omega) (by omega) #[.int .i64 13, .int .i64 which, .int .i64 N, B, C, .string S] hX
  rw [xa, xb] at h1
  have H1 := hide h1
  have HC1 := hide c1
  have HC2 := hide c2
  have i63 := idx63 T 4 k hk
  have i65 := idx65 T 6 k hk
  obtain ⟨o4, ho4⟩ : ∃ o4, o4 = 4 + k := ⟨_, rfl⟩
  obtain ⟨o6, ho6⟩ : ∃ o6, o6 = 6 + k := ⟨_, rfl⟩
  rw [← ho4] at H1 HC1 i63
  rw [← ho6] at H1 HC2 i65
  have HO4 := hide ho4
  have HO6 := hide ho6
  have HT := hide ht
  have HX := hide hX
  have HS : Hid (∀ j, j < 2 → fw j → SlotW cs X j) := hs
  have HR : Hid (∀ j, j < 2 → fr j → SlotR cs X j) := hr
  have hal : all.length ≤ 150000000000000 := by omega
  obtain ⟨ys, b, gf, hrf⟩ : ∃ ys b gf, rfix all at_ f 1 = (ys, b, gf) := ⟨_, _, _, rfl⟩
  have hlen := rfix_len all at_ f 1
  have hlt := beval_lt _ ys rfl
  obtain ⟨m, hmm⟩ : ∃ m, beval ys = m := ⟨_, rfl⟩
  rw [hmm] at hlt
  have hm4 : m < 4294967296 := by
    have h1 : ys.length ≤ 4 := by
      have h2 : (rfix all at_ f 1).1.length ≤ 1 := hlen
      rw [hrf] at h2
      have h3 : ys.length ≤ 1 := h2
      omega
    exact Nat.lt_of_lt_of_le hlt (Nat.le_trans (Nat.pow_le_pow_right (by decide) h1) (by decide))
  have HRF := hide hrf
  have HMM := hide hmm
  clear h1 c1 c2 ho4 ho6 ht hX hs hr xa xb hrf hmm hlen hlt
  go_enter Try.func36, Try.ntmps36
  go_wp2_with fail
  have D1 := hide H1.out.drew
  clear H1
  generalize w.alloc (.cells #[.int .i64 13, .int .i64 which, .int .i64 N, B, C, .string S] 73) = w1 at *
  have t4 : w1.cell? ⟨T, o4, none⟩ = some (.pointer (some ⟨p, 0, none⟩)) := (D1.out.cell HC1.out).1
  have t6 : w1.cell? ⟨T, o6, none⟩ = some (.pointer (some ⟨q, 0, none⟩)) := (D1.out.cell HC2.out).1
  go_region_held3 (fun w' => w'.cell? ⟨T, o4, none⟩ = some (.pointer (some ⟨p, 0, none⟩)) ∧ w'.cell? ⟨T, o6, none⟩ = some (.pointer (some ⟨q, 0, none⟩))) (first | go_keep | exact ⟨(h3.cell HC1.out).1, (h3.cell HC2.out).1⟩ | exact ⟨(h2.cell HC1.out).1, (h2.cell HC2.out).1⟩) (first | (go_at_call 28; refine (ru8_any p v all at_ f _ D1.out.pa.1 hal).mono ?_; rw [HRF.out, HMM.out]; rintro e w2 ⟨rfl, hr2, hf2⟩; obtain ⟨X2, h2⟩ := D1.out.rx hr2 hf2) | (go_at_call 55; refine (qnum_is q u all at_ f 1 _ h2.pb.1 hal (by decide) ys b gf HRF.out).mono ?_; rw [HMM.out]; rintro e w3 ⟨rfl, hq3, hf3⟩; obtain ⟨X3, h3⟩ := h2.qx hq3 hf3))
  have H3 := hide h3
  clear h3 h2 hr2 hf2 hq3 hf3 D1 t4 t6
  go_wp2_with fail
  go_ret
  refine ⟨rfl, ?_⟩
  have h9 := H3.out
  rw [HO4.out, HO6.out] at h9
  exact h9.doneR HT.out HX.out hk hn HS.out HR.out (fun _ _ _ _ => rfl) (HO4.out ▸ HC1.out) (HO6.out ▸ HC2.out) hall (fun j _ _ h => h)

set_option maxRecDepth 100000 in
set_option maxHeartbeats 4000000 in
theorem reads14 (T n : Nat) (X : Nat → Thing) (which N : Int) (B C : Value) (S : ByteArray) (w : World) (fw fr : Nat → Prop) (ht : Tab w T X n fw fr) (hfr : ∀ k, k < 2 → fr k) :
    Calls Try.prog 36 #[.pointer (some ⟨T, 0, none⟩), .agg #[.int .i64 14, .int .i64 which, .int .i64 N, B, C, .string S]] w fun e w' => e = .returned (.bool true) ∧ Left w' T X n fw fr := by
  obtain ⟨k, hk, hkk⟩ := and1 which
  obtain ⟨cs, L, V, ls, vs, hX, hn, hs, hr⟩ := ht.bk
  obtain ⟨p, v, q, u, all, at_, f, c1, c2, xa, xb, hall⟩ := hr k hk (hfr k hk)
  obtain ⟨X1, h1⟩ := ht.start (4 + k) (6 + k) (by omega) (by omega) (by omega) #[.int .i64 14, .int .i64 which, .int .i64 N, B, C, .string S] hX
  rw [xa, xb] at h1
  have H1 := hide h1
  have HC1 := hide c1
  have HC2 := hide c2
  have i63 := idx63 T 4 k hk
  have i65 := idx65 T 6 k hk
  obtain ⟨o4, ho4⟩ : ∃ o4, o4 = 4 + k := ⟨_, rfl⟩
  obtain ⟨o6, ho6⟩ : ∃ o6, o6 = 6 + k := ⟨_, rfl⟩
  rw [← ho4] at H1 HC1 i63
  rw [← ho6] at H1 HC2 i65
  have HO4 := hide ho4
  have HO6 := hide ho6
  have HT := hide ht
  have HX := hide hX
  have HS : Hid (∀ j, j < 2 → fw j → SlotW cs X j) := hs
  have HR : Hid (∀ j, j < 2 → fr j → SlotR cs X j) := hr
  have hal : all.length ≤ 150000000000000 := by omega
  obtain ⟨ys, b, gf, hrf⟩ : ∃ ys b gf, rfix all at_ f 2 = (ys, b, gf) := ⟨_, _, _, rfl⟩
  have hlen := rfix_len all at_ f 2
  have hlt := beval_lt _ ys rfl
  obtain ⟨m, hmm⟩ : ∃ m, beval ys = m := ⟨_, rfl⟩
  rw [hmm] at hlt
  have hm4 : m < 4294967296 := by
    have h1 : ys.length ≤ 4 := by
      have h2 : (rfix all at_ f 2).1.length ≤ 2 := hlen
      rw [hrf] at h2
      have h3 : ys.length ≤ 2 := h2
      omega
    exact Nat.lt_of_lt_of_le hlt (Nat.le_trans (Nat.pow_le_pow_right (by decide) h1) (by decide))
  have HRF := hide hrf
  have HMM := hide hmm
  clear h1 c1 c2 ho4 ho6 ht hX hs hr xa xb hrf hmm hlen hlt
  go_enter Try.func36, Try.ntmps36
  go_wp2_with fail
  have D1 := hide H1.out.drew
  clear H1
  generalize w.alloc (.cells #[.int .i64 14, .int .i64 which, .int .i64 N, B, C, .string S] 73) = w1 at *
  have t4 : w1.cell? ⟨T, o4, none⟩ = some (.pointer (some ⟨p, 0, none⟩)) := (D1.out.cell HC1.out).1
  have t6 : w1.cell? ⟨T, o6, none⟩ = some (.pointer (some ⟨q, 0, none⟩)) := (D1.out.cell HC2.out).1
  go_region_held3 (fun w' => w'.cell? ⟨T, o4, none⟩ = some (.pointer (some ⟨p, 0, none⟩)) ∧ w'.cell? ⟨T, o6, none⟩ = some (.pointer (some ⟨q, 0, none⟩))) (first | go_keep | exact ⟨(h3.cell HC1.out).1, (h3.cell HC2.out).1⟩ | exact ⟨(h2.cell HC1.out).1, (h2.cell HC2.out).1⟩) (first | (go_at_call 29; refine (ru16_any p v all at_ f _ D1.out.pa.1 hal).mono ?_; rw [HRF.out, HMM.out]; rintro e w2 ⟨rfl, hr2, hf2⟩; obtain ⟨X2, h2⟩ := D1.out.rx hr2 hf2) | (go_at_call 55; refine (qnum_is q u all at_ f 2 _ h2.pb.1 hal (by decide) ys b gf HRF.out).mono ?_; rw [HMM.out]; rintro e w3 ⟨rfl, hq3, hf3⟩; obtain ⟨X3, h3⟩ := h2.qx hq3 hf3))
  have H3 := hide h3
  clear h3 h2 hr2 hf2 hq3 hf3 D1 t4 t6
  go_wp2_with fail
  go_ret
  refine ⟨rfl, ?_⟩
  have h9 := H3.out
  rw [HO4.out, HO6.out] at h9
  exact h9.doneR HT.out HX.out hk hn HS.out HR.out (fun _ _ _ _ => rfl) (HO4.out ▸ HC1.out) (HO6.out ▸ HC2.out) hall (fun j _ _ h => h)

set_option maxRecDepth 100000 in
set_option maxHeartbeats 4000000 in
theorem reads15 (T n : Nat) (X : Nat → Thing) (which N : Int) (B C : Value) (S : ByteArray) (w : World) (fw fr : Nat → Prop) (ht : Tab w T X n fw fr) (hfr : ∀ k, k < 2 → fr k) :
    Calls Try.prog 36 #[.pointer (some ⟨T, 0, none⟩), .agg #[.int .i64 15, .int .i64 which, .int .i64 N, B, C, .string S]] w fun e w' => e = .returned (.bool true) ∧ Left w' T X n fw fr := by
  obtain ⟨k, hk, hkk⟩ := and1 which
  obtain ⟨cs, L, V, ls, vs, hX, hn, hs, hr⟩ := ht.bk
  obtain ⟨p, v, q, u, all, at_, f, c1, c2, xa, xb, hall⟩ := hr k hk (hfr k hk)
  obtain ⟨X1, h1⟩ := ht.start (4 + k) (6 + k) (by omega) (by omega) (by omega) #[.int .i64 15, .int .i64 which, .int .i64 N, B, C, .string S] hX
  rw [xa, xb] at h1
  have H1 := hide h1
  have HC1 := hide c1
  have HC2 := hide c2
  have i63 := idx63 T 4 k hk
  have i65 := idx65 T 6 k hk
  obtain ⟨o4, ho4⟩ : ∃ o4, o4 = 4 + k := ⟨_, rfl⟩
  obtain ⟨o6, ho6⟩ : ∃ o6, o6 = 6 + k := ⟨_, rfl⟩
  rw [← ho4] at H1 HC1 i63
  rw [← ho6] at H1 HC2 i65
  have HO4 := hide ho4
  have HO6 := hide ho6
  have HT := hide ht
  have HX := hide hX
  have HS : Hid (∀ j, j < 2 → fw j → SlotW cs X j) := hs
  have HR : Hid (∀ j, j < 2 → fr j → SlotR cs X j) := hr
  have hal : all.length ≤ 150000000000000 := by omega
  obtain ⟨ys, b, gf, hrf⟩ : ∃ ys b gf, rfix all at_ f 4 = (ys, b, gf) := ⟨_, _, _, rfl⟩
  have hlen := rfix_len all at_ f 4
  have hlt := beval_lt _ ys rfl
  obtain ⟨m, hmm⟩ : ∃ m, beval ys = m := ⟨_, rfl⟩
  rw [hmm] at hlt
  have hm4 : m < 4294967296 := by
    have h1 : ys.length ≤ 4 := by
      have h2 : (rfix all at_ f 4).1.length ≤ 4 := hlen
      rw [hrf] at h2
      have h3 : ys.length ≤ 4 := h2
      omega
    exact Nat.lt_of_lt_of_le hlt (Nat.le_trans (Nat.pow_le_pow_right (by decide) h1) (by decide))
  have HRF := hide hrf
  have HMM := hide hmm
  have hm3 : IntKind.i64.wrap (m : Int) = (m : Int) := by rw [IntKind.wrap_i64]; omega
  clear h1 c1 c2 ho4 ho6 ht hX hs hr xa xb hrf hmm hlen hlt
  go_enter Try.func36, Try.ntmps36
  go_wp2_with fail
  have D1 := hide H1.out.drew
  clear H1
  generalize w.alloc (.cells #[.int .i64 15, .int .i64 which, .int .i64 N, B, C, .string S] 73) = w1 at *
  have t4 : w1.cell? ⟨T, o4, none⟩ = some (.pointer (some ⟨p, 0, none⟩)) := (D1.out.cell HC1.out).1
  have t6 : w1.cell? ⟨T, o6, none⟩ = some (.pointer (some ⟨q, 0, none⟩)) := (D1.out.cell HC2.out).1
  go_region_held3 (fun w' => w'.cell? ⟨T, o4, none⟩ = some (.pointer (some ⟨p, 0, none⟩)) ∧ w'.cell? ⟨T, o6, none⟩ = some (.pointer (some ⟨q, 0, none⟩))) (first | go_keep | exact ⟨(h3.cell HC1.out).1, (h3.cell HC2.out).1⟩ | exact ⟨(h2.cell HC1.out).1, (h2.cell HC2.out).1⟩) (first | (go_at_call 30; refine (ru32_any p v all at_ f _ D1.out.pa.1 hal).mono ?_; rw [HRF.out, HMM.out]; rintro e w2 ⟨rfl, hr2, hf2⟩; obtain ⟨X2, h2⟩ := D1.out.rx hr2 hf2) | (go_at_call 55; refine (qnum_is q u all at_ f 4 _ h2.pb.1 hal (by decide) ys b gf HRF.out).mono ?_; rw [HMM.out]; rintro e w3 ⟨rfl, hq3, hf3⟩; obtain ⟨X3, h3⟩ := h2.qx hq3 hf3))
  have H3 := hide h3
  clear h3 h2 hr2 hf2 hq3 hf3 D1 t4 t6
  go_wp2_with fail
  go_ret
  refine ⟨rfl, ?_⟩
  have h9 := H3.out
  rw [HO4.out, HO6.out] at h9
  exact h9.doneR HT.out HX.out hk hn HS.out HR.out (fun _ _ _ _ => rfl) (HO4.out ▸ HC1.out) (HO6.out ▸ HC2.out) hall (fun j _ _ h => h)


end Go.Proofs.Ytgfgabgnejnipaa
