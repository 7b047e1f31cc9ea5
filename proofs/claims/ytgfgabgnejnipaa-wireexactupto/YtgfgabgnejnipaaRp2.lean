import Derived.Test.YtgfgabgnejnipaaWp4
import Derived.BigQuiet
namespace Go.Proofs.Ytgfgabgnejnipaa
open Go.RowKit

theorem rfixed_is (p : Nat) (v : Value) (all : List UInt8) (a : Nat) (f n : Int) (w : World) (h : Rd w p v all a f) (hl : all.length ≤ 150000000000000) (ys : List UInt8) (b : Nat) (g : Int) (hr : rfix all a f n = (ys, b, g)) :
    Calls Try.prog 25 #[.pointer (some ⟨p, 0, none⟩), .int .i64 n] w fun e w' => ∃ ao cap, e = .returned (.slice ao ys.length cap) ∧ Own w' w.heap.size (.slice ao ys.length cap) ys ∧ Rd w' p v all b g ∧ Frm p w w' := by
  have := rfixed_any p v all a f n w h hl
  rw [hr] at this; exact this
theorem qfixed_is (p : Nat) (v : Value) (all : List UInt8) (a : Nat) (f n : Int) (w : World) (h : Qd w p v all a f) (hl : all.length ≤ 150000000000000) (ys : List UInt8) (b : Nat) (g : Int) (hr : rfix all a f n = (ys, b, g)) :
    Calls Try.prog 56 #[.pointer (some ⟨p, 0, none⟩), .int .i64 n] w fun e w' => ∃ ao cap, e = .returned (.slice ao ys.length cap) ∧ Own w' w.heap.size (.slice ao ys.length cap) ys ∧ Qd w' p v all b g ∧ Frm p w w' := by
  have := qfixed_any p v all a f n w h hl
  rw [hr] at this; exact this
theorem rrun_is (p : Nat) (v : Value) (all : List UInt8) (a : Nat) (f n : Int) (w : World) (h : Rd w p v all a f) (hl : all.length ≤ 150000000000000) (ys : List UInt8) (b : Nat) (g : Int) (hr : rrun all a f n = (ys, b, g)) :
    Calls Try.prog 26 #[.pointer (some ⟨p, 0, none⟩), .int .i64 n] w fun e w' => ∃ ao cap, e = .returned (.slice ao ys.length cap) ∧ Own w' w.heap.size (.slice ao ys.length cap) ys ∧ Rd w' p v all b g ∧ Frm p w w' := by
  have := rrun_any p v all a f n w h hl
  rw [hr] at this; exact this
theorem qrun_is (p : Nat) (v : Value) (all : List UInt8) (a : Nat) (f n : Int) (w : World) (h : Qd w p v all a f) (hl : all.length ≤ 150000000000000) (ys : List UInt8) (b : Nat) (g : Int) (hr : rrun all a f n = (ys, b, g)) :
    Calls Try.prog 57 #[.pointer (some ⟨p, 0, none⟩), .int .i64 n] w fun e w' => ∃ ao cap, e = .returned (.slice ao ys.length cap) ∧ Own w' w.heap.size (.slice ao ys.length cap) ys ∧ Qd w' p v all b g ∧ Frm p w w' := by
  have := qrun_any p v all a f n w h hl
  rw [hr] at this; exact this

theorem rfix_le (all : List UInt8) (a : Nat) (f n : Int) : (rfix all a f n).1.length ≤ all.length := by
  unfold rfix
  split
  · simp
  · split
    · simp
    · split
      · simp
      · simp; omega
theorem rrun_le (all : List UInt8) (a : Nat) (f n : Int) : (rrun all a f n).1.length ≤ all.length := by
  unfold rrun
  split
  · simp
  · split
    · simp
    · split
      · simp
      · split
        · simp
        · simp; omega

/-- One thing more. -/
theorem Fam.lay {w : World} {X : Nat → Thing} (h : Fam w X) (i : Nat) (Y : Thing) (hP : Y.P w) (hY : ∀ j, j ≠ i → ∀ k, (X j).F k → ¬ Y.F k) : ∃ X', Fam w X' ∧ X' i = Y ∧ ∀ j, j ≠ i → X' j = X j := by
  refine ⟨fun j => if j = i then Y else X j, ⟨fun j => ?_, fun j l hjl k => ?_⟩, by simp, fun j hj => by simp [hj]⟩
  · by_cases hj : j = i
    · simp only [hj, if_true]; exact hP
    · simp only [hj, if_false]; exact h.P j
  · by_cases hj : j = i
    · have hl : ¬ l = i := fun e => hjl (hj.trans e.symm)
      simp only [hj, hl, if_true, if_false]
      exact fun h1 h2 => hY l hl k h2 h1
    · by_cases hl : l = i
      · simp only [hj, hl, if_true, if_false]
        exact hY j hj k
      · simp only [hj, hl, if_false]
        exact h.ap j l hjl k

/-- A reader's call that hands out bytes. -/
theorem St.rxl {w w' : World} {X0 X : Nat → Thing} {T : Nat} {cs : Array Value} {L V : Value} {ls vs : List Value} {a b : Nat} {YB x y l : Thing} {g : Nat} {oc : Array Value} {p at_ at' : Nat} {v lv : Value} {all ys : List UInt8} {f f' : Int}
    (h : St w X0 X T cs L V ls vs a (rT p v all at_ f) b YB g oc x y l) (hr : Rd w' p v all at' f') (hf : Frm p w w') (ho : Own w' w.heap.size lv ys) : ∃ X', St w' X0 X' T cs L V ls vs a (rT p v all at' f') b YB g oc x y (rowT lv ys) := by
  obtain ⟨X2, h2⟩ := h.rx hr hf
  have ha := h.ha
  obtain ⟨X2, f2, e2, o2⟩ := h.fam.rx h.ea hr hf
  obtain ⟨X3, f3, e3, o3⟩ := f2.lay 14 (rowT lv ys) (ho.weaken (Nat.zero_le _)) (fun j hj k h1 h3 => by
    have h4 := ho.ownBlock k h3
    by_cases hja : j = a
    · rw [hja, e2] at h1
      have := (rT p v all at_ f).lt (h.fam.at h.ea) k h1
      omega
    · rw [o2 j hja] at h1
      have := (X j).lt (h.fam.P j) k h1
      omega)
  exact ⟨X3, (h.setA f2 e2 o2).setL f3 e3 o3⟩

set_option maxRecDepth 100000 in
set_option maxHeartbeats 4000000 in
theorem reads16 (T n : Nat) (X : Nat → Thing) (which N : Int) (B C : Value) (S : ByteArray) (w : World) (fw fr : Nat → Prop) (ht : Tab w T X n fw fr) (hfr : ∀ k, k < 2 → fr k) (hn9 : n ≤ 900) :
    Calls Try.prog 36 #[.pointer (some ⟨T, 0, none⟩), .agg #[.int .i64 16, .int .i64 which, .int .i64 N, B, C, .string S]] w fun e w' => e = .returned (.bool true) ∧ Left w' T X (n + 2) fw fr := by
  obtain ⟨k, hk, hkk⟩ := and1 which
  obtain ⟨cs, L, V, ls, vs, hX, hn, hs, hr⟩ := ht.bk
  obtain ⟨p, v, q, u, all, at_, f, c1, c2, xa, xb, hall⟩ := hr k hk (hfr k hk)
  obtain ⟨X1, h1⟩ := ht.start (4 + k) (6 + k) (by omega) (by omega) (by omega) #[.int .i64 16, .int .i64 which, .int .i64 N, B, C, .string S] hX
  rw [xa, xb] at h1
  have H1 := hide h1
  have HC1 := hide c1
  have HC2 := hide c2
  have i63 := idx63 T 4 k hk
  have i65 := idx65 T 6 k hk
  obtain ⟨o4, ho4⟩ : ∃ o4, o4 = 4 + k := ⟨_, rfl⟩
  obtain ⟨o6, ho6⟩ : ∃ o6, o6 = 6 + k := ⟨_, rfl⟩
  rw [← ho4] at H1 HC1 i63
  rw [← ho6] at H1 HC2 i65
  have HO4 := hide ho4
  have HO6 := hide ho6
  have HT := hide ht
  have HX := hide hX
  have HS : Hid (∀ j, j < 2 → fw j → SlotW cs X j) := hs
  have HR : Hid (∀ j, j < 2 → fr j → SlotR cs X j) := hr
  have hal : all.length ≤ 150000000000000 := by omega
  obtain ⟨ys, b, gf, hrf⟩ : ∃ ys b gf, rfix all at_ f N = (ys, b, gf) := ⟨_, _, _, rfl⟩
  have hyl : ys.length ≤ 1048576 := by
    have h2 := rfix_le all at_ f N
    rw [hrf] at h2
    exact Nat.le_trans h2 hall
  have HRF := hide hrf
  clear h1 c1 c2 ho4 ho6 ht hX hs hr xa xb hrf
  go_enter Try.func36, Try.ntmps36
  go_wp2_with fail
  have D1 := hide H1.out.drew
  have d2 := H1.out.field (o := 2) (u := .int .i64 N) rfl
  clear H1
  generalize w.alloc (.cells #[.int .i64 16, .int .i64 which, .int .i64 N, B, C, .string S] 73) = w1 at *
  have t4 : w1.cell? ⟨T, o4, none⟩ = some (.pointer (some ⟨p, 0, none⟩)) := (D1.out.cell HC1.out).1
  go_region_held3 (fun w' => w'.cell? ⟨T, o4, none⟩ = some (.pointer (some ⟨p, 0, none⟩)) ∧ w'.cell? ⟨w.heap.size, 2, none⟩ = some (.int .i64 N)) (first | go_keep | exact ⟨(h2.cell HC1.out).1, h2.field rfl⟩) ((go_at_call 25; refine (rfixed_is p v all at_ f N _ D1.out.pa.1 hal ys b gf HRF.out).mono ?_; rintro e w2 ⟨lo, lc, rfl, ho2, hr2, hf2⟩; obtain ⟨X2, h2⟩ := D1.out.rxl hr2 hf2 ho2))
  have D2 := hide h2.drew
  have e2 := h2.field (o := 2) (u := .int .i64 N) rfl
  have t6 := (h2.cell HC2.out).1
  clear h2 hr2 hf2 ho2 D1 t4 d2
  go_wp2_with fail
  go_region_held3 (fun w' => w'.cell? ⟨T, o6, none⟩ = some (.pointer (some ⟨q, 0, none⟩)) ∧ w'.cell? ⟨w.heap.size, 2, none⟩ = some (.int .i64 N)) (first | go_keep | exact ⟨(h3.cell HC2.out).1, h3.field rfl⟩) ((go_at_call 56; refine (qfixed_is q u all at_ f N _ D2.out.pb.1 hal ys b gf HRF.out).mono ?_; rintro e w3 ⟨mo, mc, rfl, ho3, hq3, hf3⟩; obtain ⟨X3, h3⟩ := D2.out.qx hq3 hf3))
  have H3 := hide h3
  have HM := hide ho3.has
  clear h3 ho3 hq3 hf3 D2 t6 e2
  go_wp2_with fail
  refine (eq_yes2 _ _ ys _ (Own.has H3.out.pl) HM.out).mono ?_
  rintro e w4 ⟨rfl, rfl⟩
  go_wp2_with fail
  refine (H3.out.note (by omega) (by omega)).mono ?_
  rintro e w5 ⟨rfl, X5, cs5, L5, V5, ls5, vs5, h5, hpre, hls⟩
  have HPRE : Hid (∀ i, i < 8 → cs5[i]? = cs[i]?) := hpre
  have HLS := hide hls
  have H5 := hide h5
  clear hpre hls H3 HM h5
  go_wp2_with fail
  go_ret
  refine ⟨rfl, ?_⟩
  have h9 := H5.out
  rw [HO4.out, HO6.out] at h9
  exact h9.doneR HT.out HX.out hk (by have := HLS.out; omega) HS.out HR.out (fun i hi _ _ => HPRE.out i hi) ((HPRE.out (4 + k) (by omega)).trans (HO4.out ▸ HC1.out)) ((HPRE.out (6 + k) (by omega)).trans (HO6.out ▸ HC2.out)) hall (fun j _ _ h => h)

set_option maxRecDepth 100000 in
set_option maxHeartbeats 4000000 in
theorem reads17 (T n : Nat) (X : Nat → Thing) (which N : Int) (B C : Value) (S : ByteArray) (w : World) (fw fr : Nat → Prop) (ht : Tab w T X n fw fr) (hfr : ∀ k, k < 2 → fr k) (hn9 : n ≤ 900) :
    Calls Try.prog 36 #[.pointer (some ⟨T, 0, none⟩), .agg #[.int .i64 17, .int .i64 which, .int .i64 N, B, C, .string S]] w fun e w' => e = .returned (.bool true) ∧ Left w' T X (n + 2) fw fr := by
  obtain ⟨k, hk, hkk⟩ := and1 which
  obtain ⟨cs, L, V, ls, vs, hX, hn, hs, hr⟩ := ht.bk
  obtain ⟨p, v, q, u, all, at_, f, c1, c2, xa, xb, hall⟩ := hr k hk (hfr k hk)
  obtain ⟨X1, h1⟩ := ht.start (4 + k) (6 + k) (by omega) (by omega) (by omega) #[.int .i64 17, .int .i64 which, .int .i64 N, B, C, .string S] hX
  rw [xa, xb] at h1
  have H1 := hide h1
  have HC1 := hide c1
  have HC2 := hide c2
  have i63 := idx63 T 4 k hk
  have i65 := idx65 T 6 k hk
  obtain ⟨o4, ho4⟩ : ∃ o4, o4 = 4 + k := ⟨_, rfl⟩
  obtain ⟨o6, ho6⟩ : ∃ o6, o6 = 6 + k := ⟨_, rfl⟩
  rw [← ho4] at H1 HC1 i63
  rw [← ho6] at H1 HC2 i65
  have HO4 := hide ho4
  have HO6 := hide ho6
  have HT := hide ht
  have HX := hide hX
  have HS : Hid (∀ j, j < 2 → fw j → SlotW cs X j) := hs
  have HR : Hid (∀ j, j < 2 → fr j → SlotR cs X j) := hr
  have hal : all.length ≤ 150000000000000 := by omega
  obtain ⟨ys, b, gf, hrf⟩ : ∃ ys b gf, rrun all at_ f N = (ys, b, gf) := ⟨_, _, _, rfl⟩
  have hyl : ys.length ≤ 1048576 := by
    have h2 := rrun_le all at_ f N
    rw [hrf] at h2
    exact Nat.le_trans h2 hall
  have HRF := hide hrf
  clear h1 c1 c2 ho4 ho6 ht hX hs hr xa xb hrf
  go_enter Try.func36, Try.ntmps36
  go_wp2_with fail
  have D1 := hide H1.out.drew
  have d2 := H1.out.field (o := 2) (u := .int .i64 N) rfl
  clear H1
  generalize w.alloc (.cells #[.int .i64 17, .int .i64 which, .int .i64 N, B, C, .string S] 73) = w1 at *
  have t4 : w1.cell? ⟨T, o4, none⟩ = some (.pointer (some ⟨p, 0, none⟩)) := (D1.out.cell HC1.out).1
  go_region_held3 (fun w' => w'.cell? ⟨T, o4, none⟩ = some (.pointer (some ⟨p, 0, none⟩)) ∧ w'.cell? ⟨w.heap.size, 2, none⟩ = some (.int .i64 N)) (first | go_keep | exact ⟨(h2.cell HC1.out).1, h2.field rfl⟩) ((go_at_call 26; refine (rrun_is p v all at_ f N _ D1.out.pa.1 hal ys b gf HRF.out).mono ?_; rintro e w2 ⟨lo, lc, rfl, ho2, hr2, hf2⟩; obtain ⟨X2, h2⟩ := D1.out.rxl hr2 hf2 ho2))
  have D2 := hide h2.drew
  have e2 := h2.field (o := 2) (u := .int .i64 N) rfl
  have t6 := (h2.cell HC2.out).1
  clear h2 hr2 hf2 ho2 D1 t4 d2
  go_wp2_with fail
  go_region_held3 (fun w' => w'.cell? ⟨T, o6, none⟩ = some (.pointer (some ⟨q, 0, none⟩)) ∧ w'.cell? ⟨w.heap.size, 2, none⟩ = some (.int .i64 N)) (first | go_keep | exact ⟨(h3.cell HC2.out).1, h3.field rfl⟩) ((go_at_call 57; refine (qrun_is q u all at_ f N _ D2.out.pb.1 hal ys b gf HRF.out).mono ?_; rintro e w3 ⟨mo, mc, rfl, ho3, hq3, hf3⟩; obtain ⟨X3, h3⟩ := D2.out.qx hq3 hf3))
  have H3 := hide h3
  have HM := hide ho3.has
  clear h3 ho3 hq3 hf3 D2 t6 e2
  go_wp2_with fail
  refine (eq_yes2 _ _ ys _ (Own.has H3.out.pl) HM.out).mono ?_
  rintro e w4 ⟨rfl, rfl⟩
  go_wp2_with fail
  refine (H3.out.note (by omega) (by omega)).mono ?_
  rintro e w5 ⟨rfl, X5, cs5, L5, V5, ls5, vs5, h5, hpre, hls⟩
  have HPRE : Hid (∀ i, i < 8 → cs5[i]? = cs[i]?) := hpre
  have HLS := hide hls
  have H5 := hide h5
  clear hpre hls H3 HM h5
  go_wp2_with fail
  go_ret
  refine ⟨rfl, ?_⟩
  have h9 := H5.out
  rw [HO4.out, HO6.out] at h9
  exact h9.doneR HT.out HX.out hk (by have := HLS.out; omega) HS.out HR.out (fun i hi _ _ => HPRE.out i hi) ((HPRE.out (4 + k) (by omega)).trans (HO4.out ▸ HC1.out)) ((HPRE.out (6 + k) (by omega)).trans (HO6.out ▸ HC2.out)) hall (fun j _ _ h => h)

set_option maxRecDepth 100000 in
set_option maxHeartbeats 4000000 in
theorem reads18 (T n : Nat) (X : Nat → Thing) (which N : Int) (B C : Value) (S : ByteArray) (w : World) (fw fr : Nat → Prop) (ht : Tab w T X n fw fr) (hfr : ∀ k, k < 2 → fr k) :
    Calls Try.prog 36 #[.pointer (some ⟨T, 0, none⟩), .agg #[.int .i64 18, .int .i64 which, .int .i64 N, B, C, .string S]] w fun e w' => e = .returned (.bool true) ∧ Left w' T X n fw fr := by
  obtain ⟨k, hk, hkk⟩ := and1 which
  obtain ⟨cs, L, V, ls, vs, hX, hn, hs, hr⟩ := ht.bk
  obtain ⟨p, v, q, u, all, at_, f, c1, c2, xa, xb, hall⟩ := hr k hk (hfr k hk)
  obtain ⟨X1, h1⟩ := ht.start (4 + k) (6 + k) (by omega) (by omega) (by omega) #[.int .i64 18, .int .i64 which, .int .i64 N, B, C, .string S] hX
  rw [xa, xb] at h1
  have H1 := hide h1
  have HC1 := hide c1
  have HC2 := hide c2
  have i63 := idx63 T 4 k hk
  have i65 := idx65 T 6 k hk
  obtain ⟨o4, ho4⟩ : ∃ o4, o4 = 4 + k := ⟨_, rfl⟩
  obtain ⟨o6, ho6⟩ : ∃ o6, o6 = 6 + k := ⟨_, rfl⟩
  rw [← ho4] at H1 HC1 i63
  rw [← ho6] at H1 HC2 i65
  have HO4 := hide ho4
  have HO6 := hide ho6
  have HT := hide ht
  have HX := hide hX
  have HS : Hid (∀ j, j < 2 → fw j → SlotW cs X j) := hs
  have HR : Hid (∀ j, j < 2 → fr j → SlotR cs X j) := hr
  have hal : all.length ≤ 150000000000000 := by omega
  clear h1 c1 c2 ho4 ho6 ht hX hs hr xa xb
  go_enter Try.func36, Try.ntmps36
  have t4 := (H1.out.cell HC1.out).1
  go_wp2_with fail
  refine (end_any p v all at_ f _ H1.out.pa.1 hal).mono ?_
  rintro e w2 ⟨rfl, hr2, hf2⟩
  obtain ⟨X2, h2⟩ := H1.out.rx hr2 hf2
  have t6 := (h2.cell HC2.out).1
  have H2 := hide h2
  clear h2 H1 t4 hr2 hf2
  go_wp2_with fail
  refine (qend_any q u all at_ f _ H2.out.pb.1 hal).mono ?_
  rintro e w3 ⟨rfl, hq3, hf3⟩
  obtain ⟨X3, h3⟩ := H2.out.qx hq3 hf3
  have H3 := hide h3
  clear h3 H2 t6 hq3 hf3
  go_wp2_with fail
  go_ret
  refine ⟨rfl, ?_⟩
  have h9 := H3.out
  rw [HO4.out, HO6.out] at h9
  exact h9.doneR HT.out HX.out hk hn HS.out HR.out (fun _ _ _ _ => rfl) (HO4.out ▸ HC1.out) (HO6.out ▸ HC2.out) hall (fun j _ _ h => h)

set_option maxRecDepth 100000 in
set_option maxHeartbeats 4000000 in
theorem reads19 (T n : Nat) (X : Nat → Thing) (which N : Int) (B C : Value) (S : ByteArray) (w : World) (fw fr : Nat → Prop) (ht : Tab w T X n fw fr) (hfr : ∀ k, k < 2 → fr k) :
    Calls Try.prog 36 #[.pointer (some ⟨T, 0, none⟩), .agg #[.int .i64 19, .int .i64 which, .int .i64 N, B, C, .string S]] w fun e w' => e = .returned (.bool true) ∧ Left w' T X n fw fr := by
  obtain ⟨k, hk, hkk⟩ := and1 which
  obtain ⟨cs, L, V, ls, vs, hX, hn, hs, hr⟩ := ht.bk
  obtain ⟨p, v, q, u, all, at_, f, c1, c2, xa, xb, hall⟩ := hr k hk (hfr k hk)
  obtain ⟨X1, h1⟩ := ht.start (4 + k) (6 + k) (by omega) (by omega) (by omega) #[.int .i64 19, .int .i64 which, .int .i64 N, B, C, .string S] hX
  rw [xa, xb] at h1
  have H1 := hide h1
  have HC1 := hide c1
  have HC2 := hide c2
  have i63 := idx63 T 4 k hk
  have i65 := idx65 T 6 k hk
  obtain ⟨o4, ho4⟩ : ∃ o4, o4 = 4 + k := ⟨_, rfl⟩
  obtain ⟨o6, ho6⟩ : ∃ o6, o6 = 6 + k := ⟨_, rfl⟩
  rw [← ho4] at H1 HC1 i63
  rw [← ho6] at H1 HC2 i65
  have HO4 := hide ho4
  have HO6 := hide ho6
  have HT := hide ht
  have HX := hide hX
  have HS : Hid (∀ j, j < 2 → fw j → SlotW cs X j) := hs
  have HR : Hid (∀ j, j < 2 → fr j → SlotR cs X j) := hr
  have hal : all.length ≤ 150000000000000 := by omega
  clear h1 c1 c2 ho4 ho6 ht hX hs hr xa xb
  go_enter Try.func36, Try.ntmps36
  have t4 := (H1.out.cell HC1.out).1
  go_wp2_with fail
  refine (fault_any p v all at_ f _ H1.out.pa.1).mono ?_
  rintro e w2 ⟨rfl, q2, hq2⟩
  have h2 := H1.out.lik (w' := w2) (by rw [hq2]; exact ⟨rfl, rfl, rfl, rfl⟩)
  have t6 := (h2.cell HC2.out).1
  have H2 := hide h2
  obtain ⟨fa, hfa⟩ : ∃ fa : Int, fa = if f = 0 then 0 else (at_ : Int) := ⟨_, rfl⟩
  have HFA := hide hfa
  rw [← hfa]
  clear h2 H1 t4 hq2 hfa
  go_wp2_with fail
  refine (qfault_any q u all at_ f _ H2.out.pb.1).mono ?_
  rw [← HFA.out]
  rintro e w3 ⟨rfl, q3, hq3⟩
  have h3 := H2.out.lik (w' := w3) (by rw [hq3]; exact ⟨rfl, rfl, rfl, rfl⟩)
  have t4 := (h3.cell HC1.out).1
  have t6 := (h3.cell HC2.out).1
  have H3 := hide h3
  obtain ⟨d, hd⟩ : ∃ d : Int, d = (all.length : Int) - at_ := ⟨_, rfl⟩
  have HD := hide hd
  have HQL : Hid (∀ n, Calls Try.prog 32 #[.pointer (some ⟨p, 0, none⟩)] (w3.drewN n) fun e w' => e = .returned (.int .i64 d) ∧ ∃ q, w' = (w3.drewN n).drewN q) := fun n => by
    have := left_any p v all at_ f (w3.drewN n) (H3.out.lik (w' := w3.drewN n) ⟨rfl, rfl, rfl, rfl⟩).pa.1 hal
    rw [← HD.out] at this; exact this
  have HQR : Hid (∀ n, Calls Try.prog 60 #[.pointer (some ⟨q, 0, none⟩)] (w3.drewN n) fun e w' => e = .returned (.int .i64 d) ∧ ∃ q, w' = (w3.drewN n).drewN q) := fun n => by
    have := qleft_any q u all at_ f (w3.drewN n) (H3.out.lik (w' := w3.drewN n) ⟨rfl, rfl, rfl, rfl⟩).pb.1 hal
    rw [← HD.out] at this; exact this
  clear h3 H2 hq3 hd
  go_wp2_with fail
  go_quiet (first | (go_at_call 32; exact Calls.quiet_of (HQL.out _)) | (go_at_call 60; exact Calls.quiet_of (HQR.out _)))
  have H4 := hide (H3.out.lik (w' := w3.drewN nq) ⟨rfl, rfl, rfl, rfl⟩)
  clear H3 HQL HQR
  go_wp2_with fail
  go_ret
  refine ⟨rfl, ?_⟩
  have h9 := H4.out
  rw [HO4.out, HO6.out] at h9
  exact h9.doneR HT.out HX.out hk hn HS.out HR.out (fun _ _ _ _ => rfl) (HO4.out ▸ HC1.out) (HO6.out ▸ HC2.out) hall (fun j _ _ h => h)


end Go.Proofs.Ytgfgabgnejnipaa
