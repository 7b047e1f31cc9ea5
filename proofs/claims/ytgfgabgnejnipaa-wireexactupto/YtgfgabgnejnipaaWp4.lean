import Derived.Test.YtgfgabgnejnipaaWp1
namespace Go.Proofs.Ytgfgabgnejnipaa
open Go.RowKit

/-- What Out gives. -/
def outs (bs : List UInt8) (f : Int) : List UInt8 := if f = 0 then bs else []
theorem outs_len (bs : List UInt8) (f : Int) : (outs bs f).length ≤ bs.length := by
  unfold outs; split <;> simp

theorem wout_any (p : Nat) (v : Value) (most : Nat) (bs ys : List UInt8) (f : Int) (w : World) (h : Wr w p v most bs f) (hm : most ≤ 1048576) (hbl : bs.length ≤ most) (hy : outs bs f = ys) :
    Calls Try.prog 23 #[.pointer (some ⟨p, 0, none⟩)] w fun e w' => ∃ ao cap, e = .returned (.tuple #[.slice ao ys.length cap, .int .i64 f]) ∧ Own w' w.heap.size (.slice ao ys.length cap) ys ∧ Below w.heap.size w w' := by
  subst hy
  unfold outs
  by_cases hf : f = 0
  · subst hf; rw [if_pos rfl]
    exact out_ok p v most bs w h hm hbl
  · rw [if_neg hf]
    exact (out_fault p v most bs f w h (beq_eq_false_iff_ne.2 hf)).mono fun e w' ⟨h1, q, h2⟩ => ⟨none, 0, h1, Own.nil _ _, by subst h2; exact bel_drewN (Below.refl _ _) q⟩
theorem vout_any (p : Nat) (v : Value) (most : Nat) (bs ys : List UInt8) (f : Int) (w : World) (h : Vr w p v most bs f) (hm : most ≤ 1048576) (hbl : bs.length ≤ most) (hy : outs bs f = ys) :
    Calls Try.prog 50 #[.pointer (some ⟨p, 0, none⟩)] w fun e w' => ∃ ao cap, e = .returned (.tuple #[.slice ao ys.length cap, .int .i64 f]) ∧ Own w' w.heap.size (.slice ao ys.length cap) ys ∧ Below w.heap.size w w' := by
  subst hy
  unfold outs
  by_cases hf : f = 0
  · subst hf; rw [if_pos rfl]
    exact vout_ok p v most bs w h hm hbl
  · rw [if_neg hf]
    exact (vout_fault p v most bs f w h (beq_eq_false_iff_ne.2 hf)).mono fun e w' ⟨h1, q, h2⟩ => ⟨none, 0, h1, Own.nil _ _, by subst h2; exact bel_drewN (Below.refl _ _) q⟩

theorem St.listL {w w' : World} {X0 X : Nat → Thing} {T : Nat} {cs : Array Value} {L V : Value} {ls vs : List Value} {a b : Nat} {YA YB x y l : Thing} {g : Nat} {oc : Array Value} {lv : Value} {bs : List UInt8} (h : St w X0 X T cs L V ls vs a YA b YB g oc x y l) (ho : Own w' w.heap.size lv bs) (hb : Below w.heap.size w w') :
    ∃ X', St w' X0 X' T cs L V ls vs a YA b YB g oc x y (rowT lv bs) := by
  obtain ⟨X', f, e, o⟩ := h.fam.new 14 (rowT lv bs) hb (ho.weaken (Nat.zero_le _)) ho.ownBlock
  exact ⟨X', h.setL f e o⟩

/-- A step that turns no writer and no reader leaves a table. -/
theorem St.doneN {w w' : World} {X0 X : Nat → Thing} {T : Nat} {cs cs' : Array Value} {L V L' V' : Value} {ls vs ls' vs' : List Value} {a b g n n' : Nat} {oc : Array Value} {fw fr : Nat → Prop}
    (h : St w' X0 X T cs' L' V' ls' vs' a (X0 a) b (X0 b) g oc nilT nilT nilT) (h0 : Tab w T X0 n fw fr) (_hX : X0 8 = bookT T cs L V ls vs) (hn : ls'.length ≤ n')
    (hs : ∀ j, j < 2 → fw j → SlotW cs X0 j) (hr : ∀ j, j < 2 → fr j → SlotR cs X0 j) (hc : ∀ i, i < 8 → cs'[i]? = cs[i]?) : Left w' T X0 n' fw fr := by
  obtain ⟨X', f', e8, ea, eb, o, t⟩ := h.finish h0.tmp
  have ha := h.ha
  have hb := h.hb
  have o' : ∀ j, j ≠ 8 → X' j = X0 j := fun j hj => by
    by_cases h1 : j = a
    · rw [h1]; exact ea
    · by_cases h2 : j = b
      · rw [h2]; exact eb
      · exact o j hj h1 h2
  refine ⟨X', ⟨f', ⟨cs', L', V', ls', vs', e8, hn, fun j hj hf => ?_, fun j hj hf => ?_⟩, t⟩, fun i hi => o' i (by omega)⟩
  · obtain ⟨p', v', q', u', m', b', f'', a1, a2, a3, a4, a5⟩ := hs j hj hf
    exact ⟨p', v', q', u', m', b', f'', (hc j (by omega)).trans a1, (hc (2 + j) (by omega)).trans a2, (o' j (by omega)).trans a3, (o' (2 + j) (by omega)).trans a4, a5⟩
  · obtain ⟨p', v', q', u', m', b', f'', a1, a2, a3, a4, a5⟩ := hr j hj hf
    exact ⟨p', v', q', u', m', b', f'', (hc (4 + j) (by omega)).trans a1, (hc (6 + j) (by omega)).trans a2, (o' (4 + j) (by omega)).trans a3, (o' (6 + j) (by omega)).trans a4, a5⟩

set_option maxRecDepth 100000 in
set_option maxHeartbeats 4000000 in
theorem writes11 (T n : Nat) (X : Nat → Thing) (which N : Int) (B C : Value) (S : ByteArray) (bB bC : List UInt8) (w : World) (fw fr : Nat → Prop) (ht : Tab w T X n fw fr) (hfw : ∀ k, k < 2 → fw k) (hA : Args (X 9) B C bB bC) (hn9 : n ≤ 900) :
    Calls Try.prog 35 #[.pointer (some ⟨T, 0, none⟩), .agg #[.int .i64 11, .int .i64 which, .int .i64 N, B, C, .string S]] w fun e w' => e = .returned (.bool true) ∧ Left w' T X (n + 2) fw fr := by
  obtain ⟨k, hk, hkk⟩ := and1 which
  obtain ⟨cs, L, V, ls, vs, hX, hn, hs, hr⟩ := ht.bk
  obtain ⟨p, v, q, u, most, bs, f, c1, c2, xa, xb, hm, hbl⟩ := hs k hk (hfw k hk)
  obtain ⟨X1, h1⟩ := ht.start k (2 + k) (by omega) (by omega) (by omega) #[.int .i64 11, .int .i64 which, .int .i64 N, B, C, .string S] hX
  rw [xa, xb] at h1
  have H1 := hide h1
  have HA := hide hA
  have HC1 := hide c1
  have HC2 := hide c2
  have i60 := idx60 T 0 k hk
  have i62 := idx62 T 2 k hk
  rw [Nat.zero_add] at i60
  obtain ⟨o2, ho2⟩ : ∃ o2, o2 = 2 + k := ⟨_, rfl⟩
  rw [← ho2] at H1 HC2 i62
  have HO2 := hide ho2
  have HT := hide ht
  have HX := hide hX
  have HS : Hid (∀ j, j < 2 → fw j → SlotW cs X j) := hs
  have HR : Hid (∀ j, j < 2 → fr j → SlotR cs X j) := hr
  clear h1 hA c1 c2 ho2 ht hX hs hr xa xb
  go_enter Try.func35, Try.ntmps35
  go_wp2_with fail
  refine (H1.out.roomX B bB (HA.out.1 _ H1.out.arg).1 HA.out.2.1).mono ?_
  rintro e w2 ⟨rx, xo, xc, X2, hrx, rfl, h2⟩
  have d4 := h2.field (o := 4) (u := C) rfl
  have H2 := hide h2
  clear h2 H1
  go_wp2_with fail
  refine (H2.out.roomY C bC (HA.out.1 _ H2.out.arg).2 HA.out.2.2).mono ?_
  rintro e w3 ⟨ry, yo, yc, X3, hry, rfl, h3⟩
  clear d4
  have d0 := h3.field (o := 0) (u := .int .i64 11) rfl
  obtain ⟨ys, hys⟩ : ∃ ys, outs bs f = ys := ⟨_, rfl⟩
  have hyl : ys.length ≤ 1048576 := by rw [← hys]; have := outs_len bs f; omega
  have t0 := (h3.cell HC1.out).1
  have H3 := hide h3
  have HYS := hide hys
  clear h3 H2 hys
  go_wp2_with fail
  refine (wout_any p v most bs ys f _ H3.out.pa hm hbl HYS.out).mono ?_
  rintro e w4 ⟨lo, lc, rfl, ho4, hb4⟩
  obtain ⟨X4, h4⟩ := H3.out.listL ho4 hb4
  have t2 := (h4.cell HC2.out).1
  have H4 := hide h4
  clear h4 H3 d0 t0 ho4 hb4
  go_wp2_with fail
  refine (vout_any q u most bs ys f _ H4.out.pb hm hbl HYS.out).mono ?_
  rintro e w5 ⟨mo, mc, rfl, ho5, hb5⟩
  have HM := hide ho5.has
  have H5 := hide (H4.out.below hb5)
  have hff : (f != f) = false := by simp
  clear H4 t2 ho5 hb5
  go_wp2_with fail
  refine (eq_yes2 _ _ ys _ (Own.has H5.out.pl) HM.out).mono ?_
  rintro e w6 ⟨rfl, rfl⟩
  go_wp2_with fail
  refine (H5.out.note (by omega) (by omega)).mono ?_
  rintro e w5 ⟨rfl, X5, cs5, L5, V5, ls5, vs5, h5, hpre, hls⟩
  have HPRE : Hid (∀ i, i < 8 → cs5[i]? = cs[i]?) := hpre
  have HLS := hide hls
  have h5 := h5
  clear hpre hls H5 HM
  have d3 := h5.field (o := 3) (u := B) rfl
  have H5 := hide h5
  clear h5
  go_wp2_with fail
  refine (H5.out.keptX B bB (HA.out.1 _ H5.out.arg).1 HA.out.2.1 hrx.out).mono ?_
  rintro e w6 ⟨rfl, h6⟩
  have d4 := h6.field (o := 4) (u := C) rfl
  have H6 := hide h6
  clear h6 H5 d3
  go_wp2_with fail
  refine (H6.out.keptY C bC (HA.out.1 _ H6.out.arg).2 HA.out.2.2 hry.out).mono ?_
  rintro e w7 ⟨rfl, h7⟩
  have H7 := hide h7
  clear h7 H6 d4
  go_wp2_with fail
  refine (H7.out.spoilX bB HA.out.2.1 hrx.out).mono ?_
  rintro e w8 ⟨rfl, X8, h8⟩
  have H8 := hide h8
  clear h8 H7
  go_wp2_with fail
  refine (H8.out.spoilY bC HA.out.2.2 hry.out).mono ?_
  rintro e w9 ⟨rfl, X9, h9⟩
  have H9 := hide h9
  clear h9 H8
  go_wp2
  go_ret
  refine ⟨rfl, ?_⟩
  have h9 := H9.out
  rw [HO2.out] at h9
  exact h9.doneW HT.out HX.out hk (by have := HLS.out; omega) HS.out HR.out (fun i hi _ _ => HPRE.out i hi) ((HPRE.out k (by omega)).trans HC1.out) ((HPRE.out (2 + k) (by omega)).trans (HO2.out ▸ HC2.out)) hm hbl (fun j _ _ h => h)

set_option maxRecDepth 100000 in
set_option maxHeartbeats 4000000 in
theorem writes5_bad (T n : Nat) (X : Nat → Thing) (which : Int) (k : Nat) (hk : k < 2) (hkk : bits .and .i64 which 1 = (k : Int)) (N : Int) (B C : Value) (S : ByteArray) (bB bC : List UInt8) (w : World) (fw fr : Nat → Prop) (ht : Tab w T X n fw fr) (hA : Args (X 9) B C bB bC) (hN : N < 0 ∨ 1048576 < N) :
    Calls Try.prog 35 #[.pointer (some ⟨T, 0, none⟩), .agg #[.int .i64 5, .int .i64 which, .int .i64 N, B, C, .string S]] w fun e w' => e = .returned (.bool true) ∧ Left w' T X n fw fr := by
  obtain ⟨cs, L, V, ls, vs, hX, hn, hs, hr⟩ := ht.bk
  have hsz := (ht.fam.at hX).1.siz
  obtain ⟨u1, c1⟩ : ∃ u1, cs[k]? = some u1 := ⟨cs[k], by simp⟩
  obtain ⟨u2, c2⟩ : ∃ u2, cs[2 + k]? = some u2 := ⟨cs[2 + k], by simp⟩
  obtain ⟨X1, h1⟩ := ht.start k (2 + k) (by omega) (by omega) (by omega) #[.int .i64 5, .int .i64 which, .int .i64 N, B, C, .string S] hX
  have H1 := hide h1
  have HA := hide hA
  have HC1 := hide c1
  have HC2 := hide c2
  have i60 := idx60 T 0 k hk
  have i62 := idx62 T 2 k hk
  rw [Nat.zero_add] at i60
  obtain ⟨o2, ho2⟩ : ∃ o2, o2 = 2 + k := ⟨_, rfl⟩
  rw [← ho2] at H1 HC2 i62
  have HO2 := hide ho2
  have HT := hide ht
  have HX := hide hX
  have HS : Hid (∀ j, j < 2 → fw j → SlotW cs X j) := hs
  have HR : Hid (∀ j, j < 2 → fr j → SlotR cs X j) := hr
  clear h1 hA c1 c2 ho2 ht hX hs hr
  go_enter Try.func35, Try.ntmps35
  go_wp2_with fail
  refine (H1.out.roomX B bB (HA.out.1 _ H1.out.arg).1 HA.out.2.1).mono ?_
  rintro e w2 ⟨rx, xo, xc, X2, hrx, rfl, h2⟩
  have d4 := h2.field (o := 4) (u := C) rfl
  have H2 := hide h2
  clear h2 H1
  go_wp2_with fail
  refine (H2.out.roomY C bC (HA.out.1 _ H2.out.arg).2 HA.out.2.2).mono ?_
  rintro e w3 ⟨ry, yo, yc, X3, hry, rfl, h3⟩
  clear d4
  have d0 := h3.field (o := 0) (u := .int .i64 5) rfl
  have d2 := h3.field (o := 2) (u := .int .i64 N) rfl
  have H3 := hide h3
  clear h3 H2
  have HN := hide hN
  clear hN
  go_wp2_with fail
  refine (wnew_bad N _ HN.out).mono ?_
  rintro e w4 ⟨rfl, rfl⟩
  go_wp2_with fail
  refine (vnew_bad N _ HN.out).mono ?_
  rintro e w5 ⟨rfl, rfl⟩
  have h5 := H3.out
  clear H3 d2 d0
  have d3 := h5.field (o := 3) (u := B) rfl
  have H5 := hide h5
  clear h5
  go_wp2_with fail
  refine (H5.out.keptX B bB (HA.out.1 _ H5.out.arg).1 HA.out.2.1 hrx.out).mono ?_
  rintro e w6 ⟨rfl, h6⟩
  have d4 := h6.field (o := 4) (u := C) rfl
  have H6 := hide h6
  clear h6 H5 d3
  go_wp2_with fail
  refine (H6.out.keptY C bC (HA.out.1 _ H6.out.arg).2 HA.out.2.2 hry.out).mono ?_
  rintro e w7 ⟨rfl, h7⟩
  have H7 := hide h7
  clear h7 H6 d4
  go_wp2_with fail
  refine (H7.out.spoilX bB HA.out.2.1 hrx.out).mono ?_
  rintro e w8 ⟨rfl, X8, h8⟩
  have H8 := hide h8
  clear h8 H7
  go_wp2_with fail
  refine (H8.out.spoilY bC HA.out.2.2 hry.out).mono ?_
  rintro e w9 ⟨rfl, X9, h9⟩
  have H9 := hide h9
  clear h9 H8
  go_wp2
  go_ret
  refine ⟨rfl, ?_⟩
  have h9 := H9.out
  rw [HO2.out] at h9
  exact h9.doneN HT.out HX.out hn HS.out HR.out (fun _ _ => rfl)

set_option maxRecDepth 100000 in
set_option maxHeartbeats 4000000 in
theorem writes5_ok (T n : Nat) (X : Nat → Thing) (which : Int) (k : Nat) (hk : k < 2) (hkk : bits .and .i64 which 1 = (k : Int)) (m : Nat) (B C : Value) (S : ByteArray) (bB bC : List UInt8) (w : World) (fw fr : Nat → Prop) (ht : Tab w T X n fw fr) (hA : Args (X 9) B C bB bC) (hm : m ≤ 1048576) :
    Calls Try.prog 35 #[.pointer (some ⟨T, 0, none⟩), .agg #[.int .i64 5, .int .i64 which, .int .i64 (m : Int), B, C, .string S]] w fun e w' => e = .returned (.bool true) ∧ Left w' T X n (fun j => fw j ∨ j = k) fr := by
  obtain ⟨cs, L, V, ls, vs, hX, hn, hs, hr⟩ := ht.bk
  have hsz := (ht.fam.at hX).1.siz
  obtain ⟨u1, c1⟩ : ∃ u1, cs[k]? = some u1 := ⟨cs[k], by simp⟩
  obtain ⟨u2, c2⟩ : ∃ u2, cs[2 + k]? = some u2 := ⟨cs[2 + k], by simp⟩
  obtain ⟨X1, h1⟩ := ht.start k (2 + k) (by omega) (by omega) (by omega) #[.int .i64 5, .int .i64 which, .int .i64 (m : Int), B, C, .string S] hX
  have H1 := hide h1
  have HA := hide hA
  have HC1 := hide c1
  have HC2 := hide c2
  have i60 := idx60 T 0 k hk
  have i62 := idx62 T 2 k hk
  rw [Nat.zero_add] at i60
  obtain ⟨o2, ho2⟩ : ∃ o2, o2 = 2 + k := ⟨_, rfl⟩
  rw [← ho2] at H1 HC2 i62
  have HO2 := hide ho2
  have HT := hide ht
  have HX := hide hX
  have HS : Hid (∀ j, j < 2 → fw j → SlotW cs X j) := hs
  have HR : Hid (∀ j, j < 2 → fr j → SlotR cs X j) := hr
  clear h1 hA c1 c2 ho2 ht hX hs hr
  go_enter Try.func35, Try.ntmps35
  go_wp2_with fail
  refine (H1.out.roomX B bB (HA.out.1 _ H1.out.arg).1 HA.out.2.1).mono ?_
  rintro e w2 ⟨rx, xo, xc, X2, hrx, rfl, h2⟩
  have d4 := h2.field (o := 4) (u := C) rfl
  have H2 := hide h2
  clear h2 H1
  go_wp2_with fail
  refine (H2.out.roomY C bC (HA.out.1 _ H2.out.arg).2 HA.out.2.2).mono ?_
  rintro e w3 ⟨ry, yo, yc, X3, hry, rfl, h3⟩
  clear d4
  have d0 := h3.field (o := 0) (u := .int .i64 5) rfl
  have d2 := h3.field (o := 2) (u := .int .i64 (m : Int)) rfl
  have H3 := hide h3
  clear h3 H2
  go_wp2_with fail
  refine (newWriter_ok m _ hm).mono ?_
  rintro e w4 ⟨rfl, hw4, hb4⟩
  obtain ⟨X4, f4, e4, o4⟩ := H3.out.fam.new k (wT w3.heap.size (.slice none 0 0) m [] 0) hb4 hw4 (fun j hj => by
    rcases hj with rfl | hj
    · exact Nat.le_refl _
    · cases hj)
  have h4 := H3.out.setA f4 e4 o4
  have d2 := h4.field (o := 2) (u := .int .i64 (m : Int)) rfl
  have H4 := hide h4
  obtain ⟨p, hp⟩ : ∃ p, p = w3.heap.size := ⟨_, rfl⟩
  rw [← hp] at H4
  rw [← hp]
  clear h4 H3 f4 e4 o4 hw4 hb4 hp d0
  go_wp2_with fail
  refine (vnew_ok m _ hm).mono ?_
  rintro e w5 ⟨rfl, hw5, hb5⟩
  obtain ⟨X5, f5, e5, o5⟩ := H4.out.fam.new o2 (vT w4.heap.size (.slice none 0 0) m [] 0) hb5 hw5 (fun j hj => by
    rcases hj with rfl | hj
    · exact Nat.le_refl _
    · cases hj)
  have h5 := H4.out.setB f5 e5 o5
  have H5 := hide h5
  obtain ⟨q, hq⟩ : ∃ q, q = w4.heap.size := ⟨_, rfl⟩
  rw [← hq] at H5
  rw [← hq]
  clear h5 H4 f5 e5 o5 hw5 hb5 hq d2
  have y1 := (H5.out.cell HC1.out).1
  have y2 := (H5.out.cell HC1.out).2
  obtain ⟨X6, h6⟩ := H5.out.put k (by omega) (.pointer (some ⟨p, 0, none⟩))
  have HC2' : Hid ((cs.setIfInBounds k (.pointer (some ⟨p, 0, none⟩)))[o2]? = some u2) := by
    show _ = _
    rw [get_set (by have := HO2.out; omega)]; exact HC2.out
  have y3 := (h6.cell HC2'.out).1
  have y4 := (h6.cell HC2'.out).2
  obtain ⟨X7, h7⟩ := h6.put o2 (by have := HO2.out; omega) (.pointer (some ⟨q, 0, none⟩))
  have H7 := hide h7
  clear h6 h7 H5
  have h5 := H7.out
  clear H7
  have d3 := h5.field (o := 3) (u := B) rfl
  have H5 := hide h5
  clear h5
  go_wp2_with fail
  refine (H5.out.keptX B bB (HA.out.1 _ H5.out.arg).1 HA.out.2.1 hrx.out).mono ?_
  rintro e w6 ⟨rfl, h6⟩
  have d4 := h6.field (o := 4) (u := C) rfl
  have H6 := hide h6
  clear h6 H5 d3
  go_wp2_with fail
  refine (H6.out.keptY C bC (HA.out.1 _ H6.out.arg).2 HA.out.2.2 hry.out).mono ?_
  rintro e w7 ⟨rfl, h7⟩
  have H7 := hide h7
  clear h7 H6 d4
  go_wp2_with fail
  refine (H7.out.spoilX bB HA.out.2.1 hrx.out).mono ?_
  rintro e w8 ⟨rfl, X8, h8⟩
  have H8 := hide h8
  clear h8 H7
  go_wp2_with fail
  refine (H8.out.spoilY bC HA.out.2.2 hry.out).mono ?_
  rintro e w9 ⟨rfl, X9, h9⟩
  have H9 := hide h9
  clear h9 H8
  go_wp2
  go_ret
  refine ⟨rfl, ?_⟩
  have h9 := H9.out
  rw [HO2.out] at h9
  have hsz2 : (cs.setIfInBounds k (Value.pointer (some ⟨p, 0, none⟩))).size = 10 := by simp [hsz]
  refine h9.doneW HT.out HX.out hk hn HS.out HR.out (fun i hi h1 h2 => ?_) ?_ ?_ hm (by simp) (fun j _ hjk h => ?_)
  · rw [get_set (by have := HO2.out; omega), get_set (by omega)]
  · rw [get_set (by have := HO2.out; omega), Array.getElem?_setIfInBounds, if_pos rfl, if_pos (by omega)]
  · rw [Array.getElem?_setIfInBounds, if_pos rfl, if_pos (by omega)]
  · rcases h with h | h
    · exact h
    · exact absurd h hjk


end Go.Proofs.Ytgfgabgnejnipaa
