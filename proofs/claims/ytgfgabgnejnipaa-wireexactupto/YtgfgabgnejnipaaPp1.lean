import Derived.Test.YtgfgabgnejnipaaWp4
import Derived.Test.YtgfgabgnejnipaaWp3
import Derived.BigQuiet
namespace Go.Proofs.Ytgfgabgnejnipaa
open Go.RowKit

theorem has_three {X : World} {a b c : Value} {xs ys zs : List UInt8} (h1 : Has X a xs) (h2 : Has X b ys) (h3 : Has X c zs) : ∀ p ∈ [(a, xs), (b, ys), (c, zs)], Has X p.1 p.2 := by
  intro p hp
  rcases List.mem_cons.1 hp with rfl | hp
  · exact h1
  · exact has_two h2 h3 p hp
theorem flat3 (a b c : Value) (xs ys zs : List UInt8) : [(a, xs), (b, ys), (c, zs)].flatMap (·.2) = xs ++ (ys ++ zs) := by simp

/-- Join(b, c, b). -/
theorem St.joinL {w W : World} {X0 X : Nat → Thing} {T : Nat} {cs : Array Value} {L V : Value} {ls vs : List Value} {a b : Nat} {YA YB x y l : Thing} {g : Nat} {oc : Array Value} {cx cy : Value} {bB bC bs : List UInt8} (h : St w X0 X T cs L V ls vs a YA b YB g oc x y l)
    (hx : Has w cx bB) (hy : Has w cy bC) (hl : Lik (w.alloc (.cells #[cx, cy, cx] 22)) W) (hbs : bB ++ (bC ++ bB) = bs) (hn : bs.length ≤ 150000000000000) :
    Calls Try.prog 12 #[.slice (some ⟨w.heap.size, 0, none⟩) 3 3] W fun e w' => ∃ ao cap X', e = .returned (.slice ao bs.length cap) ∧ St w' X0 X' T cs L V ls vs a YA b YB g oc x y (rowT (.slice ao bs.length cap) bs) := by
  refine (join_lik w W [(cx, bB), (cy, bC), (cx, bB)] bs hl (has_three hx hy hx) (by simp) (by rw [flat3, hbs]) hn).mono ?_
  rintro e w' ⟨ao, cap, rfl, ho, hb⟩
  obtain ⟨X', h'⟩ := h.listL ho hb
  exact ⟨ao, cap, X', rfl, h'⟩

theorem unhex_is (s : ByteArray) (w : World) (hn : s.size ≤ 281474976702464) (ys : List UInt8) (er : Int) (hc : (s.data.toList = hexOf ys ∧ er = 0) ∨ ((∀ bs, s.data.toList ≠ hexOf bs) ∧ ys = [] ∧ er = 13)) :
    Calls Try.prog 9 #[.string s] w fun e w' => ∃ ao cap, e = .returned (.tuple #[.slice ao ys.length cap, .int .i64 er]) ∧ Own w' w.heap.size (.slice ao ys.length cap) ys ∧ Below w.heap.size w w' := by
  refine (unhex_any s w hn).mono ?_
  rintro e w' ⟨hb, ⟨bs, v, h1, rfl, ho⟩ | ⟨h1, rfl⟩⟩
  · rcases hc with ⟨h2, rfl⟩ | ⟨h2, _⟩
    · obtain rfl := hexOf_inj _ _ (h1.symm.trans h2)
      obtain ⟨ao, cap, rfl⟩ := ho.slice
      exact ⟨ao, cap, rfl, ho, hb⟩
    · exact absurd h1 (h2 bs)
  · rcases hc with ⟨h2, _⟩ | ⟨_, rfl, rfl⟩
    · exact absurd h2 (h1 ys)
    · exact ⟨none, 0, rfl, Own.nil _ _, hb⟩
theorem runhex_is (s : ByteArray) (w : World) (hn : s.size ≤ 281474976702464) (ys : List UInt8) (er : Int) (hc : (s.data.toList = hexOf ys ∧ er = 0) ∨ ((∀ bs, s.data.toList ≠ hexOf bs) ∧ ys = [] ∧ er = 13)) :
    Calls Try.prog 69 #[.string s] w fun e w' => ∃ ao cap, e = .returned (.tuple #[.slice ao ys.length cap, .int .i64 er]) ∧ Own w' w.heap.size (.slice ao ys.length cap) ys ∧ Below w.heap.size w w' := by
  refine (runhex_any s w hn).mono ?_
  rintro e w' ⟨hb, ⟨bs, v, h1, rfl, ho⟩ | ⟨h1, rfl⟩⟩
  · rcases hc with ⟨h2, rfl⟩ | ⟨h2, _⟩
    · obtain rfl := hexOf_inj _ _ (h1.symm.trans h2)
      obtain ⟨ao, cap, rfl⟩ := ho.slice
      exact ⟨ao, cap, rfl, ho, hb⟩
    · exact absurd h1 (h2 bs)
  · rcases hc with ⟨h2, _⟩ | ⟨_, rfl, rfl⟩
    · exact absurd h2 (h1 ys)
    · exact ⟨none, 0, rfl, Own.nil _ _, hb⟩
theorem unhex_case (s : ByteArray) (hn : s.size ≤ 1048576) : ∃ ys er, ((s.data.toList = hexOf ys ∧ er = (0 : Int)) ∨ ((∀ bs, s.data.toList ≠ hexOf bs) ∧ ys = [] ∧ er = 13)) ∧ ys.length ≤ 1048576 := by
  by_cases h : ∃ bs, s.data.toList = hexOf bs
  · obtain ⟨bs, h⟩ := h
    refine ⟨bs, 0, .inl ⟨h, rfl⟩, ?_⟩
    have h1 := congrArg List.length h
    rw [hexOf_length] at h1
    have h2 : s.data.toList.length = s.size := by simp
    omega
  · exact ⟨[], 13, .inr ⟨fun bs e => h ⟨bs, e⟩, rfl, rfl⟩, by simp⟩

set_option maxRecDepth 100000 in
set_option maxHeartbeats 4000000 in
theorem plain1s (T n : Nat) (X : Nat → Thing) (which N : Int) (bo co : Option Addr) (bk ck : Nat) (S : ByteArray) (bB bC : List UInt8) (w : World) (fw fr : Nat → Prop) (ht : Tab w T X n fw fr) (hA : Args (X 9) (.slice bo bB.length bk) (.slice co bC.length ck) bB bC) (hn9 : n ≤ 900) :
    Calls Try.prog 61 #[.pointer (some ⟨T, 0, none⟩), .agg #[.int .i64 1, .int .i64 which, .int .i64 N, (.slice bo bB.length bk), (.slice co bC.length ck), .string S]] w fun e w' => e = .returned (.bool true) ∧ Left w' T X (n + 2) fw fr := by
  obtain ⟨cs, L, V, ls, vs, hX, hn, hs, hr⟩ := ht.bk
  obtain ⟨X1, h1⟩ := ht.start 0 1 (by omega) (by omega) (by omega) #[.int .i64 1, .int .i64 which, .int .i64 N, (.slice bo bB.length bk), (.slice co bC.length ck), .string S] hX
  have H1 := hide h1
  have HA := hide hA
  have HT := hide ht
  have HX := hide hX
  have HS : Hid (∀ j, j < 2 → fw j → SlotW cs X j) := hs
  have HR : Hid (∀ j, j < 2 → fr j → SlotR cs X j) := hr
  obtain ⟨zs, hzs⟩ : ∃ zs, bB ++ (bC ++ bB) = zs := ⟨_, rfl⟩
  have hzl : zs.length ≤ 10000000 := by have := hA.2.1; have := hA.2.2; rw [← hzs]; simp; omega
  have HZS := hide hzs
  clear hzs
  clear h1 hA ht hX hs hr
  go_enter Try.func61, Try.ntmps61
  go_wp2_with fail
  refine (H1.out.roomX (.slice bo bB.length bk) bB (HA.out.1 _ H1.out.arg).1 HA.out.2.1).mono ?_
  rintro e w2 ⟨rx, xo, xc, X2, hrx, rfl, h2⟩
  have d4 := h2.field (o := 4) (u := (.slice co bC.length ck)) rfl
  have H2 := hide h2
  clear h2 H1
  go_wp2_with fail
  refine (H2.out.roomY (.slice co bC.length ck) bC (HA.out.1 _ H2.out.arg).2 HA.out.2.2).mono ?_
  rintro e w3 ⟨ry, yo, yc, X3, hry, rfl, h3⟩
  clear d4
  have d0 := h3.field (o := 0) (u := .int .i64 1) rfl
  have d3 := h3.field (o := 3) (u := (.slice bo bB.length bk)) rfl
  have d4 := h3.field (o := 4) (u := (.slice co bC.length ck)) rfl
  have lB := (HA.out.1 _ h3.arg).1.len
  have lC := (HA.out.1 _ h3.arg).2.len
  obtain ⟨xa, xk, sx, hx, hx2⟩ := Own.roomcut h3.px hrx.out
  obtain ⟨ya, yk, sy, hy, hy2⟩ := Own.roomcut h3.py hry.out
  have HXX : Hid (∀ W, Has W (.slice xo rx.length xc) rx → Has W (.slice xa bB.length xk) bB) := hx
  have HYY : Hid (∀ W, Has W (.slice yo ry.length yc) ry → Has W (.slice ya bC.length yk) bC) := hy
  have H3 := hide h3
  clear h3 H2 hx hx2 hy hy2
  go_wp2_with fail
  refine (H3.out.joinL (HXX.out _ (Own.has H3.out.px)) (HYY.out _ (Own.has H3.out.py)) ⟨rfl, rfl, rfl, rfl⟩ HZS.out (by omega)).mono ?_
  rintro e w4 ⟨lo, lc, X4, rfl, h4⟩
  have e3 := h4.field (o := 3) (u := (.slice bo bB.length bk)) rfl
  have e4 := h4.field (o := 4) (u := (.slice co bC.length ck)) rfl
  have H4 := hide h4
  clear h4 H3 HXX HYY sx sy lB lC d0 d3 d4
  go_wp2_with fail
  have HAA := (H4.out.below (bel_new w4 (w4.alloc (.cells #[(.slice bo bB.length bk), (.slice co bC.length ck), (.slice bo bB.length bk)] 22)) _ ⟨rfl, rfl, rfl, rfl⟩))
  have hB1 := (HA.out.1 _ HAA.arg).1
  have hC1 := (HA.out.1 _ HAA.arg).2
  refine (rjoin_at _ w4.heap.size 3 [((.slice bo bB.length bk), bB), ((.slice co bC.length ck), bC), ((.slice bo bB.length bk), bB)] zs (at_new w4 _ _ ⟨rfl, rfl, rfl, rfl⟩) (has_three hB1 hC1 hB1) (by simp) (by rw [flat3, HZS.out]) (by omega) rfl).mono ?_
  rintro e w5 ⟨mo, mc, rfl, ho5, hb5⟩
  have H5 := hide (HAA.below hb5)
  have HM := hide ho5.has
  clear HAA hB1 hC1 ho5 hb5 H4 e3 e4
  go_wp2_with fail
  refine (eq_yes2 _ _ zs _ (Own.has H5.out.pl) HM.out).mono ?_
  rintro e w6 ⟨rfl, rfl⟩
  go_wp2_with fail
  refine (H5.out.note (by omega) (by omega)).mono ?_
  rintro e w5 ⟨rfl, X5, cs5, L5, V5, ls5, vs5, h5, hpre, hls⟩
  have HPRE : Hid (∀ i, i < 8 → cs5[i]? = cs[i]?) := hpre
  have HLS := hide hls
  clear hpre hls H5 HM
  have d3 := h5.field (o := 3) (u := (.slice bo bB.length bk)) rfl
  have H5 := hide h5
  clear h5
  go_wp2_with fail
  refine (H5.out.keptX (.slice bo bB.length bk) bB (HA.out.1 _ H5.out.arg).1 HA.out.2.1 hrx.out).mono ?_
  rintro e w6 ⟨rfl, h6⟩
  have d4 := h6.field (o := 4) (u := (.slice co bC.length ck)) rfl
  have H6 := hide h6
  clear h6 H5 d3
  go_wp2_with fail
  refine (H6.out.keptY (.slice co bC.length ck) bC (HA.out.1 _ H6.out.arg).2 HA.out.2.2 hry.out).mono ?_
  rintro e w7 ⟨rfl, h7⟩
  have H7 := hide h7
  clear h7 H6 d4
  go_wp2_with fail
  refine (H7.out.spoilX bB HA.out.2.1 hrx.out).mono ?_
  rintro e w8 ⟨rfl, X8, h8⟩
  have H8 := hide h8
  clear h8 H7
  go_wp2_with fail
  refine (H8.out.spoilY bC HA.out.2.2 hry.out).mono ?_
  rintro e w9 ⟨rfl, X9, h9⟩
  have H9 := hide h9
  clear h9 H8
  go_wp2
  go_ret
  exact ⟨rfl, H9.out.doneN HT.out HX.out (by have := HLS.out; omega) HS.out HR.out (fun i hi => HPRE.out i hi)⟩

theorem plain1 (T n : Nat) (X : Nat → Thing) (which N : Int) (B C : Value) (S : ByteArray) (bB bC : List UInt8) (w : World) (fw fr : Nat → Prop) (ht : Tab w T X n fw fr) (hA : Args (X 9) B C bB bC) (hn9 : n ≤ 900) :
    Calls Try.prog 61 #[.pointer (some ⟨T, 0, none⟩), .agg #[.int .i64 1, .int .i64 which, .int .i64 N, B, C, .string S]] w fun e w' => e = .returned (.bool true) ∧ Left w' T X (n + 2) fw fr := by
  obtain ⟨bo, bk, rfl⟩ := (hA.1 w (ht.fam.P 9)).1.slice
  obtain ⟨co, ck, rfl⟩ := (hA.1 w (ht.fam.P 9)).2.slice
  exact plain1s T n X which N bo co bk ck S bB bC w fw fr ht hA hn9

set_option maxRecDepth 100000 in
set_option maxHeartbeats 4000000 in
theorem plain2 (T n : Nat) (X : Nat → Thing) (which N : Int) (B C : Value) (S : ByteArray) (bB bC : List UInt8) (w : World) (fw fr : Nat → Prop) (ht : Tab w T X n fw fr) (hA : Args (X 9) B C bB bC) (_hn9 : n ≤ 900) :
    Calls Try.prog 61 #[.pointer (some ⟨T, 0, none⟩), .agg #[.int .i64 2, .int .i64 which, .int .i64 N, B, C, .string S]] w fun e w' => e = .returned (.bool true) ∧ Left w' T X (n + 2) fw fr := by
  obtain ⟨cs, L, V, ls, vs, hX, hn, hs, hr⟩ := ht.bk
  obtain ⟨X1, h1⟩ := ht.start 0 1 (by omega) (by omega) (by omega) #[.int .i64 2, .int .i64 which, .int .i64 N, B, C, .string S] hX
  have H1 := hide h1
  have HA := hide hA
  have HT := hide ht
  have HX := hide hX
  have HS : Hid (∀ j, j < 2 → fw j → SlotW cs X j) := hs
  have HR : Hid (∀ j, j < 2 → fr j → SlotR cs X j) := hr
  clear h1 hA ht hX hs hr
  go_enter Try.func61, Try.ntmps61
  go_wp2_with fail
  refine (H1.out.roomX B bB (HA.out.1 _ H1.out.arg).1 HA.out.2.1).mono ?_
  rintro e w2 ⟨rx, xo, xc, X2, hrx, rfl, h2⟩
  have d4 := h2.field (o := 4) (u := C) rfl
  have H2 := hide h2
  clear h2 H1
  go_wp2_with fail
  refine (H2.out.roomY C bC (HA.out.1 _ H2.out.arg).2 HA.out.2.2).mono ?_
  rintro e w3 ⟨ry, yo, yc, X3, hry, rfl, h3⟩
  clear d4
  have d0 := h3.field (o := 0) (u := .int .i64 2) rfl
  have d3 := h3.field (o := 3) (u := B) rfl
  have d4 := h3.field (o := 4) (u := C) rfl
  have lB := (HA.out.1 _ h3.arg).1.len
  have lC := (HA.out.1 _ h3.arg).2.len
  obtain ⟨xa, xk, sx, hx, hx2⟩ := Own.roomcut h3.px hrx.out
  obtain ⟨ya, yk, sy, hy, hy2⟩ := Own.roomcut h3.py hry.out
  have HXX : Hid (∀ W, Has W (.slice xo rx.length xc) rx → Has W (.slice xa bB.length xk) bB) := hx
  have HYY : Hid (∀ W, Has W (.slice yo ry.length yc) ry → Has W (.slice ya bC.length yk) bC) := hy
  have H3 := hide h3
  clear h3 H2 hx hx2 hy hy2
  go_wp2_with fail
  obtain ⟨r, hr⟩ : ∃ r, (bB == bC) = r := ⟨_, rfl⟩
  obtain ⟨z, hz⟩ : ∃ z, bB.all (· == 0) = z := ⟨_, rfl⟩
  have hBl : bB.length ≤ 150000000000000 := by have := HA.out.2.1; omega
  have hCl : bC.length ≤ 150000000000000 := by have := HA.out.2.2; omega
  have HK : Hid (∀ m, Has (w3.drewN m) (.slice xa bB.length xk) bB ∧ Has (w3.drewN m) (.slice ya bC.length yk) bC ∧ Has (w3.drewN m) B bB ∧ Has (w3.drewN m) C bC) := fun m => by
    have h := H3.out.lik (w' := w3.drewN m) ⟨rfl, rfl, rfl, rfl⟩
    exact ⟨HXX.out _ (Own.has h.px), HYY.out _ (Own.has h.py), HA.out.1 _ h.arg⟩
  have Q1 : Hid (∀ m, Calls Try.prog 13 #[.slice xa bB.length xk, .slice ya bC.length yk] (w3.drewN m) fun e w' => e = .returned (.bool r) ∧ ∃ q, w' = (w3.drewN m).drewN q) := fun m => same_is _ _ bB bC r _ (HK.out m).1 (HK.out m).2.1 hBl hr
  have Q2 : Hid (∀ m, Calls Try.prog 67 #[B, C] (w3.drewN m) fun e w' => e = .returned (.bool r) ∧ ∃ q, w' = (w3.drewN m).drewN q) := fun m => by
    have := rsame_any B C bB bC (w3.drewN m) (HK.out m).2.2.1 (HK.out m).2.2.2 hBl hCl
    rw [hr] at this; exact this
  have Q3 : Hid (∀ m, Calls Try.prog 14 #[.slice xa bB.length xk] (w3.drewN m) fun e w' => e = .returned (.bool z) ∧ ∃ q, w' = (w3.drewN m).drewN q) := fun m =>
    (blank_is _ bB z _ hBl (HK.out m).1 hz).mono fun e w' ⟨h1, h2⟩ => ⟨h1, 0, h2.symm⟩
  have Q4 : Hid (∀ m, Calls Try.prog 68 #[B] (w3.drewN m) fun e w' => e = .returned (.bool z) ∧ ∃ q, w' = (w3.drewN m).drewN q) := fun m => by
    have := rblank_any B bB (w3.drewN m) (HK.out m).2.2.1 hBl
    rw [hz] at this
    exact this.mono fun e w' ⟨h1, h2⟩ => ⟨h1, 0, h2.symm⟩
  have hrr : (r == r) = true := by simp
  clear hr hz HK HXX HYY sx sy lB lC
  go_quiet (first | (go_at_call 13; exact Calls.quiet_of (Q1.out _)) | (go_at_call 67; exact Calls.quiet_of (Q2.out _)) | (go_at_call 14; exact Calls.quiet_of (Q3.out _)) | (go_at_call 68; exact Calls.quiet_of (Q4.out _)))
  have h5 := H3.out.lik (w' := w3.drewN nq) ⟨rfl, rfl, rfl, rfl⟩
  clear Q1 Q2 Q3 Q4 H3 d0 d3 d4
  have d3 := h5.field (o := 3) (u := B) rfl
  have H5 := hide h5
  clear h5
  go_wp2_with fail
  refine (H5.out.keptX B bB (HA.out.1 _ H5.out.arg).1 HA.out.2.1 hrx.out).mono ?_
  rintro e w6 ⟨rfl, h6⟩
  have d4 := h6.field (o := 4) (u := C) rfl
  have H6 := hide h6
  clear h6 H5 d3
  go_wp2_with fail
  refine (H6.out.keptY C bC (HA.out.1 _ H6.out.arg).2 HA.out.2.2 hry.out).mono ?_
  rintro e w7 ⟨rfl, h7⟩
  have H7 := hide h7
  clear h7 H6 d4
  go_wp2_with fail
  refine (H7.out.spoilX bB HA.out.2.1 hrx.out).mono ?_
  rintro e w8 ⟨rfl, X8, h8⟩
  have H8 := hide h8
  clear h8 H7
  go_wp2_with fail
  refine (H8.out.spoilY bC HA.out.2.2 hry.out).mono ?_
  rintro e w9 ⟨rfl, X9, h9⟩
  have H9 := hide h9
  clear h9 H8
  go_wp2
  go_ret
  exact ⟨rfl, H9.out.doneN HT.out HX.out (by omega) HS.out HR.out (fun _ _ => rfl)⟩

set_option maxRecDepth 100000 in
set_option maxHeartbeats 4000000 in
theorem plain4 (T n : Nat) (X : Nat → Thing) (which N : Int) (B C : Value) (S : ByteArray) (bB bC : List UInt8) (w : World) (fw fr : Nat → Prop) (ht : Tab w T X n fw fr) (hA : Args (X 9) B C bB bC) (hn9 : n ≤ 900) (hSz : S.size ≤ 1048576) :
    Calls Try.prog 61 #[.pointer (some ⟨T, 0, none⟩), .agg #[.int .i64 4, .int .i64 which, .int .i64 N, B, C, .string S]] w fun e w' => e = .returned (.bool true) ∧ Left w' T X (n + 2) fw fr := by
  obtain ⟨cs, L, V, ls, vs, hX, hn, hs, hr⟩ := ht.bk
  obtain ⟨X1, h1⟩ := ht.start 0 1 (by omega) (by omega) (by omega) #[.int .i64 4, .int .i64 which, .int .i64 N, B, C, .string S] hX
  have H1 := hide h1
  have HA := hide hA
  have HT := hide ht
  have HX := hide hX
  have HS : Hid (∀ j, j < 2 → fw j → SlotW cs X j) := hs
  have HR : Hid (∀ j, j < 2 → fr j → SlotR cs X j) := hr
  obtain ⟨ys, er, hcase, hyl⟩ := unhex_case S hSz
  have HCASE := hide hcase
  have hS2 : S.size ≤ 281474976702464 := by omega
  clear hcase hSz
  clear h1 hA ht hX hs hr
  go_enter Try.func61, Try.ntmps61
  go_wp2_with fail
  refine (H1.out.roomX B bB (HA.out.1 _ H1.out.arg).1 HA.out.2.1).mono ?_
  rintro e w2 ⟨rx, xo, xc, X2, hrx, rfl, h2⟩
  have d4 := h2.field (o := 4) (u := C) rfl
  have H2 := hide h2
  clear h2 H1
  go_wp2_with fail
  refine (H2.out.roomY C bC (HA.out.1 _ H2.out.arg).2 HA.out.2.2).mono ?_
  rintro e w3 ⟨ry, yo, yc, X3, hry, rfl, h3⟩
  clear d4
  have d0 := h3.field (o := 0) (u := .int .i64 4) rfl
  have d3 := h3.field (o := 3) (u := B) rfl
  have d4 := h3.field (o := 4) (u := C) rfl
  have lB := (HA.out.1 _ h3.arg).1.len
  have lC := (HA.out.1 _ h3.arg).2.len
  obtain ⟨xa, xk, sx, hx, hx2⟩ := Own.roomcut h3.px hrx.out
  obtain ⟨ya, yk, sy, hy, hy2⟩ := Own.roomcut h3.py hry.out
  have HXX : Hid (∀ W, Has W (.slice xo rx.length xc) rx → Has W (.slice xa bB.length xk) bB) := hx
  have HYY : Hid (∀ W, Has W (.slice yo ry.length yc) ry → Has W (.slice ya bC.length yk) bC) := hy
  have H3 := hide h3
  clear h3 H2 hx hx2 hy hy2
  go_wp2_with fail
  refine (hex_any _ bB _ (HXX.out _ (Own.has H3.out.px)) (by have := HA.out.2.1; omega)).mono ?_
  obtain ⟨hx, hhx⟩ : ∃ hx : ByteArray, ⟨(hexOf bB).toArray⟩ = hx := ⟨_, rfl⟩
  have HHX := hide hhx
  rw [hhx]
  rintro e w4 ⟨rfl, hb4⟩
  have h4 := H3.out.below hb4
  have e5 := h4.field (o := 5) (u := .string S) rfl
  have H4 := hide h4
  clear h4 H3 hb4 HXX HYY sx sy lB lC d0 d3 d4 hhx
  go_wp2_with fail
  refine (unhex_is S _ hS2 ys er HCASE.out).mono ?_
  rintro e w5 ⟨lo, lc, rfl, ho5, hb5⟩
  obtain ⟨X5, h5⟩ := H4.out.listL ho5 hb5
  have e5 := h5.field (o := 5) (u := .string S) rfl
  have H5 := hide h5
  clear h5 H4 ho5 hb5
  go_wp2_with fail
  refine (runhex_is S _ hS2 ys er HCASE.out).mono ?_
  rintro e w6 ⟨mo, mc, rfl, ho6, hb6⟩
  have h6 := H5.out.below hb6
  have d3 := h6.field (o := 3) (u := B) rfl
  have H6 := hide h6
  have HM := hide ho6.has
  clear h6 H5 ho6 hb6
  go_wp2_with fail
  refine (rhex_any B bB _ (HA.out.1 _ H6.out.arg).1 (by have := HA.out.2.1; omega)).mono ?_
  rw [HHX.out]
  rintro e w7 ⟨rfl, hb7⟩
  have H7 := hide (H6.out.below hb7)
  have HM7 := hide (HM.out.below hb7)
  have hee : (er == er) = true := by simp
  clear H6 HM hb7 d3
  go_wp2_with fail
  refine (eq_yes2 _ _ ys _ (Own.has H7.out.pl) HM7.out).mono ?_
  rintro e w8 ⟨rfl, rfl⟩
  go_wp2_with fail
  refine (H7.out.note (by omega) (by omega)).mono ?_
  rintro e w5 ⟨rfl, X5, cs5, L5, V5, ls5, vs5, h5, hpre, hls⟩
  have HPRE : Hid (∀ i, i < 8 → cs5[i]? = cs[i]?) := hpre
  have HLS := hide hls
  clear hpre hls H7 HM7 hee
  have d3 := h5.field (o := 3) (u := B) rfl
  have H5 := hide h5
  clear h5
  go_wp2_with fail
  refine (H5.out.keptX B bB (HA.out.1 _ H5.out.arg).1 HA.out.2.1 hrx.out).mono ?_
  rintro e w6 ⟨rfl, h6⟩
  have d4 := h6.field (o := 4) (u := C) rfl
  have H6 := hide h6
  clear h6 H5 d3
  go_wp2_with fail
  refine (H6.out.keptY C bC (HA.out.1 _ H6.out.arg).2 HA.out.2.2 hry.out).mono ?_
  rintro e w7 ⟨rfl, h7⟩
  have H7 := hide h7
  clear h7 H6 d4
  go_wp2_with fail
  refine (H7.out.spoilX bB HA.out.2.1 hrx.out).mono ?_
  rintro e w8 ⟨rfl, X8, h8⟩
  have H8 := hide h8
  clear h8 H7
  go_wp2_with fail
  refine (H8.out.spoilY bC HA.out.2.2 hry.out).mono ?_
  rintro e w9 ⟨rfl, X9, h9⟩
  have H9 := hide h9
  clear h9 H8
  go_wp2
  go_ret
  exact ⟨rfl, H9.out.doneN HT.out HX.out (by have := HLS.out; omega) HS.out HR.out (fun i hi => HPRE.out i hi)⟩


end Go.Proofs.Ytgfgabgnejnipaa
