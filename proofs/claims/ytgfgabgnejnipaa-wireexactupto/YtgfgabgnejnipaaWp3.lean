import Derived.Test.YtgfgabgnejnipaaWp1
namespace Go.Proofs.Ytgfgabgnejnipaa
open Go.RowKit

/-- A room's bytes without its marks. -/
theorem Own.roomcut {w : World} {base : Nat} {xv : Value} {rs bs : List UInt8} (h : Own w base xv rs) (he : rs = bs ++ marks) :
    ∃ co cc, (∀ W, (Instr.slice 22 xv none (some (.int .i64 (bs.length : Int))) none).run Try.prog W = .ok (.slice co bs.length cc) W) ∧ (∀ W, Has W xv rs → Has W (.slice co bs.length cc) bs) ∧ ∀ k, (Value.slice co bs.length cc).ownBlock = some k → xv.ownBlock = some k := by
  have hl : rs.length = bs.length + 3 := by rw [he]; simp [marks]
  obtain ⟨co, cc, hc⟩ := cut_shape h.has 0 bs.length
  rw [Nat.sub_zero] at hc
  refine ⟨co, cc, fun W => ?_, fun W hW => ?_, fun k hk => ?_⟩
  · rw [h.has.cutH bs.length (by omega), hc]
  · have := hW.cut 0 bs.length (Nat.zero_le _) (by omega)
    rw [hc, Nat.sub_zero, List.drop_zero, he, List.take_left] at this
    exact this
  · rw [← hc] at hk
    obtain ⟨ao, cap, rfl⟩ := h.slice
    obtain ⟨g, rfl, _⟩ := h.at (by omega)
    unfold cutV sliced at hk
    simp only at hk
    split at hk <;> simpa [Value.ownBlock, Addr.add] using hk

theorem flat2 (a b : Value) (xs ys : List UInt8) : [(a, xs), (b, ys)].flatMap (·.2) = xs ++ ys := by simp

/-- Fixed(x[:len(B)], y[:len(C)]). -/
theorem St.fixedW {w W : World} {X0 X : Nat → Thing} {T : Nat} {cs : Array Value} {L V : Value} {ls vs : List Value} {a b : Nat} {YB l : Thing} {g : Nat} {oc : Array Value} {p most : Nat} {v xv yv cx cy : Value} {bs rx ry bB bC : List UInt8} {f : Int}
    (h : St w X0 X T cs L V ls vs a (wT p v most bs f) b YB g oc (rowT xv rx) (rowT yv ry) l) (hm : most ≤ 1048576) (hbl : bs.length ≤ most) (hB : bB.length ≤ 1048576) (hC : bC.length ≤ 1048576)
    (hx : ∀ W, Has W xv rx → Has W cx bB) (hx2 : ∀ k, cx.ownBlock = some k → xv.ownBlock = some k) (hy : ∀ W, Has W yv ry → Has W cy bC) (hy2 : ∀ k, cy.ownBlock = some k → yv.ownBlock = some k) (hl : Lik (w.alloc (.cells #[cx, cy] 22)) W) :
    Calls Try.prog 40 #[.pointer (some ⟨p, 0, none⟩), .slice (some ⟨w.heap.size, 0, none⟩) 2 2] W fun e w' => e = .returned (.tuple #[]) ∧ ∃ X' v', St w' X0 X' T cs L V ls vs a (wT p v' most (put1 most bs f (bB ++ bC)).1 (put1 most bs f (bB ++ bC)).2) b YB g oc (rowT xv rx) (rowT yv ry) l := by
  have h' := h.below (bel_new w W _ hl)
  have ha := h.ha
  have hg := at_new w W _ hl
  refine (fixedx_any p v most bs f w.heap.size 2 [(cx, bB), (cy, bC)] W h'.pa hm hbl hg ?_ (by simp) rfl).mono ?_
  · intro q hq
    rcases List.mem_cons.1 hq with rfl | hq
    · exact ⟨⟨hx W (Own.has h'.px), by dsimp only; omega⟩, fun k _ hk hF => h'.fam.no h'.ex h'.ea (by omega) (k := k) (hx2 k hk) hF⟩
    · rw [List.mem_singleton] at hq
      subst hq
      exact ⟨⟨hy W (Own.has h'.py), by dsimp only; omega⟩, fun k _ hk hF => h'.fam.no h'.ey h'.ea (by omega) (k := k) (hy2 k hk) hF⟩
  · rw [flat2]
    rintro e w' ⟨rfl, hw⟩
    obtain ⟨X', v', h2⟩ := h'.wx hw
    exact ⟨rfl, X', v', h2⟩

/-- The document's Fixed. -/
theorem St.fixedV {w W : World} {X0 X : Nat → Thing} {T : Nat} {cs : Array Value} {L V : Value} {ls vs : List Value} {a b : Nat} {YA x y l : Thing} {g : Nat} {oc : Array Value} {p most : Nat} {v B C : Value} {bs bB bC : List UInt8} {f : Int}
    (h : St w X0 X T cs L V ls vs a YA b (vT p v most bs f) g oc x y l) (hm : most ≤ 1048576) (hbl : bs.length ≤ most) (hA : Args (X0 9) B C bB bC) (hl : Lik (w.alloc (.cells #[B, C] 22)) W) :
    Calls Try.prog 48 #[.pointer (some ⟨p, 0, none⟩), .slice (some ⟨w.heap.size, 0, none⟩) 2 2] W fun e w' => e = .returned (.tuple #[]) ∧ ∃ X' v', St w' X0 X' T cs L V ls vs a YA b (vT p v' most (put1 most bs f (bB ++ bC)).1 (put1 most bs f (bB ++ bC)).2) g oc x y l := by
  have h' := h.below (bel_new w W _ hl)
  have hg := at_new w W _ hl
  have h1 := (hA.1 W h'.arg).1
  have h2 := (hA.1 W h'.arg).2
  refine (vfixed_any p v most bs f w.heap.size 2 [(B, bB), (C, bC)] W h'.pb hm hbl hg (has_two h1 h2) (by simp) (bB ++ bC) (flat2 _ _ _ _) (by have := hA.2.1; have := hA.2.2; rw [List.length_append]; omega) rfl).mono ?_
  rintro e w' ⟨rfl, hw⟩
  obtain ⟨X', v', h2⟩ := h'.vx hw
  exact ⟨rfl, X', v', h2⟩

/-- Run(x[:len(B)]). -/
theorem St.runW {w : World} {X0 X : Nat → Thing} {T : Nat} {cs : Array Value} {L V : Value} {ls vs : List Value} {a b : Nat} {YB y l : Thing} {g : Nat} {oc : Array Value} {p most : Nat} {v xv cx : Value} {bs rx bB : List UInt8} {f : Int}
    (h : St w X0 X T cs L V ls vs a (wT p v most bs f) b YB g oc (rowT xv rx) y l) (hm : most ≤ 1048576) (hbl : bs.length ≤ most) (hB : bB.length ≤ 1048576)
    (hx : ∀ W, Has W xv rx → Has W cx bB) (hx2 : ∀ k, cx.ownBlock = some k → xv.ownBlock = some k) :
    Calls Try.prog 21 #[.pointer (some ⟨p, 0, none⟩), cx] w fun e w' => e = .returned (.tuple #[]) ∧ ∃ X' v', St w' X0 X' T cs L V ls vs a (wT p v' most (putr most bs f bB).1 (putr most bs f bB).2) b YB g oc (rowT xv rx) y l := by
  have ha := h.ha
  refine (runx_any p v cx most bs bB f w h.pa hm hbl (hx w (Own.has h.px)) (fun k _ hk hF => h.fam.no h.ex h.ea (by omega) (k := k) (hx2 k hk) hF) hB).mono ?_
  rintro e w' ⟨rfl, hw⟩
  obtain ⟨X', v', h2⟩ := h.wx hw
  exact ⟨rfl, X', v', h2⟩

set_option maxRecDepth 100000 in
set_option maxHeartbeats 4000000 in
theorem writes9s (T n : Nat) (X : Nat → Thing) (which N : Int) (bo co : Option Addr) (bk ck : Nat) (S : ByteArray) (bB bC : List UInt8) (w : World) (fw fr : Nat → Prop) (ht : Tab w T X n fw fr) (hfw : ∀ k, k < 2 → fw k) (hA : Args (X 9) (.slice bo bB.length bk) (.slice co bC.length ck) bB bC) :
    Calls Try.prog 35 #[.pointer (some ⟨T, 0, none⟩), .agg #[.int .i64 9, .int .i64 which, .int .i64 N, (.slice bo bB.length bk), (.slice co bC.length ck), .string S]] w fun e w' => e = .returned (.bool true) ∧ Left w' T X n fw fr := by
  obtain ⟨k, hk, hkk⟩ := and1 which
  obtain ⟨cs, L, V, ls, vs, hX, hn, hs, hr⟩ := ht.bk
  obtain ⟨p, v, q, u, most, bs, f, c1, c2, xa, xb, hm, hbl⟩ := hs k hk (hfw k hk)
  obtain ⟨X1, h1⟩ := ht.start k (2 + k) (by omega) (by omega) (by omega) #[.int .i64 9, .int .i64 which, .int .i64 N, (.slice bo bB.length bk), (.slice co bC.length ck), .string S] hX
  rw [xa, xb] at h1
  have H1 := hide h1
  have HA := hide hA
  have HC1 := hide c1
  have HC2 := hide c2
  have i60 := idx60 T 0 k hk
  have i62 := idx62 T 2 k hk
  rw [Nat.zero_add] at i60
  obtain ⟨o2, ho2⟩ : ∃ o2, o2 = 2 + k := ⟨_, rfl⟩
  rw [← ho2] at H1 HC2 i62
  have HO2 := hide ho2
  have HT := hide ht
  have HX := hide hX
  have HS : Hid (∀ j, j < 2 → fw j → SlotW cs X j) := hs
  have HR : Hid (∀ j, j < 2 → fr j → SlotR cs X j) := hr
  clear h1 hA c1 c2 ho2 ht hX hs hr xa xb
  go_enter Try.func35, Try.ntmps35
  go_wp2_with fail
  refine (H1.out.roomX (.slice bo bB.length bk) bB (HA.out.1 _ H1.out.arg).1 HA.out.2.1).mono ?_
  rintro e w2 ⟨rx, xo, xc, X2, hrx, rfl, h2⟩
  have d4 := h2.field (o := 4) (u := (.slice co bC.length ck)) rfl
  have H2 := hide h2
  clear h2 H1
  go_wp2_with fail
  refine (H2.out.roomY (.slice co bC.length ck) bC (HA.out.1 _ H2.out.arg).2 HA.out.2.2).mono ?_
  rintro e w3 ⟨ry, yo, yc, X3, hry, rfl, h3⟩
  clear d4
  have d0 := h3.field (o := 0) (u := .int .i64 9) rfl
  have d3 := h3.field (o := 3) (u := (.slice bo bB.length bk)) rfl
  have d4 := h3.field (o := 4) (u := (.slice co bC.length ck)) rfl
  have t0 := (h3.cell HC1.out).1
  have lB := (HA.out.1 _ h3.arg).1.len
  have lC := (HA.out.1 _ h3.arg).2.len
  obtain ⟨xa, xk, sx, hx, hx2⟩ := Own.roomcut h3.px hrx.out
  obtain ⟨ya, yk, sy, hy, hy2⟩ := Own.roomcut h3.py hry.out
  have HXX : Hid (∀ W, Has W (.slice xo rx.length xc) rx → Has W (.slice xa bB.length xk) bB) := hx
  have HYY : Hid (∀ W, Has W (.slice yo ry.length yc) ry → Has W (.slice ya bC.length yk) bC) := hy
  have HX2 : Hid (∀ k, (Value.slice xa bB.length xk).ownBlock = some k → (Value.slice xo rx.length xc).ownBlock = some k) := hx2
  have HY2 : Hid (∀ k, (Value.slice ya bC.length yk).ownBlock = some k → (Value.slice yo ry.length yc).ownBlock = some k) := hy2
  have D3 := hide h3.drew
  have q0 : ∀ o, (w3.alloc o).cell? ⟨T, k, none⟩ = some (.pointer (some ⟨p, 0, none⟩)) := fun o => at_below (below_new w3 o) (h3.cell HC1.out).1
  clear h3 H2 hx hx2 hy hy2
  go_wp2_with fail
  go_region_held3 (fun w' => w'.cell? ⟨T, k, none⟩ = some (.pointer (some ⟨p, 0, none⟩)) ∧ w'.cell? ⟨w.heap.size, 3, none⟩ = some (.slice bo bB.length bk) ∧ w'.cell? ⟨w.heap.size, 4, none⟩ = some (.slice co bC.length ck)) (first | go_keep | exact ⟨(h4.cell HC1.out).1, h4.field rfl, h4.field rfl⟩) ((go_at_call 40; refine (D3.out.fixedW hm hbl HA.out.2.1 HA.out.2.2 HXX.out HX2.out HYY.out HY2.out ⟨rfl, rfl, rfl, rfl⟩).mono ?_; rintro e w4 ⟨rfl, X4, v4, h4⟩))
  have e3 := h4.field (o := 3) (u := (.slice bo bB.length bk)) rfl
  have e4 := h4.field (o := 4) (u := (.slice co bC.length ck)) rfl
  have t2 := (h4.cell HC2.out).1
  have D4 := hide h4.drew
  clear h4 D3 d0 d3 d4 t0 sx sy lB lC HXX HYY HX2 HY2 q0
  go_wp2_with fail
  go_region_held3 (fun w' => w'.cell? ⟨T, o2, none⟩ = some (.pointer (some ⟨q, 0, none⟩)) ∧ w'.cell? ⟨w.heap.size, 3, none⟩ = some (.slice bo bB.length bk) ∧ w'.cell? ⟨w.heap.size, 4, none⟩ = some (.slice co bC.length ck)) (first | go_keep | exact ⟨(h5.cell HC2.out).1, h5.field rfl, h5.field rfl⟩) ((go_at_call 48; refine (D4.out.fixedV hm hbl HA.out ⟨rfl, rfl, rfl, rfl⟩).mono ?_; rintro e w5 ⟨rfl, X5, u5, h5⟩))
  clear D4 e3 e4 t2
  have d3 := h5.field (o := 3) (u := (.slice bo bB.length bk)) rfl
  have H5 := hide h5
  clear h5
  go_wp2_with fail
  refine (H5.out.keptX (.slice bo bB.length bk) bB (HA.out.1 _ H5.out.arg).1 HA.out.2.1 hrx.out).mono ?_
  rintro e w6 ⟨rfl, h6⟩
  have d4 := h6.field (o := 4) (u := (.slice co bC.length ck)) rfl
  have H6 := hide h6
  clear h6 H5 d3
  go_wp2_with fail
  refine (H6.out.keptY (.slice co bC.length ck) bC (HA.out.1 _ H6.out.arg).2 HA.out.2.2 hry.out).mono ?_
  rintro e w7 ⟨rfl, h7⟩
  have H7 := hide h7
  clear h7 H6 d4
  go_wp2_with fail
  refine (H7.out.spoilX bB HA.out.2.1 hrx.out).mono ?_
  rintro e w8 ⟨rfl, X8, h8⟩
  have H8 := hide h8
  clear h8 H7
  go_wp2_with fail
  refine (H8.out.spoilY bC HA.out.2.2 hry.out).mono ?_
  rintro e w9 ⟨rfl, X9, h9⟩
  have H9 := hide h9
  clear h9 H8
  go_wp2
  go_ret
  refine ⟨rfl, ?_⟩
  have h9 := H9.out
  rw [HO2.out] at h9
  exact h9.doneW HT.out HX.out hk hn HS.out HR.out (fun _ _ _ _ => rfl) HC1.out (HO2.out ▸ HC2.out) hm (put1_len _ _ _ _ hbl) (fun j _ _ h => h)

theorem writes9 (T n : Nat) (X : Nat → Thing) (which N : Int) (B C : Value) (S : ByteArray) (bB bC : List UInt8) (w : World) (fw fr : Nat → Prop) (ht : Tab w T X n fw fr) (hfw : ∀ k, k < 2 → fw k) (hA : Args (X 9) B C bB bC) :
    Calls Try.prog 35 #[.pointer (some ⟨T, 0, none⟩), .agg #[.int .i64 9, .int .i64 which, .int .i64 N, B, C, .string S]] w fun e w' => e = .returned (.bool true) ∧ Left w' T X n fw fr := by
  obtain ⟨bo, bk, rfl⟩ := (hA.1 w (ht.fam.P 9)).1.slice
  obtain ⟨co, ck, rfl⟩ := (hA.1 w (ht.fam.P 9)).2.slice
  exact writes9s T n X which N bo co bk ck S bB bC w fw fr ht hfw hA

set_option maxRecDepth 100000 in
set_option maxHeartbeats 4000000 in
theorem writes10 (T n : Nat) (X : Nat → Thing) (which N : Int) (B C : Value) (S : ByteArray) (bB bC : List UInt8) (w : World) (fw fr : Nat → Prop) (ht : Tab w T X n fw fr) (hfw : ∀ k, k < 2 → fw k) (hA : Args (X 9) B C bB bC) :
    Calls Try.prog 35 #[.pointer (some ⟨T, 0, none⟩), .agg #[.int .i64 10, .int .i64 which, .int .i64 N, B, C, .string S]] w fun e w' => e = .returned (.bool true) ∧ Left w' T X n fw fr := by
  obtain ⟨k, hk, hkk⟩ := and1 which
  obtain ⟨cs, L, V, ls, vs, hX, hn, hs, hr⟩ := ht.bk
  obtain ⟨p, v, q, u, most, bs, f, c1, c2, xa, xb, hm, hbl⟩ := hs k hk (hfw k hk)
  obtain ⟨X1, h1⟩ := ht.start k (2 + k) (by omega) (by omega) (by omega) #[.int .i64 10, .int .i64 which, .int .i64 N, B, C, .string S] hX
  rw [xa, xb] at h1
  have H1 := hide h1
  have HA := hide hA
  have HC1 := hide c1
  have HC2 := hide c2
  have i60 := idx60 T 0 k hk
  have i62 := idx62 T 2 k hk
  rw [Nat.zero_add] at i60
  obtain ⟨o2, ho2⟩ : ∃ o2, o2 = 2 + k := ⟨_, rfl⟩
  rw [← ho2] at H1 HC2 i62
  have HO2 := hide ho2
  have HT := hide ht
  have HX := hide hX
  have HS : Hid (∀ j, j < 2 → fw j → SlotW cs X j) := hs
  have HR : Hid (∀ j, j < 2 → fr j → SlotR cs X j) := hr
  clear h1 hA c1 c2 ho2 ht hX hs hr xa xb
  go_enter Try.func35, Try.ntmps35
  go_wp2_with fail
  refine (H1.out.roomX B bB (HA.out.1 _ H1.out.arg).1 HA.out.2.1).mono ?_
  rintro e w2 ⟨rx, xo, xc, X2, hrx, rfl, h2⟩
  have d4 := h2.field (o := 4) (u := C) rfl
  have H2 := hide h2
  clear h2 H1
  go_wp2_with fail
  refine (H2.out.roomY C bC (HA.out.1 _ H2.out.arg).2 HA.out.2.2).mono ?_
  rintro e w3 ⟨ry, yo, yc, X3, hry, rfl, h3⟩
  clear d4
  have d0 := h3.field (o := 0) (u := .int .i64 10) rfl
  have d3 := h3.field (o := 3) (u := B) rfl
  have t0 := (h3.cell HC1.out).1
  have lB := (HA.out.1 _ h3.arg).1.len
  obtain ⟨xa, xk, sx, hx, hx2⟩ := Own.roomcut h3.px hrx.out
  have HXX : Hid (∀ W, Has W (.slice xo rx.length xc) rx → Has W (.slice xa bB.length xk) bB) := hx
  have HX2 : Hid (∀ k, (Value.slice xa bB.length xk).ownBlock = some k → (Value.slice xo rx.length xc).ownBlock = some k) := hx2
  have D3 := hide h3.drew
  clear h3 H2 hx hx2
  go_wp2_with fail
  go_region_held3 (fun w' => w'.cell? ⟨T, k, none⟩ = some (.pointer (some ⟨p, 0, none⟩)) ∧ w'.cell? ⟨w.heap.size, 3, none⟩ = some B) (first | go_keep | exact ⟨(h4.cell HC1.out).1, h4.field rfl⟩) ((go_at_call 21; refine (D3.out.runW hm hbl HA.out.2.1 HXX.out HX2.out).mono ?_; rintro e w4 ⟨rfl, X4, v4, h4⟩))
  have e3 := h4.field (o := 3) (u := B) rfl
  have t2 := (h4.cell HC2.out).1
  have D4 := hide h4.drew
  clear h4 D3 d0 d3 t0 sx lB HXX HX2
  go_wp2_with fail
  go_region_held3 (fun w' => w'.cell? ⟨T, o2, none⟩ = some (.pointer (some ⟨q, 0, none⟩)) ∧ w'.cell? ⟨w.heap.size, 3, none⟩ = some B) (first | go_keep | exact ⟨(h5.cell HC2.out).1, h5.field rfl⟩) ((go_at_call 49; refine (vrun_any q u B most bs bB f _ D4.out.pb hm hbl (HA.out.1 _ D4.out.arg).1 HA.out.2.1).mono ?_; rintro e w5 ⟨rfl, hw5⟩; obtain ⟨X5, u5, h5⟩ := D4.out.vx hw5))
  clear D4 e3 t2 hw5
  have d3 := h5.field (o := 3) (u := B) rfl
  have H5 := hide h5
  clear h5
  go_wp2_with fail
  refine (H5.out.keptX B bB (HA.out.1 _ H5.out.arg).1 HA.out.2.1 hrx.out).mono ?_
  rintro e w6 ⟨rfl, h6⟩
  have d4 := h6.field (o := 4) (u := C) rfl
  have H6 := hide h6
  clear h6 H5 d3
  go_wp2_with fail
  refine (H6.out.keptY C bC (HA.out.1 _ H6.out.arg).2 HA.out.2.2 hry.out).mono ?_
  rintro e w7 ⟨rfl, h7⟩
  have H7 := hide h7
  clear h7 H6 d4
  go_wp2_with fail
  refine (H7.out.spoilX bB HA.out.2.1 hrx.out).mono ?_
  rintro e w8 ⟨rfl, X8, h8⟩
  have H8 := hide h8
  clear h8 H7
  go_wp2_with fail
  refine (H8.out.spoilY bC HA.out.2.2 hry.out).mono ?_
  rintro e w9 ⟨rfl, X9, h9⟩
  have H9 := hide h9
  clear h9 H8
  go_wp2
  go_ret
  refine ⟨rfl, ?_⟩
  have h9 := H9.out
  rw [HO2.out] at h9
  exact h9.doneW HT.out HX.out hk hn HS.out HR.out (fun _ _ _ _ => rfl) HC1.out (HO2.out ▸ HC2.out) hm (putr_len _ _ _ _ hbl) (fun j _ _ h => h)


end Go.Proofs.Ytgfgabgnejnipaa
