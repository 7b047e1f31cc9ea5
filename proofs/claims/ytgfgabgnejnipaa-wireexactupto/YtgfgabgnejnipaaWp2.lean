import Derived.Test.YtgfgabgnejnipaaWp1
namespace Go.Proofs.Ytgfgabgnejnipaa
open Go.RowKit

set_option maxRecDepth 100000 in
set_option maxHeartbeats 4000000 in
theorem writes7 (T n : Nat) (X : Nat → Thing) (which N : Int) (B C : Value) (S : ByteArray) (bB bC : List UInt8) (w : World) (fw fr : Nat → Prop) (ht : Tab w T X n fw fr) (hfw : ∀ k, k < 2 → fw k) (hA : Args (X 9) B C bB bC) :
    Calls Try.prog 35 #[.pointer (some ⟨T, 0, none⟩), .agg #[.int .i64 7, .int .i64 which, .int .i64 N, B, C, .string S]] w fun e w' => e = .returned (.bool true) ∧ Left w' T X n fw fr := by
  obtain ⟨k, hk, hkk⟩ := and1 which
  obtain ⟨cs, L, V, ls, vs, hX, hn, hs, hr⟩ := ht.bk
  obtain ⟨p, v, q, u, most, bs, f, c1, c2, xa, xb, hm, hbl⟩ := hs k hk (hfw k hk)
  obtain ⟨X1, h1⟩ := ht.start k (2 + k) (by omega) (by omega) (by omega) #[.int .i64 7, .int .i64 which, .int .i64 N, B, C, .string S] hX
  rw [xa, xb] at h1
  have H1 := hide h1
  have HA := hide hA
  have HC1 := hide c1
  have HC2 := hide c2
  have i60 := idx60 T 0 k hk
  have i62 := idx62 T 2 k hk
  rw [Nat.zero_add] at i60
  obtain ⟨o2, ho2⟩ : ∃ o2, o2 = 2 + k := ⟨_, rfl⟩
  rw [← ho2] at H1 HC2 i62
  have HO2 := hide ho2
  have HT := hide ht
  have HX := hide hX
  have HS : Hid (∀ j, j < 2 → fw j → SlotW cs X j) := hs
  have HR : Hid (∀ j, j < 2 → fr j → SlotR cs X j) := hr
  clear h1 hA c1 c2 ho2 ht hX hs hr xa xb
  go_enter Try.func35, Try.ntmps35
  go_wp2_with fail
  refine (H1.out.roomX B bB (HA.out.1 _ H1.out.arg).1 HA.out.2.1).mono ?_
  rintro e w2 ⟨rx, xo, xc, X2, hrx, rfl, h2⟩
  have d4 := h2.field (o := 4) (u := C) rfl
  have H2 := hide h2
  clear h2 H1
  go_wp2_with fail
  refine (H2.out.roomY C bC (HA.out.1 _ H2.out.arg).2 HA.out.2.2).mono ?_
  rintro e w3 ⟨ry, yo, yc, X3, hry, rfl, h3⟩
  clear d4
  have d0 := h3.field (o := 0) (u := .int .i64 7) rfl
  have d2 := h3.field (o := 2) (u := .int .i64 N) rfl
  have t0 := (h3.cell HC1.out).1
  have D3 := hide h3.drew
  clear h3 H2
  go_wp2_with fail
  go_region_held3 (fun w' => w'.cell? ⟨T, k, none⟩ = some (.pointer (some ⟨p, 0, none⟩)) ∧ w'.cell? ⟨w.heap.size, 2, none⟩ = some (.int .i64 N)) (first | go_keep | exact ⟨(h4.cell HC1.out).1, h4.field rfl⟩) ((go_at_call 20; refine (u16x_any p v most bs f N _ D3.out.pa hm hbl).mono ?_; rintro e w4 ⟨rfl, hw4⟩; obtain ⟨X4, v4, h4⟩ := D3.out.wx hw4))
  have e2 := h4.field (o := 2) (u := .int .i64 N) rfl
  have t2 := (h4.cell HC2.out).1
  have D4 := hide h4.drew
  clear h4 D3 hw4 d0 d2 t0
  go_wp2_with fail
  go_region_held3 (fun w' => w'.cell? ⟨T, o2, none⟩ = some (.pointer (some ⟨q, 0, none⟩)) ∧ w'.cell? ⟨w.heap.size, 2, none⟩ = some (.int .i64 N)) (first | go_keep | exact ⟨(h5.cell HC2.out).1, h5.field rfl⟩) ((go_at_call 47; refine (vnum_any q u most bs f N 2 _ D4.out.pb hm hbl (by decide) (by decide)).mono ?_; rintro e w5 ⟨rfl, hw5⟩; obtain ⟨X5, u5, h5⟩ := D4.out.vx hw5))
  clear D4 hw5 e2 t2
  have d3 := h5.field (o := 3) (u := B) rfl
  have H5 := hide h5
  clear h5
  go_wp2_with fail
  refine (H5.out.keptX B bB (HA.out.1 _ H5.out.arg).1 HA.out.2.1 hrx.out).mono ?_
  rintro e w6 ⟨rfl, h6⟩
  have d4 := h6.field (o := 4) (u := C) rfl
  have H6 := hide h6
  clear h6 H5 d3
  go_wp2_with fail
  refine (H6.out.keptY C bC (HA.out.1 _ H6.out.arg).2 HA.out.2.2 hry.out).mono ?_
  rintro e w7 ⟨rfl, h7⟩
  have H7 := hide h7
  clear h7 H6 d4
  go_wp2_with fail
  refine (H7.out.spoilX bB HA.out.2.1 hrx.out).mono ?_
  rintro e w8 ⟨rfl, X8, h8⟩
  have H8 := hide h8
  clear h8 H7
  go_wp2_with fail
  refine (H8.out.spoilY bC HA.out.2.2 hry.out).mono ?_
  rintro e w9 ⟨rfl, X9, h9⟩
  have H9 := hide h9
  clear h9 H8
  go_wp2
  go_ret
  refine ⟨rfl, ?_⟩
  have h9 := H9.out
  rw [HO2.out] at h9
  exact h9.doneW HT.out HX.out hk hn HS.out HR.out (fun _ _ _ _ => rfl) HC1.out (HO2.out ▸ HC2.out) hm (putn_len _ _ _ _ _ hbl) (fun j _ _ h => h)

set_option maxRecDepth 100000 in
set_option maxHeartbeats 4000000 in
theorem writes8 (T n : Nat) (X : Nat → Thing) (which N : Int) (B C : Value) (S : ByteArray) (bB bC : List UInt8) (w : World) (fw fr : Nat → Prop) (ht : Tab w T X n fw fr) (hfw : ∀ k, k < 2 → fw k) (hA : Args (X 9) B C bB bC) :
    Calls Try.prog 35 #[.pointer (some ⟨T, 0, none⟩), .agg #[.int .i64 8, .int .i64 which, .int .i64 N, B, C, .string S]] w fun e w' => e = .returned (.bool true) ∧ Left w' T X n fw fr := by
  obtain ⟨k, hk, hkk⟩ := and1 which
  obtain ⟨cs, L, V, ls, vs, hX, hn, hs, hr⟩ := ht.bk
  obtain ⟨p, v, q, u, most, bs, f, c1, c2, xa, xb, hm, hbl⟩ := hs k hk (hfw k hk)
  obtain ⟨X1, h1⟩ := ht.start k (2 + k) (by omega) (by omega) (by omega) #[.int .i64 8, .int .i64 which, .int .i64 N, B, C, .string S] hX
  rw [xa, xb] at h1
  have H1 := hide h1
  have HA := hide hA
  have HC1 := hide c1
  have HC2 := hide c2
  have i60 := idx60 T 0 k hk
  have i62 := idx62 T 2 k hk
  rw [Nat.zero_add] at i60
  obtain ⟨o2, ho2⟩ : ∃ o2, o2 = 2 + k := ⟨_, rfl⟩
  rw [← ho2] at H1 HC2 i62
  have HO2 := hide ho2
  have HT := hide ht
  have HX := hide hX
  have HS : Hid (∀ j, j < 2 → fw j → SlotW cs X j) := hs
  have HR : Hid (∀ j, j < 2 → fr j → SlotR cs X j) := hr
  clear h1 hA c1 c2 ho2 ht hX hs hr xa xb
  go_enter Try.func35, Try.ntmps35
  go_wp2_with fail
  refine (H1.out.roomX B bB (HA.out.1 _ H1.out.arg).1 HA.out.2.1).mono ?_
  rintro e w2 ⟨rx, xo, xc, X2, hrx, rfl, h2⟩
  have d4 := h2.field (o := 4) (u := C) rfl
  have H2 := hide h2
  clear h2 H1
  go_wp2_with fail
  refine (H2.out.roomY C bC (HA.out.1 _ H2.out.arg).2 HA.out.2.2).mono ?_
  rintro e w3 ⟨ry, yo, yc, X3, hry, rfl, h3⟩
  clear d4
  have d0 := h3.field (o := 0) (u := .int .i64 8) rfl
  obtain ⟨m, hm1, hm2⟩ : ∃ m : Nat, bits .and .i64 N 4294967295 = (m : Int) ∧ m < 4294967296 := ⟨(N % 4294967296).toNat, by rw [mask32]; omega, by omega⟩
  have hm3 : IntKind.u32.wrap (m : Int) = (m : Int) := by rw [IntKind.wrap_u32]; omega
  have d2 := h3.field (o := 2) (u := .int .i64 N) rfl
  have t0 := (h3.cell HC1.out).1
  have D3 := hide h3.drew
  clear h3 H2
  go_wp2_with fail
  go_region_held3 (fun w' => w'.cell? ⟨T, k, none⟩ = some (.pointer (some ⟨p, 0, none⟩)) ∧ w'.cell? ⟨w.heap.size, 2, none⟩ = some (.int .i64 N)) (first | go_keep | exact ⟨(h4.cell HC1.out).1, h4.field rfl⟩) ((go_at_call 22; refine (u32x_any p v most bs f m _ D3.out.pa hm hbl hm2).mono ?_; rintro e w4 ⟨rfl, hw4⟩; obtain ⟨X4, v4, h4⟩ := D3.out.wx hw4))
  have e2 := h4.field (o := 2) (u := .int .i64 N) rfl
  have t2 := (h4.cell HC2.out).1
  have D4 := hide h4.drew
  clear h4 D3 hw4 d0 d2 t0
  go_wp2_with fail
  go_region_held3 (fun w' => w'.cell? ⟨T, o2, none⟩ = some (.pointer (some ⟨q, 0, none⟩)) ∧ w'.cell? ⟨w.heap.size, 2, none⟩ = some (.int .i64 N)) (first | go_keep | exact ⟨(h5.cell HC2.out).1, h5.field rfl⟩) ((go_at_call 47; refine (vnum_any q u most bs f (m : Int) 4 _ D4.out.pb hm hbl (by decide) (by decide)).mono ?_; rintro e w5 ⟨rfl, hw5⟩; obtain ⟨X5, u5, h5⟩ := D4.out.vx hw5))
  clear D4 hw5 e2 t2
  have d3 := h5.field (o := 3) (u := B) rfl
  have H5 := hide h5
  clear h5
  go_wp2_with fail
  refine (H5.out.keptX B bB (HA.out.1 _ H5.out.arg).1 HA.out.2.1 hrx.out).mono ?_
  rintro e w6 ⟨rfl, h6⟩
  have d4 := h6.field (o := 4) (u := C) rfl
  have H6 := hide h6
  clear h6 H5 d3
  go_wp2_with fail
  refine (H6.out.keptY C bC (HA.out.1 _ H6.out.arg).2 HA.out.2.2 hry.out).mono ?_
  rintro e w7 ⟨rfl, h7⟩
  have H7 := hide h7
  clear h7 H6 d4
  go_wp2_with fail
  refine (H7.out.spoilX bB HA.out.2.1 hrx.out).mono ?_
  rintro e w8 ⟨rfl, X8, h8⟩
  have H8 := hide h8
  clear h8 H7
  go_wp2_with fail
  refine (H8.out.spoilY bC HA.out.2.2 hry.out).mono ?_
  rintro e w9 ⟨rfl, X9, h9⟩
  have H9 := hide h9
  clear h9 H8
  go_wp2
  go_ret
  refine ⟨rfl, ?_⟩
  have h9 := H9.out
  rw [HO2.out] at h9
  exact h9.doneW HT.out HX.out hk hn HS.out HR.out (fun _ _ _ _ => rfl) HC1.out (HO2.out ▸ HC2.out) hm (putn_len _ _ _ _ _ hbl) (fun j _ _ h => h)

end Go.Proofs.Ytgfgabgnejnipaa
