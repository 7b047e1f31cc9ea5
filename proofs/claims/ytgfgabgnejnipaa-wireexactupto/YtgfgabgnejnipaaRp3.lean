import Derived.Test.YtgfgabgnejnipaaWp4
import Derived.Test.YtgfgabgnejnipaaWp3
namespace Go.Proofs.Ytgfgabgnejnipaa
open Go.RowKit

theorem St.newR {w w' : World} {X0 X : Nat → Thing} {T : Nat} {cs : Array Value} {L V : Value} {ls vs : List Value} {a b : Nat} {YA YB x y l : Thing} {g : Nat} {oc : Array Value} {p : Nat} {v : Value} {all : List UInt8}
    (h : St w X0 X T cs L V ls vs a YA b YB g oc x y l) (hr : Rd w' p v all 0 0) (hp : w.heap.size ≤ p) (ho : Own w' w.heap.size v all) (hb : Below w.heap.size w w') : ∃ X', St w' X0 X' T cs L V ls vs a (rT p v all 0 0) b YB g oc x y l := by
  obtain ⟨X', f, e, o⟩ := h.fam.new a (rT p v all 0 0) hb ⟨hr, ho.weaken (Nat.zero_le _)⟩ (fun k hk => by
    rcases hk with rfl | hk
    · exact hp
    · exact ho.ownBlock k hk)
  exact ⟨X', h.setA f e o⟩
theorem St.newQ {w w' : World} {X0 X : Nat → Thing} {T : Nat} {cs : Array Value} {L V : Value} {ls vs : List Value} {a b : Nat} {YA YB x y l : Thing} {g : Nat} {oc : Array Value} {p : Nat} {v : Value} {all : List UInt8}
    (h : St w X0 X T cs L V ls vs a YA b YB g oc x y l) (hr : Qd w' p v all 0 0) (hp : w.heap.size ≤ p) (ho : Own w' w.heap.size v all) (hb : Below w.heap.size w w') : ∃ X', St w' X0 X' T cs L V ls vs a YA b (qT p v all 0 0) g oc x y l := by
  obtain ⟨X', f, e, o⟩ := h.fam.new b (qT p v all 0 0) hb ⟨hr, ho.weaken (Nat.zero_le _)⟩ (fun k hk => by
    rcases hk with rfl | hk
    · exact hp
    · exact ho.ownBlock k hk)
  exact ⟨X', h.setB f e o⟩

set_option maxRecDepth 100000 in
set_option maxHeartbeats 4000000 in
theorem reads12 (T n : Nat) (X : Nat → Thing) (which : Int) (k : Nat) (hk : k < 2) (hkk : bits .and .i64 which 1 = (k : Int)) (N : Int) (B C : Value) (S : ByteArray) (bB bC : List UInt8) (w : World) (fw fr : Nat → Prop) (ht : Tab w T X n fw fr) (hA : Args (X 9) B C bB bC) :
    Calls Try.prog 36 #[.pointer (some ⟨T, 0, none⟩), .agg #[.int .i64 12, .int .i64 which, .int .i64 N, B, C, .string S]] w fun e w' => e = .returned (.bool true) ∧ Left w' T X n fw (fun j => fr j ∨ j = k) := by
  obtain ⟨cs, L, V, ls, vs, hX, hn, hs, hr⟩ := ht.bk
  have hsz := (ht.fam.at hX).1.siz
  obtain ⟨u1, c1⟩ : ∃ u1, cs[4 + k]? = some u1 := ⟨cs[4 + k], by simp⟩
  obtain ⟨u2, c2⟩ : ∃ u2, cs[6 + k]? = some u2 := ⟨cs[6 + k], by simp⟩
  have HA := hide hA
  obtain ⟨X1, h1⟩ := ht.start (4 + k) (6 + k) (by omega) (by omega) (by omega) #[.int .i64 12, .int .i64 which, .int .i64 N, B, C, .string S] hX
  have H1 := hide h1
  have HC1 := hide c1
  have HC2 := hide c2
  have i63 := idx63 T 4 k hk
  have i65 := idx65 T 6 k hk
  obtain ⟨o4, ho4⟩ : ∃ o4, o4 = 4 + k := ⟨_, rfl⟩
  obtain ⟨o6, ho6⟩ : ∃ o6, o6 = 6 + k := ⟨_, rfl⟩
  rw [← ho4] at H1 HC1 i63
  rw [← ho6] at H1 HC2 i65
  have HO4 := hide ho4
  have HO6 := hide ho6
  have HT := hide ht
  have HX := hide hX
  have HS : Hid (∀ j, j < 2 → fw j → SlotW cs X j) := hs
  have HR : Hid (∀ j, j < 2 → fr j → SlotR cs X j) := hr
  clear h1 c1 c2 ho4 ho6 ht hX hs hr hA
  go_enter Try.func36, Try.ntmps36
  go_wp2_with fail
  refine (H1.out.roomX B bB (HA.out.1 _ H1.out.arg).1 HA.out.2.1).mono ?_
  rintro e w2 ⟨rx, xo, xc, X2, hrx, rfl, h2⟩
  have d3 := h2.field (o := 3) (u := B) rfl
  have lB := (HA.out.1 _ h2.arg).1.len
  obtain ⟨xa, xk, sx, hx, hx2⟩ := Own.roomcut h2.px hrx.out
  have HXX : Hid (∀ W, Has W (.slice xo rx.length xc) rx → Has W (.slice xa bB.length xk) bB) := hx
  have t4 := (h2.cell HC1.out).1
  have t4f := (h2.cell HC1.out).2
  have D2 := hide h2.drew
  clear h2 H1 hx hx2
  have hBl : bB.length ≤ 150000000000000 := by have := HA.out.2.1; omega
  go_wp2_with fail
  go_region_held3 (fun w' => w'.cell? ⟨w.heap.size, 3, none⟩ = some B) (first | go_keep | exact h3.field rfl | exact h4.field rfl) ((go_at_call 24; refine (rnewy_any (.slice xa bB.length xk) bB _ (HXX.out _ (Own.has D2.out.px)) hBl).mono ?_; rintro e w3 ⟨p, rv, rfl, hr3, hp3, ho3, hb3⟩; obtain ⟨X3, h3⟩ := D2.out.newR hr3 hp3 ho3 hb3; obtain ⟨X4, h4⟩ := h3.put o4 (HO4.out ▸ (show 4 + k < 8 by omega)) (.pointer (some ⟨p, 0, none⟩)); have y1 := (h3.cell HC1.out).1; have y2 := (h3.cell HC1.out).2))
  clear h3 D2 hr3 hp3 ho3 hb3 d3 lB sx HXX t4 t4f y1 y2
  have HC2' : Hid ((cs.setIfInBounds o4 (.pointer (some ⟨p, 0, none⟩)))[o6]? = some u2) := by
    show _ = _
    rw [get_set (by have := HO4.out; have := HO6.out; omega)]; exact HC2.out
  have HC1' : Hid ((cs.setIfInBounds o4 (.pointer (some ⟨p, 0, none⟩)))[o4]? = some (.pointer (some ⟨p, 0, none⟩))) := by
    show _ = _
    rw [Array.getElem?_setIfInBounds, if_pos rfl, if_pos (by have := HO4.out; omega)]
  generalize w3.setCell ⟨T, o4, none⟩ (.pointer (some ⟨p, 0, none⟩)) = w4 at *
  have d3 := h4.field (o := 3) (u := B) rfl
  have t6 := (h4.cell HC2'.out).1
  have t6f := (h4.cell HC2'.out).2
  have D4 := hide h4.drew
  clear h4
  go_wp2_with fail
  go_region_held3 (fun w' => w'.cell? ⟨w.heap.size, 3, none⟩ = some B) (first | go_keep | exact h5.field rfl | exact h6.field rfl) ((go_at_call 54; refine (qnewy_any B bB _ (HA.out.1 _ D4.out.arg).1 hBl).mono ?_; rintro e w5 ⟨q, qv, rfl, hr5, hp5, ho5, hb5⟩; obtain ⟨X5, h5⟩ := D4.out.newQ hr5 hp5 ho5 hb5; obtain ⟨X6, h6⟩ := h5.put o6 (HO6.out ▸ (show 6 + k < 8 by omega)) (.pointer (some ⟨q, 0, none⟩)); have y1 := (h5.cell HC2'.out).1; have y2 := (h5.cell HC2'.out).2))
  clear h5 D4 hr5 hp5 ho5 hb5 d3 t6 t6f y1 y2
  have HC2'' : Hid (((cs.setIfInBounds o4 (.pointer (some ⟨p, 0, none⟩))).setIfInBounds o6 (.pointer (some ⟨q, 0, none⟩)))[o6]? = some (.pointer (some ⟨q, 0, none⟩))) := by
    show _ = _
    rw [Array.getElem?_setIfInBounds, if_pos rfl, if_pos (by have := HO6.out; simp; omega)]
  have HC1'' : Hid (((cs.setIfInBounds o4 (.pointer (some ⟨p, 0, none⟩))).setIfInBounds o6 (.pointer (some ⟨q, 0, none⟩)))[o4]? = some (.pointer (some ⟨p, 0, none⟩))) := by
    show _ = _
    rw [get_set (by have := HO4.out; have := HO6.out; omega)]; exact HC1'.out
  generalize w5.setCell ⟨T, o6, none⟩ (.pointer (some ⟨q, 0, none⟩)) = w6 at *
  have d3 := h6.field (o := 3) (u := B) rfl
  have H6 := hide h6
  clear h6
  go_wp2_with fail
  refine (H6.out.keptX B bB (HA.out.1 _ H6.out.arg).1 HA.out.2.1 hrx.out).mono ?_
  rintro e w7 ⟨rfl, h7⟩
  have H7 := hide h7
  clear h7 H6 d3
  go_wp2_with fail
  refine (H7.out.spoilX bB HA.out.2.1 hrx.out).mono ?_
  rintro e w8 ⟨rfl, X8, h8⟩
  have t4 := (h8.cell HC1''.out).1
  have H8 := hide h8
  clear h8 H7
  go_wp2_with fail
  go_ret
  refine ⟨rfl, ?_⟩
  have h9 := H8.out
  have z1 := HC1''.out
  have z2 := HC2''.out
  rw [HO4.out, HO6.out] at h9 z1 z2
  refine h9.doneR HT.out HX.out hk hn HS.out HR.out (fun i hi h1 h2 => ?_) z1 z2 HA.out.2.1 (fun j _ hjk h => ?_)
  · rw [get_set (by omega), get_set (by omega)]
  · rcases h with h | h
    · exact h
    · exact absurd h hjk

end Go.Proofs.Ytgfgabgnejnipaa
