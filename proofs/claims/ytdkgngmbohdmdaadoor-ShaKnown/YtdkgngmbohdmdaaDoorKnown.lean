import Derived.Test.YtdkgngmbohdmdaaDoorKnS
import Derived.Test.YtdkgngmbohdmdaaDoorApart
import Derived.Lib.SlBytesConst
namespace Go.Proofs.YtdkgngmbohdmdaaDoor
open Go.RowKit


theorem Own.fx {S : Nat → Prop} {w w' : World} {base : Nat} {v : Value} {bs : List UInt8} (h : Own w base v bs) (hf : Fx S w w') (hd : ∀ k, v.ownBlock = some k → ¬ S k) : Own w' base v bs := by
  obtain ⟨h1, h | ⟨g, cap, cur, hv, hg, hh, r⟩⟩ := h
  · exact ⟨h1, .inl h⟩
  · refine ⟨h1, .inr ⟨g, cap, cur, hv, hg, ?_, r⟩⟩
    rw [hf.block g (Blk.lt (cs := cur.toList) (t := 5) (by unfold Blk; simpa using hh)) (hd g (by rw [hv]; rfl)), hh]
theorem has_newsM (W : World) (bs : List UInt8) (fr : Nat × Nat) : Has (W.alloc (.cells (bs.map byt).toArray 5 fr)) (.slice (some ⟨W.heap.size, 0, none⟩) bs.length bs.length) bs := by
  refine .inr ⟨_, _, rfl, Nat.le_refl _, fun i u hu => ?_⟩
  rw [add_plain, cell_of_row _ _ i _ 5 fr (heap_alloc_new W _), List.getElem?_toArray, List.getElem?_map, hu]
  rfl

/-- A hash at g, the thousand letters at ga. -/
structure KS (w x : World) (g ga : Nat) (mg xs : List UInt8) : Prop where
  hg : HAt x g mg
  ho : Own x w.heap.size (.slice (some ⟨ga, 0, none⟩) 1000 1000) xs
  lg : w.heap.size ≤ g
  la : w.heap.size ≤ ga
  ne : g ≠ ga
  al : xs.length = 1000
  be : Below w.heap.size w x
theorem KS.put {w x y : World} {g ga : Nat} {mg m xs : List UInt8} (h : KS w x g ga mg xs) (hh : HAt y g m) (hf : Fx (One g) x y) : KS w y g ga m xs := by
  exact ⟨hh, h.ho.fx hf (fun k hk (e : k = g) => h.ne (by simp [Value.ownBlock] at hk; omega)), h.lg, h.la, h.ne, h.al, h.be.trans (hf.below (fun j hj (e : j = g) => by have := h.lg; omega) h.be.size)⟩
theorem KS.set {w x : World} {g ga : Nat} {mg xs : List UInt8} (h : KS w x g ga mg xs) (j : Nat) (hj : j < 1000) : KS w (x.setCell ⟨ga, j, none⟩ (.int .u8 97)) g ga mg (xs.set j 97) := by
  have ho := h.ho
  have hw := Own.write (bs := xs) (by rw [h.al]; exact ho) j [97] (by rw [h.al]; simp; omega)
  rw [h.al] at hw
  have e : xs.take j ++ [97] ++ xs.drop (j + [(97 : UInt8)].length) = xs.set j 97 := by
    rw [List.set_eq_take_append_cons_drop, if_pos (by rw [h.al]; exact hj)]
    simp
  rw [e] at hw
  exact ⟨Blk.setOther h.hg _ _ _ h.ne, hw, h.lg, h.la, h.ne, by rw [List.length_set, h.al], h.be.setCell (by have := h.la; exact this) _⟩

def fill (k : Nat) : List UInt8 := mil k ++ List.replicate (1000 - k) 0
theorem fill_length (k : Nat) (h : k ≤ 1000) : (fill k).length = 1000 := by
  unfold fill
  rw [List.length_append, mil_length, List.length_replicate]
  omega
theorem fill_eq : fill 0 = List.replicate 1000 0 := by
  have h : ∀ n, mil 0 ++ List.replicate (n - 0) (0 : UInt8) = List.replicate n 0 := fun n => by rw [Nat.sub_zero]; exact List.nil_append _
  exact h 1000
theorem fill_zero {w : World} {base : Nat} {v : Value} (h : Own w base v (List.replicate 1000 0)) : Own w base v (fill 0) := by rw [fill_eq]; exact h
theorem fill_full : fill 1000 = mil 1000 := by
  unfold fill
  rw [Nat.sub_self]
  exact List.append_nil _
theorem fill_set (k : Nat) (h : k < 1000) : (fill k).set k 97 = fill (k + 1) := by
  unfold fill
  rw [List.set_append_right _ _ (by rw [mil_length]; exact Nat.le_refl _), mil_length, Nat.sub_self, show 1000 - k = (1000 - (k + 1)) + 1 by omega, List.replicate_succ, List.set_cons_zero]
  have : mil (k + 1) = mil k ++ [97] := (mil_append k 1).symm
  rw [this, List.append_assoc]
  rfl

theorem len_isK (p n : Nat) (m : List UInt8) (w : World) (h : HAt w p m) (hn : m.length = n) : Calls Tryd.prog 12 #[.pointer (some ⟨p, 0, none⟩)] w fun e w' => e = .returned (.int .i64 (n : Int)) ∧ w' = w := by
  subst hn
  exact len_any p m w h
theorem one_allK {W : World} {v : Value} {bs : List UInt8} (h : Has W v bs) : ∀ p ∈ [(v, bs)], Has W p.1 p.2 := by
  intro p hp
  simp only [List.mem_cons, List.not_mem_nil, or_false] at hp
  subst hp
  exact h

set_option maxHeartbeats 4000000 in
set_option maxRecDepth 100000 in
theorem known_any (w : World) (hK : Kst w) : Calls Tryd.prog 3 #[] w fun e w' => e = .returned (.bool true) ∧ Below w.heap.size w w' := by
  have HK := hide hK
  clear hK
  have hGD := guard24
  have kc := fun (w : World) (C : Array Value) (n c : Nat) => Lib.run_convert_bytes_const (P := Tryd.prog) w 26 5 C n c Tryd.underlying26 Tryd.underlying5
  have eqZ : ∀ W : World, (Op.equalIn 10000 24 (.agg (dgZ.map byt).toArray) (.agg #[.int .u8 227, .int .u8 176, .int .u8 196, .int .u8 66, .int .u8 152, .int .u8 252, .int .u8 28, .int .u8 20, .int .u8 154, .int .u8 251, .int .u8 244, .int .u8 200, .int .u8 153, .int .u8 111, .int .u8 185, .int .u8 36, .int .u8 39, .int .u8 174, .int .u8 65, .int .u8 228, .int .u8 100, .int .u8 155, .int .u8 147, .int .u8 76, .int .u8 164, .int .u8 149, .int .u8 153, .int .u8 27, .int .u8 120, .int .u8 82, .int .u8 184, .int .u8 85])).run Tryd.prog W = .ok true W := fun W => eq24 dgZ rfl W
  have eqC : ∀ W : World, (Op.equalIn 10000 24 (.agg (dgC.map byt).toArray) (.agg #[.int .u8 186, .int .u8 120, .int .u8 22, .int .u8 191, .int .u8 143, .int .u8 1, .int .u8 207, .int .u8 234, .int .u8 65, .int .u8 65, .int .u8 64, .int .u8 222, .int .u8 93, .int .u8 174, .int .u8 34, .int .u8 35, .int .u8 176, .int .u8 3, .int .u8 97, .int .u8 163, .int .u8 150, .int .u8 23, .int .u8 122, .int .u8 156, .int .u8 180, .int .u8 16, .int .u8 255, .int .u8 97, .int .u8 242, .int .u8 0, .int .u8 21, .int .u8 173])).run Tryd.prog W = .ok true W := fun W => eq24 dgC rfl W
  have eqM : ∀ W : World, (Op.equalIn 10000 24 (.agg (dgM.map byt).toArray) (.agg #[.int .u8 205, .int .u8 199, .int .u8 110, .int .u8 92, .int .u8 153, .int .u8 20, .int .u8 251, .int .u8 146, .int .u8 129, .int .u8 161, .int .u8 199, .int .u8 226, .int .u8 132, .int .u8 215, .int .u8 62, .int .u8 103, .int .u8 241, .int .u8 128, .int .u8 154, .int .u8 72, .int .u8 164, .int .u8 151, .int .u8 32, .int .u8 14, .int .u8 4, .int .u8 109, .int .u8 57, .int .u8 204, .int .u8 199, .int .u8 17, .int .u8 44, .int .u8 208])).run Tryd.prog W = .ok true W := fun W => eq24 dgM rfl W
  go_enter Tryd.func3, Tryd.ntmps3
  go_wp2_with fail
  refine (moves_any _ HK.out).mono ?_
  rintro e w1 ⟨rfl, hb1⟩
  have B1 := hide hb1
  clear hb1
  have K1 : Hid (Kst w1) := HK.out.below B1.out HK.out.lt
  go_wp2_with fail
  refine (sum_any (.slice none 0 0) [] w1 (.inl ⟨rfl, rfl⟩) K1.out (by simp) (by simp)).mono ?_
  rintro e w2 ⟨rfl, hb2⟩
  rw [show ([] : List (Value × List UInt8)).flatMap (·.2) = [] from rfl, sumZ]
  have B2 : Hid (Below w.heap.size w w2) := B1.out.trans (hb2.mono B1.out.size)
  clear hb2
  have K2 : Hid (Kst w2) := HK.out.below B2.out HK.out.lt
  go_wp2_with fail
  have hsn : Calls Tryd.prog 9 #[.slice (some ⟨w2.heap.size + 1, 0, none⟩) 1 1] ((w2.alloc (.cells #[.int .u8 97, .int .u8 98, .int .u8 99] 5 (3, 4))).alloc (.cells #[.slice (some ⟨w2.heap.size, 0, none⟩) 3 3] 26)) fun e w' => e = .returned (.agg (dgC.map byt).toArray) ∧ Below w2.heap.size w2 w' := by
    have h := sum_new (w2.alloc (.cells #[.int .u8 97, .int .u8 98, .int .u8 99] 5 (3, 4))) [(Value.slice (some ⟨w2.heap.size, 0, none⟩) 3 3, [97, 98, 99])] [97, 98, 99] (one_allK (has_newsM w2 [97, 98, 99] (3, 4))) (K2.out.below (below_new w2 _) K2.out.lt) (by simp) (by simp) (by simp)
    rw [show (w2.alloc (.cells #[.int .u8 97, .int .u8 98, .int .u8 99] 5 (3, 4))).heap.size = w2.heap.size + 1 by simp, sumC] at h
    exact h.mono fun e w' ⟨h1, h2⟩ => ⟨h1, (below_new w2 _).trans (h2.mono (by omega))⟩
  refine hsn.mono ?_
  clear hsn
  rintro e w3 ⟨rfl, hb3⟩
  have B3 : Hid (Below w.heap.size w w3) := B2.out.trans (hb3.mono B2.out.size)
  clear hb3
  have K3 : Hid (Kst w3) := HK.out.below B3.out HK.out.lt
  go_wp2_with fail
  refine (new_any _).mono ?_
  rintro e w4 ⟨g, rfl, hg4, hh4, hb4⟩
  have HG : Hid (w.heap.size ≤ g) := Nat.le_trans B3.out.size hg4
  have HH := hide hh4
  have B4 : Hid (Below w.heap.size w w4) := B3.out.trans (hb4.mono B3.out.size)
  clear hg4 hh4 hb4
  go_wp2_with (refine wpList_mk rfl (.const (.int .i64 1000)) (.const (.int .i64 1000)) rfl 1000 1000 1000 1000 rfl rfl rfl rfl (Nat.le_refl _) (by decide) w.heap.size B4.out.size ?_; intro w5 ho5 hb5; have S5 : Hid (KS w w5 g w4.heap.size [] (fill 0)) := ⟨Blk.below HH.out hb5 (Blk.lt HH.out), fill_zero ho5, HG.out, B4.out.size, (by have := Blk.lt HH.out; omega), fill_length 0 (by decide), B4.out.trans (hb5.mono B4.out.size)⟩; clear ho5 hb5)
  generalize w4.heap.size = ga at S5 ⊢
  go_loopw [3] (fun i wr => ∃ k : Nat, k ≤ 1000 ∧ i = .int .i64 k ∧ Hid (KS w wr g ga [] (fill k))) (fun i _ => 1000 - (intOf i).toNat)
  case atStart => exact ⟨0, by omega, rfl, S5⟩
  case round =>
    obtain ⟨k, hk, rfl, hx⟩ := hrel
    by_cases hlt : k < 1000
    · have hlz : (k : Int) < 1000 := by omega
      have hcx := Own.cells (bs := fill k) (by rw [fill_length k hk]; exact hx.out.ho) k (by rw [fill_length k hk]; exact hlt)
      obtain ⟨⟨u0, hu0⟩, hf0⟩ := hcx
      go_wp2
      go_roundw
      case rel => exact ⟨k + 1, by omega, by go_num, by rw [← fill_set k hlt]; exact hx.out.set k hlt⟩
      case measure => simp [intOf]; omega
    · obtain rfl : k = 1000 := by omega
      have hf1 := fill_full
      rw [hf1] at hx
      rw [show ((1000 : Nat) : Int) = 1000 from rfl]
      go_wp2
      go_loopw [4] (fun i wq => ∃ k : Nat, k ≤ 1000 ∧ i = .int .i64 k ∧ Hid (KS w wq g ga (mil (1000 * k)) (mil 1000))) (fun i _ => 1000 - (intOf i).toNat)
      case atStart => exact ⟨0, by omega, rfl, hx⟩
      case round =>
        obtain ⟨k, hk, rfl, hy⟩ := hrel
        by_cases hlt2 : k < 1000
        · have hlz : (k : Int) < 1000 := by omega
          go_wp2_with (go_at_call 11; refine (write_any g (mil (1000 * k)) (mil 1000) (.slice (some ⟨ga, 0, none⟩) 1000 1000) _ hy.out.hg hy.out.ho.has (.inr (fun e => hy.out.ne (by simp [Value.ownBlock] at e; omega))) (HK.out.below hy.out.be HK.out.lt) (by have := hy.out.lg; have := HK.out.lt; omega) (by rw [mil_length, mil_length]; omega)).mono ?_; rintro e w8 ⟨rfl, hh8, hf8⟩; rw [mil_append] at hh8; have S8 := hide (hy.out.put hh8 hf8); clear hh8 hf8)
          go_roundw
          case rel => exact ⟨k + 1, by omega, by go_num, by rw [show 1000 * (k + 1) = 1000 * k + 1000 by omega]; exact S8⟩
          case measure => simp [intOf]; omega
        · obtain rfl : k = 1000 := by omega
          rw [show 1000 * 1000 = 1000000 from rfl] at hy
          have hml := mil_length 1000000
          obtain ⟨ML, hML⟩ : ∃ ML, ML = mil 1000000 := ⟨_, rfl⟩
          have hsm := sumM
          rw [← hML] at hy hml hsm
          have HSM := hide hsm
          have HML := hide hml
          clear hML hml hsm
          go_wp2_with fail
          refine (len_isK g 1000000 ML _ hy.out.hg HML.out).mono ?_
          rintro e wl ⟨rfl, hwl⟩
          subst hwl
          go_wp2_with fail
          refine (hsum_any g ML _ hy.out.hg (HK.out.below hy.out.be HK.out.lt) (by rw [HML.out]; decide)).mono ?_
          rintro e w9 ⟨rfl, hb9⟩
          rw [HSM.out]
          have B9 : Hid (Below w.heap.size w w9) := hy.out.be.trans (hb9.mono hy.out.be.size)
          clear hb9
          go_wp2
          go_ret
          exact ⟨rfl, B9.out⟩
end Go.Proofs.YtdkgngmbohdmdaaDoor
