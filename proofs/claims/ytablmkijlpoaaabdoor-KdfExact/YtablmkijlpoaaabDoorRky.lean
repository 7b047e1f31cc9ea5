import Derived.Test.YtablmkijlpoaaabDoorAk
namespace Go.Proofs.YtablmkijlpoaaabDoor
open Go.RowKit

theorem ownsRow_fx {S : Nat → Prop} {w w' : World} {base : Nat} {e : TypeId} {size : Nat} {v : Value} {n : Nat} {xs : List Value} (h : w.ownsRow base e size v n xs) (hf : Fx S w w') (hd : ∀ k, v.ownBlock = some k → ¬ S k) : w'.ownsRow base e size v n xs := by
  obtain ⟨h1, h | ⟨g, cap, cur, rfl, hg, hh, r⟩⟩ := h
  · exact ⟨h1, .inl h⟩
  · refine ⟨h1, .inr ⟨g, cap, cur, rfl, hg, ?_, r⟩⟩
    rw [hf.block g (app_block hh) (hd g rfl), hh]
theorem ownsRow_below {w w' : World} {base : Nat} {e : TypeId} {size : Nat} {v : Value} {n : Nat} {xs : List Value} (h : w.ownsRow base e size v n xs) (hb : Below w.heap.size w w') : w'.ownsRow base e size v n xs :=
  ownsRow_fx (S := fun _ => False) h (Fx.of_below hb) (fun _ _ s => s)
theorem ownsRow_slice {w : World} {base : Nat} {e : TypeId} {size : Nat} {v : Value} {n : Nat} {xs : List Value} (h : w.ownsRow base e size v n xs) : ∃ ao c, v = .slice ao n c := by
  obtain ⟨h1, ⟨rfl, rfl⟩ | ⟨g, cap, cur, rfl, _⟩⟩ := h
  · exact ⟨none, 0, rfl⟩
  · exact ⟨_, _, rfl⟩

/-- The document's keys so far. -/
structure Ry (w x : World) (vb vo : Value) (X : List UInt8) (k : Nat) : Prop where
  hb : Has x vb X
  ow : x.ownsRow w.heap.size 35 32 vo k ((X.take (32 * k)).map byt)
  be : Below w.heap.size w x
  ne : X = [] ∨ ∀ q, vb.ownBlock = some q → ¬ vo.ownBlock = some q
def midK (X : List UInt8) (k m : Nat) : List UInt8 := (X.drop (32 * k)).take m ++ List.replicate (32 - m) 0
theorem midK_length (X : List UInt8) (n k m : Nat) (hX : X.length = 32 * n) (hk : k < n) (hm : m ≤ 32) : (midK X k m).length = 32 := by
  unfold midK
  rw [List.length_append, List.length_take, List.length_drop, List.length_replicate]; omega
theorem midK_succ (X : List UInt8) (n k m : Nat) (hX : X.length = 32 * n) (hk : k < n) (hm : m < 32) : (midK X k m).set m (X.getD (32 * k + m) 0) = midK X k (m + 1) := by
  have hl : (X.drop (32 * k)).length = X.length - 32 * k := List.length_drop
  unfold midK
  rw [List.set_append_right _ _ (by rw [List.length_take]; omega), List.length_take, hl, Nat.min_eq_left (by omega), Nat.sub_self, show 32 - m = (32 - (m + 1)) + 1 by omega, List.replicate_succ, List.set_cons_zero, List.take_succ_eq_append_getElem (by omega)]
  simp only [List.append_assoc, List.cons_append, List.nil_append]
  congr 2
  rw [List.getElem_drop, List.getD_eq_getElem?_getD, List.getElem?_eq_getElem (by omega)]
  rfl
theorem midK_all (X : List UInt8) (n k : Nat) (_hX : X.length = 32 * n) (_hk : k < n) : X.take (32 * k) ++ midK X k 32 = X.take (32 * (k + 1)) := by
  unfold midK
  rw [Nat.sub_self, List.replicate_zero, List.append_nil, ← List.take_add]
  rfl
structure Rz (w x : World) (vb vo : Value) (X : List UInt8) (k d m : Nat) : Prop where
  ry : Ry w x vb vo X k
  bd : Blk x d ((midK X k m).map byt) 35
  ld : w.heap.size ≤ d
  nb : X = [] ∨ ∀ q, vb.ownBlock = some q → ¬ One d q
  no : ∀ q, vo.ownBlock = some q → ¬ One d q

theorem rkeys_low (vs vk vi : Value) (n : Int) (w : World) (h0 : n < 0) : Calls Tryd.prog 29 #[vs, vk, vi, .int .i64 n] w fun e w' => e = .returned (.tuple #[.slice none 0 0, .int .i64 4]) ∧ w' = w := by
  go_enter Tryd.func29, Tryd.ntmps29
  go_wp2
  go_ret2
  exact ⟨rfl, rfl⟩
theorem rkeys_high (vs vk vi : Value) (n : Int) (w : World) (h0 : 255 < n) : Calls Tryd.prog 29 #[vs, vk, vi, .int .i64 n] w fun e w' => e = .returned (.tuple #[.slice none 0 0, .int .i64 30]) ∧ w' = w := by
  have h1 : ¬ n < 0 := by omega
  go_enter Tryd.func29, Tryd.ntmps29
  go_wp2
  go_ret2
  exact ⟨rfl, rfl⟩

set_option maxHeartbeats 1000000 in
set_option maxRecDepth 100000 in
/-- The document's 'Keys'. -/
theorem rkeys_ok (vs vk vi : Value) (salt key info X : List UInt8) (n : Nat) (w : World) (hs : Has w vs salt) (hk : Has w vk key) (hi : Has w vi info) (hsl : salt.length ≤ 100000000) (hkl : key.length ≤ 10000000) (hil : info.length ≤ 1000000) (hn : n ≤ 255) (hX : exOut (macOf salt key) info (32 * n) = X) (hR : Rst w) (hS : Bst w) :
    Calls Tryd.prog 29 #[vs, vk, vi, .int .i64 (n : Int)] w fun e w' => ∃ u, e = .returned (.tuple #[u, .int .i64 0]) ∧ w'.ownsRow w.heap.size 35 32 u n (X.map byt) ∧ Below w.heap.size w w' := by
  have HXL : Lk X.length (32 * n) := ⟨by rw [← hX]; exact exOut_length _ _ _⟩
  have hder : Hid (Calls Tryd.prog 26 #[vs, vk, vi, .int .i64 ((32 * n : Nat) : Int)] w fun e w' => ∃ u v, e = .returned (.tuple #[u, v]) ∧ (∃ ao c, u = .slice ao (32 * n) c ∧ v = .int .i64 0 ∧ Has w' u X ∧ Below w.heap.size w w')) := hide (by
    refine rderive_gen vs vk vi salt key (macOf salt key) _ rfl w hs hk hsl hkl hR hS (fun u v w' => ∃ ao c, u = .slice ao (32 * n) c ∧ v = .int .i64 0 ∧ Has w' u X ∧ Below w.heap.size w w') (fun d x hx hb => ?_)
    refine (rexpand_ok (.slice (some ⟨d, 0, none⟩) 32 32) vi (macOf salt key) info (32 * n) x hx (hi.below hb) (by rw [macOf_length]; decide) hil (by omega) (hR.below hb hR.lt) (hS.below hb hS.lt)).mono fun e w' ⟨ao, c, h1, h2, h3⟩ => ⟨_, _, h1, ao, c, rfl, rfl, by rw [← hX]; exact h2, hb.trans (h3.mono hb.size)⟩)
  have hnz : ¬ (255 : Int) < (n : Int) := by omega
  have hn0 : ¬ (n : Int) < 0 := by omega
  have hnc : (n : Int) ≤ 255 := by omega
  obtain ⟨N, hN⟩ : ∃ N, 32 * n = N := ⟨_, rfl⟩
  have HN : Lk (32 * n) N := ⟨hN⟩
  have hNz : 32 * (n : Int) = (N : Int) := by omega
  rw [hN] at hder HXL
  clear hs hk hi hX hR hS hN
  go_enter Tryd.func29, Tryd.ntmps29
  go_upto_region 10 with (go_at_call 26; refine hder.out.mono ?_; rintro e w1 ⟨u, v, rfl, ab, cb, rfl, rfl, hu, hb⟩; have HU := hide hu; have HB := hide hb; clear hu hb)
  go_loopw [12, 13] (fun o i wr => ∃ k : Nat, k ≤ n ∧ i = .int .i64 k ∧ ∃ ao co, o = .slice ao k co ∧ Hid (Ry w wr (.slice ab N cb) (.slice ao k co) X k)) (fun _ i _ => n - (intOf i).toNat)
  case atStart => exact ⟨0, by omega, rfl, none, 0, rfl, hide ⟨HU.out, by rw [Nat.mul_zero, List.take_zero]; exact World.ownsRow_nil _ _ _ _, HB.out, .inr (fun q _ e => by cases e)⟩⟩
  case round =>
    obtain ⟨k, hk, rfl, ao, co, rfl, hx⟩ := hrel
    by_cases hlt : k < n
    · have hlz : (k : Int) < (n : Int) := by omega
      have Z0 : Hid (Rz w (wr.alloc (.cells (z32.map byt).toArray 35)) (.slice ab N cb) (.slice ao k co) X k wr.heap.size 0) := hide (by
        have hb := below_new wr (.cells (z32.map byt).toArray 35)
        exact ⟨⟨hx.out.hb.below hb, ownsRow_below hx.out.ow hb, hx.out.be.trans (hb.mono hx.out.be.size), hx.out.ne⟩, Blk.new wr _ _, hx.out.be.size, (has_lt hx.out.hb wr.heap.size (Nat.le_refl _)).imp id (fun h q hq e => h (by rw [hq, e])), fun q hq (e : q = _) => by have := (hx.out.ow.lt q hq).2; omega⟩)
      go_upto_region 14 with (refine wpList_newAt rfl 35 rfl (z32.map byt) zero41 wr.heap.size rfl ?_)
      generalize wr.alloc (.cells (z32.map byt).toArray 35) = x0 at Z0 ⊢
      generalize wr.heap.size = d at Z0 ⊢
      clear hx
      go_loopw [15] (fun j wx => ∃ m : Nat, m ≤ 32 ∧ j = .int .i64 m ∧ Hid (Rz w wx (.slice ab N cb) (.slice ao k co) X k d m)) (fun j _ => 32 - (intOf j).toNat)
      case atStart => exact ⟨0, by omega, rfl, Z0⟩
      case round =>
        obtain ⟨m, hm, rfl, hy⟩ := hrel
        by_cases hm2 : m < 32
        · have hmz : (m : Int) < 32 := by omega
          have hNk : 32 * k + m < N := by rw [← HN.h]; omega
          obtain ⟨ad, ha, hc⟩ := has_at hy.out.ry.hb HXL.h (32 * k + m) hNk
          subst ha
          have hix := fun W => idx29 ad N cb (32 * k + m) hNk W
          have e1 : ((32 * k + m : Nat) : Int) = 32 * (k : Int) + (m : Int) := by omega
          rw [e1] at hix
          have hkb : (k : Int) < 255 := by omega
          have hcd : ∃ v, wr.cell? ⟨d, m, none⟩ = some v := ⟨_, by rw [hy.out.bd.cell, List.getElem?_eq_getElem (by rw [List.length_map, midK_length X n k m (by rw [HXL.h, ← HN.h]) hlt hm]; exact hm2)]⟩
          obtain ⟨vd, hcd⟩ := hcd
          have hfd := hy.out.bd.frozen m
          have Y1 : Hid (Rz w (wr.setCell ⟨d, m, none⟩ (.int .u8 ((X.getD (32 * k + m) 0).toNat : Int))) (.slice (some ad) N cb) (.slice ao k co) X k d (m + 1)) := hide (by
            have hf : Fx (One d) wr (wr.setCell ⟨d, m, none⟩ (.int .u8 ((X.getD (32 * k + m) 0).toNat : Int))) := Fx.setCell wr d m _ rfl
            refine ⟨⟨hy.out.ry.hb.fx2 hf hy.out.nb, ownsRow_fx hy.out.ry.ow hf hy.out.no, hy.out.ry.be.setCell hy.out.ld _, hy.out.ry.ne⟩, ?_, hy.out.ld, hy.out.nb, hy.out.no⟩
            have := hy.out.bd.set m (.int .u8 ((X.getD (32 * k + m) 0).toNat : Int))
            rw [show Value.int .u8 ((X.getD (32 * k + m) 0).toNat : Int) = byt (X.getD (32 * k + m) 0) from rfl, ← List.map_set, midK_succ X n k m (by rw [HXL.h, ← HN.h]) hlt hm2] at this
            exact this)
          generalize (X.getD (32 * k + m) 0).toNat = U at *
          clear hy e1
          go_wp2
          go_roundw
          case rel => exact ⟨m + 1, by omega, by go_num, Y1⟩
          case measure => simp [intOf]; omega
        · obtain rfl : m = 32 := by omega
          have HDL : Lk (midK X k 32).length 32 := ⟨midK_length X n k 32 (by rw [HXL.h, ← HN.h]) hlt (Nat.le_refl _)⟩
          have HDA : Lk (X.take (32 * k) ++ midK X k 32) (X.take (32 * (k + 1))) := ⟨midK_all X n k (by rw [HXL.h, ← HN.h]) hlt⟩
          obtain ⟨C, hC⟩ : ∃ C, midK X k 32 = C := ⟨_, rfl⟩
          have Y := hide hy.out.ry
          have BD := hide hy.out.bd
          rw [hC] at BD HDL HDA
          have hsC := info41 C HDL.h
          have NEWS : Hid (∀ j u, (C.map byt)[j]? = some u → (wr.alloc (.cells (C.map byt).toArray 35)).cell? ((⟨wr.heap.size, 0, none⟩ : Addr).add j) = some u) := hide (fun j u hj => by rw [add_plain, (Blk.new wr (C.map byt) 35).cell]; exact hj)
          have OW : Hid ((wr.alloc (.cells (C.map byt).toArray 35)).ownsRow w.heap.size 35 32 (.slice ao k co) k ((X.take (32 * k)).map byt)) := hide (ownsRow_below Y.out.ow (below_new wr _))
          have SZ : Hid (w.heap.size ≤ (wr.alloc (.cells (C.map byt).toArray 35)).heap.size) := hide (Nat.le_trans Y.out.be.size (below_new wr _).size)
          have HCM : Hid ((C.map byt).length = 1 * 32) := hide (by rw [List.length_map, HDL.h])
          have H1 : Hid (∀ u ∈ C.map byt, u.oneCell' = true) := hide (byt_one C)
          have hkn : k + 1 ≤ 1000000 := by omega
          clear hy hC
          go_wp2_with (first
            | (refine wpList_load_row rfl 35 (.tmp 14) rfl d rfl 35 (C.map byt).toArray (0, 0) _ BD.out Tryd.underlying35 rfl hsC ?_)
            | (refine wpList_bs1 rfl 63 35 (.tmp 51) rfl (C.map byt) rfl (by kernel_rfl) (by kernel_rfl) (by kernel_rfl) (by rw [List.length_map, HDL.h]) wr.heap.size rfl ?_)
            | (refine wpList_appE elt63 rfl (.tmp 50) (.tmp 52) rfl w.heap.size (.slice ao k co) k ((X.take (32 * k)).map byt) rfl OW.out ⟨wr.heap.size, 0, none⟩ 1 1 (C.map byt) rfl HCM.out NEWS.out H1.out hkn SZ.out ?_; intro v5 w5 ho5 hg5 hn5 _; obtain ⟨a5, c5, rfl⟩ := ownsRow_slice ho5; have O5 := hide ho5; have G5 := hide hg5; have N5 := hide hn5; clear ho5 hg5 hn5)
            | fail)
          have B1 : Below wr.heap.size wr (wr.alloc (.cells (C.map byt).toArray 35)) := below_new wr _
          have be5 : Below w.heap.size w w5 := (Y.out.be.trans (B1.mono Y.out.be.size)).grown G5.out SZ.out (fun q hq => (OW.out.lt q hq).1)
          have H5 : Has w5 (.slice ab N cb) X := (Y.out.hb.below B1).fx2 (Fx.grown (S := fun j => (Value.slice ao k co).ownBlock = some j) G5.out (fun _ e => e)) Y.out.ne
          have O6 := O5.out
          rw [← List.map_append, HDA.h] at O6
          have NE : X = [] ∨ ∀ q, (Value.slice ab N cb).ownBlock = some q → ¬ (Value.slice a5 (k + 1) c5).ownBlock = some q := by
            rcases Y.out.ne with h | h
            · exact .inl h
            · by_cases hX0 : X = []
              · exact .inl hX0
              · refine .inr (fun q h1 h2 => ?_)
                rcases N5.out q h2 with h3 | h3
                · exact h q h1 h3
                · rcases has_lt Y.out.hb q (Nat.le_trans B1.size h3) with h4 | h4
                  · exact hX0 h4
                  · exact h4 h1
          exact ⟨⟨k + 1, by omega, by go_num, a5, c5, rfl, hide ⟨H5, O6, be5, NE⟩⟩, by simp [intOf]; omega⟩
    · obtain rfl : k = n := by omega
      have hlz : ¬ (k : Int) < (k : Int) := by omega
      have O1 := hx.out.ow
      rw [List.take_of_length_le (by rw [HXL.h, HN.h]; exact Nat.le_refl _)] at O1
      have OO := hide O1
      have BE := hide hx.out.be
      clear O1 hx
      go_wp2
      go_ret2
      exact ⟨_, rfl, OO.out, BE.out⟩
end Go.Proofs.YtablmkijlpoaaabDoor
