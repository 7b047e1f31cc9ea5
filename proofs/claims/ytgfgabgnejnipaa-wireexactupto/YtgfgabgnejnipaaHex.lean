import Derived.Test.YtgfgabgnejnipaaKit
import Derived.Deep.DeepCutAuto
import Derived.Lib.Bytealg
import Derived.Laws.StandIn
namespace Go.Proofs.Ytgfgabgnejnipaa
open Go.RowKit

theorem index_run (s : ByteArray) (c : UInt8) (w : World) : (callFunc 71 #[.string s, .int .u8 (c.toNat : Int)]).run Try.prog w = .ok (.value (.int .i64 (Lib.indexByte s.data.toList c))) w := by
  rw [run_callFunc_indexByte Try.func71 (by kernel_rfl) (by kernel_rfl) (by kernel_rfl) (by kernel_rfl), Lib.run_indexByteString]
  simp [Result.andThen]

set_option maxHeartbeats 400000 in
theorem index_any (s : ByteArray) (c : UInt8) (w : World) :
    Calls Try.prog 39 #[.string s, .int .u8 (c.toNat : Int)] w fun e w' => e = .returned (.int .i64 (Lib.indexByte s.data.toList c)) ∧ w = w' := by
  have h := index_run s c w
  go_enter Try.func39, Try.ntmps39
  go_wp2
  go_ret
  exact ⟨rfl, rfl⟩

theorem run_fits (w : World) (base g cap : Nat) (bs : List UInt8) (hown : Own w base (.slice (some ⟨g, 0, none⟩) bs.length cap) bs) (ad : Addr) (c : Nat) (ys : List UInt8)
    (hh : ∀ i u, ys[i]? = some u → w.cell? (ad.add i) = some (byt u)) (hfit : bs.length + ys.length ≤ cap) (ty : TypeId) :
    ∃ w', (Builtin.append_ #[22, 22] ty #[.slice (some ⟨g, 0, none⟩) bs.length cap, .slice (some ad) ys.length c]).run Try.prog w = .ok (.slice (some ⟨g, 0, none⟩) (bs.length + ys.length) cap) w' ∧
      Own w' base (.slice (some ⟨g, 0, none⟩) (bs ++ ys).length cap) (bs ++ ys) ∧ w.grownBy w' (some g) := by
  obtain ⟨i0, hi, hz0, hz1, hz2⟩ := info_parts Try.info5
  obtain ⟨w', h1, h2, h3⟩ := run_append_fits (P := Try.prog) w base 22 ty 5 i0 1 Try.underlying22 hi hz1 g bs.length cap (bs.map byt) hown ad ys.length c (ys.map byt) (by simp) (by
    intro j u hj
    simp only [List.getElem?_map, Option.map_eq_some_iff] at hj
    obtain ⟨b, hb, rfl⟩ := hj
    exact hh j b hb) (byt_one ys) hfit
  exact ⟨w', h1, by simpa [Own] using h2, h3⟩

/-- 'append(s, x...)' within the capacity, in a region that draws its order. -/
theorem step_fits {ops : Array Oper} {o : Oper} {a : Act} {w : World} {K : Act → World → Prop} {Q : Exit → Act → World → Prop} {E : Prop} (hgd : o.guard = none) (s x : Operand)
    (ho : o.op = .call { callee := .builtin .append, args := #[s, x], argTypes := #[22, 22] }) (base g cap n m : Nat) (bs : List UInt8) (hn : n = bs.length) (hs : a.eval s = .slice (some ⟨g, 0, none⟩) n cap) (hown : Own w base (.slice (some ⟨g, 0, none⟩) bs.length cap) bs)
    (ad : Addr) (c : Nat) (ys : List UInt8) (hm : m = ys.length) (hx : a.eval x = .slice (some ad) m c) (hh : ∀ i u, ys[i]? = some u → w.cell? (ad.add i) = some (byt u)) (hfit : n + m ≤ cap)
    (h : ∀ w', Own w' base (.slice (some ⟨g, 0, none⟩) (bs ++ ys).length cap) (bs ++ ys) → w.grownBy w' (some g) → K (a.put o.dst (.slice (some ⟨g, 0, none⟩) (n + m) cap)) w') : if Region.wanted o (yielded ops a.tmps) = true then Oper.wp Try.prog o a w K Q else E := by
  have hw : Region.wanted o (yielded ops a.tmps) = true := by simp [Region.wanted, hgd]
  rw [if_pos hw]
  subst hn hm
  obtain ⟨w', hrun, r1, r2⟩ := run_fits w base g cap bs hown ad c ys hh hfit o.type
  unfold Oper.wp
  simp [execOp, ho, resolve, invoke, builtin, hs, hx, hrun, Result.andThen]
  exact h w' r1 r2

/-- A digit of a half byte. -/
def dig (n : Nat) : UInt8 := [48, 49, 50, 51, 52, 53, 54, 55, 56, 57, 97, 98, 99, 100, 101, 102].getD n 0

def hexOf (bs : List UInt8) : List UInt8 := bs.flatMap fun b => [dig (b.toNat / 16), dig (b.toNat % 16)]

theorem hexOf_length (bs : List UInt8) : (hexOf bs).length = 2 * bs.length := by
  induction bs with
  | nil => rfl
  | cons b r ih => simp [hexOf] at ih ⊢; omega

theorem hexOf_take (bs : List UInt8) (k : Nat) (h : k < bs.length) : hexOf (bs.take (k + 1)) = hexOf (bs.take k) ++ [dig (bs[k].toNat / 16), dig (bs[k].toNat % 16)] := by
  unfold hexOf
  rw [List.take_succ_eq_append_getElem h, List.flatMap_append]; rfl

theorem and15 (c : UInt8) : bits .and .u8 (c.toNat : Int) 15 = ((c.toNat % 16 : Nat) : Int) := by
  have h := c.toNat_lt
  have := bits_mask .u8 8 (by decide) wraps_u8 4 (by decide) (c.toNat : Int) (by omega) (by omega)
  simpa using this

/-- The digit as the walk spells it. -/
def dAt (n : Int) (h : n.toNat < 16) : UInt8 := (⟨#[48, 49, 50, 51, 52, 53, 54, 55, 56, 57, 97, 98, 99, 100, 101, 102]⟩ : ByteArray)[n.toNat]'h

theorem dAt_eq (n : Int) (h : n.toNat < 16) (m : Nat) (e : n.toNat = m) : dAt n h = dig m := by
  subst e
  unfold dAt
  generalize hk : n.toNat = k at *
  rcases (show k = 0 ∨ k = 1 ∨ k = 2 ∨ k = 3 ∨ k = 4 ∨ k = 5 ∨ k = 6 ∨ k = 7 ∨ k = 8 ∨ k = 9 ∨ k = 10 ∨ k = 11 ∨ k = 12 ∨ k = 13 ∨ k = 14 ∨ k = 15 by omega) with rfl | rfl | rfl | rfl | rfl | rfl | rfl | rfl | rfl | rfl | rfl | rfl | rfl | rfl | rfl | rfl <;> rfl

theorem two_new (W X : World) (a b : UInt8) (h : Lik (W.alloc (.cells #[byt a, byt b] 5)) X) : ∀ i u, [a, b][i]? = some u → X.cell? ((⟨W.heap.size, 0, none⟩ : Addr).add i) = some (byt u) := by
  intro i u hu
  rw [add_plain]
  unfold World.cell?
  dsimp only
  rw [at_new W X _ h]
  match i, hu with
  | 0, hu => simp at hu; subst hu; simp
  | 1, hu => simp at hu; subst hu; simp

theorem hex_len (bs : List UInt8) (k : Nat) (h : k ≤ bs.length) : 2 * k = (hexOf (bs.take k)).length := by
  rw [hexOf_length, List.length_take, Nat.min_eq_left h]

set_option maxRecDepth 100000 in
set_option maxHeartbeats 1000000 in
theorem hex_some (ad : Addr) (cap : Nat) (bs : List UInt8) (w : World) (hn : bs.length ≤ 140737488351232) (hc : ∀ i u, bs[i]? = some u → w.cell? (ad.add i) = some (byt u)) :
    Calls Try.prog 8 #[.slice (some ad) bs.length cap] w fun e w' => e = .returned (.string ⟨(hexOf bs).toArray⟩) ∧ Below w.heap.size w w' := by
  obtain ⟨i0, hi, hz0, hz1, hz2⟩ := info_parts Try.info5
  go_enter Try.func8, Try.ntmps8
  go_wp2_with (at_make; refine wpList_make_own _ rfl _ _ _ rfl w.heap.size 5 i0 (.int .u8 0) 1 Try.underlying22 hi hz0 hz1 .i64 .i64 _ (2 * bs.length) rfl rfl (by omega) (by rw [hz2]; omega) (by unfold maxLen; omega) (Nat.le_refl _) ?_)
  intro w1 hown1 hg1
  have hbel1 := hide ((Below.refl w.heap.size w).grown hg1 (Nat.le_refl _) (by intro k hk; cases hk))
  have hown : Hid (Own w1 w.heap.size (.slice (some ⟨w.heap.size, 0, none⟩) ([] : List UInt8).length (2 * bs.length)) []) := hown1
  clear hown1 hg1 hi hz0 hz1 hz2 i0
  go_wp2
  go_loopw [3, 12] (fun t i wr => ∃ k : Nat, k ≤ bs.length ∧ i = .int .i64 k ∧ t = .slice (some ⟨w.heap.size, 0, none⟩) (2 * k) (2 * bs.length) ∧ Hid (Own wr w.heap.size (.slice (some ⟨w.heap.size, 0, none⟩) (hexOf (bs.take k)).length (2 * bs.length)) (hexOf (bs.take k))) ∧ Hid (Below w.heap.size w wr)) (fun _ i _ => bs.length - (intOf i).toNat)
  case atStart => exact ⟨0, Nat.zero_le _, rfl, rfl, hown, hbel1⟩
  case round =>
    obtain ⟨k, hk, rfl, rfl, hownr, hbelr⟩ := hrel
    clear hown hbel1
    by_cases hlt : k < bs.length
    · have hcell : wr.cell? (ad.add k) = some (.int .u8 (bs[k].toNat : Int)) := by
        have h1 := hc k bs[k] (List.getElem?_eq_getElem hlt)
        exact (hbelr.out.cell (cell_lt h1)).trans h1
      have hi : (k : Int) < (bs.length : Int) := by omega
      clear hc
      have HT := hide (hexOf_take bs k hlt)
      generalize bs[k] = c at *
      have i3 := and15 c
      have j0 : (c.toNat : Int) < 256 := by have := c.toNat_lt; omega
      have j1 : (c.toNat : Int) / 16 < 16 := by omega
      have j2 : (c.toNat : Int) % 16 < 16 := by omega
      go_wp2_with fail
      have k1 : ((c.toNat : Int) / 16).toNat < 16 := by omega
      have k2 : ((c.toNat : Int) % 16).toNat < 16 := by omega
      go_region_held3 (fun _ => True) (trivial) ((refine step_fits ?_ (.tmp 16) (.tmp 23) ?_ w.heap.size w.heap.size (2 * bs.length) (2 * k) 2 (hexOf (bs.take k)) ?_ ?_ ?_ ⟨wr.heap.size, 0, none⟩ 2 [dAt ((c.toNat : Int) / 16) k1, dAt ((c.toNat : Int) % 16) k2] ?_ ?_ ?_ ?_ ?_; rfl; rfl; exact hex_len bs k hk; rfl; exact hownr.out.below (bel_new wr _ _ ⟨rfl, rfl, rfl, rfl⟩); rfl; rfl; exact two_new wr _ _ _ ⟨rfl, rfl, rfl, rfl⟩; omega; intro w2 hown2 hg2))
      all_goals
        have hb2 : Hid (Below w.heap.size w w2) := ((hbelr.out.alloc hbelr.out.size _).drew).grown hg2 (by have := hbelr.out.size; simp; omega) (by intro j hj; cases hj; exact Nat.le_refl _)
        rw [dAt_eq _ k1 (c.toNat / 16) (by omega), dAt_eq _ k2 (c.toNat % 16) (by omega), ← HT.out] at hown2
        have HO2 := hide hown2
        clear hown2 hg2 hownr hbelr hcell
        go_wp2
        go_roundw
        case rel => exact ⟨k + 1, by omega, by go_num, rfl, HO2, hb2⟩
        case measure => simp [intOf]; omega
    · have hcv : (convert 22 9 (Value.slice (some ⟨w.heap.size, 0, none⟩) (2 * k) (2 * bs.length))).run Try.prog wr = .ok (.string ⟨(hexOf bs).toArray⟩) wr := by
        have h1 := hownr.out.has.convert
        rw [← hex_len bs k hk, List.take_of_length_le (by omega)] at h1
        exact h1
      clear hc
      go_wp2
      go_ret
      exact ⟨rfl, hbelr.out⟩

set_option maxRecDepth 100000 in
set_option maxHeartbeats 1000000 in
theorem hex_nil (w : World) : Calls Try.prog 8 #[.slice none 0 0] w fun e w' => e = .returned (.string ⟨#[]⟩) ∧ Below w.heap.size w w' := by
  obtain ⟨i0, hi, hz0, hz1, hz2⟩ := info_parts Try.info5
  go_enter Try.func8, Try.ntmps8
  go_wp2_with (at_make; refine wpList_make_own _ rfl _ _ _ rfl w.heap.size 5 i0 (.int .u8 0) 1 Try.underlying22 hi hz0 hz1 .i64 .i64 _ 0 rfl rfl (by omega) (by rw [hz2]; omega) (by unfold maxLen; omega) (Nat.le_refl _) ?_)
  intro w1 hown1 hg1
  have hbel1 := hide ((Below.refl w.heap.size w).grown hg1 (Nat.le_refl _) (by intro k hk; cases hk))
  have hown : Own w1 w.heap.size (.slice (some ⟨w.heap.size, 0, none⟩) ([] : List UInt8).length 0) [] := hown1
  have hcv := hown.has.convert
  simp only [List.length_nil] at hcv
  clear hown1 hg1 hi hz0 hz1 hz2 i0 hown
  go_wp2
  refine wp_loop_rounds 1 ?_
  rw [rounds_succ]
  go_wp2
  go_ret
  exact ⟨rfl, hbel1.out⟩

theorem hex_any (v : Value) (bs : List UInt8) (w : World) (h : Has w v bs) (hn : bs.length ≤ 140737488351232) :
    Calls Try.prog 8 #[v] w fun e w' => e = .returned (.string ⟨(hexOf bs).toArray⟩) ∧ Below w.heap.size w w' := by
  rcases h with ⟨rfl, rfl⟩ | ⟨ad, cap, rfl, h2, h3⟩
  · exact hex_nil w
  · exact hex_some ad cap bs w hn h3

end Go.Proofs.Ytgfgabgnejnipaa
