import Derived.Test.YtobfebpinkikdaaIa
set_option linter.unusedVariables false
set_option linter.unusedSimpArgs false
namespace Go.Proofs.Ytobfebpinkikdaa
open Go.RowKit

theorem st5 {w : World} {ad : Addr} {v0 : Value} (u : UInt8) (hc : w.cell? ad = some v0) (hf : w.frozen? ad = false) : (Instr.storeAt 5 (.pointer (some ad)) (byt u)).run Try.prog w = .ok () (w.setCell ad (byt u)) := by
  unfold byt
  go_simp
theorem Ob.setAt {w : World} {b : Nat} {v : Value} {bs : List UInt8} (h : Ob w b v bs) (hbw : b ≤ w.heap.size) (i : Nat) (hi : i < bs.length) (u : UInt8) : ∃ ad w', (∀ W, (Instr.indexAt 31 v (.int .i64 (i : Int))).run Try.prog W = .ok (.pointer (some ad)) W) ∧ (Instr.storeAt 5 (.pointer (some ad)) (byt u)).run Try.prog w = .ok () w' ∧ Ob w' b v (bs.set i u) ∧ Below b w w' := by
  obtain ⟨hx, ⟨rfl, h0⟩ | ⟨g, cp, cur, rfl, hg, hh2, hnc, hc, hs, htk⟩⟩ := h.row
  · simp only [h0] at hi; omega
  · have hcur : i < cur.size := by simp at hs; omega
    have hcell : w.cell? ⟨g, i, none⟩ = some cur[i] := by
      have := (show Blk w g cur.toList 5 from by unfold Blk; simpa using hh2).cell i
      rw [this, Array.getElem?_toList, Array.getElem?_eq_getElem hcur]
    have hbl : Blk w g cur.toList 5 := by unfold Blk; simpa using hh2
    have hbg := h.base g rfl
    refine ⟨⟨g, i, none⟩, w.setCell ⟨g, i, none⟩ (byt u), fun W => ?_, st5 u hcell (hbl.frozen i), ?_, (Fx.setCell (S := fun k => k = g) _ _ _ _ rfl).low hbg hbw⟩
    · have := idx31 ⟨g, 0, none⟩ bs.length cp i hi W
      rwa [add_plain] at this
    · refine ⟨⟨by simp, .inr ⟨g, cp, (cur.toList.set i (byt u)).toArray, by simp, hg, ?_, by simpa using hnc, hc, by simpa using hs, ?_⟩⟩, fun k hk => h.base k (by simpa [Value.ownBlock] using hk)⟩
      · have := hbl.set i (byt u)
        exact this
      · have e1 : (bs.set i u).map byt = (bs.map byt).set i (byt u) := by rw [List.map_set]
        rw [e1, List.length_set, ← htk]
        simp [List.take_set]
theorem cutB_set {c : List UInt8} {j a m : Nat} (x : UInt8) (h : j < a ∨ a + m ≤ j) : cutB (c.set j x) a m = cutB c a m := by
  unfold cutB
  rcases h with h | h
  · rw [List.drop_set_of_lt h]
  · rw [List.drop_set]
    split
    · rfl
    · rw [List.take_set_of_le (by omega)]
theorem cutB_set1 {c : List UInt8} {j : Nat} (x : UInt8) (h : j < c.length) : cutB (c.set j x) j 1 = [x] := by
  unfold cutB
  rw [List.drop_set, if_neg (by omega), Nat.sub_self, List.drop_eq_getElem_cons h]
  rfl
theorem cutB_set2 {c : List UInt8} {j : Nat} (x y : UInt8) (h : j + 1 < c.length) : cutB ((c.set j x).set (j + 1) y) j 2 = [x, y] := by
  rw [← cutB_add _ j 1 1, cutB_set _ (.inr (Nat.le_refl _)), cutB_set1 x (by omega), cutB_set1 y (by rw [List.length_set]; omega)]
  rfl
theorem un_flt {c : List UInt8} {k : Nat} {e : Int} (hE : begE c = 0) (hk : kdD c = k) (h12 : k = 1 ∨ k = 2) (hl : atD k + 62 ≤ c.length) (hf : fltD (k : Int) (hlD c k) (nD c k) = e) (he : ¬ e = 0) : unE c = e := by
  unfold unE
  rw [if_pos hE, hk, if_pos h12, if_neg (by omega), hf, if_neg he]
theorem beg_of {c : List UInt8} (h2 : 2 ≤ c.length) (h : cutB c 0 1 = [1]) : begE c = 0 := by
  unfold begE
  rw [if_neg (by omega), h, if_pos (show numB [1] = 1 from rfl)]
theorem beg_not {c : List UInt8} (h2 : 2 ≤ c.length) {v : UInt8} (h : cutB c 0 1 = [v]) (hv : ¬ v = 1) : begE c = 140 := by
  unfold begE
  rw [if_neg (by omega), h, if_neg]
  intro e
  apply hv
  have e' : v.toNat = 1 := by simpa [numB] using e
  exact UInt8.toNat_inj.1 e'
section
variable {k : Int} {h : Hl} {n : Int}
theorem flt_10 (hk : k = 1 ∨ k = 2) (hs : suitD k h) (hn : n < 32) : fltD k h n = 10 := by unfold fltD; rw [if_pos hk, if_pos hs, if_pos hn]
theorem flt_5 (hk : k = 1 ∨ k = 2) (hs : suitD k h) (hn : 544 < n) : fltD k h n = 5 := by unfold fltD; rw [if_pos hk, if_pos hs, if_neg (by omega), if_pos hn]
theorem flt_141 (hk : k = 1 ∨ k = 2) (hs : ¬ suitD k h) : fltD k h n = 141 := by unfold fltD; rw [if_pos hk, if_neg hs]
theorem flt_103 (hk : ¬ (k = 1 ∨ k = 2)) : fltD k h n = 103 := by unfold fltD; rw [if_neg hk]
end
/-- What the statement's bytes are, where they were changed. -/
structure Ord (c : List UInt8) (k : Nat) (h : Hl) (N : Nat) : Prop where
  beg : cutB c 0 1 = [1]
  kd : cutB c 1 1 = [UInt8.ofNat k]
  k12 : k = 1 ∨ k = 2
  hl : hlD c k = h
  len : c.length = N
  ge : atD k + 62 ≤ N
theorem atD_le (k : Nat) : 2 ≤ atD k ∧ atD k ≤ 70 := by unfold atD; split <;> omega
theorem Ord.kk {c : List UInt8} {k : Nat} {h : Hl} {N : Nat} (o : Ord c k h N) : kdD c = k := by
  unfold kdD
  rw [o.kd]
  rcases o.k12 with rfl | rfl <;> rfl
theorem Ord.len2 {c : List UInt8} {k : Nat} {h : Hl} {N : Nat} (o : Ord c k h N) (x y : UInt8) : Ord ((c.set (atD k + 60) x).set (atD k + 60 + 1) y) k h N ∧ nD ((c.set (atD k + 60) x).set (atD k + 60 + 1) y) k = numB [x, y] := by
  have ha := atD_le k
  have hge := o.ge
  have hlen := o.len
  refine ⟨⟨?_, ?_, o.k12, ?_, by simp [hlen], hge⟩, ?_⟩
  · rw [cutB_set _ (.inr (by omega)), cutB_set _ (.inr (by omega)), o.beg]
  · rw [cutB_set _ (.inr (by omega)), cutB_set _ (.inr (by omega)), o.kd]
  · rw [← o.hl]
    rcases o.k12 with rfl | rfl
    · unfold hlD
      rw [if_pos rfl, if_pos rfl]
      have e : atD 1 = 70 := rfl
      rw [cutB_set _ (.inr (by omega)), cutB_set _ (.inr (by omega)), cutB_set _ (.inr (by omega)), cutB_set _ (.inr (by omega)), cutB_set _ (.inr (by omega)), cutB_set _ (.inr (by omega))]
    · rfl
  · unfold nD
    rw [cutB_set2 x y (by omega)]
theorem Ord.un {c : List UInt8} {k : Nat} {h : Hl} {N : Nat} (o : Ord c k h N) {e : Int} (hf : fltD (k : Int) h (nD c k) = e) (he : ¬ e = 0) : unE c = e := by
  have ha := atD_le k
  have hge := o.ge
  have hlen := o.len
  exact un_flt (beg_of (by omega) o.beg) o.kk o.k12 (by omega) (by rw [o.hl]; exact hf) he
/-- The prekey's bytes put out. -/
theorem Ord.pre0 {c : List UInt8} {h : Hl} {N : Nat} (o : Ord c 1 h N) : Ord ((((c.set 66 0).set 67 0).set 68 0).set 69 0) 1 ⟨h.id, h.once, 0⟩ N := by
  have hge : 132 ≤ N := o.ge
  have hlen := o.len
  have hh := o.hl
  unfold hlD at hh
  rw [if_pos rfl] at hh
  refine ⟨?_, ?_, .inl rfl, ?_, by simp [hlen], o.ge⟩
  · rw [cutB_set _ (.inr (by omega)), cutB_set _ (.inr (by omega)), cutB_set _ (.inr (by omega)), cutB_set _ (.inr (by omega)), o.beg]
  · rw [cutB_set _ (.inr (by omega)), cutB_set _ (.inr (by omega)), cutB_set _ (.inr (by omega)), cutB_set _ (.inr (by omega)), o.kd]
  · unfold hlD
    rw [if_pos rfl]
    have e1 : cutB ((((c.set 66 0).set 67 0).set 68 0).set 69 0) 66 4 = [0, 0, 0, 0] := by
      rw [← cutB_add _ 66 2 2, cutB_set2 (c := (c.set 66 0).set 67 0) (j := 68) 0 0 (by simp; omega), cutB_set _ (.inr (by omega)), cutB_set _ (.inr (by omega)), cutB_set2 (c := c) (j := 66) 0 0 (by omega)]
      rfl
    rw [e1, cutB_set _ (.inr (by omega)), cutB_set _ (.inr (by omega)), cutB_set _ (.inr (by omega)), cutB_set _ (.inr (by omega)), cutB_set _ (.inr (by omega)), cutB_set _ (.inr (by omega)), cutB_set _ (.inr (by omega)), cutB_set _ (.inr (by omega)), ← hh]
    rfl
theorem kind_no {c : List UInt8} (h2 : 2 ≤ c.length) (hb : cutB c 0 1 = [1]) {x : Nat} (hx : 3 ≤ x) (hx2 : x < 256) : unE (c.set 1 (UInt8.ofNat x)) = 103 := by
  have hk : kdD (c.set 1 (UInt8.ofNat x)) = x := by
    unfold kdD
    rw [cutB_set1 _ (by omega)]
    simp only [numB, List.foldl_cons, List.foldl_nil, Nat.zero_mul, Nat.zero_add]
    rw [UInt8.toNat_ofNat', Nat.mod_eq_of_lt (by omega)]
  unfold unE
  rw [if_pos (beg_of (by simpa using h2) (by rw [cutB_set _ (.inr (by omega))]; exact hb)), hk, if_neg (by omega)]
theorem ver_no {c : List UInt8} (h2 : 2 ≤ c.length) {v : UInt8} (hv : ¬ v = 1) : unE (c.set 0 v) = 140 ∧ ofE (c.set 0 v) = 140 := by
  have hb : begE (c.set 0 v) = 140 := beg_not (by simpa using h2) (cutB_set1 v (by omega)) hv
  constructor
  · unfold unE
    rw [if_neg (by rw [hb]; decide), hb]
  · unfold ofE
    rw [if_neg (by rw [hb]; decide), hb]
/-- The hello that no packet has. -/
def badL : Hl := ⟨z32, 1 :: List.replicate 31 0, 0⟩
theorem badL_ok : badL.ok := ⟨rfl, rfl, by decide⟩
theorem badL_no {k : Int} : ¬ suitD k badL := fun h => by
  by_cases hk : k = 2
  · have := h.1 hk
    have h2 : (1 : UInt8) :: List.replicate 31 0 = z32 := congrArg Hl.once this
    have h3 : some (1 : UInt8) = some 0 := congrArg List.head? h2
    cases h3
  · exact (h.2 hk).1 rfl
theorem bd23_1 (W : World) : (Instr.build 23 [(0, .int .u8 1)].toArray).run Try.prog W = .ok (kv (1 :: List.replicate 31 0)) W := by kernel_rfl
theorem bd26_1 (W : World) : (Instr.build 26 [(1, kv (1 :: List.replicate 31 0))].toArray).run Try.prog W = .ok badL.v W := by kernel_rfl
theorem add5 {x : Nat} (h : x < 200) (W : World) (a b : Operand) : (do eqGuard .add 5 a b (.int .u8 3) (byt (UInt8.ofNat x)); binOp .add 5 (.int .u8 3) (byt (UInt8.ofNat x)) : Sem Value).run Try.prog W = .ok (byt (UInt8.ofNat (3 + x))) W := by
  have e : IntKind.u8.wrap (3 + (x : Int)) = ((3 + x : Nat) : Int) := by rw [IntKind.wrap_u8]; omega
  have e1 : ((UInt8.ofNat x).toNat : Int) = (x : Int) := by rw [UInt8.toNat_ofNat', Nat.mod_eq_of_lt (by omega)]
  have e2 : ((UInt8.ofNat (3 + x)).toNat : Int) = ((3 + x : Nat) : Int) := by rw [UInt8.toNat_ofNat', Nat.mod_eq_of_lt (by omega)]
  unfold byt
  rw [e1, e2]
  go_simp
theorem eq5_t (W : World) (x y : Operand) : (do eqGuard .eql 5 x y (byt 1) (.int .u8 1); binOp .eql 5 (byt 1) (.int .u8 1) : Sem Value).run Try.prog W = .ok (.bool true) W := by
  unfold byt
  go_simp
theorem eq5_f {v : UInt8} (h : ¬ v = 1) (W : World) (x y : Operand) : (do eqGuard .eql 5 x y (byt v) (.int .u8 1); binOp .eql 5 (byt v) (.int .u8 1) : Sem Value).run Try.prog W = .ok (.bool false) W := by
  have e : ¬ (v.toNat : Int) = 1 := fun e => h (UInt8.toNat_inj.1 (by show v.toNat = 1; omega))
  unfold byt
  go_simp
end Go.Proofs.Ytobfebpinkikdaa
