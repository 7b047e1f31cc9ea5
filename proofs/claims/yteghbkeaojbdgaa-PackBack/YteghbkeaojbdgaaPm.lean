import Derived.Test.YteghbkeaojbdgaaPl
set_option linter.unusedVariables false
set_option linter.unusedSimpArgs false
namespace Go.Proofs.Yteghbkeaojbdgaa
open Go.RowKit

/-- What has been written of the new list when k of the old one are through. -/
def insK (ds : List Rc) (x : Rc) (k : Nat) : List Rc := if k ≤ placeN ds x then ds.take k else ds.take (placeN ds x) ++ x :: (ds.take k).drop (placeN ds x + if isAt ds x then 1 else 0)
theorem insK_le {ds : List Rc} {x : Rc} {k : Nat} (h : k ≤ placeN ds x) : insK ds x k = ds.take k := if_pos h
theorem insK_hi {ds : List Rc} {x : Rc} {k : Nat} (h : placeN ds x < k) : insK ds x k = ds.take (placeN ds x) ++ x :: (ds.take k).drop (placeN ds x + if isAt ds x then 1 else 0) := if_neg (Nat.not_le.2 h)
theorem insK_end {ds : List Rc} {x : Rc} (h : placeN ds x < ds.length) : insK ds x ds.length = insD ds x := by
  rw [insK_hi h, List.take_of_length_le (Nat.le_refl _)]; rfl
theorem insK_last {ds : List Rc} {x : Rc} (h : ¬ placeN ds x < ds.length) : insK ds x ds.length ++ [x] = insD ds x := by
  have := place_le ds x
  have e : placeN ds x = ds.length := by omega
  rw [insK_le (by omega)]
  unfold insD
  rw [e, List.drop_eq_nil_of_le (by omega)]
theorem insK_lt {ds : List Rc} {x y : Rc} {k : Nat} (hk : k < placeN ds x) (hy : ds[k]? = some y) : insK ds x (k + 1) = insK ds x k ++ [y] := by
  rw [insK_le (by omega), insK_le (by omega), List.take_add_one, hy]; rfl
theorem insK_at {ds : List Rc} {x y : Rc} {k : Nat} (hk : k = placeN ds x) (hy : ds[k]? = some y) : insK ds x (k + 1) = insK ds x k ++ x :: (if isAt ds x then [] else [y]) := by
  rw [insK_hi (by omega), insK_le (by omega), ← hk, List.take_add_one, hy]
  have hl := (List.getElem?_eq_some_iff.1 hy).1
  congr 2
  cases isAt ds x
  · show (ds.take k ++ [y]).drop (k + 0) = [y]
    rw [Nat.add_zero, List.drop_append, List.drop_eq_nil_of_le (by rw [List.length_take]; omega), List.length_take, Nat.min_eq_left (by omega), Nat.sub_self]; rfl
  · show (ds.take k ++ [y]).drop (k + 1) = []
    rw [List.drop_eq_nil_of_le (by simp; omega)]
theorem insK_gt {ds : List Rc} {x y : Rc} {k : Nat} (hk : placeN ds x < k) (hy : ds[k]? = some y) : insK ds x (k + 1) = insK ds x k ++ [y] := by
  have hl := (List.getElem?_eq_some_iff.1 hy).1
  rw [insK_hi (by omega), insK_hi hk, List.take_add_one, hy, List.append_assoc, List.cons_append]
  congr 2
  show (ds.take k ++ [y]).drop _ = _
  rw [List.drop_append, show (placeN ds x + if isAt ds x then 1 else 0) - (ds.take k).length = 0 by rw [List.length_take]; split <;> omega]
  rfl
/-- The law's sorted list. -/
def sortD (ds : List Rc) : List Rc := ds.foldl (fun acc d => insD acc (rightD d)) []
theorem sortD_snoc (ds : List Rc) (d : Rc) : sortD (ds ++ [d]) = insD (sortD ds) (rightD d) := by unfold sortD; rw [List.foldl_append]; rfl
theorem sortD_srt (ds : List Rc) : Srt (sortD ds) := by
  have key : ∀ (l acc : List Rc), Srt acc → Srt (l.foldl (fun acc d => insD acc (rightD d)) acc) := fun l => by
    induction l with
    | nil => exact fun acc h => h
    | cons d l ih => exact fun acc h => ih _ (h.ins (right_ok d))
  exact key ds [] Srt.nil
theorem sortD_len (ds : List Rc) : (sortD ds).length ≤ ds.length := by
  have key : ∀ (l acc : List Rc), (l.foldl (fun acc d => insD acc (rightD d)) acc).length ≤ acc.length + l.length := fun l => by
    induction l with
    | nil => exact fun acc => Nat.le_refl _
    | cons d l ih =>
      intro acc
      have h1 := ih (insD acc (rightD d))
      have h2 := ins_len acc (rightD d)
      simp only [List.foldl_cons, List.length_cons]
      omega
  have := key ds []
  simpa [sortD] using this
def soE (v : Value) (x : Nat × Value × List RV) : List (Nat × Value) := [(0, v), (3, x.2.1), (4, .int .i64 (x.1 : Int))]
def SoR (w : World) (ls : List RV) (x : Nat × Value × List RV) (W : World) : Prop := Below w.heap.size w W ∧ x.1 ≤ ls.length ∧ x.1 ≤ 60 ∧ Ls W x.2.1 x.2.2 ∧ x.2.2.map RV.d = sortD ((ls.map RV.d).take x.1) ∧ Fresh w x.2.1
def siE (v vo : Value) (i qr : Nat) (x : Nat × Value × List RV × Bool) : List (Nat × Value) := [(0, v), (3, vo), (4, .int .i64 (i : Int)), (5, .pointer (some ⟨qr, 0, none⟩)), (6, x.2.1), (7, .bool x.2.2.2), (8, .int .i64 (x.1 : Int))]
def SiR (w1 : World) (ds : List Rc) (d : Rc) (x : Nat × Value × List RV × Bool) (W : World) : Prop := Below w1.heap.size w1 W ∧ x.1 ≤ ds.length ∧ Ol W w1.heap.size x.2.1 x.2.2.1 ∧ x.2.2.1.map RV.d = insK ds d x.1 ∧ x.2.2.2 = decide (placeN ds d < x.1)
theorem insK_len (ds : List Rc) (x : Rc) (k : Nat) : (insK ds x k).length ≤ ds.length + 1 := by
  have := place_le ds x
  unfold insK
  split
  · rw [List.length_take]; omega
  · simp
    omega
end Go.Proofs.Yteghbkeaojbdgaa
