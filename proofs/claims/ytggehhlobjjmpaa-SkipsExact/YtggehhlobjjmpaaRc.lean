import Derived.Test.YtggehhlobjjmpaaRb
set_option linter.unusedVariables false
set_option linter.unusedSimpArgs false
namespace Go.Proofs.Ytggehhlobjjmpaa
open Go.RowKit

/-- Where a key is put. -/
structure InsP (s : Sk) (L : List Sk) (j : Nat) : Prop where
  le : j ≤ L.length
  lo : ∀ i a, i < j → L[i]? = some a → ¬ Lt s a
  hi : ∀ a, L[j]? = some a → Lt s a
def insL (s : Sk) (L : List Sk) (j : Nat) : List Sk := L.take j ++ (s :: L.drop j)
structure PtS (s : Sk) (L : List Sk) (x : Nat) (dn : Bool) (out : List Sk) : Prop where
  f : dn = false → out = L.take x ∧ ∀ i a, i < x → L[i]? = some a → ¬ Lt s a
  t : dn = true → ∃ j, j < x ∧ InsP s L j ∧ out = L.take j ++ (s :: (L.take x).drop j)
def ptE (q q3 : Nat) (d : Value × Bool × List Sk × Nat) : List (Nat × Value) := [(0, .pointer (some ⟨q, 0, none⟩)), (3, .pointer (some ⟨q3, 0, none⟩)), (4, d.1), (5, .bool d.2.1), (6, .int .i64 (d.2.2.2 : Int))]
structure PtR (w : World) (q q3 : Nat) (v : Value) (most : Nat) (L : List Sk) (s : Sk) (d : Value × Bool × List Sk × Nat) (W : World) : Prop where
  le : d.2.2.2 ≤ L.length
  rt : Rt W q v most L
  b3 : Blk W q3 s.cs 39
  so : So W d.1 d.2.2.1
  ow : ∀ b, d.1.ownBlock = some b → w.heap.size ≤ b ∧ b ≠ q3
  st : PtS s L d.2.2.2 d.2.1 d.2.2.1
  be : Below w.heap.size w W
  sl : d.2.2.1.length ≤ d.2.2.2 + 1
/-- The same, in the middle of a round. -/
structure PtM (w : World) (q q3 : Nat) (v : Value) (most : Nat) (L : List Sk) (s : Sk) (x : Nat) (d : Value × Bool × List Sk) (W : World) : Prop where
  rt : Rt W q v most L
  b3 : Blk W q3 s.cs 39
  so : So W d.1 d.2.2
  ow : ∀ b, d.1.ownBlock = some b → w.heap.size ≤ b ∧ b ≠ q3
  be : Below w.heap.size w W
  sl : d.2.2.length ≤ x + 1
  nx : ∀ a, L[x]? = some a → PtS s L (x + 1) d.2.1 (d.2.2 ++ [a])
def pmE (q q3 x : Nat) (d : Value × Bool × List Sk) : List (Nat × Value) := [(0, .pointer (some ⟨q, 0, none⟩)), (3, .pointer (some ⟨q3, 0, none⟩)), (4, d.1), (5, .bool d.2.1), (6, .int .i64 (x : Int))]
theorem take_drop_snoc {L : List Sk} {j x : Nat} {a : Sk} (h : L[x]? = some a) (hj : j ≤ x) : (L.take (x + 1)).drop j = (L.take x).drop j ++ [a] := by
  have hx := (List.getElem?_eq_some_iff.1 h).1
  rw [List.take_add_one, h, List.drop_append_of_le_length (by rw [List.length_take]; omega)]
  rfl
theorem PtS.keep {s : Sk} {L : List Sk} {x : Nat} {dn : Bool} {out : List Sk} (h : PtS s L x dn out) {a : Sk} (ha : L[x]? = some a) (hn : dn = false → ¬ Lt s a) : PtS s L (x + 1) dn (out ++ [a]) := by
  have hx := (List.getElem?_eq_some_iff.1 ha).1
  refine ⟨fun e => ?_, fun e => ?_⟩
  · obtain ⟨h1, h2⟩ := h.f e
    refine ⟨by rw [h1, List.take_add_one, ha]; rfl, fun i b hi hb => ?_⟩
    rcases Nat.lt_or_ge i x with hl | hl
    · exact h2 i b hl hb
    · rw [show i = x by omega, ha] at hb
      cases hb
      exact hn e
  · obtain ⟨j, h1, h2, h3⟩ := h.t e
    refine ⟨j, by omega, h2, ?_⟩
    rw [h3, take_drop_snoc ha (by omega), List.append_assoc]
    rfl
theorem PtS.ins {s : Sk} {L : List Sk} {x : Nat} {out : List Sk} (h : PtS s L x false out) {a : Sk} (ha : L[x]? = some a) (hl : Lt s a) : PtS s L (x + 1) true ((out ++ [s]) ++ [a]) := by
  have hx := (List.getElem?_eq_some_iff.1 ha).1
  refine ⟨fun e => (by cases e), fun _ => ?_⟩
  obtain ⟨h1, h2⟩ := h.f rfl
  refine ⟨x, by omega, ⟨by omega, h2, fun b hb => by rw [ha] at hb; cases hb; exact hl⟩, ?_⟩
  rw [h1, take_drop_snoc ha (Nat.le_refl _), List.drop_eq_nil_of_le (by rw [List.length_take]; omega), List.append_assoc]
  rfl
theorem szAny {w : World} {l : Nat} {C : World → Prop} : ∀ W, (fun W => Below w.heap.size w W) W → SZ (SB w) 0 l C W := fun _ h => .inr h
set_option maxRecDepth 100000 in
set_option maxHeartbeats 8000000 in
theorem put_any {w : World} {q : Nat} {v : Value} {most : Nat} {L : List Sk} (h : Rt w q v most L) (hL : L.length ≤ 1000) (s : Sk) (hs : s.ok) : Calls Try.prog 34 #[.pointer (some ⟨q, 0, none⟩), s.v] w fun e w' => e = .returned (.tuple #[]) ∧ ∃ v' j, Rt w' q v' most (insL s L j) ∧ InsP s L j ∧ Fx (fun k => k = q) w w' ∧ (∀ b, v'.ownBlock = some b → w.heap.size ≤ b) := by
  obtain ⟨w3, q3, r3, b3, l3, hq3⟩ := box39 s w
  refine calls_of_args [.pointer (some ⟨q, 0, none⟩), s.v] Try.func34 rfl 53 Try.ntmps34 (by show 2 ≤ 53; decide) ?_
  refine EW.seq ?_
  refine EW.region ?_
  refine WL.box rfl rfl rfl r3 ?_
  refine WL.done ?_
  refine EW.on ?_
  refine EW.seq ?_
  refine EW.region ?_
  first | refine WL.assign rfl rfl rfl ?_
  refine WL.done ?_
  refine EW.on ?_
  refine EW.seq ?_
  refine EW.region ?_
  first | refine WL.assign rfl rfl rfl ?_
  refine WL.done ?_
  refine EW.on ?_
  refine EW.seq ?_
  refine EW.seq ?_
  refine EW.region ?_
  first | refine WL.assign rfl rfl rfl ?_
  refine WL.done ?_
  refine EW.on ?_
  refine EW.block ?_
  refine EW.loop (ptE q q3) (PtR w q q3 v most L s) (fun x => L.length - x.2.2.2) (.slice none 0 0, false, [], 0) [0, 3, 4, 5, 6] rfl ⟨Nat.zero_le _, h.on l3, b3, So.nil _, fun b hb => (by cases hb), ⟨fun _ => ⟨rfl, fun i a hi => absurd hi (Nat.not_lt_zero _)⟩, fun e => (by cases e)⟩, l3, by decide⟩ ?_
  rintro x wi R
  have hxl := R.le
  show EW _ _ _ _ [(0, .pointer (some ⟨q, 0, none⟩)), (3, .pointer (some ⟨q3, 0, none⟩)), (4, x.1), (5, .bool x.2.1), (6, .int .i64 (x.2.2.2 : Int))] _
  refine EW.seq ?_
  refine EW.seq ?_
  refine EW.region ?_
  first | refine WL.move rfl rfl rfl ?_
  first | refine WL.move rfl rfl rfl ?_
  first | refine WL.nilc rfl rfl rfl ?_
  refine WL.field rfl rfl rfl (g68_0 q _) ?_
  refine WL.load rfl rfl rfl (ldL R.rt) ?_
  refine WL.len rfl rfl rfl (R.rt.so.sl.len _ _) ?_
  refine WL.bin rfl rfl rfl rfl (int_lt_d _ _ _ _ _) ?_
  refine WL.done ?_
  refine EW.on ?_
  refine EW.cond_d rfl (fun h13 => ?_) (fun h13 => ?_)
  · refine EW.skip ?_
    refine EW.on ?_
    refine EW.seq ?_
    refine EW.block ?_
    refine EW.join (pmE q q3 x.2.2.2) (PtM w q q3 v most L s x.2.2.2) ?_ ?_
    · refine EW.seq ?_
      have hlt : x.2.2.2 < L.length := by omega
      obtain ⟨a, ha⟩ : ∃ a, L[x.2.2.2]? = some a := ⟨_, List.getElem?_eq_getElem hlt⟩
      obtain ⟨ada, ixa, lda⟩ := h.so.sl.get ha
      rcases (show x.2.1 = true ∨ (x.2.1 = false ∧ ¬ Lt s a) ∨ (x.2.1 = false ∧ Lt s a) by
        by_cases h1 : Lt s a
        · cases x.2.1 <;> simp [h1]
        · cases x.2.1 <;> simp [h1]) with hdn | ⟨hdn, hla⟩ | ⟨hdn, hla⟩
      · rw [hdn]
        refine EW.ordB [(0, 0, 0), (1, 0, 0), (2, 0, 0), (3, 0, 1), (4, 0, 0), (5, 0, 0), (6, 0, 0), (7, 0, 1), (8, 0, 0), (9, 0, 0), (10, 0, 1), (11, 0, 0), (12, 0, 0)] (by kernel_rfl) rfl (by kernel_rfl) ?_
        simp only [opsZ, List.getD_cons_zero, List.getD_cons_succ]
        first | refine ZE.move rfl rfl rfl rfl sz0 ?_
        refine ZE.un rfl rfl rfl rfl sz0 (fun W => not_b _ W) ?_
        first | refine ZE.move rfl rfl rfl rfl sz0 ?_
        refine ZE.skip rfl rfl rfl szAny ?_
        refine ZE.skip rfl rfl rfl szAny ?_
        refine ZE.skip rfl rfl rfl szAny ?_
        refine ZE.skip rfl rfl rfl szAny ?_
        refine ZE.skip rfl rfl rfl szAny ?_
        refine ZE.skip rfl rfl rfl szAny ?_
        refine ZE.skip rfl rfl rfl szAny ?_
        refine ZE.skip rfl rfl rfl szAny ?_
        refine ZE.skip rfl rfl rfl sz0 ?_
        first | refine ZE.pick rfl rfl rfl rfl rfl sz0 ?_
        rintro W hW
        have M5 : PtM w q q3 v most L s x.2.2.2 (x.1, true, x.2.2.1) W := ⟨R.rt.on hW, R.b3.on hW, R.so.on hW, R.ow, bt R.be hW, R.sl, fun b hb => by
          have := R.st
          rw [hdn] at this
          exact this.keep hb (fun e => by cases e)⟩
        refine EW.on ?_
        refine EW.cond_f rfl ?_
        refine EW.skip ?_
        exact EW.met (x.1, true, x.2.2.1) [0, 3, 4, 5, 6] rfl M5
      · rw [hdn]
        refine EW.ordB [(0, 0, 0), (1, 0, 0), (2, 0, 0), (3, 0, 1), (4, 0, 0), (5, 0, 0), (6, 0, 0), (7, 0, 1), (8, 0, 0), (9, 0, 0), (10, 0, 1), (11, 1, 1), (12, 0, 0)] (by kernel_rfl) rfl (by kernel_rfl) ?_
        simp only [opsZ, List.getD_cons_zero, List.getD_cons_succ]
        first | refine ZE.move rfl rfl rfl rfl sz0 ?_
        refine ZE.un rfl rfl rfl rfl sz0 (fun W => not_b _ W) ?_
        first | refine ZE.move rfl rfl rfl rfl sz0 ?_
        refine ZE.load rfl rfl rfl rfl sz1 (fun W hW => ld39 (R.b3.on (sb_of hW)) hs) ?_
        first | refine ZE.move rfl rfl rfl rfl sz0 ?_ | refine ZE.skip rfl rfl rfl sz0 ?_
        first | refine ZE.nilc rfl rfl rfl rfl sz0 ?_ | refine ZE.skip rfl rfl rfl sz0 ?_
        refine ZE.field rfl rfl rfl rfl sz0 (fun W => g68_0 q W) ?_
        refine ZE.load rfl rfl rfl rfl sz1 (fun W hW => ldL (R.rt.on (sb_of hW))) ?_
        first | refine ZE.move rfl rfl rfl rfl sz0 ?_ | refine ZE.skip rfl rfl rfl sz0 ?_
        refine ZE.index rfl rfl rfl rfl rfl sz0 (fun W => ixa W) ?_
        refine ZE.load rfl rfl rfl rfl sz1 (fun W hW => (lda W (R.rt.on (sb_of hW)).so.sl).1) ?_
        refine ZE.callB (v := .bool false) [s.v, a.v] enter23 rfl rfl rfl (fun _ h => .inr h) (fun W hW => by have := ahead_any s a W; rw [decide_eq_false hla] at this; exact this) ?_
        first | refine ZE.pick rfl rfl rfl rfl rfl sz0 ?_
        rintro W hW
        have M5 : PtM w q q3 v most L s x.2.2.2 (x.1, false, x.2.2.1) W := ⟨R.rt.on hW, R.b3.on hW, R.so.on hW, R.ow, bt R.be hW, R.sl, fun b hb => by
          have h1 := R.st
          rw [hdn] at h1
          rw [ha] at hb
          cases hb
          exact h1.keep ha (fun _ => hla)⟩
        refine EW.on ?_
        refine EW.cond_f rfl ?_
        refine EW.skip ?_
        exact EW.met (x.1, false, x.2.2.1) [0, 3, 4, 5, 6] rfl M5
      · rw [hdn]
        refine EW.ordB [(0, 0, 0), (1, 0, 0), (2, 0, 0), (3, 0, 1), (4, 0, 0), (5, 0, 0), (6, 0, 0), (7, 0, 1), (8, 0, 0), (9, 0, 0), (10, 0, 1), (11, 1, 1), (12, 0, 0)] (by kernel_rfl) rfl (by kernel_rfl) ?_
        simp only [opsZ, List.getD_cons_zero, List.getD_cons_succ]
        first | refine ZE.move rfl rfl rfl rfl sz0 ?_
        refine ZE.un rfl rfl rfl rfl sz0 (fun W => not_b _ W) ?_
        first | refine ZE.move rfl rfl rfl rfl sz0 ?_
        refine ZE.load rfl rfl rfl rfl sz1 (fun W hW => ld39 (R.b3.on (sb_of hW)) hs) ?_
        first | refine ZE.move rfl rfl rfl rfl sz0 ?_ | refine ZE.skip rfl rfl rfl sz0 ?_
        first | refine ZE.nilc rfl rfl rfl rfl sz0 ?_ | refine ZE.skip rfl rfl rfl sz0 ?_
        refine ZE.field rfl rfl rfl rfl sz0 (fun W => g68_0 q W) ?_
        refine ZE.load rfl rfl rfl rfl sz1 (fun W hW => ldL (R.rt.on (sb_of hW))) ?_
        first | refine ZE.move rfl rfl rfl rfl sz0 ?_ | refine ZE.skip rfl rfl rfl sz0 ?_
        refine ZE.index rfl rfl rfl rfl rfl sz0 (fun W => ixa W) ?_
        refine ZE.load rfl rfl rfl rfl sz1 (fun W hW => (lda W (R.rt.on (sb_of hW)).so.sl).1) ?_
        refine ZE.callB (v := .bool true) [s.v, a.v] enter23 rfl rfl rfl (fun _ h => .inr h) (fun W hW => by have := ahead_any s a W; rw [decide_eq_true hla] at this; exact this) ?_
        first | refine ZE.pick rfl rfl rfl rfl rfl sz0 ?_
        rintro W hW
        have R6 : Blk W q3 s.cs 39 ∧ So W x.1 x.2.2.1 := ⟨R.b3.on hW, R.so.on hW⟩
        obtain ⟨vn, wn, c1, soN, lN, cN, hvN⟩ := bslS1 s hs W
        have hsl := R.sl
        have hlen : x.2.2.1.length = x.2.2.2 := by
          have h1 := R.st
          rw [hdn] at h1
          rw [(h1.f rfl).1, List.length_take]; omega
        obtain ⟨v6, w6, c2, so6, f6, n6⟩ := (R6.2.on lN).app soN.sl (by simp only [List.length_cons, List.length_nil]; omega) 36
        have bWn : Below w.heap.size w wn := bt R.be (bt hW lN)
        have q3l := R.b3.lt
        have b6 : Below w.heap.size w w6 := bWn.trans (f6.below (fun k hk e => by have := (R.ow k e).1; omega) bWn.size)
        have M6 : PtM w q q3 v most L s x.2.2.2 (v6, true, x.2.2.1 ++ [s]) w6 := ⟨h.on b6, (R6.1.on lN).fx f6 (fun e => (R.ow q3 e).2 rfl), so6, fun b hb => by
          rcases n6 b hb with e | e
          · exact R.ow b e
          · have h1 := bWn.size; have h2 := hW.size; have h3 := lN.size; exact ⟨by omega, by omega⟩, b6, by simp only [List.length_append, List.length_cons, List.length_nil]; omega, fun b hb => by
          have h1 := R.st
          rw [hdn] at h1
          rw [ha] at hb
          cases hb
          exact h1.ins ha hla⟩
        refine EW.on ?_
        refine EW.cond_t rfl ?_
        refine EW.seq ?_
        refine EW.region ?_
        first | refine WL.move rfl rfl rfl ?_
        refine WL.load rfl rfl rfl (ld39 R6.1 hs) ?_
        refine WL.bslN [(0, s.v)] rfl rfl rfl c1 ?_
        refine WL.app rfl rfl rfl rfl c2 ?_
        first | refine WL.assign rfl rfl rfl ?_
        refine WL.done ?_
        refine EW.on ?_
        refine EW.region ?_
        first | refine WL.assign rfl rfl rfl ?_
        refine WL.done ?_
        exact EW.met (v6, true, x.2.2.1 ++ [s]) [0, 3, 4, 5, 6] rfl M6
    · rintro d wj M
      show EW _ _ _ _ [(0, .pointer (some ⟨q, 0, none⟩)), (3, .pointer (some ⟨q3, 0, none⟩)), (4, d.1), (5, .bool d.2.1), (6, .int .i64 (x.2.2.2 : Int))] _
      have hlt : x.2.2.2 < L.length := by omega
      obtain ⟨a, ha⟩ : ∃ a, L[x.2.2.2]? = some a := ⟨_, List.getElem?_eq_getElem hlt⟩
      have hao := h.so.ok a (List.mem_of_getElem? ha)
      obtain ⟨ada, ixa, lda⟩ := h.so.sl.get ha
      obtain ⟨vn, wn, e1, soN, lN, cN, hvN⟩ := bslS1 a hao wj
      have hmsl := M.sl
      obtain ⟨v8, w8, e2, so8, f8, n8⟩ := (M.so.on lN).app soN.sl (by simp only [List.length_cons, List.length_nil]; omega) 36
      have bWn : Below w.heap.size w wn := bt M.be lN
      have b8 : Below w.heap.size w w8 := bWn.trans (f8.below (fun k hk e => by have := (M.ow k e).1; omega) bWn.size)
      have q3l := M.b3.lt
      have R9 : PtR w q q3 v most L s (v8, d.2.1, d.2.2 ++ [a], x.2.2.2 + 1) w8 := ⟨by show x.2.2.2 + 1 ≤ _; omega, h.on b8, (M.b3.on lN).fx f8 (fun e => (M.ow q3 e).2 rfl), so8, fun b hb => by
        rcases n8 b hb with e | e
        · exact M.ow b e
        · have h1 := bWn.size; have h2 := lN.size; exact ⟨by omega, by omega⟩, M.nx a ha, b8, by show (d.2.2 ++ [a]).length ≤ _; simp only [List.length_append, List.length_cons, List.length_nil]; omega⟩
      refine EW.region ?_
      first | refine WL.move rfl rfl rfl ?_
      first | refine WL.move rfl rfl rfl ?_
      first | refine WL.nilc rfl rfl rfl ?_
      refine WL.field rfl rfl rfl (g68_0 q _) ?_
      refine WL.load rfl rfl rfl (ldL M.rt) ?_
      first | refine WL.move rfl rfl rfl ?_
      refine WL.index rfl rfl rfl rfl (ixa _) ?_
      refine WL.load rfl rfl rfl (lda _ M.rt.so.sl).1 ?_
      refine WL.bslN [(0, a.v)] rfl rfl rfl e1 ?_
      refine WL.app rfl rfl rfl rfl e2 ?_
      first | refine WL.assign rfl rfl rfl ?_
      refine WL.done ?_
      refine pn_block ?_
      refine EW.on ?_
      refine EW.region ?_
      first | refine WL.move rfl rfl rfl ?_
      refine WL.bin rfl rfl rfl rfl (int_add (c := ((x.2.2.2 + 1 : Nat) : Int)) (by rw [IntKind.wrap_i64]; omega) _ _ _) ?_
      first | refine WL.assign rfl rfl rfl ?_
      refine WL.done ?_
      exact EW.again (E := ptE q q3) (R := PtR w q q3 v most L s) (m := fun x => L.length - x.2.2.2) (x := x) (v8, d.2.1, d.2.2 ++ [a], x.2.2.2 + 1) [0, 3, 4, 5, 6] rfl R9 (by show L.length - (x.2.2.2 + 1) < L.length - x.2.2.2; omega)
  · refine EW.exit ?_
    refine px_then ?_
    refine px_then ?_
    refine px_block ?_
    refine EW.on ?_
    refine EW.seq ?_
    refine EW.seq ?_
    rcases hdn : x.2.1 with _ | _
    · refine EW.region ?_
      first | refine WL.move rfl rfl rfl ?_
      refine WL.un rfl rfl rfl (not_b _ _) ?_
      refine WL.done ?_
      refine EW.on ?_
      refine EW.cond_t rfl ?_
      have hst := R.st
      rw [hdn] at hst
      have hsl := R.sl
      obtain ⟨vn, wn, c1, soN, lN, cN, hvN⟩ := bslS1 s hs wi
      obtain ⟨v6, w6, c2, so6, f6, n6⟩ := (R.so.on lN).app soN.sl (by simp only [List.length_cons, List.length_nil]; omega) 36
      have bWn : Below w.heap.size w wn := bt R.be lN
      have b6 : Below w.heap.size w w6 := bWn.trans (f6.below (fun k hk e => by have := (R.ow k e).1; omega) bWn.size)
      have hex : x.2.2.2 = L.length := by omega
      have so12 : So w6 v6 (insL s L L.length) := by
        have h1 := (hst.f rfl).1
        rw [hex, List.take_length] at h1
        have := so6
        rw [h1] at this
        unfold insL
        rw [List.take_length, List.drop_length]
        exact this
      have ins12 : InsP s L L.length := ⟨Nat.le_refl _, fun i b hi hb => (hst.f rfl).2 i b (by omega) hb, fun b hb => by rw [List.getElem?_eq_none (Nat.le_refl _)] at hb; cases hb⟩
      have ow12 : ∀ b, v6.ownBlock = some b → w.heap.size ≤ b := fun b hb => by
        rcases n6 b hb with e | e
        · exact (R.ow b e).1
        · have h1 := bWn.size; omega
      refine EW.region ?_
      first | refine WL.move rfl rfl rfl ?_
      refine WL.load rfl rfl rfl (ld39 R.b3 hs) ?_
      refine WL.bslN [(0, s.v)] rfl rfl rfl c1 ?_
      refine WL.app rfl rfl rfl rfl c2 ?_
      first | refine WL.assign rfl rfl rfl ?_
      refine WL.done ?_
      refine EW.on ?_
      obtain ⟨ws, rs, bs, fs⟩ := stL (h.bl.on b6) so12.shape
      have hqw := h.bl.lt
      refine EW.region ?_
      first | refine WL.move rfl rfl rfl ?_
      first | refine WL.move rfl rfl rfl ?_
      first | refine WL.nilc rfl rfl rfl ?_
      refine WL.field rfl rfl rfl (g68_0 q _) ?_
      refine WL.store rfl rfl rfl rs ?_
      refine WL.done ?_
      exact EW.falls Try.results34 ⟨rfl, v6, _, ⟨bs, so12.fx fs (fun b hb e => by have := ow12 b hb; omega)⟩, ins12, (Fx.of_below (S := fun k => k = q) b6).and fs, ow12⟩
    · refine EW.region ?_
      first | refine WL.move rfl rfl rfl ?_
      refine WL.un rfl rfl rfl (not_b _ _) ?_
      refine WL.done ?_
      refine EW.on ?_
      refine EW.cond_f rfl ?_
      refine EW.skip ?_
      refine EW.on ?_
      have hst := R.st
      rw [hdn] at hst
      obtain ⟨j, hj1, hj2, hj3⟩ := hst.t rfl
      rw [show x.2.2.2 = L.length by omega, List.take_length] at hj3
      obtain ⟨ws, rs, bs, fs⟩ := stL (h.bl.on R.be) R.so.shape
      have hqw := h.bl.lt
      refine EW.region ?_
      first | refine WL.move rfl rfl rfl ?_
      first | refine WL.move rfl rfl rfl ?_
      first | refine WL.nilc rfl rfl rfl ?_
      refine WL.field rfl rfl rfl (g68_0 q _) ?_
      refine WL.store rfl rfl rfl rs ?_
      refine WL.done ?_
      exact EW.falls Try.results34 ⟨rfl, x.1, j, ⟨bs, by have := R.so; rw [hj3] at this; exact this.fx fs (fun b hb e => by have := (R.ow b hb).1; omega)⟩, hj2, (Fx.of_below (S := fun k => k = q) R.be).and fs, fun b hb => (R.ow b hb).1⟩
end Go.Proofs.Ytggehhlobjjmpaa
