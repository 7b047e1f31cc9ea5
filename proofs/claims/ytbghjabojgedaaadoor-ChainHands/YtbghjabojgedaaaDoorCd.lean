import Derived.Test.YtbghjabojgedaaaDoorCc
import Derived.Test.YtbghjabojgedaaaDoorRe
set_option linter.unusedVariables false
set_option linter.unusedSimpArgs false
namespace Go.Proofs.YtbghjabojgedaaaDoor
open Go.RowKit

theorem int_lt_d (a b : Int) (W : World) (x y : Operand) : (do eqGuard .lss 3 x y (.int .i64 a) (.int .i64 b); binOp .lss 3 (.int .i64 a) (.int .i64 b) : Sem Value).run Tryd.prog W = .ok (.bool (decide (a < b))) W := by
  by_cases h : a < b
  · rw [decide_eq_true h]; exact int_lt_t h W x y
  · rw [decide_eq_false h]; exact int_lt_f h W x y
theorem int_gt_d (a b : Int) (W : World) (x y : Operand) : (do eqGuard .gtr 3 x y (.int .i64 a) (.int .i64 b); binOp .gtr 3 (.int .i64 a) (.int .i64 b) : Sem Value).run Tryd.prog W = .ok (.bool (decide (b < a))) W := by
  by_cases h : b < a
  · rw [decide_eq_true h]; exact int_gt_t h W x y
  · rw [decide_eq_false h]; exact int_gt_f h W x y
theorem int_eq_d {t : TypeId} (a b : Int) (W : World) (x y : Operand) : (do eqGuard .eql t x y (.int .i64 a) (.int .i64 b); binOp .eql t (.int .i64 a) (.int .i64 b) : Sem Value).run Tryd.prog W = .ok (.bool (decide (a = b))) W := by
  by_cases h : a = b
  · rw [decide_eq_true h]; exact int_eq_t h W x y
  · rw [decide_eq_false h]; exact int_eq_f h W x y
theorem int_ge_d (a b : Int) (W : World) (x y : Operand) : (do eqGuard .geq 3 x y (.int .i64 a) (.int .i64 b); binOp .geq 3 (.int .i64 a) (.int .i64 b) : Sem Value).run Tryd.prog W = .ok (.bool (decide (b ≤ a))) W := by
  by_cases h : b ≤ a
  · rw [decide_eq_true h]; exact int_ge_t h W x y
  · rw [decide_eq_false h]; exact int_ge_f h W x y
theorem int_ne_d {t : TypeId} (a b : Int) (W : World) (x y : Operand) : (do eqGuard .neq t x y (.int .i64 a) (.int .i64 b); binOp .neq t (.int .i64 a) (.int .i64 b) : Sem Value).run Tryd.prog W = .ok (.bool (decide (¬ a = b))) W := by
  by_cases h : a = b
  · rw [decide_eq_false (by simpa using h)]; exact int_ne_f h W x y
  · rw [decide_eq_true h]; exact int_ne_t h W x y
/-- A record's value: its table, its slices and what they hold. -/
theorem idx34 (ad : Addr) (n cap m : Nat) (h : m < n) (W : World) : (Instr.indexAt 34 (.slice (some ad) n cap) (.int .i64 (m : Int))).run Tryd.prog W = .ok (.pointer (some (ad.add m))) W := by
  have hm : (m : Int) < (n : Int) := by omega
  go_simp
theorem idxK (q m : Nat) (h : m < 32) (W : World) : (Instr.indexAt 23 (.pointer (some ⟨q, 0, none⟩)) (.int .i64 (m : Int))).run Tryd.prog W = .ok (.pointer (some ⟨q, m, none⟩)) W := by
  have hm : (m : Int) < 32 := by omega
  go_simp
  try simp
  try rw [add_plain]
theorem Has.item {w : World} {v : Value} {bs : List UInt8} (h : Has w v bs) {i : Nat} {u : UInt8} (hi : bs[i]? = some u) : ∃ ad, (∀ W, (Instr.indexAt 34 v (.int .i64 (i : Int))).run Tryd.prog W = .ok (.pointer (some ad)) W) ∧ (Instr.loadAt 5 (.pointer (some ad))).run Tryd.prog w = .ok (byt u) w := by
  rcases h with ⟨rfl, rfl⟩ | ⟨ad, cap, rfl, h2, h3⟩
  · simp at hi
  · refine ⟨_, fun W => idx34 ad _ cap i (List.getElem?_eq_some_iff.1 hi).1 W, ?_⟩
    have hc := h3 i u hi
    obtain ⟨a2, ha2⟩ : ∃ a2, ad.add i = a2 := ⟨_, rfl⟩
    rw [ha2] at hc ⊢
    unfold byt at *
    go_simp
theorem st5 {w : World} {ad : Addr} {v0 : Value} (u : UInt8) (hc : w.cell? ad = some v0) (hf : w.frozen? ad = false) : (Instr.storeAt 5 (.pointer (some ad)) (byt u)).run Tryd.prog w = .ok () (w.setCell ad (byt u)) := by
  unfold byt
  go_simp
/-- The first m bytes of a part. -/
def midK (X : List UInt8) (i m : Nat) : List UInt8 := (X.drop i).take m ++ List.replicate (32 - m) 0
theorem midK_length (X : List UInt8) (i m : Nat) (hX : i + 32 ≤ X.length) (hm : m ≤ 32) : (midK X i m).length = 32 := by
  unfold midK
  rw [List.length_append, List.length_take, List.length_drop, List.length_replicate]; omega
theorem midK_succ (X : List UInt8) (i m : Nat) (hX : i + 32 ≤ X.length) (hm : m < 32) (u : UInt8) (hu : X[i + m]? = some u) : (midK X i m).set m u = midK X i (m + 1) := by
  have hl : (X.drop i).length = X.length - i := List.length_drop
  have hd : (X.drop i)[m]? = some u := by rw [List.getElem?_drop]; exact hu
  unfold midK
  rw [List.set_append_right _ _ (by rw [List.length_take]; omega), List.length_take, hl, Nat.min_eq_left (by omega), Nat.sub_self, show 32 - m = (32 - (m + 1)) + 1 by omega, List.replicate_succ, List.set_cons_zero, List.take_add_one, hd]
  simp
theorem midK_zero (X : List UInt8) (i : Nat) : midK X i 0 = z32 := rfl
theorem midK_all (X : List UInt8) (i : Nat) : midK X i 32 = (X.drop i).take 32 := by simp [midK]
def kyE (vb : Value) (i p q t : Nat) : List (Nat × Value) := [(0, vb), (1, .int .i64 (i : Int)), (4, .pointer (some ⟨p, 0, none⟩)), (5, .pointer (some ⟨q, 0, none⟩)), (6, .int .i64 (t : Int))]
def KyI (w : World) (X : List UInt8) (i p q t : Nat) (W : World) : Prop := t ≤ 32 ∧ Blk W q ((midK X i t).map byt) 23 ∧ Blk W p (z32.map byt) 23 ∧ Below w.heap.size w W
set_option maxRecDepth 100000 in
set_option maxHeartbeats 1000000 in
theorem rkey_any (vb : Value) (X : List UInt8) (i : Nat) (w : World) (hb : Has w vb X) (hX : i + 32 ≤ X.length) (hXl : X.length ≤ 1000) : Calls Tryd.prog 23 #[vb, .int .i64 (i : Int)] w fun e w' => e = .returned (kv ((X.drop i).take 32)) ∧ Below w.heap.size w w' := by
  obtain ⟨w1, p, r1, b1, l1, hp⟩ := new23 w
  obtain ⟨w2, q, r2, b2, l2, hq⟩ := new23 w1
  have hne : p ≠ q := by have := b1.lt; omega
  refine calls_of_args [vb, .int .i64 (i : Int)] Tryd.func23 rfl 20 Tryd.ntmps23 (by show 2 ≤ 20; decide) ?_
  refine EW.seq ?_
  refine EW.region ?_
  refine WL.new rfl rfl r1 ?_
  refine WL.done ?_
  refine EW.on ?_
  refine EW.seq ?_
  refine EW.region ?_
  refine WL.new rfl rfl r2 ?_
  refine WL.done ?_
  refine EW.on ?_
  refine EW.seq ?_
  refine EW.seq ?_
  refine EW.region ?_
  first | refine WL.assign rfl rfl rfl ?_
  refine WL.done ?_
  refine EW.on ?_
  refine EW.block ?_
  refine EW.loop (kyE vb i p q) (KyI w X i p q) (fun t => 32 - t) 0 [0, 1, 4, 5, 6] rfl ⟨by decide, by rw [midK_zero]; exact b2, b1.on l2, bt l1 l2⟩ ?_
  rintro t wi ⟨htl, bq, bp, be⟩
  show EW _ _ _ _ [(0, vb), (1, .int .i64 (i : Int)), (4, .pointer (some ⟨p, 0, none⟩)), (5, .pointer (some ⟨q, 0, none⟩)), (6, .int .i64 (t : Int))] _
  refine EW.seq ?_
  refine EW.seq ?_
  refine EW.region ?_
  first | refine WL.move rfl rfl rfl ?_
  refine WL.bin rfl rfl rfl rfl (int_lt_d _ _ _ _ _) ?_
  refine WL.done ?_
  refine EW.on ?_
  refine EW.cond_d rfl (fun h8 => ?_) (fun h8 => ?_)
  · refine EW.skip ?_
    refine EW.on ?_
    refine EW.seq ?_
    refine EW.block ?_
    have hlt : t < 32 := by omega
    obtain ⟨u, hu⟩ : ∃ u, X[i + t]? = some u := ⟨_, List.getElem?_eq_getElem (by omega)⟩
    obtain ⟨ad, ix, ld⟩ := (hb.below be).item hu
    have hcq : ((midK X i t).map byt)[t]? = some (byt ((midK X i t)[t]'(by rw [midK_length X i t hX htl]; exact hlt))) := by rw [List.getElem?_map, List.getElem?_eq_getElem (by rw [midK_length X i t hX htl]; exact hlt)]; rfl
    refine EW.region ?_
    first | refine WL.move rfl rfl rfl ?_
    first | refine WL.move rfl rfl rfl ?_
    first | refine WL.move rfl rfl rfl ?_
    first | refine WL.move rfl rfl rfl ?_
    refine WL.bin rfl rfl rfl rfl (int_add (c := ((i + t : Nat) : Int)) (by rw [IntKind.wrap_i64]; omega) _ _ _) ?_
    refine WL.index rfl rfl rfl rfl (ix _) ?_
    refine WL.load rfl rfl rfl ld ?_
    refine WL.index rfl rfl rfl rfl (idxK q t hlt _) ?_
    refine WL.store rfl rfl rfl (st5 u (by rw [bq.cell]; exact hcq) (bq.frozen t)) ?_
    refine WL.done ?_
    refine pn_block ?_
    refine EW.on ?_
    refine EW.region ?_
    first | refine WL.move rfl rfl rfl ?_
    refine WL.bin rfl rfl rfl rfl (int_add (c := ((t + 1 : Nat) : Int)) (by rw [IntKind.wrap_i64]; omega) _ _ _) ?_
    first | refine WL.assign rfl rfl rfl ?_
    refine WL.done ?_
    have hsq : Below w.heap.size w (wi.setCell ⟨q, t, none⟩ (byt u)) := bf be (Fx.setCell wi q t _ rfl) (by have := l1.size; omega)
    refine EW.again (E := kyE vb i p q) (R := KyI w X i p q) (m := fun t => 32 - t) (x := t) (t + 1) [0, 1, 4, 5, 6] rfl ⟨by omega, ?_, bp.setOther q t _ hne, hsq⟩ (by show 32 - (t + 1) < 32 - t; omega)
    rw [← midK_succ X i t hX hlt u hu, List.map_set]
    exact bq.set t _
  · refine EW.exit ?_
    refine px_then ?_
    refine px_then ?_
    refine px_block ?_
    refine EW.on ?_
    refine EW.seq ?_
    obtain rfl : t = 32 := by omega
    refine EW.region ?_
    refine WL.load rfl rfl rfl (ld23 bq (midK_length X i 32 hX (by omega))) ?_
    obtain ⟨w5, s5, b5, f5⟩ := st23 bp z32l (midK_length X i 32 hX (by omega))
    refine WL.store rfl rfl rfl s5 ?_
    refine WL.done ?_
    refine EW.on ?_
    refine EW.ret ?_
    exact EW.retK Tryd.results23 rfl b5 (midK_length X i 32 hX (by omega)) ⟨by rw [midK_all], bf be f5 (by omega)⟩
/-- The tables lie there. -/
structure St3 (w : World) : Prop where
  k : Kst w
  r : Rst w
  b : Bst w
theorem St3.on {w w' : World} (h : St3 w) (hb : Below w.heap.size w w') : St3 w' := ⟨h.k.on hb, h.r.below hb h.r.lt, h.b.below hb h.b.lt⟩
end Go.Proofs.YtbghjabojgedaaaDoor
