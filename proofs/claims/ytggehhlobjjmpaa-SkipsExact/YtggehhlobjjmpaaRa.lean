import Derived.Test.YtggehhlobjjmpaaSn
set_option linter.unusedVariables false
set_option linter.unusedSimpArgs false
namespace Go.Proofs.Ytggehhlobjjmpaa
open Go.RowKit

/-- The document's table: its list in a block of its own, its bound. -/
structure Rt (w : World) (q : Nat) (v : Value) (most : Nat) (L : List Sk) : Prop where
  bl : Blk w q [v, .int .i64 (most : Int)] 68
  so : So w v L
theorem Rt.fx {S : Nat → Prop} {w w' : World} {q : Nat} {v : Value} {most : Nat} {L : List Sk} (h : Rt w q v most L) (hf : Fx S w w') (h1 : ¬ S q) (h2 : ∀ b, v.ownBlock = some b → ¬ S b) : Rt w' q v most L := ⟨h.bl.fx hf h1, h.so.fx hf h2⟩
theorem Rt.on {w w' : World} {q : Nat} {v : Value} {most : Nat} {L : List Sk} (h : Rt w q v most L) (hb : Below w.heap.size w w') : Rt w' q v most L := ⟨h.bl.on hb, h.so.on hb⟩
theorem g68_0 (q : Nat) (W : World) : (Instr.fieldAt 68 (.pointer (some ⟨q, 0, none⟩)) 0).run Try.prog W = .ok (.pointer (some ⟨q, 0, none⟩)) W := by go_simp
theorem g68_1 (q : Nat) (W : World) : (Instr.fieldAt 68 (.pointer (some ⟨q, 0, none⟩)) 1).run Try.prog W = .ok (.pointer (some ⟨q, 1, none⟩)) W := by go_simp
theorem ldL {w : World} {q : Nat} {v : Value} {most : Nat} {L : List Sk} (h : Rt w q v most L) : (Instr.loadAt 36 (.pointer (some ⟨q, 0, none⟩))).run Try.prog w = .ok v w := by
  have h1 : w.cell? ⟨q, 0, none⟩ = some v := by rw [h.bl.cell]; rfl
  obtain ⟨ao, c, rfl⟩ := h.so.sl.sl
  go_simp
theorem ldRm {w : World} {q : Nat} {v : Value} {most : Nat} {L : List Sk} (h : Rt w q v most L) : (Instr.loadAt 3 (.pointer (some ⟨q, 1, none⟩))).run Try.prog w = .ok (.int .i64 (most : Int)) w := by
  have h1 : w.cell? ⟨q, 1, none⟩ = some (.int .i64 (most : Int)) := by rw [h.bl.cell]; rfl
  go_simp
theorem stL {w : World} {q : Nat} {v u : Value} {m : Value} (hb : Blk w q [v, m] 68) (hu : ∃ ao n c, u = .slice ao n c) : ∃ w', (Instr.storeAt 36 (.pointer (some ⟨q, 0, none⟩)) u).run Try.prog w = .ok () w' ∧ Blk w' q [u, m] 68 ∧ Fx (fun k => k = q) w w' := by
  obtain ⟨ao, n, c, rfl⟩ := hu
  have h1 : w.cell? ⟨q, 0, none⟩ = some v := by rw [hb.cell]; rfl
  have hf := hb.frozen 0
  refine ⟨w.setCell ⟨q, 0, none⟩ (.slice ao n c), ?_, hb.set 0 _, Fx.setCell (S := fun k => k = q) _ _ _ _ rfl⟩
  go_simp
theorem So.shape {w : World} {v : Value} {l : List Sk} (h : So w v l) : ∃ ao n c, v = .slice ao n c := by
  obtain ⟨ao, c, e⟩ := h.sl.sl
  exact ⟨_, _, _, e⟩
theorem b68 (m : Int) (w : World) : (Instr.build 68 [(1, .int .i64 m)].toArray).run Try.prog w = .ok (.agg [.slice none 0 0, .int .i64 m].toArray) w := by go_simp
theorem box68 (m : Int) (w : World) : ∃ w1 q, (Instr.box 68 (.agg [.slice none 0 0, .int .i64 m].toArray)).run Try.prog w = .ok (.pointer (some ⟨q, 0, none⟩)) w1 ∧ Blk w1 q [.slice none 0 0, .int .i64 m] 68 ∧ Below w.heap.size w w1 ∧ q = w.heap.size := ⟨_, _, run_boxR 68 _ w _ rfl, Blk.new _ _ _, below_new _ _, rfl⟩
set_option maxRecDepth 100000 in
set_option maxHeartbeats 1000000 in
theorem rnew_ok (m : Int) (hm : 0 ≤ m ∧ m ≤ 256) (w : World) : Calls Try.prog 14 #[.int .i64 m] w fun e w' => ∃ q, e = .returned (.tuple #[.pointer (some ⟨q, 0, none⟩), .int .i64 0]) ∧ Rt w' q (.slice none 0 0) m.toNat [] ∧ w.heap.size ≤ q ∧ Below w.heap.size w w' := by
  obtain ⟨w2, q, r2, b2, l2, hq⟩ := box68 m w
  have h1 : ¬ m < 0 := by omega
  have h2 : ¬ (256 : Int) < m := by omega
  refine calls_of_args [.int .i64 m] Try.func14 rfl 13 Try.ntmps14 (by show 1 ≤ 13; decide) ?_
  refine EW.seq ?_
  refine EW.region ?_
  first | refine WL.assign rfl rfl rfl ?_
  first | refine WL.assign rfl rfl rfl ?_
  refine WL.done ?_
  refine EW.on ?_
  refine EW.seq ?_
  refine EW.seq ?_
  refine EW.region ?_
  first | refine WL.move rfl rfl rfl ?_
  first | refine WL.bin rfl rfl rfl rfl (int_lt_t ‹_› _ _ _) ?_ | refine WL.bin rfl rfl rfl rfl (int_lt_f ‹_› _ _ _) ?_ | refine WL.bin rfl rfl rfl rfl (int_lt_d _ _ _ _ _) ?_
  first | refine WL.move rfl rfl rfl ?_
  first | refine WL.move rfl rfl rfl ?_ | refine WL.skip _ rfl rfl rfl ?_
  first | refine WL.bin rfl rfl rfl rfl (int_gt_t ‹_› _ _ _) ?_ | refine WL.bin rfl rfl rfl rfl (int_gt_f ‹_› _ _ _) ?_ | refine WL.bin rfl rfl rfl rfl (int_gt_d _ _ _ _ _) ?_ | refine WL.skip _ rfl rfl rfl ?_
  first | refine WL.pick rfl rfl rfl rfl ?_
  refine WL.done ?_
  refine EW.on ?_
  refine EW.cond_f rfl ?_
  refine EW.skip ?_
  refine EW.on ?_
  refine EW.seq ?_
  refine EW.region ?_
  first | refine WL.move rfl rfl rfl ?_
  refine WL.buildN [(1, .int .i64 m)] rfl rfl rfl (b68 _ _) ?_
  refine WL.box rfl rfl rfl r2 ?_
  first | refine WL.assign rfl rfl rfl ?_
  first | refine WL.assign rfl rfl rfl ?_
  refine WL.done ?_
  refine EW.on ?_
  refine EW.ret ?_
  exact EW.returns2 Try.results14 rfl rfl ⟨q, rfl, ⟨by rw [Int.toNat_of_nonneg hm.1]; exact b2, So.nil _⟩, by omega, l2⟩
set_option maxRecDepth 100000 in
set_option maxHeartbeats 1000000 in
theorem rnew_no (m : Int) (hm : m < 0 ∨ 256 < m) (w : World) : Calls Try.prog 14 #[.int .i64 m] w fun e w' => e = .returned (.tuple #[.pointer none, .int .i64 2]) ∧ w' = w := by
  rcases hm with h1 | h1
  · refine calls_of_args [.int .i64 m] Try.func14 rfl 13 Try.ntmps14 (by show 1 ≤ 13; decide) ?_
    refine EW.seq ?_
    refine EW.region ?_
    first | refine WL.assign rfl rfl rfl ?_
    first | refine WL.assign rfl rfl rfl ?_
    refine WL.done ?_
    refine EW.on ?_
    refine EW.seq ?_
    refine EW.seq ?_
    refine EW.region ?_
    first | refine WL.move rfl rfl rfl ?_
    first | refine WL.bin rfl rfl rfl rfl (int_lt_t ‹_› _ _ _) ?_ | refine WL.bin rfl rfl rfl rfl (int_lt_f ‹_› _ _ _) ?_ | refine WL.bin rfl rfl rfl rfl (int_lt_d _ _ _ _ _) ?_
    first | refine WL.move rfl rfl rfl ?_
    first | refine WL.move rfl rfl rfl ?_ | refine WL.skip _ rfl rfl rfl ?_
    first | refine WL.bin rfl rfl rfl rfl (int_gt_t ‹_› _ _ _) ?_ | refine WL.bin rfl rfl rfl rfl (int_gt_f ‹_› _ _ _) ?_ | refine WL.bin rfl rfl rfl rfl (int_gt_d _ _ _ _ _) ?_ | refine WL.skip _ rfl rfl rfl ?_
    first | refine WL.pick rfl rfl rfl rfl ?_
    refine WL.done ?_
    refine EW.on ?_
    refine EW.cond_t rfl ?_
    refine EW.seq ?_
    refine EW.region ?_
    first | refine WL.assign rfl rfl rfl ?_
    first | refine WL.assign rfl rfl rfl ?_
    refine WL.done ?_
    refine EW.on ?_
    refine EW.ret ?_
    refine pr_then ?_
    exact EW.returns2 Try.results14 rfl rfl ⟨rfl, rfl⟩
  · refine calls_of_args [.int .i64 m] Try.func14 rfl 13 Try.ntmps14 (by show 1 ≤ 13; decide) ?_
    refine EW.seq ?_
    refine EW.region ?_
    first | refine WL.assign rfl rfl rfl ?_
    first | refine WL.assign rfl rfl rfl ?_
    refine WL.done ?_
    refine EW.on ?_
    refine EW.seq ?_
    refine EW.seq ?_
    have h2 : ¬ m < 0 := by omega
    refine EW.region ?_
    first | refine WL.move rfl rfl rfl ?_
    first | refine WL.bin rfl rfl rfl rfl (int_lt_t ‹_› _ _ _) ?_ | refine WL.bin rfl rfl rfl rfl (int_lt_f ‹_› _ _ _) ?_ | refine WL.bin rfl rfl rfl rfl (int_lt_d _ _ _ _ _) ?_
    first | refine WL.move rfl rfl rfl ?_
    first | refine WL.move rfl rfl rfl ?_ | refine WL.skip _ rfl rfl rfl ?_
    first | refine WL.bin rfl rfl rfl rfl (int_gt_t ‹_› _ _ _) ?_ | refine WL.bin rfl rfl rfl rfl (int_gt_f ‹_› _ _ _) ?_ | refine WL.bin rfl rfl rfl rfl (int_gt_d _ _ _ _ _) ?_ | refine WL.skip _ rfl rfl rfl ?_
    first | refine WL.pick rfl rfl rfl rfl ?_
    refine WL.done ?_
    refine EW.on ?_
    refine EW.cond_t rfl ?_
    refine EW.seq ?_
    refine EW.region ?_
    first | refine WL.assign rfl rfl rfl ?_
    first | refine WL.assign rfl rfl rfl ?_
    refine WL.done ?_
    refine EW.on ?_
    refine EW.ret ?_
    refine pr_then ?_
    exact EW.returns2 Try.results14 rfl rfl ⟨rfl, rfl⟩
instance (a b : Sk) : Decidable (Lt a b) := by unfold Lt; infer_instance
set_option maxRecDepth 100000 in
set_option maxHeartbeats 1000000 in
theorem ahead_any (a b : Sk) (w : World) : Calls Try.prog 23 #[a.v, b.v] w fun e w' => e = .returned (.bool (decide (Lt a b))) ∧ Below w.heap.size w w' := by
  obtain ⟨w2, q2, r2, b2, l2, hq2⟩ := box39 a w
  obtain ⟨w3, q3, r3, b3, l3, hq3⟩ := box39 b w2
  replace b2 := b2.on l3
  by_cases h1 : a.t < b.t
  · refine calls_of_args [a.v, b.v] Try.func23 rfl 24 Try.ntmps23 (by show 2 ≤ 24; decide) ?_
    refine EW.seq ?_
    refine EW.region ?_
    refine WL.box rfl rfl rfl r2 ?_
    refine WL.box rfl rfl rfl r3 ?_
    first | refine WL.assign rfl rfl rfl ?_
    refine WL.done ?_
    refine EW.on ?_
    refine EW.seq ?_
    refine EW.region ?_
    refine WL.field rfl rfl rfl (g39_0 q2 _) ?_
    refine WL.load rfl rfl rfl (b2.ldU (a := []) rfl rfl) ?_
    refine WL.field rfl rfl rfl (g39_0 q3 _) ?_
    refine WL.load rfl rfl rfl (b3.ldU (a := []) rfl rfl) ?_
    refine WL.bin rfl rfl rfl rfl (by have := lssU a.t b.t; rw [decide_eq_true h1] at this; exact this _ _ _) ?_
    first | refine WL.move rfl rfl rfl ?_
    refine WL.skip _ rfl rfl rfl ?_
    refine WL.skip _ rfl rfl rfl ?_
    refine WL.skip _ rfl rfl rfl ?_
    refine WL.skip _ rfl rfl rfl ?_
    refine WL.skip _ rfl rfl rfl ?_
    refine WL.skip _ rfl rfl rfl ?_
    refine WL.skip _ rfl rfl rfl ?_
    refine WL.skip _ rfl rfl rfl ?_
    refine WL.skip _ rfl rfl rfl ?_
    refine WL.skip _ rfl rfl rfl ?_
    refine WL.skip _ rfl rfl rfl ?_
    refine WL.skip _ rfl rfl rfl ?_
    first | refine WL.pick rfl rfl rfl rfl ?_
    first | refine WL.assign rfl rfl rfl ?_
    refine WL.done ?_
    refine EW.on ?_
    refine EW.ret ?_
    exact EW.returns Try.results23 rfl ⟨by rw [show decide (Lt a b) = true from decide_eq_true (.inl h1)], bt l2 l3⟩
  · by_cases h2 : a.t = b.t
    · refine calls_of_args [a.v, b.v] Try.func23 rfl 24 Try.ntmps23 (by show 2 ≤ 24; decide) ?_
      refine EW.seq ?_
      refine EW.region ?_
      refine WL.box rfl rfl rfl r2 ?_
      refine WL.box rfl rfl rfl r3 ?_
      first | refine WL.assign rfl rfl rfl ?_
      refine WL.done ?_
      refine EW.on ?_
      refine EW.seq ?_
      refine EW.region ?_
      refine WL.field rfl rfl rfl (g39_0 q2 _) ?_
      refine WL.load rfl rfl rfl (b2.ldU (a := []) rfl rfl) ?_
      refine WL.field rfl rfl rfl (g39_0 q3 _) ?_
      refine WL.load rfl rfl rfl (b3.ldU (a := []) rfl rfl) ?_
      refine WL.bin rfl rfl rfl rfl (by have := lssU a.t b.t; rw [decide_eq_false h1] at this; exact this _ _ _) ?_
      first | refine WL.move rfl rfl rfl ?_
      refine WL.field rfl rfl rfl (g39_0 q2 _) ?_
      refine WL.load rfl rfl rfl (b2.ldU (a := []) rfl rfl) ?_
      refine WL.field rfl rfl rfl (g39_0 q3 _) ?_
      refine WL.load rfl rfl rfl (b3.ldU (a := []) rfl rfl) ?_
      refine WL.bin rfl rfl rfl rfl (by have := eqlU a.t b.t; rw [decide_eq_true h2] at this; exact this _ _ _) ?_
      first | refine WL.move rfl rfl rfl ?_ | refine WL.skip _ rfl rfl rfl ?_
      refine WL.field rfl rfl rfl (g39_1 q2 _) ?_
      refine WL.load rfl rfl rfl (b2.ldU (a := [u32v a.t]) rfl rfl) ?_
      refine WL.field rfl rfl rfl (g39_1 q3 _) ?_
      refine WL.load rfl rfl rfl (b3.ldU (a := [u32v b.t]) rfl rfl) ?_
      refine WL.bin rfl rfl rfl rfl (lssU a.n b.n _ _ _) ?_
      first | refine WL.pick rfl rfl rfl rfl ?_ | refine WL.skip _ rfl rfl rfl ?_
      first | refine WL.pick rfl rfl rfl rfl ?_
      first | refine WL.assign rfl rfl rfl ?_
      refine WL.done ?_
      refine EW.on ?_
      refine EW.ret ?_
      exact EW.returns Try.results23 rfl ⟨by rw [show decide (Lt a b) = decide (a.n < b.n) from decide_eq_decide.2 (by unfold Lt; omega)], bt l2 l3⟩
    · refine calls_of_args [a.v, b.v] Try.func23 rfl 24 Try.ntmps23 (by show 2 ≤ 24; decide) ?_
      refine EW.seq ?_
      refine EW.region ?_
      refine WL.box rfl rfl rfl r2 ?_
      refine WL.box rfl rfl rfl r3 ?_
      first | refine WL.assign rfl rfl rfl ?_
      refine WL.done ?_
      refine EW.on ?_
      refine EW.seq ?_
      refine EW.region ?_
      refine WL.field rfl rfl rfl (g39_0 q2 _) ?_
      refine WL.load rfl rfl rfl (b2.ldU (a := []) rfl rfl) ?_
      refine WL.field rfl rfl rfl (g39_0 q3 _) ?_
      refine WL.load rfl rfl rfl (b3.ldU (a := []) rfl rfl) ?_
      refine WL.bin rfl rfl rfl rfl (by have := lssU a.t b.t; rw [decide_eq_false h1] at this; exact this _ _ _) ?_
      first | refine WL.move rfl rfl rfl ?_
      refine WL.field rfl rfl rfl (g39_0 q2 _) ?_
      refine WL.load rfl rfl rfl (b2.ldU (a := []) rfl rfl) ?_
      refine WL.field rfl rfl rfl (g39_0 q3 _) ?_
      refine WL.load rfl rfl rfl (b3.ldU (a := []) rfl rfl) ?_
      refine WL.bin rfl rfl rfl rfl (by have := eqlU a.t b.t; rw [decide_eq_false h2] at this; exact this _ _ _) ?_
      first | refine WL.move rfl rfl rfl ?_ | refine WL.skip _ rfl rfl rfl ?_
      refine WL.skip _ rfl rfl rfl ?_
      refine WL.skip _ rfl rfl rfl ?_
      refine WL.skip _ rfl rfl rfl ?_
      refine WL.skip _ rfl rfl rfl ?_
      refine WL.skip _ rfl rfl rfl ?_
      first | refine WL.pick rfl rfl rfl rfl ?_ | refine WL.skip _ rfl rfl rfl ?_
      first | refine WL.pick rfl rfl rfl rfl ?_
      first | refine WL.assign rfl rfl rfl ?_
      refine WL.done ?_
      refine EW.on ?_
      refine EW.ret ?_
      exact EW.returns Try.results23 rfl ⟨by rw [show decide (Lt a b) = false from decide_eq_false (by unfold Lt; omega)], bt l2 l3⟩
def isP (t n : Nat) (s : Sk) : Bool := decide (s.t = t ∧ s.n = n)
def atN (L : List Sk) (t n : Nat) : Int := match L.findIdx? (isP t n) with
  | some i => (i : Int)
  | none => -1
theorem findIdx_first {L : List Sk} {p : Sk → Bool} {i : Nat} {s : Sk} (hs : L[i]? = some s) (hp : p s = true) (hb : ∀ j a, j < i → L[j]? = some a → p a = false) : L.findIdx? p = some i := by
  have hi := (List.getElem?_eq_some_iff.1 hs).1
  rw [List.findIdx?_eq_some_iff_getElem]
  refine ⟨hi, ?_, fun j hj => ?_⟩
  · rw [List.getElem?_eq_getElem hi] at hs; cases hs; exact hp
  · have := hb j _ hj (List.getElem?_eq_getElem (by omega))
    simpa using this
theorem findIdx_none {L : List Sk} {p : Sk → Bool} (hb : ∀ j a, j < L.length → L[j]? = some a → p a = false) : L.findIdx? p = none := by
  rw [List.findIdx?_eq_none_iff]
  intro a ha
  obtain ⟨j, hj, rfl⟩ := List.mem_iff_getElem.1 ha
  exact hb j _ hj (List.getElem?_eq_getElem hj)
def atE (q t n : Nat) (x : Nat) : List (Nat × Value) := [(0, .pointer (some ⟨q, 0, none⟩)), (1, u32v t), (2, u32v n), (7, .int .i64 (x : Int))]
def AtR (w : World) (L : List Sk) (t n : Nat) (x : Nat) (W : World) : Prop := x ≤ L.length ∧ (∀ j a, j < x → L[j]? = some a → isP t n a = false) ∧ W = w
set_option maxRecDepth 100000 in
set_option maxHeartbeats 1000000 in
theorem at_any {w : World} {q : Nat} {v : Value} {most : Nat} {L : List Sk} (h : Rt w q v most L) (hL : L.length ≤ 1000) (t n : Nat) : Calls Try.prog 33 #[.pointer (some ⟨q, 0, none⟩), u32v t, u32v n] w fun e w' => e = .returned (.int .i64 (atN L t n)) ∧ w' = w := by
  refine calls_of_args [.pointer (some ⟨q, 0, none⟩), u32v t, u32v n] Try.func33 rfl 40 Try.ntmps33 (by show 3 ≤ 40; decide) ?_
  refine EW.seq ?_
  refine EW.region ?_
  first | refine WL.assign rfl rfl rfl ?_
  refine WL.done ?_
  refine EW.on ?_
  refine EW.seq ?_
  refine EW.seq ?_
  refine EW.region ?_
  first | refine WL.assign rfl rfl rfl ?_
  refine WL.done ?_
  refine EW.on ?_
  refine EW.block ?_
  refine EW.loop (atE q t n) (AtR w L t n) (fun x => L.length - x) 0 [0, 1, 2, 7] rfl ⟨Nat.zero_le _, fun j a hj => absurd hj (Nat.not_lt_zero _), rfl⟩ ?_
  rintro x wi ⟨hxl, hno, hwi⟩
  rw [hwi]
  show EW _ _ _ _ [(0, .pointer (some ⟨q, 0, none⟩)), (1, u32v t), (2, u32v n), (7, .int .i64 (x : Int))] _
  refine EW.seq ?_
  refine EW.seq ?_
  refine EW.region ?_
  first | refine WL.move rfl rfl rfl ?_
  first | refine WL.move rfl rfl rfl ?_
  first | refine WL.nilc rfl rfl rfl ?_
  refine WL.field rfl rfl rfl (g68_0 q _) ?_
  refine WL.load rfl rfl rfl (ldL h) ?_
  refine WL.len rfl rfl rfl (h.so.sl.len _ _) ?_
  refine WL.bin rfl rfl rfl rfl (int_lt_d _ _ _ _ _) ?_
  refine WL.done ?_
  refine EW.on ?_
  refine EW.cond_d rfl (fun h14 => ?_) (fun h14 => ?_)
  · refine EW.skip ?_
    refine EW.on ?_
    refine EW.seq ?_
    refine EW.block ?_
    refine EW.seq ?_
    have hlt : x < L.length := by omega
    obtain ⟨s, hs⟩ : ∃ s, L[x]? = some s := ⟨_, List.getElem?_eq_getElem hlt⟩
    obtain ⟨ad, ixs, lds⟩ := h.so.sl.get hs
    rcases (show ¬ s.t = t ∨ (s.t = t ∧ ¬ s.n = n) ∨ (s.t = t ∧ s.n = n) by omega) with h2 | ⟨h2, h3⟩ | ⟨h2, h3⟩
    · refine EW.region ?_
      first | refine WL.move rfl rfl rfl ?_
      first | refine WL.nilc rfl rfl rfl ?_
      refine WL.field rfl rfl rfl (g68_0 q _) ?_
      refine WL.load rfl rfl rfl (ldL h) ?_
      first | refine WL.move rfl rfl rfl ?_
      refine WL.index rfl rfl rfl rfl (ixs _) ?_
      refine WL.field rfl rfl rfl (f39_0 _ _) ?_
      refine WL.load rfl rfl rfl (lds _ h.so.sl).2.1 ?_
      first | refine WL.move rfl rfl rfl ?_
      refine WL.bin rfl rfl rfl rfl (by have := eqlU s.t t; rw [decide_eq_false h2] at this; exact this _ _ _) ?_
      first | refine WL.move rfl rfl rfl ?_
      refine WL.skip _ rfl rfl rfl ?_
      refine WL.skip _ rfl rfl rfl ?_
      refine WL.skip _ rfl rfl rfl ?_
      refine WL.skip _ rfl rfl rfl ?_
      refine WL.skip _ rfl rfl rfl ?_
      refine WL.skip _ rfl rfl rfl ?_
      refine WL.skip _ rfl rfl rfl ?_
      refine WL.skip _ rfl rfl rfl ?_
      refine WL.skip _ rfl rfl rfl ?_
      refine WL.skip _ rfl rfl rfl ?_
      first | refine WL.pick rfl rfl rfl rfl ?_
      refine WL.done ?_
      refine EW.on ?_
      refine EW.cond_f rfl ?_
      refine EW.skip ?_
      refine pn_block ?_
      refine EW.on ?_
      refine EW.region ?_
      first | refine WL.move rfl rfl rfl ?_
      refine WL.bin rfl rfl rfl rfl (int_add (c := ((x + 1 : Nat) : Int)) (by rw [IntKind.wrap_i64]; omega) _ _ _) ?_
      first | refine WL.assign rfl rfl rfl ?_
      refine WL.done ?_
      exact EW.again (E := atE q t n) (R := AtR w L t n) (m := fun x => L.length - x) (x := x) (x + 1) [0, 1, 2, 7] rfl ⟨by omega, fun j a hj ha => (by rcases Nat.lt_or_ge j x with e | e; exact hno j a e ha; rw [show j = x by omega, hs] at ha; cases ha; exact decide_eq_false (by omega)), rfl⟩ (by show L.length - (x + 1) < L.length - x; omega)
    · refine EW.region ?_
      first | refine WL.move rfl rfl rfl ?_
      first | refine WL.nilc rfl rfl rfl ?_
      refine WL.field rfl rfl rfl (g68_0 q _) ?_
      refine WL.load rfl rfl rfl (ldL h) ?_
      first | refine WL.move rfl rfl rfl ?_
      refine WL.index rfl rfl rfl rfl (ixs _) ?_
      refine WL.field rfl rfl rfl (f39_0 _ _) ?_
      refine WL.load rfl rfl rfl (lds _ h.so.sl).2.1 ?_
      first | refine WL.move rfl rfl rfl ?_
      refine WL.bin rfl rfl rfl rfl (by have := eqlU s.t t; rw [decide_eq_true h2] at this; exact this _ _ _) ?_
      first | refine WL.move rfl rfl rfl ?_
      first | refine WL.move rfl rfl rfl ?_ | refine WL.skip _ rfl rfl rfl ?_
      first | refine WL.nilc rfl rfl rfl ?_ | refine WL.skip _ rfl rfl rfl ?_
      refine WL.field rfl rfl rfl (g68_0 q _) ?_
      refine WL.load rfl rfl rfl (ldL h) ?_
      first | refine WL.move rfl rfl rfl ?_ | refine WL.skip _ rfl rfl rfl ?_
      refine WL.index rfl rfl rfl rfl (ixs _) ?_
      refine WL.field rfl rfl rfl (f39_1 _ _) ?_
      refine WL.load rfl rfl rfl (lds _ h.so.sl).2.2.1 ?_
      first | refine WL.move rfl rfl rfl ?_ | refine WL.skip _ rfl rfl rfl ?_
      refine WL.bin rfl rfl rfl rfl (by have := eqlU s.n n; rw [decide_eq_false h3] at this; exact this _ _ _) ?_
      first | refine WL.pick rfl rfl rfl rfl ?_
      refine WL.done ?_
      refine EW.on ?_
      refine EW.cond_f rfl ?_
      refine EW.skip ?_
      refine pn_block ?_
      refine EW.on ?_
      refine EW.region ?_
      first | refine WL.move rfl rfl rfl ?_
      refine WL.bin rfl rfl rfl rfl (int_add (c := ((x + 1 : Nat) : Int)) (by rw [IntKind.wrap_i64]; omega) _ _ _) ?_
      first | refine WL.assign rfl rfl rfl ?_
      refine WL.done ?_
      exact EW.again (E := atE q t n) (R := AtR w L t n) (m := fun x => L.length - x) (x := x) (x + 1) [0, 1, 2, 7] rfl ⟨by omega, fun j a hj ha => (by rcases Nat.lt_or_ge j x with e | e; exact hno j a e ha; rw [show j = x by omega, hs] at ha; cases ha; exact decide_eq_false (by omega)), rfl⟩ (by show L.length - (x + 1) < L.length - x; omega)
    · refine EW.region ?_
      first | refine WL.move rfl rfl rfl ?_
      first | refine WL.nilc rfl rfl rfl ?_
      refine WL.field rfl rfl rfl (g68_0 q _) ?_
      refine WL.load rfl rfl rfl (ldL h) ?_
      first | refine WL.move rfl rfl rfl ?_
      refine WL.index rfl rfl rfl rfl (ixs _) ?_
      refine WL.field rfl rfl rfl (f39_0 _ _) ?_
      refine WL.load rfl rfl rfl (lds _ h.so.sl).2.1 ?_
      first | refine WL.move rfl rfl rfl ?_
      refine WL.bin rfl rfl rfl rfl (by have := eqlU s.t t; rw [decide_eq_true h2] at this; exact this _ _ _) ?_
      first | refine WL.move rfl rfl rfl ?_
      first | refine WL.move rfl rfl rfl ?_ | refine WL.skip _ rfl rfl rfl ?_
      first | refine WL.nilc rfl rfl rfl ?_ | refine WL.skip _ rfl rfl rfl ?_
      refine WL.field rfl rfl rfl (g68_0 q _) ?_
      refine WL.load rfl rfl rfl (ldL h) ?_
      first | refine WL.move rfl rfl rfl ?_ | refine WL.skip _ rfl rfl rfl ?_
      refine WL.index rfl rfl rfl rfl (ixs _) ?_
      refine WL.field rfl rfl rfl (f39_1 _ _) ?_
      refine WL.load rfl rfl rfl (lds _ h.so.sl).2.2.1 ?_
      first | refine WL.move rfl rfl rfl ?_ | refine WL.skip _ rfl rfl rfl ?_
      refine WL.bin rfl rfl rfl rfl (by have := eqlU s.n n; rw [decide_eq_true h3] at this; exact this _ _ _) ?_
      first | refine WL.pick rfl rfl rfl rfl ?_
      refine WL.done ?_
      refine EW.on ?_
      refine EW.cond_t rfl ?_
      refine EW.seq ?_
      refine EW.region ?_
      first | refine WL.move rfl rfl rfl ?_
      first | refine WL.assign rfl rfl rfl ?_
      refine WL.done ?_
      refine EW.on ?_
      refine EW.ret ?_
      refine pr_block ?_
      refine pr_then ?_
      refine pr_then ?_
      refine pr_block ?_
      refine pr_then ?_
      exact EW.returns Try.results33 rfl ⟨by unfold atN; rw [findIdx_first hs (decide_eq_true ⟨h2, h3⟩) (fun j a hj ha => hno j a hj ha)], rfl⟩
  · refine EW.exit ?_
    refine px_then ?_
    refine px_then ?_
    refine px_block ?_
    refine EW.on ?_
    refine EW.seq ?_
    refine EW.region ?_
    first | refine WL.assign rfl rfl rfl ?_
    refine WL.done ?_
    refine EW.on ?_
    refine EW.ret ?_
    exact EW.returns Try.results33 rfl ⟨by unfold atN; rw [findIdx_none (fun j a hj ha => hno j a (by omega) ha)], rfl⟩
end Go.Proofs.Ytggehhlobjjmpaa
