import Derived.Test.YthlpfpggjkocmaaWc
set_option linter.unusedVariables false
set_option linter.unusedSimpArgs false
namespace Go.Proofs.Ythlpfpggjkocmaa
open Go.RowKit

theorem int_lt_d (a b : Int) (W : World) (x y : Operand) : (do eqGuard .lss 3 x y (.int .i64 a) (.int .i64 b); binOp .lss 3 (.int .i64 a) (.int .i64 b) : Sem Value).run Try.prog W = .ok (.bool (decide (a < b))) W := by
  by_cases h : a < b
  · rw [decide_eq_true h]; exact int_lt_t h W x y
  · rw [decide_eq_false h]; exact int_lt_f h W x y
theorem int_gt_d (a b : Int) (W : World) (x y : Operand) : (do eqGuard .gtr 3 x y (.int .i64 a) (.int .i64 b); binOp .gtr 3 (.int .i64 a) (.int .i64 b) : Sem Value).run Try.prog W = .ok (.bool (decide (b < a))) W := by
  by_cases h : b < a
  · rw [decide_eq_true h]; exact int_gt_t h W x y
  · rw [decide_eq_false h]; exact int_gt_f h W x y
theorem int_eq_d {t : TypeId} (a b : Int) (W : World) (x y : Operand) : (do eqGuard .eql t x y (.int .i64 a) (.int .i64 b); binOp .eql t (.int .i64 a) (.int .i64 b) : Sem Value).run Try.prog W = .ok (.bool (decide (a = b))) W := by
  by_cases h : a = b
  · rw [decide_eq_true h]; exact int_eq_t h W x y
  · rw [decide_eq_false h]; exact int_eq_f h W x y
theorem int_ge_d (a b : Int) (W : World) (x y : Operand) : (do eqGuard .geq 3 x y (.int .i64 a) (.int .i64 b); binOp .geq 3 (.int .i64 a) (.int .i64 b) : Sem Value).run Try.prog W = .ok (.bool (decide (b ≤ a))) W := by
  by_cases h : b ≤ a
  · rw [decide_eq_true h]; exact int_ge_t h W x y
  · rw [decide_eq_false h]; exact int_ge_f h W x y
theorem int_ne_d {t : TypeId} (a b : Int) (W : World) (x y : Operand) : (do eqGuard .neq t x y (.int .i64 a) (.int .i64 b); binOp .neq t (.int .i64 a) (.int .i64 b) : Sem Value).run Try.prog W = .ok (.bool (decide (¬ a = b))) W := by
  by_cases h : a = b
  · rw [decide_eq_false (by simpa using h)]; exact int_ne_f h W x y
  · rw [decide_eq_true h]; exact int_ne_t h W x y
theorem int_le_t {a b : Int} (h : a ≤ b) (W : World) (x y : Operand) : (do eqGuard .leq 3 x y (.int .i64 a) (.int .i64 b); binOp .leq 3 (.int .i64 a) (.int .i64 b) : Sem Value).run Try.prog W = .ok (.bool true) W := by go_simp
theorem int_le_f {a b : Int} (h : ¬ a ≤ b) (W : World) (x y : Operand) : (do eqGuard .leq 3 x y (.int .i64 a) (.int .i64 b); binOp .leq 3 (.int .i64 a) (.int .i64 b) : Sem Value).run Try.prog W = .ok (.bool false) W := by go_simp
theorem int_le_d (a b : Int) (W : World) (x y : Operand) : (do eqGuard .leq 3 x y (.int .i64 a) (.int .i64 b); binOp .leq 3 (.int .i64 a) (.int .i64 b) : Sem Value).run Try.prog W = .ok (.bool (decide (a ≤ b))) W := by
  by_cases h : a ≤ b
  · rw [decide_eq_true h]; exact int_le_t h W x y
  · rw [decide_eq_false h]; exact int_le_f h W x y
theorem bool_ne_f {a b : Bool} (h : a = b) (W : World) (x y : Operand) : (do eqGuard .neq 4 x y (.bool a) (.bool b); binOp .neq 4 (.bool a) (.bool b) : Sem Value).run Try.prog W = .ok (.bool false) W := by
  subst h
  cases a <;> go_simp
theorem idx37 (ad : Addr) (n cap m : Nat) (h : m < n) (W : World) : (Instr.indexAt 37 (.slice (some ad) n cap) (.int .i64 (m : Int))).run Try.prog W = .ok (.pointer (some (ad.add m))) W := by
  have hm : (m : Int) < (n : Int) := by omega
  go_simp
theorem Has.item {w : World} {v : Value} {bs : List UInt8} (h : Has w v bs) {i : Nat} {u : UInt8} (hi : bs[i]? = some u) : ∃ ad, (∀ W, (Instr.indexAt 37 v (.int .i64 (i : Int))).run Try.prog W = .ok (.pointer (some ad)) W) ∧ (Instr.loadAt 5 (.pointer (some ad))).run Try.prog w = .ok (byt u) w := by
  rcases h with ⟨rfl, rfl⟩ | ⟨ad, cap, rfl, h2, h3⟩
  · simp at hi
  · refine ⟨_, fun W => idx37 ad _ cap i (List.getElem?_eq_some_iff.1 hi).1 W, ?_⟩
    have hc := h3 i u hi
    obtain ⟨a2, ha2⟩ : ∃ a2, ad.add i = a2 := ⟨_, rfl⟩
    rw [ha2] at hc ⊢
    unfold byt at *
    go_simp
def zB (bs : List UInt8) : Bool := bs.all (fun b => b == 0)
theorem ne8 (u : UInt8) (W : World) (x y : Operand) : (do eqGuard .neq 5 x y (byt u) (.int .u8 0); binOp .neq 5 (byt u) (.int .u8 0) : Sem Value).run Try.prog W = .ok (.bool (decide (¬ u = 0))) W := by
  have e : decide (¬ (u.toNat : Int) = 0) = decide (¬ u = 0) := by
    apply decide_eq_decide.2
    constructor
    · intro h e; exact h (by rw [e]; rfl)
    · intro h e; exact h (UInt8.toNat_inj.1 (by show u.toNat = 0; omega))
  unfold byt
  rw [← e]
  go_simp
  by_cases h : u.toNat = 0 <;> simp [h]
theorem zB_take {bs : List UInt8} {t : Nat} {u : UInt8} (hu : bs[t]? = some u) (h0 : u = 0) (h : zB (bs.take t) = true) : zB (bs.take (t + 1)) = true := by
  unfold zB at *
  rw [List.take_add_one, hu, List.all_append, h, h0]
  rfl
theorem zB_not {bs : List UInt8} {t : Nat} {u : UInt8} (hu : bs[t]? = some u) (h0 : ¬ u = 0) : zB bs = false := by
  unfold zB
  rw [List.all_eq_false]
  exact ⟨u, List.mem_of_getElem? hu, by simpa using h0⟩
def azE (v : Value) (n t : Nat) : List (Nat × Value) := [(5, v), (6, .int .i64 (n : Int)), (7, .int .i64 (t : Int))]
def AzR (w : World) (bs : List UInt8) (t : Nat) (W : World) : Prop := W = w ∧ t ≤ bs.length ∧ zB (bs.take t) = true
set_option maxRecDepth 100000 in
set_option maxHeartbeats 1000000 in
theorem zeros_any (v : Value) (bs : List UInt8) (w : World) (hb : Has w v bs) (hl : bs.length ≤ 100000) : Calls Try.prog 49 #[v] w fun e w' => e = .returned (.bool (zB bs)) ∧ w' = w := by
  refine calls_of_args [v] Try.func49 rfl 14 Try.ntmps49 (by show 1 ≤ 14; decide) ?_
  refine EW.seq ?_
  refine EW.region ?_
  first | refine WL.assign rfl rfl rfl ?_
  refine WL.done ?_
  refine EW.on ?_
  refine EW.seq ?_
  refine EW.seq ?_
  refine EW.region ?_
  first | refine WL.move rfl rfl rfl ?_
  refine WL.len rfl rfl rfl (hb.len _ _) ?_
  first | refine WL.move rfl rfl rfl ?_
  refine WL.done ?_
  refine EW.on ?_
  refine EW.block ?_
  refine EW.loop (azE v bs.length) (AzR w bs) (fun t => bs.length - t) 0 [5, 6, 7] rfl ⟨rfl, Nat.zero_le _, rfl⟩ ?_
  rintro t wi ⟨hwi, htl, hz⟩
  subst hwi
  show EW _ _ _ _ [(5, v), (6, .int .i64 (bs.length : Int)), (7, .int .i64 (t : Int))] _
  refine EW.seq ?_
  refine EW.region ?_
  first | refine WL.bin rfl rfl rfl rfl (int_lt_t ‹_› _ _ _) ?_ | refine WL.bin rfl rfl rfl rfl (int_lt_f ‹_› _ _ _) ?_ | refine WL.bin rfl rfl rfl rfl (int_lt_d _ _ _ _ _) ?_
  refine WL.done ?_
  refine EW.on ?_
  refine EW.seq ?_
  refine EW.cond_d rfl (fun h8 => ?_) (fun h8 => ?_)
  · refine EW.skip ?_
    refine EW.on ?_
    refine EW.seq ?_
    refine EW.block ?_
    refine EW.seq ?_
    have ht : t < bs.length := by omega
    have tn : IntKind.i64.wrap ((t : Int) + 1) = ((t + 1 : Nat) : Int) := by rw [IntKind.wrap_i64]; omega
    obtain ⟨u, hu⟩ : ∃ u, bs[t]? = some u := ⟨_, List.getElem?_eq_getElem ht⟩
    obtain ⟨ad, iu, lu⟩ := hb.item hu
    refine EW.region ?_
    refine WL.index rfl rfl rfl rfl (iu _) ?_
    refine WL.load rfl rfl rfl lu ?_
    first | refine WL.assign rfl rfl rfl ?_
    refine WL.done ?_
    refine EW.on ?_
    refine EW.seq ?_
    refine EW.region ?_
    first | refine WL.move rfl rfl rfl ?_
    refine WL.bin rfl rfl rfl rfl (ne8 u _ _ _) ?_
    refine WL.done ?_
    refine EW.on ?_
    refine EW.cond_d rfl (fun h12 => ?_) (fun h12 => ?_)
    · refine EW.seq ?_
      refine EW.region ?_
      first | refine WL.assign rfl rfl rfl ?_
      refine WL.done ?_
      refine EW.on ?_
      refine EW.ret ?_
      refine pr_block ?_
      refine pr_then ?_
      refine pr_then ?_
      refine pr_block ?_
      refine pr_then ?_
      exact EW.returns Try.results49 rfl ⟨by rw [zB_not hu h12], rfl⟩
    · refine EW.skip ?_
      refine pn_block ?_
      refine EW.on ?_
      refine EW.region ?_
      first | refine WL.bin rfl rfl rfl rfl (int_add ‹_› _ _ _) ?_
      first | refine WL.move rfl rfl rfl ?_
      refine WL.done ?_
      refine EW.again (E := azE v bs.length) (R := AzR wi bs) (m := fun t => bs.length - t) (x := t) (t + 1) [5, 6, 7] rfl ⟨rfl, by omega, zB_take hu (Classical.not_not.1 h12) hz⟩ (by show bs.length - (t + 1) < bs.length - t; omega)
  · refine EW.exit ?_
    refine px_then ?_
    refine px_then ?_
    refine px_block ?_
    refine EW.on ?_
    refine EW.seq ?_
    refine EW.region ?_
    first | refine WL.assign rfl rfl rfl ?_
    refine WL.done ?_
    refine EW.on ?_
    refine EW.ret ?_
    exact EW.returns Try.results49 rfl ⟨by rw [show zB bs = true by rw [List.take_of_length_le (by omega)] at hz; exact hz], rfl⟩
end Go.Proofs.Ythlpfpggjkocmaa
