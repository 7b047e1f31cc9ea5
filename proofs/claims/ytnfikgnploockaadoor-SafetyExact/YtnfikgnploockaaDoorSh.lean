import Derived.Test.YtnfikgnploockaaDoorSg
set_option linter.unusedVariables false
set_option linter.unusedSimpArgs false
namespace Go.Proofs.YtnfikgnploockaaDoor
open Go.RowKit

def mtE (t a b : List UInt8) : Int := if rdE t = 0 then bhE a b else rdE t
def mtD (t a ka b kb : List UInt8) : Bool := if mtE t a b = 0 then decide (rd t = bhD a ka b kb) else false
set_option maxRecDepth 100000 in
set_option maxHeartbeats 1000000 in
theorem match_any (t a ka b kb : List UInt8) (hKa : ka.length = 32) (hKb : kb.length = 32) (w : World) (hL : Lst w) : Calls Tryd.prog 13 #[sv t, sv a, kv ka, sv b, kv kb] w fun e w' => e = .returned (.tuple #[.bool (mtD t a ka b kb), .int .i64 (mtE t a b)]) ∧ Below w.heap.size w w' := by
  obtain ⟨w1, q1, r1, b1, l1, hq1⟩ := box23 ka w
  obtain ⟨w2, q2, r2, b2, l2, hq2⟩ := box23 kb w1
  refine calls_of_args [sv t, sv a, kv ka, sv b, kv kb] Tryd.func13 rfl 37 Tryd.ntmps13 (by show 5 ≤ 37; decide) ?_
  refine EW.seq ?_
  refine EW.region ?_
  refine WL.box rfl rfl rfl r1 ?_
  refine WL.box rfl rfl rfl r2 ?_
  first | refine WL.assign rfl rfl rfl ?_
  first | refine WL.assign rfl rfl rfl ?_
  refine WL.done ?_
  refine EW.on ?_
  refine EW.seq ?_
  refine EW.region ?_
  first | refine WL.move rfl rfl rfl ?_
  refine WL.call [sv t] enter15 rfl rfl rfl (read_any t w2) ?_
  rintro _ w3 ⟨rfl, l3⟩
  refine ⟨_, rfl, ?_⟩
  first | refine WL.move rfl rfl rfl ?_
  first | refine WL.extract rfl rfl rfl (ext_2 _ _ _).1 ?_
  first | refine WL.extract rfl rfl rfl (ext_2 _ _ _).2 ?_
  first | refine WL.assign rfl rfl rfl ?_
  first | refine WL.assign rfl rfl rfl ?_
  refine WL.done ?_
  refine EW.on ?_
  refine EW.seq ?_
  refine EW.seq ?_
  refine EW.region ?_
  first | refine WL.move rfl rfl rfl ?_
  refine WL.bin rfl rfl rfl rfl (int_ne_d _ _ _ _ _) ?_
  refine WL.done ?_
  refine EW.on ?_
  refine EW.cond_d rfl (fun h21 => ?_) (fun h21 => ?_)
  · refine EW.seq ?_
    refine EW.region ?_
    first | refine WL.move rfl rfl rfl ?_
    first | refine WL.assign rfl rfl rfl ?_
    first | refine WL.assign rfl rfl rfl ?_
    refine WL.done ?_
    refine EW.on ?_
    refine EW.ret ?_
    refine pr_then ?_
    exact EW.returns2 Tryd.results13 rfl rfl ⟨by unfold mtD mtE; rw [if_neg h21, if_neg h21], bt (bt l1 l2) l3⟩
  · refine EW.skip ?_
    refine EW.on ?_
    refine EW.seq ?_
    replace h21 : rdE t = 0 := by simpa using h21
    refine EW.region ?_
    first | refine WL.move rfl rfl rfl ?_
    refine WL.load rfl rfl rfl (ld23 ((b1.on l2).on l3) hKa) ?_
    first | refine WL.move rfl rfl rfl ?_
    refine WL.load rfl rfl rfl (ld23 (b2.on l3) hKb) ?_
    refine WL.call [sv a, kv ka, sv b, kv kb] enter24 rfl rfl rfl (both_any a ka b kb hKa hKb w3 (((hL.on l1).on l2).on l3)) ?_
    rintro _ w4 ⟨rfl, l4⟩
    refine ⟨_, rfl, ?_⟩
    first | refine WL.move rfl rfl rfl ?_
    first | refine WL.extract rfl rfl rfl (ext_2 _ _ _).1 ?_
    first | refine WL.extract rfl rfl rfl (ext_2 _ _ _).2 ?_
    first | refine WL.assign rfl rfl rfl ?_
    first | refine WL.assign rfl rfl rfl ?_
    refine WL.done ?_
    refine EW.on ?_
    refine EW.seq ?_
    refine EW.seq ?_
    refine EW.region ?_
    first | refine WL.move rfl rfl rfl ?_
    refine WL.bin rfl rfl rfl rfl (int_ne_d _ _ _ _ _) ?_
    refine WL.done ?_
    refine EW.on ?_
    refine EW.cond_d rfl (fun h32 => ?_) (fun h32 => ?_)
    · refine EW.seq ?_
      refine EW.region ?_
      first | refine WL.move rfl rfl rfl ?_
      first | refine WL.assign rfl rfl rfl ?_
      first | refine WL.assign rfl rfl rfl ?_
      refine WL.done ?_
      refine EW.on ?_
      refine EW.ret ?_
      refine pr_then ?_
      exact EW.returns2 Tryd.results13 rfl rfl ⟨by unfold mtD mtE; rw [if_pos h21, if_neg h32], bt (bt (bt l1 l2) l3) l4⟩
    · refine EW.skip ?_
      refine EW.on ?_
      refine EW.seq ?_
      replace h32 : bhE a b = 0 := by simpa using h32
      refine EW.region ?_
      first | refine WL.move rfl rfl rfl ?_
      first | refine WL.move rfl rfl rfl ?_
      refine WL.bin rfl rfl rfl rfl (str_eq_d _ _ _ _ _) ?_
      first | refine WL.assign rfl rfl rfl ?_
      first | refine WL.assign rfl rfl rfl ?_
      refine WL.done ?_
      refine EW.on ?_
      refine EW.ret ?_
      exact EW.returns2 Tryd.results13 rfl rfl ⟨by unfold mtD mtE; rw [if_pos h21, if_pos h32, h32], bt (bt (bt l1 l2) l3) l4⟩
/-- A name that is taken. -/
def nmd (l : List UInt8) : List UInt8 := if 16 < l.length then l.take 16 else if l = [] then [110, 111, 98, 111, 100, 121] else l
theorem nmd_ok (l : List UInt8) : nmE (nmd l) = 0 := by
  rw [nmE_ok]
  unfold nmd
  split
  · rw [List.length_take]; omega
  · split
    · simp
    · rename_i h1 h2
      exact ⟨fun e => h2 (List.eq_nil_of_length_eq_zero e), by omega⟩
set_option maxRecDepth 100000 in
set_option maxHeartbeats 1000000 in
theorem named_any (l : List UInt8) (w : World) : Calls Tryd.prog 8 #[sv l] w fun e w' => e = .returned (sv (nmd l)) ∧ w' = w := by
  refine calls_of_args [sv l] Tryd.func8 rfl 11 Tryd.ntmps8 (by show 1 ≤ 11; decide) ?_
  refine EW.seq ?_
  refine EW.region ?_
  first | refine WL.assign rfl rfl rfl ?_
  refine WL.done ?_
  refine EW.on ?_
  refine EW.seq ?_
  refine EW.seq ?_
  refine EW.region ?_
  first | refine WL.move rfl rfl rfl ?_
  refine WL.len rfl rfl rfl (len_s _ _ _) ?_
  refine WL.bin rfl rfl rfl rfl (int_gt_d _ _ _ _ _) ?_
  refine WL.done ?_
  refine EW.on ?_
  refine EW.cond_d rfl (fun h5 => ?_) (fun h5 => ?_)
  · refine EW.seq ?_
    refine EW.region ?_
    first | refine WL.move rfl rfl rfl ?_
    refine WL.sliceH rfl rfl rfl rfl (cutH_s l 16 (by omega) _) ?_
    first | refine WL.assign rfl rfl rfl ?_
    refine WL.done ?_
    refine EW.on ?_
    refine EW.ret ?_
    refine pr_then ?_
    exact EW.returns Tryd.results8 rfl ⟨by unfold nmd; rw [if_pos (by omega)], rfl⟩
  · refine EW.skip ?_
    refine EW.on ?_
    refine EW.seq ?_
    refine EW.seq ?_
    refine EW.region ?_
    first | refine WL.move rfl rfl rfl ?_
    refine WL.bin rfl rfl rfl rfl (str_eq_d l [] _ _ _) ?_
    refine WL.done ?_
    refine EW.on ?_
    refine EW.cond_d rfl (fun h9 => ?_) (fun h9 => ?_)
    · refine EW.seq ?_
      refine EW.region ?_
      first | refine WL.assign rfl rfl rfl ?_
      refine WL.done ?_
      refine EW.on ?_
      refine EW.ret ?_
      refine pr_then ?_
      exact EW.returns Tryd.results8 rfl ⟨by unfold nmd; rw [if_neg (by omega), if_pos (by simpa using h9)]; rfl, rfl⟩
    · refine EW.skip ?_
      refine EW.on ?_
      refine EW.seq ?_
      refine EW.region ?_
      first | refine WL.move rfl rfl rfl ?_
      first | refine WL.assign rfl rfl rfl ?_
      refine WL.done ?_
      refine EW.on ?_
      refine EW.ret ?_
      exact EW.returns Tryd.results8 rfl ⟨by unfold nmd; rw [if_neg (by omega), if_neg (by simpa using h9)], rfl⟩
theorem int_rem {a b c : Int} (hb : ¬ b = 0) (hm : a.tmod b = c) (W : World) (x y : Operand) : (do eqGuard .rem 3 x y (.int .i64 a) (.int .i64 b); binOp .rem 3 (.int .i64 a) (.int .i64 b) : Sem Value).run Tryd.prog W = .ok (.int .i64 c) W := by
  subst hm
  go_simp
theorem tmod_two (n m : Int) (hm : 0 < m) (hm' : m ≤ 1000) : (IntKind.i64.wrap (n.tmod m + m)).tmod m = n % m := by
  rcases Int.lt_or_le n 0 with h | h
  · obtain ⟨k, rfl⟩ : ∃ k, n = -k := ⟨-n, by omega⟩
    have e : (-k).tmod m = -(k % m) := by rw [Int.neg_tmod, Int.tmod_eq_emod_of_nonneg (by omega)]
    have h1 := Int.emod_nonneg k (show m ≠ 0 by omega)
    have h2 := Int.emod_lt_of_pos k hm
    rw [e, IntKind.wrap_i64]
    have e2 : (-(k % m) + m + 9223372036854775808) % 18446744073709551616 - 9223372036854775808 = m - k % m := by omega
    rw [e2]
    rw [Int.tmod_eq_emod_of_nonneg (by omega), Int.sub_emod, Int.emod_self, Int.emod_emod_of_dvd _ (Int.dvd_refl m), ← Int.zero_sub, Int.sub_emod 0 k, Int.zero_emod]
  · have e : n.tmod m = n % m := Int.tmod_eq_emod_of_nonneg h
    have h1 := Int.emod_nonneg n (show m ≠ 0 by omega)
    have h2 := Int.emod_lt_of_pos n hm
    rw [e, IntKind.wrap_i64]
    have e2 : (n % m + m + 9223372036854775808) % 18446744073709551616 - 9223372036854775808 = n % m + m := by omega
    rw [e2, Int.tmod_eq_emod_of_nonneg (by omega), Int.add_emod_right, Int.emod_emod_of_dvd _ (Int.dvd_refl m)]
set_option maxRecDepth 100000 in
set_option maxHeartbeats 1000000 in
theorem rest_any (n m : Int) (hm : 0 < m) (hm' : m ≤ 1000) (w : World) : Calls Tryd.prog 16 #[.int .i64 n, .int .i64 m] w fun e w' => e = .returned (.int .i64 (n % m)) ∧ w' = w := by
  refine calls_of_args [.int .i64 n, .int .i64 m] Tryd.func16 rfl 12 Tryd.ntmps16 (by show 2 ≤ 12; decide) ?_
  refine EW.seq ?_
  refine EW.region ?_
  first | refine WL.assign rfl rfl rfl ?_
  refine WL.done ?_
  refine EW.on ?_
  refine EW.seq ?_
  refine EW.region ?_
  first | refine WL.move rfl rfl rfl ?_
  first | refine WL.move rfl rfl rfl ?_
  refine WL.bin rfl rfl rfl rfl (int_rem (by omega) rfl _ _ _) ?_
  first | refine WL.move rfl rfl rfl ?_
  refine WL.bin rfl rfl rfl rfl (int_add rfl _ _ _) ?_
  first | refine WL.move rfl rfl rfl ?_
  refine WL.bin rfl rfl rfl rfl (int_rem (by omega) (tmod_two n m hm hm') _ _ _) ?_
  first | refine WL.assign rfl rfl rfl ?_
  refine WL.done ?_
  refine EW.on ?_
  refine EW.ret ?_
  exact EW.returns Tryd.results16 rfl ⟨rfl, rfl⟩
theorem u8_ge_d (a b : Int) (W : World) (x y : Operand) : (do eqGuard .geq 5 x y (.int .u8 a) (.int .u8 b); binOp .geq 5 (.int .u8 a) (.int .u8 b) : Sem Value).run Tryd.prog W = .ok (.bool (decide (b ≤ a))) W := by
  go_simp
  try (rw [Bool.eq_iff_iff]; simp)
theorem u8_ge_t {a b : Int} (h : b ≤ a) (W : World) (x y : Operand) : (do eqGuard .geq 5 x y (.int .u8 a) (.int .u8 b); binOp .geq 5 (.int .u8 a) (.int .u8 b) : Sem Value).run Tryd.prog W = .ok (.bool true) W := by rw [u8_ge_d, decide_eq_true h]
theorem u8_ge_f {a b : Int} (h : ¬ b ≤ a) (W : World) (x y : Operand) : (do eqGuard .geq 5 x y (.int .u8 a) (.int .u8 b); binOp .geq 5 (.int .u8 a) (.int .u8 b) : Sem Value).run Tryd.prog W = .ok (.bool false) W := by rw [u8_ge_d, decide_eq_false h]
theorem u8_le_d (a b : Int) (W : World) (x y : Operand) : (do eqGuard .leq 5 x y (.int .u8 a) (.int .u8 b); binOp .leq 5 (.int .u8 a) (.int .u8 b) : Sem Value).run Tryd.prog W = .ok (.bool (decide (a ≤ b))) W := by
  go_simp
  try (rw [Bool.eq_iff_iff]; simp)
theorem u8_le_t {a b : Int} (h : a ≤ b) (W : World) (x y : Operand) : (do eqGuard .leq 5 x y (.int .u8 a) (.int .u8 b); binOp .leq 5 (.int .u8 a) (.int .u8 b) : Sem Value).run Tryd.prog W = .ok (.bool true) W := by rw [u8_le_d, decide_eq_true h]
theorem u8_le_f {a b : Int} (h : ¬ a ≤ b) (W : World) (x y : Operand) : (do eqGuard .leq 5 x y (.int .u8 a) (.int .u8 b); binOp .leq 5 (.int .u8 a) (.int .u8 b) : Sem Value).run Tryd.prog W = .ok (.bool false) W := by rw [u8_le_d, decide_eq_false h]
theorem u8_eq_d (a b : Int) (W : World) (x y : Operand) : (do eqGuard .eql 5 x y (.int .u8 a) (.int .u8 b); binOp .eql 5 (.int .u8 a) (.int .u8 b) : Sem Value).run Tryd.prog W = .ok (.bool (decide (a = b))) W := by
  go_simp
  try (rw [Bool.eq_iff_iff]; simp)
theorem u8_eq_t {a b : Int} (h : a = b) (W : World) (x y : Operand) : (do eqGuard .eql 5 x y (.int .u8 a) (.int .u8 b); binOp .eql 5 (.int .u8 a) (.int .u8 b) : Sem Value).run Tryd.prog W = .ok (.bool true) W := by rw [u8_eq_d, decide_eq_true h]
theorem u8_eq_f {a b : Int} (h : ¬ a = b) (W : World) (x y : Operand) : (do eqGuard .eql 5 x y (.int .u8 a) (.int .u8 b); binOp .eql 5 (.int .u8 a) (.int .u8 b) : Sem Value).run Tryd.prog W = .ok (.bool false) W := by rw [u8_eq_d, decide_eq_false h]
theorem u8_ne_d (a b : Int) (W : World) (x y : Operand) : (do eqGuard .neq 5 x y (.int .u8 a) (.int .u8 b); binOp .neq 5 (.int .u8 a) (.int .u8 b) : Sem Value).run Tryd.prog W = .ok (.bool (decide (¬ a = b))) W := by
  go_simp
  try (rw [Bool.eq_iff_iff]; simp)
theorem u8_ne_t {a b : Int} (h : ¬ a = b) (W : World) (x y : Operand) : (do eqGuard .neq 5 x y (.int .u8 a) (.int .u8 b); binOp .neq 5 (.int .u8 a) (.int .u8 b) : Sem Value).run Tryd.prog W = .ok (.bool true) W := by rw [u8_ne_d, decide_eq_true h]
theorem u8_ne_f {a b : Int} (h : ¬ (¬ a = b)) (W : World) (x y : Operand) : (do eqGuard .neq 5 x y (.int .u8 a) (.int .u8 b); binOp .neq 5 (.int .u8 a) (.int .u8 b) : Sem Value).run Tryd.prog W = .ok (.bool false) W := by rw [u8_ne_d, decide_eq_false h]
def gdE (l : List UInt8) (x : Nat × Value) : List (Nat × Value) := [(0, sv l), (3, x.2), (4, .int .i64 (x.1 : Int))]
set_option maxRecDepth 100000 in
set_option maxHeartbeats 1000000 in
theorem digits_any (l : List UInt8) (hl : l.length ≤ 1000000) (w : World) : Calls Tryd.prog 14 #[sv l] w fun e w' => e = .returned (sv (dgt l)) ∧ Below w.heap.size w w' := by
  refine calls_of_args [sv l] Tryd.func14 rfl 29 Tryd.ntmps14 (by show 1 ≤ 29; decide) ?_
  refine EW.seq ?_
  refine EW.region ?_
  first | refine WL.assign rfl rfl rfl ?_
  refine WL.done ?_
  refine EW.on ?_
  refine EW.seq ?_
  refine EW.region ?_
  first | refine WL.assign rfl rfl rfl ?_
  refine WL.done ?_
  refine EW.on ?_
  refine EW.seq ?_
  refine EW.seq ?_
  refine EW.region ?_
  first | refine WL.assign rfl rfl rfl ?_
  refine WL.done ?_
  refine EW.on ?_
  refine EW.block ?_
  refine EW.loop (gdE l) (fun x W => x.1 ≤ l.length ∧ Own W w.heap.size x.2 (dgt (l.take x.1)) ∧ Below w.heap.size w W) (fun x => l.length - x.1) (0, .slice none 0 0) [0, 3, 4] rfl ⟨Nat.zero_le _, Own.nil _ _, Below.refl _ _⟩ ?_
  rintro x W ⟨hx, hO, hb⟩
  refine EW.seq ?_
  refine EW.seq ?_
  refine EW.region ?_
  first | refine WL.move rfl rfl rfl ?_
  first | refine WL.move rfl rfl rfl ?_
  refine WL.len rfl rfl rfl (len_s _ _ _) ?_
  refine WL.bin rfl rfl rfl rfl (int_lt_d _ _ _ _ _) ?_
  refine WL.done ?_
  refine EW.on ?_
  refine EW.cond_d rfl (fun h8 => ?_) (fun h8 => ?_)
  · refine EW.skip ?_
    refine EW.on ?_
    refine EW.seq ?_
    refine EW.block ?_
    refine EW.seq ?_
    obtain ⟨b, hb0⟩ : ∃ b, l[x.1]? = some b := ⟨_, List.getElem?_eq_getElem (by omega)⟩
    rcases (show ¬ (48 : Int) ≤ (b.toNat : Int) ∨ ((48 : Int) ≤ (b.toNat : Int) ∧ ¬ (b.toNat : Int) ≤ 57) ∨ ((48 : Int) ≤ (b.toNat : Int) ∧ (b.toNat : Int) ≤ 57) by omega) with g1 | ⟨g1, g2⟩ | ⟨g1, g2⟩
    · refine EW.region ?_
      first | refine WL.move rfl rfl rfl ?_
      first | refine WL.move rfl rfl rfl ?_
      first | refine WL.idx rfl rfl rfl rfl (idx_s l x.1 b hb0 _) ?_
      first | refine WL.bin rfl rfl rfl rfl (u8_ge_t ‹_› _ _ _) ?_ | refine WL.bin rfl rfl rfl rfl (u8_ge_f ‹_› _ _ _) ?_
      first | refine WL.move rfl rfl rfl ?_
      first | refine WL.move rfl rfl rfl ?_ | refine WL.skip _ rfl rfl rfl ?_
      first | refine WL.move rfl rfl rfl ?_ | refine WL.skip _ rfl rfl rfl ?_
      first | refine WL.idx rfl rfl rfl rfl (idx_s l x.1 b hb0 _) ?_ | refine WL.skip _ rfl rfl rfl ?_
      first | refine WL.bin rfl rfl rfl rfl (u8_le_t ‹_› _ _ _) ?_ | refine WL.bin rfl rfl rfl rfl (u8_le_f ‹_› _ _ _) ?_ | refine WL.skip _ rfl rfl rfl ?_
      first | refine WL.pick rfl rfl rfl rfl ?_
      refine WL.done ?_
      refine EW.on ?_
      refine EW.cond_f rfl ?_
      refine EW.skip ?_
      refine pn_block ?_
      refine EW.on ?_
      refine EW.region ?_
      first | refine WL.move rfl rfl rfl ?_
      refine WL.bin rfl rfl rfl rfl (int_add (c := ((x.1 + 1 : Nat) : Int)) (by rw [IntKind.wrap_i64]; omega) _ _ _) ?_
      first | refine WL.assign rfl rfl rfl ?_
      refine WL.done ?_
      exact EW.again (E := gdE l) (R := fun x W => x.1 ≤ l.length ∧ Own W w.heap.size x.2 (dgt (l.take x.1)) ∧ Below w.heap.size w W) (m := fun x => l.length - x.1) (x := x) (x.1 + 1, x.2) [0, 3, 4] rfl ⟨by show x.1 + 1 ≤ _; omega, by show Own W _ x.2 (dgt (l.take (x.1 + 1))); rw [take_succ' hb0, dgt_snoc, if_neg (show ¬ isD b = true from fun h => by have h' := of_decide_eq_true h; omega), List.append_nil]; exact hO, hb⟩ (by show l.length - (x.1 + 1) < l.length - x.1; omega)
    · refine EW.region ?_
      first | refine WL.move rfl rfl rfl ?_
      first | refine WL.move rfl rfl rfl ?_
      first | refine WL.idx rfl rfl rfl rfl (idx_s l x.1 b hb0 _) ?_
      first | refine WL.bin rfl rfl rfl rfl (u8_ge_t ‹_› _ _ _) ?_ | refine WL.bin rfl rfl rfl rfl (u8_ge_f ‹_› _ _ _) ?_
      first | refine WL.move rfl rfl rfl ?_
      first | refine WL.move rfl rfl rfl ?_ | refine WL.skip _ rfl rfl rfl ?_
      first | refine WL.move rfl rfl rfl ?_ | refine WL.skip _ rfl rfl rfl ?_
      first | refine WL.idx rfl rfl rfl rfl (idx_s l x.1 b hb0 _) ?_ | refine WL.skip _ rfl rfl rfl ?_
      first | refine WL.bin rfl rfl rfl rfl (u8_le_t ‹_› _ _ _) ?_ | refine WL.bin rfl rfl rfl rfl (u8_le_f ‹_› _ _ _) ?_ | refine WL.skip _ rfl rfl rfl ?_
      first | refine WL.pick rfl rfl rfl rfl ?_
      refine WL.done ?_
      refine EW.on ?_
      refine EW.cond_f rfl ?_
      refine EW.skip ?_
      refine pn_block ?_
      refine EW.on ?_
      refine EW.region ?_
      first | refine WL.move rfl rfl rfl ?_
      refine WL.bin rfl rfl rfl rfl (int_add (c := ((x.1 + 1 : Nat) : Int)) (by rw [IntKind.wrap_i64]; omega) _ _ _) ?_
      first | refine WL.assign rfl rfl rfl ?_
      refine WL.done ?_
      exact EW.again (E := gdE l) (R := fun x W => x.1 ≤ l.length ∧ Own W w.heap.size x.2 (dgt (l.take x.1)) ∧ Below w.heap.size w W) (m := fun x => l.length - x.1) (x := x) (x.1 + 1, x.2) [0, 3, 4] rfl ⟨by show x.1 + 1 ≤ _; omega, by show Own W _ x.2 (dgt (l.take (x.1 + 1))); rw [take_succ' hb0, dgt_snoc, if_neg (show ¬ isD b = true from fun h => by have h' := of_decide_eq_true h; omega), List.append_nil]; exact hO, hb⟩ (by show l.length - (x.1 + 1) < l.length - x.1; omega)
    · refine EW.region ?_
      first | refine WL.move rfl rfl rfl ?_
      first | refine WL.move rfl rfl rfl ?_
      first | refine WL.idx rfl rfl rfl rfl (idx_s l x.1 b hb0 _) ?_
      first | refine WL.bin rfl rfl rfl rfl (u8_ge_t ‹_› _ _ _) ?_ | refine WL.bin rfl rfl rfl rfl (u8_ge_f ‹_› _ _ _) ?_
      first | refine WL.move rfl rfl rfl ?_
      first | refine WL.move rfl rfl rfl ?_ | refine WL.skip _ rfl rfl rfl ?_
      first | refine WL.move rfl rfl rfl ?_ | refine WL.skip _ rfl rfl rfl ?_
      first | refine WL.idx rfl rfl rfl rfl (idx_s l x.1 b hb0 _) ?_ | refine WL.skip _ rfl rfl rfl ?_
      first | refine WL.bin rfl rfl rfl rfl (u8_le_t ‹_› _ _ _) ?_ | refine WL.bin rfl rfl rfl rfl (u8_le_f ‹_› _ _ _) ?_ | refine WL.skip _ rfl rfl rfl ?_
      first | refine WL.pick rfl rfl rfl rfl ?_
      refine WL.done ?_
      refine EW.on ?_
      refine EW.cond_t rfl ?_
      refine EW.region ?_
      first | refine WL.move rfl rfl rfl ?_
      first | refine WL.move rfl rfl rfl ?_
      first | refine WL.move rfl rfl rfl ?_
      first | refine WL.idx rfl rfl rfl rfl (idx_s l x.1 b hb0 _) ?_
      obtain ⟨s1, W2, v2, W3, p1, p2, o2, lb2, f2⟩ := hO.push b (by have := dgt_take l x.1; have := List.length_filter_le isD l; unfold dgt at *; omega) hb.size 27
      refine WL.bslN [(0, byt b)] rfl rfl rfl p1 ?_
      refine WL.app rfl rfl rfl rfl p2 ?_
      first | refine WL.assign rfl rfl rfl ?_
      refine WL.done ?_
      refine pn_block ?_
      refine EW.on ?_
      refine EW.region ?_
      first | refine WL.move rfl rfl rfl ?_
      refine WL.bin rfl rfl rfl rfl (int_add (c := ((x.1 + 1 : Nat) : Int)) (by rw [IntKind.wrap_i64]; omega) _ _ _) ?_
      first | refine WL.assign rfl rfl rfl ?_
      refine WL.done ?_
      exact EW.again (E := gdE l) (R := fun x W => x.1 ≤ l.length ∧ Own W w.heap.size x.2 (dgt (l.take x.1)) ∧ Below w.heap.size w W) (m := fun x => l.length - x.1) (x := x) (x.1 + 1, v2) [0, 3, 4] rfl ⟨by show x.1 + 1 ≤ _; omega, by show Own W3 _ v2 (dgt (l.take (x.1 + 1))); rw [take_succ' hb0, dgt_snoc, if_pos (show isD b = true from decide_eq_true (by omega))]; exact o2, hb.trans lb2⟩ (by show l.length - (x.1 + 1) < l.length - x.1; omega)
  · refine EW.exit ?_
    refine px_then ?_
    refine px_then ?_
    refine px_block ?_
    refine EW.on ?_
    refine EW.seq ?_
    have hal : l.take x.1 = l := List.take_of_length_le (by omega)
    rw [hal] at hO
    refine EW.region ?_
    first | refine WL.move rfl rfl rfl ?_
    refine WL.conv rfl rfl rfl hO.has.convert ?_
    first | refine WL.assign rfl rfl rfl ?_
    refine WL.done ?_
    refine EW.on ?_
    refine EW.ret ?_
    exact EW.returns Tryd.results14 rfl ⟨rfl, hb⟩
end Go.Proofs.YtnfikgnploockaaDoor
