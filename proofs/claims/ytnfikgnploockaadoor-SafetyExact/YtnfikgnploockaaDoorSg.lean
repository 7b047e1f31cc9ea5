import Derived.Test.YtnfikgnploockaaDoorSf
set_option linter.unusedVariables false
set_option linter.unusedSimpArgs false
namespace Go.Proofs.YtnfikgnploockaaDoor
open Go.RowKit

def numD (a ka b kb : List UInt8) : List UInt8 := if bhE a b = 0 then nG (bhD a ka b kb) 12 else []
set_option maxRecDepth 100000 in
set_option maxHeartbeats 1000000 in
theorem number_any (a ka b kb : List UInt8) (hKa : ka.length = 32) (hKb : kb.length = 32) (w : World) (hL : Lst w) : Calls Tryd.prog 12 #[sv a, kv ka, sv b, kv kb] w fun e w' => e = .returned (.tuple #[sv (numD a ka b kb), .int .i64 (bhE a b)]) ∧ Below w.heap.size w w' := by
  obtain ⟨w1, q1, r1, b1, l1, hq1⟩ := box23 ka w
  obtain ⟨w2, q2, r2, b2, l2, hq2⟩ := box23 kb w1
  refine calls_of_args [sv a, kv ka, sv b, kv kb] Tryd.func12 rfl 25 Tryd.ntmps12 (by show 4 ≤ 25; decide) ?_
  refine EW.seq ?_
  refine EW.region ?_
  refine WL.box rfl rfl rfl r1 ?_
  refine WL.box rfl rfl rfl r2 ?_
  first | refine WL.assign rfl rfl rfl ?_
  first | refine WL.assign rfl rfl rfl ?_
  refine WL.done ?_
  refine EW.on ?_
  refine EW.seq ?_
  refine EW.region ?_
  first | refine WL.move rfl rfl rfl ?_
  refine WL.load rfl rfl rfl (ld23 (b1.on l2) hKa) ?_
  first | refine WL.move rfl rfl rfl ?_
  refine WL.load rfl rfl rfl (ld23 b2 hKb) ?_
  refine WL.call [sv a, kv ka, sv b, kv kb] enter24 rfl rfl rfl (both_any a ka b kb hKa hKb w2 ((hL.on l1).on l2)) ?_
  rintro _ w3 ⟨rfl, l3⟩
  refine ⟨_, rfl, ?_⟩
  first | refine WL.move rfl rfl rfl ?_
  first | refine WL.extract rfl rfl rfl (ext_2 _ _ _).1 ?_
  first | refine WL.extract rfl rfl rfl (ext_2 _ _ _).2 ?_
  first | refine WL.assign rfl rfl rfl ?_
  first | refine WL.assign rfl rfl rfl ?_
  refine WL.done ?_
  refine EW.on ?_
  refine EW.seq ?_
  refine EW.seq ?_
  refine EW.region ?_
  first | refine WL.move rfl rfl rfl ?_
  refine WL.bin rfl rfl rfl rfl (int_ne_d _ _ _ _ _) ?_
  refine WL.done ?_
  refine EW.on ?_
  refine EW.cond_d rfl (fun h21 => ?_) (fun h21 => ?_)
  · refine EW.seq ?_
    refine EW.region ?_
    first | refine WL.move rfl rfl rfl ?_
    first | refine WL.assign rfl rfl rfl ?_
    first | refine WL.assign rfl rfl rfl ?_
    refine WL.done ?_
    refine EW.on ?_
    refine EW.ret ?_
    refine pr_then ?_
    exact EW.returns2 Tryd.results12 rfl rfl ⟨by unfold numD; rw [if_neg h21]; rfl, bt (bt l1 l2) l3⟩
  · refine EW.skip ?_
    refine EW.on ?_
    refine EW.seq ?_
    replace h21 : bhE a b = 0 := by simpa using h21
    refine EW.region ?_
    first | refine WL.move rfl rfl rfl ?_
    refine WL.call [sv (bhD a ka b kb)] enter25 rfl rfl rfl (groups_any _ (bhD_len ka kb h21) w3) ?_
    rintro _ w4 ⟨rfl, l4⟩
    refine ⟨_, rfl, ?_⟩
    first | refine WL.assign rfl rfl rfl ?_
    first | refine WL.assign rfl rfl rfl ?_
    refine WL.done ?_
    refine EW.on ?_
    refine EW.ret ?_
    exact EW.returns2 Tryd.results12 rfl rfl ⟨by unfold numD; rw [if_pos h21, h21], bt (bt (bt l1 l2) l3) l4⟩
theorem i32_lt_d (a b : Int) (W : World) (x y : Operand) : (do eqGuard .lss 21 x y (.int .i32 a) (.int .i32 b); binOp .lss 21 (.int .i32 a) (.int .i32 b) : Sem Value).run Tryd.prog W = .ok (.bool (decide (a < b))) W := by
  go_simp

theorem i32_lt_t {a b : Int} (h : a < b) (W : World) (x y : Operand) : (do eqGuard .lss 21 x y (.int .i32 a) (.int .i32 b); binOp .lss 21 (.int .i32 a) (.int .i32 b) : Sem Value).run Tryd.prog W = .ok (.bool true) W := by rw [i32_lt_d, decide_eq_true h]
theorem i32_lt_f {a b : Int} (h : ¬ a < b) (W : World) (x y : Operand) : (do eqGuard .lss 21 x y (.int .i32 a) (.int .i32 b); binOp .lss 21 (.int .i32 a) (.int .i32 b) : Sem Value).run Tryd.prog W = .ok (.bool false) W := by rw [i32_lt_d, decide_eq_false h]
theorem i32_gt_d (a b : Int) (W : World) (x y : Operand) : (do eqGuard .gtr 21 x y (.int .i32 a) (.int .i32 b); binOp .gtr 21 (.int .i32 a) (.int .i32 b) : Sem Value).run Tryd.prog W = .ok (.bool (decide (b < a))) W := by
  go_simp

theorem i32_gt_t {a b : Int} (h : b < a) (W : World) (x y : Operand) : (do eqGuard .gtr 21 x y (.int .i32 a) (.int .i32 b); binOp .gtr 21 (.int .i32 a) (.int .i32 b) : Sem Value).run Tryd.prog W = .ok (.bool true) W := by rw [i32_gt_d, decide_eq_true h]
theorem i32_gt_f {a b : Int} (h : ¬ b < a) (W : World) (x y : Operand) : (do eqGuard .gtr 21 x y (.int .i32 a) (.int .i32 b); binOp .gtr 21 (.int .i32 a) (.int .i32 b) : Sem Value).run Tryd.prog W = .ok (.bool false) W := by rw [i32_gt_d, decide_eq_false h]
theorem i32_eq_d (a b : Int) (W : World) (x y : Operand) : (do eqGuard .eql 21 x y (.int .i32 a) (.int .i32 b); binOp .eql 21 (.int .i32 a) (.int .i32 b) : Sem Value).run Tryd.prog W = .ok (.bool (decide (a = b))) W := by
  go_simp
  try (rw [Bool.eq_iff_iff]; simp)
theorem i32_eq_t {a b : Int} (h : a = b) (W : World) (x y : Operand) : (do eqGuard .eql 21 x y (.int .i32 a) (.int .i32 b); binOp .eql 21 (.int .i32 a) (.int .i32 b) : Sem Value).run Tryd.prog W = .ok (.bool true) W := by rw [i32_eq_d, decide_eq_true h]
theorem i32_eq_f {a b : Int} (h : ¬ a = b) (W : World) (x y : Operand) : (do eqGuard .eql 21 x y (.int .i32 a) (.int .i32 b); binOp .eql 21 (.int .i32 a) (.int .i32 b) : Sem Value).run Tryd.prog W = .ok (.bool false) W := by rw [i32_eq_d, decide_eq_false h]
/-- What stands for nothing. -/
def SepN (c : Nat) : Prop := c = 32 ∨ c = 9 ∨ c = 10 ∨ c = 45
instance (c : Nat) : Decidable (SepN c) := inferInstanceAs (Decidable (_ ∨ _))
set_option maxRecDepth 100000 in
set_option maxHeartbeats 1000000 in
theorem stands_any (c : Nat) (w : World) : Calls Tryd.prog 26 #[.int .i32 (c : Int)] w fun e w' => e = .returned (.bool (decide (SepN c))) ∧ w' = w := by
  refine calls_of_args [.int .i32 (c : Int)] Tryd.func26 rfl 12 Tryd.ntmps26 (by show 1 ≤ 12; decide) ?_
  refine EW.seq ?_
  refine EW.region ?_
  first | refine WL.assign rfl rfl rfl ?_
  refine WL.done ?_
  refine EW.on ?_
  refine EW.seq ?_
  refine EW.seq ?_
  refine EW.region ?_
  first | refine WL.move rfl rfl rfl ?_
  refine WL.done ?_
  refine EW.on ?_
  refine EW.block ?_
  refine EW.seq ?_
  refine EW.block ?_
  refine EW.block ?_
  refine EW.block ?_
  refine EW.block ?_
  refine EW.seq ?_
  refine EW.seq ?_
  refine EW.seq ?_
  refine EW.region ?_
  refine WL.bin rfl rfl rfl rfl (i32_eq_d _ _ _ _ _) ?_
  first | refine WL.assign rfl rfl rfl ?_
  refine WL.done ?_
  refine EW.on ?_
  refine EW.cond_d rfl (fun h4 => ?_) (fun h4 => ?_)
  · refine EW.exit ?_
    refine px_then ?_
    refine px_then ?_
    refine px_block ?_
    refine pn_block ?_
    refine pn_block ?_
    refine pn_block ?_
    refine EW.on ?_
    refine EW.seq ?_
    refine EW.seq ?_
    refine EW.region ?_
    first | refine WL.assign rfl rfl rfl ?_
    refine WL.done ?_
    refine EW.on ?_
    refine EW.ret ?_
    refine pr_then ?_
    refine pr_block ?_
    refine pr_then ?_
    exact EW.returns Tryd.results26 rfl ⟨by rw [decide_eq_true (show SepN c by unfold SepN; omega)], rfl⟩
  · refine EW.skip ?_
    refine EW.on ?_
    refine EW.seq ?_
    refine EW.seq ?_
    refine EW.region ?_
    refine WL.bin rfl rfl rfl rfl (i32_eq_d _ _ _ _ _) ?_
    first | refine WL.assign rfl rfl rfl ?_
    refine WL.done ?_
    refine EW.on ?_
    refine EW.cond_d rfl (fun h6 => ?_) (fun h6 => ?_)
    · refine EW.exit ?_
      refine px_then ?_
      refine px_then ?_
      refine px_other (by decide) ?_
      refine px_block ?_
      refine pn_block ?_
      refine pn_block ?_
      refine EW.on ?_
      refine EW.seq ?_
      refine EW.seq ?_
      refine EW.region ?_
      first | refine WL.assign rfl rfl rfl ?_
      refine WL.done ?_
      refine EW.on ?_
      refine EW.ret ?_
      refine pr_then ?_
      refine pr_block ?_
      refine pr_then ?_
      exact EW.returns Tryd.results26 rfl ⟨by rw [decide_eq_true (show SepN c by unfold SepN; omega)], rfl⟩
    · refine EW.skip ?_
      refine EW.on ?_
      refine EW.seq ?_
      refine EW.seq ?_
      refine EW.region ?_
      refine WL.bin rfl rfl rfl rfl (i32_eq_d _ _ _ _ _) ?_
      first | refine WL.assign rfl rfl rfl ?_
      refine WL.done ?_
      refine EW.on ?_
      refine EW.cond_d rfl (fun h8 => ?_) (fun h8 => ?_)
      · refine EW.exit ?_
        refine px_then ?_
        refine px_then ?_
        refine px_other (by decide) ?_
        refine px_other (by decide) ?_
        refine px_block ?_
        refine pn_block ?_
        refine EW.on ?_
        refine EW.seq ?_
        refine EW.seq ?_
        refine EW.region ?_
        first | refine WL.assign rfl rfl rfl ?_
        refine WL.done ?_
        refine EW.on ?_
        refine EW.ret ?_
        refine pr_then ?_
        refine pr_block ?_
        refine pr_then ?_
        exact EW.returns Tryd.results26 rfl ⟨by rw [decide_eq_true (show SepN c by unfold SepN; omega)], rfl⟩
      · refine EW.skip ?_
        refine EW.on ?_
        refine EW.seq ?_
        refine EW.region ?_
        refine WL.bin rfl rfl rfl rfl (i32_eq_d _ _ _ _ _) ?_
        first | refine WL.assign rfl rfl rfl ?_
        refine WL.done ?_
        refine EW.on ?_
        refine EW.cond_d rfl (fun h10 => ?_) (fun h10 => ?_)
        · refine EW.exit ?_
          refine px_then ?_
          refine px_other (by decide) ?_
          refine px_other (by decide) ?_
          refine px_other (by decide) ?_
          refine px_block ?_
          refine EW.on ?_
          refine EW.seq ?_
          refine EW.seq ?_
          refine EW.region ?_
          first | refine WL.assign rfl rfl rfl ?_
          refine WL.done ?_
          refine EW.on ?_
          refine EW.ret ?_
          refine pr_then ?_
          refine pr_block ?_
          refine pr_then ?_
          exact EW.returns Tryd.results26 rfl ⟨by rw [decide_eq_true (show SepN c by unfold SepN; omega)], rfl⟩
        · refine EW.skip ?_
          refine EW.on ?_
          refine EW.exit ?_
          refine px_other (by decide) ?_
          refine px_other (by decide) ?_
          refine px_other (by decide) ?_
          refine px_other (by decide) ?_
          refine px_then ?_
          refine px_block ?_
          refine EW.on ?_
          refine EW.seq ?_
          refine EW.region ?_
          first | refine WL.assign rfl rfl rfl ?_
          refine WL.done ?_
          refine EW.on ?_
          refine EW.ret ?_
          exact EW.returns Tryd.results26 rfl ⟨by rw [decide_eq_false (show ¬ SepN c by unfold SepN; omega)], rfl⟩
theorem dec_spec (s : ByteArray) (pos : Nat) (h : pos < s.size) : ((s[pos]'h).toNat < 128 → Utf8.decode s pos = ((s[pos]'h).toNat, 1)) ∧ (¬ (s[pos]'h).toNat < 128 → 128 ≤ (Utf8.decode s pos).1) := by
  refine ⟨fun ha => decode_ascii s pos h ha, fun ha => ?_⟩
  have e : s.get! (pos + 0) = s[pos]'h := by
    show s.get! pos = _
    simp [ByteArray.get!, getElem!_pos, h]
    rfl
  simp only [Utf8.decode, e]
  rw [if_neg ha]
  repeat' split
  all_goals simp_all [Utf8.runeError, Utf8.valid]
  all_goals omega
/-- Digits and what stands for nothing. -/
def isD (b : UInt8) : Bool := decide (48 ≤ b.toNat ∧ b.toNat ≤ 57)
def isP (b : UInt8) : Bool := decide (SepN b.toNat)
def dgt (l : List UInt8) : List UInt8 := l.filter isD
def okT (l : List UInt8) : Bool := l.all fun b => isP b || isD b
def rdOk (l : List UInt8) : Prop := okT l = true ∧ (dgt l).length = 60
instance (l : List UInt8) : Decidable (rdOk l) := inferInstanceAs (Decidable (_ ∧ _))
def rd (l : List UInt8) : List UInt8 := if rdOk l then dgt l else []
def rdE (l : List UInt8) : Int := if rdOk l then 0 else 250
theorem dgt_snoc (l : List UInt8) (b : UInt8) : dgt (l ++ [b]) = dgt l ++ (if isD b then [b] else []) := by
  unfold dgt
  rw [List.filter_append]
  congr 1
  by_cases h : isD b <;> simp [h]
theorem okT_snoc (l : List UInt8) (b : UInt8) : okT (l ++ [b]) = (okT l && (isP b || isD b)) := by simp [okT]
theorem okT_take {l : List UInt8} (h : okT l = true) (n : Nat) : okT (l.take n) = true := by
  unfold okT at *
  rw [List.all_eq_true] at *
  exact fun x hx => h x (List.mem_of_mem_take hx)
theorem dgt_take (l : List UInt8) (n : Nat) : (dgt (l.take n)).length ≤ (dgt l).length := (List.Sublist.filter _ (List.take_sublist n l)).length_le
theorem isP_D {b : UInt8} (h : isP b = true) : isD b = false := by
  have h' : SepN b.toNat := of_decide_eq_true h
  unfold SepN at h'
  unfold isD
  exact decide_eq_false (by omega)
theorem mk60 (w : World) : ∃ v w1, (Instr.makeSlice 27 (.int .i64 0) (.int .i64 60)).run Tryd.prog w = .ok v w1 ∧ Own w1 w.heap.size v [] ∧ Below w.heap.size w w1 := by
  obtain ⟨i0, hi, hz0, hz1, hz2⟩ := info_parts Tryd.info5
  have hrun := run_make (P := Tryd.prog) w 27 5 i0 (.int .u8 0) Tryd.underlying27 hi hz0 .i64 .i64 0 60 (by omega) (by omega) (by rw [hz2]; omega) (by omega)
  rw [hz1, show Int.toNat 60 = 60 from rfl, Nat.mul_one, made_zeros] at hrun
  exact ⟨_, _, hrun, ⟨rfl, .inr ⟨w.heap.size, 60, _, rfl, Nat.le_refl _, heap_alloc_new w _, by simp, by unfold maxLen; decide, by simp, by simp⟩⟩, below_new _ _⟩
theorem conv21_5 (b : UInt8) (W : World) : (Go.convert 21 5 (.int .i32 ((b.toNat : Nat) : Int))).run Tryd.prog W = .ok (byt b) W := by
  have := b.toNat_lt
  unfold byt
  go_simp
  try simp [IntKind.wrap, IntKind.bits, IntKind.signed]
  try omega
theorem ext_3 (a b c : Value) (W : World) : (Instr.extract (.tuple #[a, b, c]) 0).run Tryd.prog W = .ok a W ∧ (Instr.extract (.tuple #[a, b, c]) 2).run Tryd.prog W = .ok c W := by
  constructor <;> go_simp
theorem ext_1 (a : Value) (W : World) : (Instr.extract (.tuple #[a]) 0).run Tryd.prog W = .ok a W := by go_simp
theorem Own.fx {w w' : World} {base : Nat} {v : Value} {bs : List UInt8} {k0 : Nat} (h : Own w base v bs) (hb : ∀ k, k ≠ k0 → w'.heap[k]? = w.heap[k]?) (hk : ∀ c t f, w.heap[k0]? ≠ some (.cells c t f)) : Own w' base v bs := by
  obtain ⟨h1, h | ⟨g, cap, cur, hv, hg, hh, r⟩⟩ := h
  · exact ⟨h1, .inl h⟩
  · refine ⟨h1, .inr ⟨g, cap, cur, hv, hg, ?_, r⟩⟩
    rw [hb g (fun e => hk _ _ _ (by rw [← e]; exact hh)), hh]
theorem Own.notIt {w : World} {base : Nat} {v : Value} {bs : List UInt8} {k0 : Nat} (h : Own w base v bs) (hk : ∀ c t f, w.heap[k0]? ≠ some (.cells c t f)) : ¬ v.ownBlock = some k0 := by
  intro e
  obtain ⟨h1, ⟨rfl, _⟩ | ⟨g, cap, cur, rfl, hg, hh, r⟩⟩ := h
  · cases e
  · simp only [Value.ownBlock, Option.some.injEq] at e
    exact hk _ _ _ (by rw [← e]; exact hh)
/-- Read, in the midst. -/
structure Rdg (w W : World) (it : Nat) (l : List UInt8) (pos : Nat) (v : Value) : Prop where
  le : pos ≤ l.length
  hi : W.heap[it]? = some (.stringIter ⟨l.toArray⟩ pos)
  ow : Own W w.heap.size v (dgt (l.take pos))
  ok : okT (l.take pos) = true
  n6 : (dgt (l.take pos)).length ≤ 60
  be : Below w.heap.size w W
  lt : w.heap.size ≤ it
theorem Rdg.nc {w W : World} {it : Nat} {l : List UInt8} {pos : Nat} {v : Value} (h : Rdg w W it l pos v) : ∀ c t f, W.heap[it]? ≠ some (.cells c t f) := fun c t f e => by rw [h.hi] at e; cases e
/-- One rune on. -/
theorem Rdg.next {w W : World} {it : Nat} {l : List UInt8} {pos : Nat} {v : Value} (h : Rdg w W it l pos v) {b : UInt8} (hb : l[pos]? = some b) (ty : TypeId) : ∃ c W', (Instr.next (.pointer (some ⟨it, 0, none⟩)) true ty).run Tryd.prog W = .ok (.tuple #[.bool true, .int .i64 (pos : Int), .int .i32 ((c : Nat) : Int)]) W' ∧ (b.toNat < 128 → c = b.toNat ∧ W'.heap[it]? = some (.stringIter ⟨l.toArray⟩ (pos + 1))) ∧ (¬ b.toNat < 128 → 128 ≤ c) ∧ Own W' w.heap.size v (dgt (l.take pos)) ∧ Below w.heap.size w W' ∧ ∀ c t f, W'.heap[it]? ≠ some (.cells c t f) := by
  have hl : pos < l.length := (List.getElem?_eq_some_iff.1 hb).1
  have hs : pos < (⟨l.toArray⟩ : ByteArray).size := by simpa [ByteArray.size] using hl
  have eb : (⟨l.toArray⟩ : ByteArray)[pos]'hs = b := by
    rw [List.getElem?_eq_getElem hl] at hb
    exact Option.some.inj hb
  obtain ⟨d1, d2⟩ := dec_spec ⟨l.toArray⟩ pos hs
  rw [eb] at d1 d2
  refine ⟨_, _, Lib.run_next_any_at W it ⟨l.toArray⟩ pos ty h.hi hs, fun hlt => ?_, fun hlt => d2 hlt, h.ow.fx (k0 := it) (fun k hk => Lib.iterAt_other W it k _ _ hk) h.nc, Lib.below_iterAt h.be h.lt _ _, fun c t f e => ?_⟩
  · rw [d1 hlt]
    exact ⟨rfl, Lib.iterAt_heap W it _ pos _ h.hi⟩
  · rw [Lib.iterAt_heap W it _ pos _ h.hi] at e; cases e
def rE (it : Nat) (x : Nat × Value) : List (Nat × Value) := [(4, x.2), (9, .pointer (some ⟨it, 0, none⟩))]
theorem rd_yes {l : List UInt8} (h : rdOk l) : rd l = dgt l ∧ rdE l = 0 := by unfold rd rdE; rw [if_pos h, if_pos h]; exact ⟨rfl, rfl⟩
theorem rd_no {l : List UInt8} (h : ¬ rdOk l) : rd l = [] ∧ rdE l = 250 := by unfold rd rdE; rw [if_neg h, if_neg h]; exact ⟨rfl, rfl⟩
theorem no_of_bad {l : List UInt8} {pos : Nat} {b : UInt8} (hb : l[pos]? = some b) (h : (isP b || isD b) = false) : ¬ rdOk l := fun ⟨h1, _⟩ => by
  have := okT_take h1 (pos + 1)
  rw [take_succ' hb, okT_snoc, h, Bool.and_false] at this
  cases this
theorem no_of_many {l : List UInt8} {pos : Nat} {b : UInt8} (hb : l[pos]? = some b) (h : isD b = true) (h6 : (dgt (l.take pos)).length = 60) : ¬ rdOk l := fun ⟨_, h2⟩ => by
  have := dgt_take l (pos + 1)
  rw [take_succ' hb, dgt_snoc, if_pos h, List.length_append, h6, h2] at this
  simp at this
theorem bad_of {b : UInt8} {c : Nat} (h1 : b.toNat < 128 → c = b.toNat) (h2 : ¬ b.toNat < 128 → 128 ≤ c) (hs : ¬ SepN c) (hd : c < 48 ∨ 57 < c) : (isP b || isD b) = false := by
  unfold isP isD
  simp only [Bool.or_eq_false_iff, decide_eq_false_iff_not]
  by_cases h : b.toNat < 128
  · rw [h1 h] at hs hd; exact ⟨hs, by omega⟩
  · have := h2 h; exact ⟨fun e => by unfold SepN at e; omega, by omega⟩
theorem good_of {b : UInt8} {c : Nat} (h1 : b.toNat < 128 → c = b.toNat) (h2 : ¬ b.toNat < 128 → 128 ≤ c) (hd : 48 ≤ c ∧ c ≤ 57) : b.toNat < 128 ∧ isD b = true := by
  unfold isD
  by_cases h : b.toNat < 128
  · rw [h1 h] at hd; exact ⟨h, decide_eq_true hd⟩
  · have := h2 h; omega
theorem sep_of {b : UInt8} {c : Nat} (h1 : b.toNat < 128 → c = b.toNat) (h2 : ¬ b.toNat < 128 → 128 ≤ c) (hd : SepN c) : b.toNat < 128 ∧ isP b = true := by
  by_cases h : b.toNat < 128
  · rw [h1 h] at hd; exact ⟨h, decide_eq_true hd⟩
  · have := h2 h; unfold SepN at hd; omega
theorem len_own {w : World} {base : Nat} {v : Value} {bs : List UInt8} (h : Own w base v bs) (ty : TypeId) (W : World) : (Builtin.len_ #[27] ty #[v]).run Tryd.prog W = .ok (.int .i64 (bs.length : Int)) W := len27 h.has ty W
set_option maxRecDepth 100000 in
set_option maxHeartbeats 1000000 in
theorem read_any (l : List UInt8) (w : World) : Calls Tryd.prog 15 #[sv l] w fun e w' => e = .returned (.tuple #[sv (rd l), .int .i64 (rdE l)]) ∧ Below w.heap.size w w' := by
  obtain ⟨v1, w1, r1, o1, l1⟩ := mk60 w
  have r2 := run_range_string (P := Tryd.prog) w1 9 ⟨l.toArray⟩ Tryd.underlying9
  have l2 : Below w1.heap.size w1 (w1.iter ⟨l.toArray⟩ 0) := below_new _ _
  obtain ⟨it, hit⟩ : ∃ it, w1.heap.size = it := ⟨_, rfl⟩
  have R0 : Rdg w (w1.iter ⟨l.toArray⟩ 0) it l 0 v1 := ⟨Nat.zero_le _, by rw [← hit]; exact World.iter_heap w1 _ 0, o1.below l2, rfl, Nat.zero_le _, bt l1 l2, by rw [← hit]; exact l1.size⟩
  rw [hit] at r2
  refine calls_of_args [sv l] Tryd.func15 rfl 36 Tryd.ntmps15 (by show 1 ≤ 36; decide) ?_
  refine EW.seq ?_
  refine EW.region ?_
  first | refine WL.assign rfl rfl rfl ?_
  first | refine WL.assign rfl rfl rfl ?_
  refine WL.done ?_
  refine EW.on ?_
  refine EW.seq ?_
  refine EW.region ?_
  refine WL.mks rfl rfl rfl rfl r1 ?_
  first | refine WL.assign rfl rfl rfl ?_
  refine WL.done ?_
  refine EW.on ?_
  refine EW.seq ?_
  refine EW.seq ?_
  refine EW.region ?_
  first | refine WL.move rfl rfl rfl ?_
  refine WL.rng rfl rfl rfl r2 ?_
  refine WL.done ?_
  refine EW.on ?_
  refine EW.block ?_
  refine EW.loop (rE it) (fun x W => Rdg w W it l x.1 x.2) (fun x => l.length - x.1) (0, v1) [4, 9] rfl R0 ?_
  rintro x W hR
  refine EW.seq ?_
  rcases (show x.1 < l.length ∨ ¬ x.1 < l.length by omega) with hlt | hlt
  · obtain ⟨b, hb0⟩ : ∃ b, l[x.1]? = some b := ⟨_, List.getElem?_eq_getElem hlt⟩
    obtain ⟨c, W1, rn, hc3, hc2, ow1, be1, nc1⟩ := hR.next hb0 0
    have hc1 := fun h => (hc3 h).1
    refine EW.region ?_
    refine WL.nxt rfl rfl rfl rn ?_
    refine WL.extract rfl rfl rfl (ext_3 _ _ _ _).1 ?_
    refine WL.done ?_
    refine EW.on ?_
    refine EW.seq ?_
    refine EW.cond_t rfl ?_
    refine EW.skip ?_
    refine EW.on ?_
    refine EW.block ?_
    refine EW.seq ?_
    refine EW.region ?_
    refine WL.extract rfl rfl rfl (ext_3 _ _ _ _).2 ?_
    first | refine WL.assign rfl rfl rfl ?_
    refine WL.done ?_
    refine EW.on ?_
    refine EW.seq ?_
    refine EW.seq ?_
    refine EW.region ?_
    first | refine WL.move rfl rfl rfl ?_
    refine WL.call [.int .i32 ((c : Nat) : Int)] enter26 rfl rfl rfl (stands_any c W1) ?_
    rintro _ wz ⟨rfl, hz⟩
    rw [hz]
    clear hz wz
    refine ⟨_, rfl, ?_⟩
    refine WL.done ?_
    refine EW.on ?_
    refine EW.cond_d rfl (fun h14 => ?_) (fun h14 => ?_)
    · refine EW.exit ?_
      refine px_then ?_
      refine px_block ?_
      exact EW.again (E := rE it) (R := fun x W => Rdg w W it l x.1 x.2) (m := fun x => l.length - x.1) (x := x) (x.1 + 1, x.2) [4, 9] rfl ⟨by show x.1 + 1 ≤ _; omega, (hc3 (sep_of hc1 hc2 h14).1).2, by show Own W1 _ x.2 (dgt (l.take (x.1 + 1))); rw [take_succ' hb0, dgt_snoc, isP_D (sep_of hc1 hc2 h14).2]; simpa using ow1, by show okT (l.take (x.1 + 1)) = true; rw [take_succ' hb0, okT_snoc, hR.ok, (sep_of hc1 hc2 h14).2]; rfl, by show (dgt (l.take (x.1 + 1))).length ≤ 60; rw [take_succ' hb0, dgt_snoc, isP_D (sep_of hc1 hc2 h14).2]; simpa using hR.n6, be1, hR.lt⟩ (by show l.length - (x.1 + 1) < l.length - x.1; omega)
    · refine EW.skip ?_
      refine EW.on ?_
      refine EW.seq ?_
      refine EW.seq ?_
      have hln := hR.n6
      rcases (show ((c : Nat) : Int) < 48 ∨ (¬ ((c : Nat) : Int) < 48 ∧ (57 : Int) < ((c : Nat) : Int)) ∨ (¬ ((c : Nat) : Int) < 48 ∧ ¬ (57 : Int) < ((c : Nat) : Int) ∧ ((dgt (l.take x.1)).length : Int) = 60) ∨ (¬ ((c : Nat) : Int) < 48 ∧ ¬ (57 : Int) < ((c : Nat) : Int) ∧ ¬ ((dgt (l.take x.1)).length : Int) = 60) by omega) with g1 | ⟨g1, g2⟩ | ⟨g1, g2, g3⟩ | ⟨g1, g2, g3⟩
      · refine EW.region ?_
        first | refine WL.move rfl rfl rfl ?_
        first | refine WL.bin rfl rfl rfl rfl (i32_lt_t ‹_› _ _ _) ?_ | refine WL.bin rfl rfl rfl rfl (i32_lt_f ‹_› _ _ _) ?_
        first | refine WL.move rfl rfl rfl ?_
        first | refine WL.move rfl rfl rfl ?_ | refine WL.skip _ rfl rfl rfl ?_
        first | refine WL.bin rfl rfl rfl rfl (i32_gt_t ‹_› _ _ _) ?_ | refine WL.bin rfl rfl rfl rfl (i32_gt_f ‹_› _ _ _) ?_ | refine WL.skip _ rfl rfl rfl ?_
        first | refine WL.pick rfl rfl rfl rfl ?_
        first | refine WL.move rfl rfl rfl ?_
        first | refine WL.move rfl rfl rfl ?_ | refine WL.skip _ rfl rfl rfl ?_
        first | refine WL.len rfl rfl rfl (len_own ow1 _ _) ?_ | refine WL.skip _ rfl rfl rfl ?_
        first | refine WL.bin rfl rfl rfl rfl (int_eq_t rfl _ _ _) ?_ | refine WL.bin rfl rfl rfl rfl (int_eq_t ‹_› _ _ _) ?_ | refine WL.bin rfl rfl rfl rfl (int_eq_f ‹_› _ _ _) ?_ | refine WL.bin rfl rfl rfl rfl (int_eq_d _ _ _ _ _) ?_ | refine WL.skip _ rfl rfl rfl ?_
        first | refine WL.pick rfl rfl rfl rfl ?_
        refine WL.done ?_
        refine EW.on ?_
        refine EW.cond_t rfl ?_
        refine EW.seq ?_
        refine EW.region ?_
        first | refine WL.assign rfl rfl rfl ?_
        first | refine WL.assign rfl rfl rfl ?_
        refine WL.done ?_
        refine EW.on ?_
        refine EW.ret ?_
        refine pr_then ?_
        refine pr_block ?_
        refine pr_then ?_
        refine pr_block ?_
        refine pr_then ?_
        exact EW.returns2 Tryd.results15 rfl rfl ⟨by rw [(rd_no (no_of_bad hb0 (bad_of hc1 hc2 h14 (.inl (by omega))))).1, (rd_no (no_of_bad hb0 (bad_of hc1 hc2 h14 (.inl (by omega))))).2]; rfl, be1⟩
      · refine EW.region ?_
        first | refine WL.move rfl rfl rfl ?_
        first | refine WL.bin rfl rfl rfl rfl (i32_lt_t ‹_› _ _ _) ?_ | refine WL.bin rfl rfl rfl rfl (i32_lt_f ‹_› _ _ _) ?_
        first | refine WL.move rfl rfl rfl ?_
        first | refine WL.move rfl rfl rfl ?_ | refine WL.skip _ rfl rfl rfl ?_
        first | refine WL.bin rfl rfl rfl rfl (i32_gt_t ‹_› _ _ _) ?_ | refine WL.bin rfl rfl rfl rfl (i32_gt_f ‹_› _ _ _) ?_ | refine WL.skip _ rfl rfl rfl ?_
        first | refine WL.pick rfl rfl rfl rfl ?_
        first | refine WL.move rfl rfl rfl ?_
        first | refine WL.move rfl rfl rfl ?_ | refine WL.skip _ rfl rfl rfl ?_
        first | refine WL.len rfl rfl rfl (len_own ow1 _ _) ?_ | refine WL.skip _ rfl rfl rfl ?_
        first | refine WL.bin rfl rfl rfl rfl (int_eq_t rfl _ _ _) ?_ | refine WL.bin rfl rfl rfl rfl (int_eq_t ‹_› _ _ _) ?_ | refine WL.bin rfl rfl rfl rfl (int_eq_f ‹_› _ _ _) ?_ | refine WL.bin rfl rfl rfl rfl (int_eq_d _ _ _ _ _) ?_ | refine WL.skip _ rfl rfl rfl ?_
        first | refine WL.pick rfl rfl rfl rfl ?_
        refine WL.done ?_
        refine EW.on ?_
        refine EW.cond_t rfl ?_
        refine EW.seq ?_
        refine EW.region ?_
        first | refine WL.assign rfl rfl rfl ?_
        first | refine WL.assign rfl rfl rfl ?_
        refine WL.done ?_
        refine EW.on ?_
        refine EW.ret ?_
        refine pr_then ?_
        refine pr_block ?_
        refine pr_then ?_
        refine pr_block ?_
        refine pr_then ?_
        exact EW.returns2 Tryd.results15 rfl rfl ⟨by rw [(rd_no (no_of_bad hb0 (bad_of hc1 hc2 h14 (.inr (by omega))))).1, (rd_no (no_of_bad hb0 (bad_of hc1 hc2 h14 (.inr (by omega))))).2]; rfl, be1⟩
      · refine EW.region ?_
        first | refine WL.move rfl rfl rfl ?_
        first | refine WL.bin rfl rfl rfl rfl (i32_lt_t ‹_› _ _ _) ?_ | refine WL.bin rfl rfl rfl rfl (i32_lt_f ‹_› _ _ _) ?_
        first | refine WL.move rfl rfl rfl ?_
        first | refine WL.move rfl rfl rfl ?_ | refine WL.skip _ rfl rfl rfl ?_
        first | refine WL.bin rfl rfl rfl rfl (i32_gt_t ‹_› _ _ _) ?_ | refine WL.bin rfl rfl rfl rfl (i32_gt_f ‹_› _ _ _) ?_ | refine WL.skip _ rfl rfl rfl ?_
        first | refine WL.pick rfl rfl rfl rfl ?_
        first | refine WL.move rfl rfl rfl ?_
        first | refine WL.move rfl rfl rfl ?_ | refine WL.skip _ rfl rfl rfl ?_
        first | refine WL.len rfl rfl rfl (len_own ow1 _ _) ?_ | refine WL.skip _ rfl rfl rfl ?_
        first | refine WL.bin rfl rfl rfl rfl (int_eq_t rfl _ _ _) ?_ | refine WL.bin rfl rfl rfl rfl (int_eq_t ‹_› _ _ _) ?_ | refine WL.bin rfl rfl rfl rfl (int_eq_f ‹_› _ _ _) ?_ | refine WL.bin rfl rfl rfl rfl (int_eq_d _ _ _ _ _) ?_ | refine WL.skip _ rfl rfl rfl ?_
        first | refine WL.pick rfl rfl rfl rfl ?_
        refine WL.done ?_
        refine EW.on ?_
        refine EW.cond_t rfl ?_
        refine EW.seq ?_
        refine EW.region ?_
        first | refine WL.assign rfl rfl rfl ?_
        first | refine WL.assign rfl rfl rfl ?_
        refine WL.done ?_
        refine EW.on ?_
        refine EW.ret ?_
        refine pr_then ?_
        refine pr_block ?_
        refine pr_then ?_
        refine pr_block ?_
        refine pr_then ?_
        exact EW.returns2 Tryd.results15 rfl rfl ⟨by rw [(rd_no (no_of_many hb0 (good_of hc1 hc2 (by omega)).2 (by omega))).1, (rd_no (no_of_many hb0 (good_of hc1 hc2 (by omega)).2 (by omega))).2]; rfl, be1⟩
      · refine EW.region ?_
        first | refine WL.move rfl rfl rfl ?_
        first | refine WL.bin rfl rfl rfl rfl (i32_lt_t ‹_› _ _ _) ?_ | refine WL.bin rfl rfl rfl rfl (i32_lt_f ‹_› _ _ _) ?_
        first | refine WL.move rfl rfl rfl ?_
        first | refine WL.move rfl rfl rfl ?_ | refine WL.skip _ rfl rfl rfl ?_
        first | refine WL.bin rfl rfl rfl rfl (i32_gt_t ‹_› _ _ _) ?_ | refine WL.bin rfl rfl rfl rfl (i32_gt_f ‹_› _ _ _) ?_ | refine WL.skip _ rfl rfl rfl ?_
        first | refine WL.pick rfl rfl rfl rfl ?_
        first | refine WL.move rfl rfl rfl ?_
        first | refine WL.move rfl rfl rfl ?_ | refine WL.skip _ rfl rfl rfl ?_
        first | refine WL.len rfl rfl rfl (len_own ow1 _ _) ?_ | refine WL.skip _ rfl rfl rfl ?_
        first | refine WL.bin rfl rfl rfl rfl (int_eq_t rfl _ _ _) ?_ | refine WL.bin rfl rfl rfl rfl (int_eq_t ‹_› _ _ _) ?_ | refine WL.bin rfl rfl rfl rfl (int_eq_f ‹_› _ _ _) ?_ | refine WL.bin rfl rfl rfl rfl (int_eq_d _ _ _ _ _) ?_ | refine WL.skip _ rfl rfl rfl ?_
        first | refine WL.pick rfl rfl rfl rfl ?_
        refine WL.done ?_
        refine EW.on ?_
        refine EW.cond_f rfl ?_
        refine EW.skip ?_
        refine EW.on ?_
        have hgd := good_of hc1 hc2 (by omega)
        have hcb := hc1 hgd.1
        subst hcb
        have itl : it < W1.heap.size := (Array.getElem?_eq_some_iff.1 (hc3 hgd.1).2).1
        refine EW.region ?_
        first | refine WL.move rfl rfl rfl ?_
        first | refine WL.move rfl rfl rfl ?_
        refine WL.conv rfl rfl rfl (conv21_5 b _) ?_
        obtain ⟨s1, W2, v2, W3, p1, p2, o2, lb2, f2⟩ := ow1.push b (by omega) be1.size 27
        refine WL.bslN [(0, byt b)] rfl rfl rfl p1 ?_
        refine WL.app rfl rfl rfl rfl p2 ?_
        first | refine WL.assign rfl rfl rfl ?_
        refine WL.done ?_
        refine pn_block ?_
        exact EW.again (E := rE it) (R := fun x W => Rdg w W it l x.1 x.2) (m := fun x => l.length - x.1) (x := x) (x.1 + 1, v2) [4, 9] rfl ⟨by show x.1 + 1 ≤ _; omega, by rw [← (hc3 hgd.1).2]; exact f2.block it itl (ow1.notIt nc1), by show Own W3 _ v2 (dgt (l.take (x.1 + 1))); rw [take_succ' hb0, dgt_snoc, if_pos hgd.2]; exact o2, by show okT (l.take (x.1 + 1)) = true; rw [take_succ' hb0, okT_snoc, hR.ok, hgd.2]; simp, by show (dgt (l.take (x.1 + 1))).length ≤ 60; rw [take_succ' hb0, dgt_snoc, if_pos hgd.2]; simp; omega, be1.trans lb2, hR.lt⟩ (by show l.length - (x.1 + 1) < l.length - x.1; omega)
  · have hle := hR.le
    have hal : l.take x.1 = l := List.take_of_length_le (by omega)
    have rn := Lib.run_next_end_at (P := Tryd.prog) W it ⟨l.toArray⟩ x.1 0 hR.hi (by simpa [ByteArray.size] using hlt)
    refine EW.region ?_
    refine WL.nxt rfl rfl rfl rn ?_
    refine WL.extract rfl rfl rfl (ext_1 _ _) ?_
    refine WL.done ?_
    refine EW.on ?_
    refine EW.seq ?_
    refine EW.cond_f rfl ?_
    refine EW.exit ?_
    refine px_then ?_
    refine px_then ?_
    refine px_block ?_
    refine EW.on ?_
    refine EW.seq ?_
    refine EW.seq ?_
    have hnn := hR.n6
    have hokl := hR.ok
    have howl := hR.ow
    rw [hal] at hnn hokl howl
    refine EW.region ?_
    first | refine WL.move rfl rfl rfl ?_
    refine WL.len rfl rfl rfl (len_own howl _ _) ?_
    refine WL.bin rfl rfl rfl rfl (int_lt_d _ _ _ _ _) ?_
    refine WL.done ?_
    refine EW.on ?_
    refine EW.cond_d rfl (fun h33 => ?_) (fun h33 => ?_)
    · refine EW.seq ?_
      refine EW.region ?_
      first | refine WL.assign rfl rfl rfl ?_
      first | refine WL.assign rfl rfl rfl ?_
      refine WL.done ?_
      refine EW.on ?_
      refine EW.ret ?_
      refine pr_then ?_
      exact EW.returns2 Tryd.results15 rfl rfl ⟨by rw [(rd_no (fun h => by have := h.2; omega)).1, (rd_no (fun h => by have := h.2; omega)).2]; rfl, hR.be⟩
    · refine EW.skip ?_
      refine EW.on ?_
      refine EW.seq ?_
      refine EW.region ?_
      first | refine WL.move rfl rfl rfl ?_
      refine WL.conv rfl rfl rfl howl.has.convert ?_
      first | refine WL.assign rfl rfl rfl ?_
      first | refine WL.assign rfl rfl rfl ?_
      refine WL.done ?_
      refine EW.on ?_
      refine EW.ret ?_
      exact EW.returns2 Tryd.results15 rfl rfl ⟨by rw [(rd_yes ⟨hokl, by omega⟩).1, (rd_yes ⟨hokl, by omega⟩).2]; rfl, hR.be⟩
end Go.Proofs.YtnfikgnploockaaDoor
