import Derived.Test.YthlpfpggjkocmaaWb
set_option linter.unusedVariables false
set_option linter.unusedSimpArgs false
namespace Go.Proofs.Ythlpfpggjkocmaa
open Go.RowKit

def secB (img : List UInt8) (i : Nat) : List UInt8 := (img.drop (i * 512)).take 512
theorem secB_length (img : List UInt8) (n i : Nat) (hl : img.length = n * 512) (hi : i < n) : (secB img i).length = 512 := by
  unfold secB; simp; omega
theorem secB_at (img : List UInt8) (i j : Nat) (hj : j < 512) : (secB img i)[j]? = img[i * 512 + j]? := by
  unfold secB
  rw [List.getElem?_take_of_lt hj, List.getElem?_drop]
/-- A sector behind one write. -/
theorem sec_settle (img : List UInt8) (n s m i : Nat) (b : List UInt8) (hl : img.length = n * 512) (hs : s < n) (hi : i < n) (hm : m ≤ 512) (hb : b.length = 512) :
    secB (settleL img s m b) i = if s = i then b.take m ++ (secB img i).drop m else secB img i := by
  have hsl := settle_length img s m n b hl hs hm hb
  have hA : (img.take (s * 512)).length = s * 512 := by simp; omega
  have hB : (b.take m).length = m := by simp; omega
  refine List.ext_getElem? fun j => ?_
  rcases Nat.lt_or_ge j 512 with hj | hj
  · rw [secB_at _ i j hj]
    unfold settleL
    by_cases h : s = i
    · subst h
      rw [if_pos rfl, List.append_assoc, List.getElem?_append_right (by omega), hA, show s * 512 + j - s * 512 = j by omega]
      by_cases hjm : j < m
      · rw [List.getElem?_append_left (by omega), List.getElem?_append_left (by omega)]
      · rw [List.getElem?_append_right (by omega), List.getElem?_append_right (by omega), hB, List.getElem?_drop, List.getElem?_drop, secB_at _ _ _ (by omega), show s * 512 + m + (j - m) = s * 512 + (m + (j - m)) by omega]
    · rw [if_neg h, secB_at _ i j hj]
      rcases Nat.lt_or_ge i s with h1 | h1
      · have h2 : i * 512 + j < s * 512 := by have := Nat.mul_le_mul_right 512 h1; omega
        rw [List.append_assoc, List.getElem?_append_left (by omega), List.getElem?_take_of_lt h2]
      · have h3 : s + 1 ≤ i := by omega
        have h2 : s * 512 + 512 ≤ i * 512 := by have := Nat.mul_le_mul_right 512 h3; omega
        rw [List.getElem?_append_right (by rw [List.length_append, hA, hB]; omega), List.getElem?_drop, List.length_append, hA, hB, show s * 512 + m + (i * 512 + j - (s * 512 + m)) = i * 512 + j by omega]
  · rw [List.getElem?_eq_none (by rw [secB_length _ n i (by rw [hsl, hl]) hi]; exact hj)]
    split
    · rw [List.getElem?_eq_none]
      rw [List.length_append, hB, List.length_drop, secB_length img n i hl hi]
      omega
    · rw [List.getElem?_eq_none (by rw [secB_length img n i hl hi]; exact hj)]
theorem readB_sec (D : Dv) (i : Nat) : readB D i = if nw D.pen i = 0 then secB D.img i else (D.pen.getD (nw D.pen i - 1) (0, [])).2 := rfl
theorem readB_push (D : Dv) (i j : Nat) (b : List UInt8) : readB (tickD (pushD D i b)) j = if j = i then b else readB D j := by
  rw [readB_sec, readB_sec]
  show (if nw (D.pen ++ [(i, b)]) j = 0 then secB D.img j else ((D.pen ++ [(i, b)]).getD (nw (D.pen ++ [(i, b)]) j - 1) (0, [])).2) = _
  rw [nw_snoc]
  by_cases h : j = i
  · subst h
    rw [if_pos (show (j, b).1 = j from rfl), if_neg (by omega), if_pos rfl, Nat.add_sub_cancel, List.getD_eq_getElem?_getD, List.getElem?_append_right (Nat.le_refl _), Nat.sub_self]
    rfl
  · have hne : ¬ (i, b).1 = j := fun e => h e.symm
    rw [if_neg hne, if_neg h]
    by_cases h0 : nw D.pen j = 0
    · rw [if_pos h0, if_pos h0]
    · rw [if_neg h0, if_neg h0]
      have := nw_le D.pen j
      rw [List.getD_eq_getElem?_getD, List.getD_eq_getElem?_getD, List.getElem?_append_left (by omega)]
theorem sec_flushT (pen : List (Nat × List UInt8)) (img : List UInt8) (n i : Nat) (hl : img.length = n * 512) (hp : ∀ x ∈ pen, x.1 < n ∧ x.2.length = 512) (hi : i < n) : ∀ t, t ≤ pen.length → secB (imgT (fun _ => 512) pen img t) i = if nw (pen.take t) i = 0 then secB img i else (pen.getD (nw (pen.take t) i - 1) (0, [])).2
  | 0, _ => by rw [List.take_zero, nw_nil, if_pos rfl]; rfl
  | t + 1, ht => by
    obtain ⟨x, hx⟩ : ∃ x, pen[t]? = some x := ⟨pen[t]'(by omega), List.getElem?_eq_getElem _⟩
    have hge : pen.getD t (0, []) = x := by rw [List.getD_eq_getElem?_getD, hx]; rfl
    have hx2 := hp x (List.mem_of_getElem? hx)
    have ih := sec_flushT pen img n i hl hp hi t (by omega)
    have htk : pen.take (t + 1) = pen.take t ++ [x] := by rw [List.take_add_one, hx]; rfl
    have htl : (pen.take t).length = t := by rw [List.length_take]; omega
    rw [imgT, hge, sec_settle _ n _ _ _ _ (imgT_length _ pen img n hl (fun _ => Nat.le_refl _) hp t (by omega)) hx2.1 hi (Nat.le_refl _) hx2.2, htk, nw_snoc]
    by_cases h : x.1 = i
    · rw [if_pos h, if_pos h, if_neg (by omega), htl, Nat.add_sub_cancel, hge, List.take_of_length_le (by omega), List.drop_eq_nil_of_le, List.append_nil]
      rw [secB_length _ n i (imgT_length _ pen img n hl (fun _ => Nat.le_refl _) hp t (by omega)) hi]
      exact Nat.le_refl _
    · rw [if_neg h, if_neg h, ih]
theorem readB_flush (D : Dv) (h : D.ok) (i : Nat) (hi : i < D.n) : readB (flushD D) i = readB D i := by
  rw [readB_sec, readB_sec]
  show (if nw [] i = 0 then secB (imgT (fun _ => 512) D.pen D.img D.pen.length) i else _) = _
  rw [nw_nil, if_pos rfl, sec_flushT D.pen D.img D.n i h.len h.sec hi D.pen.length (Nat.le_refl _), List.take_length]
/-- The device by what its sectors read: how many, what each reads, how many writes are pending, how many calls there were. -/
structure Dk (w : World) (L : Lay) (N : Nat) (s : Nat → List UInt8) (m c : Nat) : Prop where
  ex : ∃ D, Dev w L D ∧ D.down = false ∧ D.left = 0 ∧ D.n = N ∧ (∀ i, i < N → readB D i = s i) ∧ D.pen.length = m ∧ D.calls = c
theorem Dk.below {w w' : World} {L : Lay} {N : Nat} {s : Nat → List UInt8} {m c : Nat} (h : Dk w L N s m c) (hb : Below w.heap.size w w') : Dk w' L N s m c := by
  obtain ⟨D, h1, h2⟩ := h.ex
  exact ⟨D, h1.below hb, h2⟩
theorem Dk.len {w : World} {L : Lay} {N : Nat} {s : Nat → List UInt8} {m c : Nat} (h : Dk w L N s m c) (i : Nat) (hi : i < N) : (s i).length = 512 := by
  obtain ⟨D, h1, _, _, h4, h5, _⟩ := h.ex
  rw [← h5 i hi]
  exact readB_length D h1.ok i (by omega)
def setS (s : Nat → List UInt8) (i : Nat) (b : List UInt8) : Nat → List UInt8 := fun j => if j = i then b else s j
theorem kread_ok {w : World} {L : Lay} {N : Nat} {s : Nat → List UInt8} {m c : Nat} (n : Nat) (h : Dk w L N s m c) (i : Nat) (hi : i < N) : Calls Try.prog 22 #[dkV L.p n, .int .i64 (i : Int)] w fun e w' => ∃ u, e = .returned u ∧ Has w' u (s i) ∧ Below w.heap.size w w' ∧ (∀ k, u.ownBlock = some k → w.heap.size ≤ k) := by
  obtain ⟨D, h1, h2, h3, h4, h5, _⟩ := h.ex
  rw [← h5 i hi]
  exact dread_ok n h1 h2 i (by omega)
theorem kwrite_ok {w : World} {L : Lay} {N : Nat} {s : Nat → List UInt8} {m c : Nat} (n : Nat) (h : Dk w L N s m c) (i : Nat) (hi : i < N) (vb : Value) (b : List UInt8) (hb : b.length = 512) (hv : Has w vb b) (few : m < 1000000) (hcal : c < 1000000000000) : Calls Try.prog 30 #[dkV L.p n, .int .i64 (i : Int), vb] w fun e w' => e = .returned (.tuple #[]) ∧ ∃ L', Turn w w' L L' ∧ Dk w' L' N (setS s i b) (m + 1) (c + 1) := by
  obtain ⟨D, h1, h2, h3, h4, h5, h6, h7⟩ := h.ex
  refine (dwrite_ok n h1 h2 h3 i (by omega) vb b hb hv (by omega) (by omega)).mono ?_
  rintro e w' ⟨g1, L', g2, g3⟩
  have hc : changedD (pushD D i b) = tickD (pushD D i b) := by unfold changedD; rw [if_neg (by show ¬ D.left = 1; omega)]
  rw [hc] at g3
  refine ⟨g1, L', g2, ⟨_, g3, h2, by show D.left - 1 = 0; omega, h4, fun j hj => ?_, by show (D.pen ++ [(i, b)]).length = m + 1; rw [List.length_append, h6]; rfl, by show D.calls + 1 = c + 1; omega⟩⟩
  rw [readB_push, setS]
  by_cases hji : j = i
  · rw [if_pos hji, if_pos hji]
  · rw [if_neg hji, if_neg hji]; exact h5 j hj
theorem kflush_ok {w : World} {L : Lay} {N : Nat} {s : Nat → List UInt8} {m c : Nat} (n : Nat) (h : Dk w L N s m c) (hcal : c < 1000000000000) : Calls Try.prog 32 #[dkV L.p n] w fun e w' => e = .returned (.tuple #[]) ∧ ∃ L', Turn w w' L L' ∧ Dk w' L' N s 0 (c + 1) := by
  obtain ⟨D, h1, h2, h3, h4, h5, h6, h7⟩ := h.ex
  refine (dflush_ok n h1 h2 h3 (by omega)).mono ?_
  rintro e w' ⟨g1, g2, g3⟩
  exact ⟨g1, _, g2, ⟨_, g3, h2, by show D.left - 1 = 0; omega, h4, fun j hj => by rw [readB_flush D h1.ok j (by omega)]; exact h5 j hj, rfl, by show D.calls + 1 = c + 1; omega⟩⟩
end Go.Proofs.Ythlpfpggjkocmaa

set_option linter.unusedVariables false
set_option linter.unusedSimpArgs false
namespace Go.Proofs.Ythlpfpggjkocmaa
open Go.RowKit

theorem int_lt_d (a b : Int) (W : World) (x y : Operand) : (do eqGuard .lss 3 x y (.int .i64 a) (.int .i64 b); binOp .lss 3 (.int .i64 a) (.int .i64 b) : Sem Value).run Try.prog W = .ok (.bool (decide (a < b))) W := by
  by_cases h : a < b
  · rw [decide_eq_true h]; exact int_lt_t h W x y
  · rw [decide_eq_false h]; exact int_lt_f h W x y
theorem int_gt_d (a b : Int) (W : World) (x y : Operand) : (do eqGuard .gtr 3 x y (.int .i64 a) (.int .i64 b); binOp .gtr 3 (.int .i64 a) (.int .i64 b) : Sem Value).run Try.prog W = .ok (.bool (decide (b < a))) W := by
  by_cases h : b < a
  · rw [decide_eq_true h]; exact int_gt_t h W x y
  · rw [decide_eq_false h]; exact int_gt_f h W x y
theorem int_eq_d {t : TypeId} (a b : Int) (W : World) (x y : Operand) : (do eqGuard .eql t x y (.int .i64 a) (.int .i64 b); binOp .eql t (.int .i64 a) (.int .i64 b) : Sem Value).run Try.prog W = .ok (.bool (decide (a = b))) W := by
  by_cases h : a = b
  · rw [decide_eq_true h]; exact int_eq_t h W x y
  · rw [decide_eq_false h]; exact int_eq_f h W x y
theorem int_ge_d (a b : Int) (W : World) (x y : Operand) : (do eqGuard .geq 3 x y (.int .i64 a) (.int .i64 b); binOp .geq 3 (.int .i64 a) (.int .i64 b) : Sem Value).run Try.prog W = .ok (.bool (decide (b ≤ a))) W := by
  by_cases h : b ≤ a
  · rw [decide_eq_true h]; exact int_ge_t h W x y
  · rw [decide_eq_false h]; exact int_ge_f h W x y
theorem int_ne_d {t : TypeId} (a b : Int) (W : World) (x y : Operand) : (do eqGuard .neq t x y (.int .i64 a) (.int .i64 b); binOp .neq t (.int .i64 a) (.int .i64 b) : Sem Value).run Try.prog W = .ok (.bool (decide (¬ a = b))) W := by
  by_cases h : a = b
  · rw [decide_eq_false (by simpa using h)]; exact int_ne_f h W x y
  · rw [decide_eq_true h]; exact int_ne_t h W x y
theorem int_le_t {a b : Int} (h : a ≤ b) (W : World) (x y : Operand) : (do eqGuard .leq 3 x y (.int .i64 a) (.int .i64 b); binOp .leq 3 (.int .i64 a) (.int .i64 b) : Sem Value).run Try.prog W = .ok (.bool true) W := by go_simp
theorem int_le_f {a b : Int} (h : ¬ a ≤ b) (W : World) (x y : Operand) : (do eqGuard .leq 3 x y (.int .i64 a) (.int .i64 b); binOp .leq 3 (.int .i64 a) (.int .i64 b) : Sem Value).run Try.prog W = .ok (.bool false) W := by go_simp
theorem int_le_d (a b : Int) (W : World) (x y : Operand) : (do eqGuard .leq 3 x y (.int .i64 a) (.int .i64 b); binOp .leq 3 (.int .i64 a) (.int .i64 b) : Sem Value).run Try.prog W = .ok (.bool (decide (a ≤ b))) W := by
  by_cases h : a ≤ b
  · rw [decide_eq_true h]; exact int_le_t h W x y
  · rw [decide_eq_false h]; exact int_le_f h W x y
theorem bool_ne_f {a b : Bool} (h : a = b) (W : World) (x y : Operand) : (do eqGuard .neq 4 x y (.bool a) (.bool b); binOp .neq 4 (.bool a) (.bool b) : Sem Value).run Try.prog W = .ok (.bool false) W := by
  subst h
  cases a <;> go_simp
theorem idx37 (ad : Addr) (n cap m : Nat) (h : m < n) (W : World) : (Instr.indexAt 37 (.slice (some ad) n cap) (.int .i64 (m : Int))).run Try.prog W = .ok (.pointer (some (ad.add m))) W := by
  have hm : (m : Int) < (n : Int) := by omega
  go_simp
theorem Has.item {w : World} {v : Value} {bs : List UInt8} (h : Has w v bs) {i : Nat} {u : UInt8} (hi : bs[i]? = some u) : ∃ ad, (∀ W, (Instr.indexAt 37 v (.int .i64 (i : Int))).run Try.prog W = .ok (.pointer (some ad)) W) ∧ (Instr.loadAt 5 (.pointer (some ad))).run Try.prog w = .ok (byt u) w := by
  rcases h with ⟨rfl, rfl⟩ | ⟨ad, cap, rfl, h2, h3⟩
  · simp at hi
  · refine ⟨_, fun W => idx37 ad _ cap i (List.getElem?_eq_some_iff.1 hi).1 W, ?_⟩
    have hc := h3 i u hi
    obtain ⟨a2, ha2⟩ : ∃ a2, ad.add i = a2 := ⟨_, rfl⟩
    rw [ha2] at hc ⊢
    unfold byt at *
    go_simp
def zB (bs : List UInt8) : Bool := bs.all (fun b => b == 0)
theorem ne8 (u : UInt8) (W : World) (x y : Operand) : (do eqGuard .neq 5 x y (byt u) (.int .u8 0); binOp .neq 5 (byt u) (.int .u8 0) : Sem Value).run Try.prog W = .ok (.bool (decide (¬ u = 0))) W := by
  have e : decide (¬ (u.toNat : Int) = 0) = decide (¬ u = 0) := by
    apply decide_eq_decide.2
    constructor
    · intro h e; exact h (by rw [e]; rfl)
    · intro h e; exact h (UInt8.toNat_inj.1 (by show u.toNat = 0; omega))
  unfold byt
  rw [← e]
  go_simp
  by_cases h : u.toNat = 0 <;> simp [h]
theorem zB_take {bs : List UInt8} {t : Nat} {u : UInt8} (hu : bs[t]? = some u) (h0 : u = 0) (h : zB (bs.take t) = true) : zB (bs.take (t + 1)) = true := by
  unfold zB at *
  rw [List.take_add_one, hu, List.all_append, h, h0]
  rfl
theorem zB_not {bs : List UInt8} {t : Nat} {u : UInt8} (hu : bs[t]? = some u) (h0 : ¬ u = 0) : zB bs = false := by
  unfold zB
  rw [List.all_eq_false]
  exact ⟨u, List.mem_of_getElem? hu, by simpa using h0⟩
def azE (v : Value) (n t : Nat) : List (Nat × Value) := [(5, v), (6, .int .i64 (n : Int)), (7, .int .i64 (t : Int))]
def AzR (w : World) (bs : List UInt8) (t : Nat) (W : World) : Prop := W = w ∧ t ≤ bs.length ∧ zB (bs.take t) = true
set_option maxRecDepth 100000 in
set_option maxHeartbeats 1000000 in
theorem zeros_any (v : Value) (bs : List UInt8) (w : World) (hb : Has w v bs) (hl : bs.length ≤ 100000) : Calls Try.prog 49 #[v] w fun e w' => e = .returned (.bool (zB bs)) ∧ w' = w := by
  refine calls_of_args [v] Try.func49 rfl 14 Try.ntmps49 (by show 1 ≤ 14; decide) ?_
  refine EW.seq ?_
  refine EW.region ?_
  first | refine WL.assign rfl rfl rfl ?_
  refine WL.done ?_
  refine EW.on ?_
  refine EW.seq ?_
  refine EW.seq ?_
  refine EW.region ?_
  first | refine WL.move rfl rfl rfl ?_
  refine WL.len rfl rfl rfl (hb.len _ _) ?_
  first | refine WL.move rfl rfl rfl ?_
  refine WL.done ?_
  refine EW.on ?_
  refine EW.block ?_
  refine EW.loop (azE v bs.length) (AzR w bs) (fun t => bs.length - t) 0 [5, 6, 7] rfl ⟨rfl, Nat.zero_le _, rfl⟩ ?_
  rintro t wi ⟨hwi, htl, hz⟩
  subst hwi
  show EW _ _ _ _ [(5, v), (6, .int .i64 (bs.length : Int)), (7, .int .i64 (t : Int))] _
  refine EW.seq ?_
  refine EW.region ?_
  first | refine WL.bin rfl rfl rfl rfl (int_lt_t ‹_› _ _ _) ?_ | refine WL.bin rfl rfl rfl rfl (int_lt_f ‹_› _ _ _) ?_ | refine WL.bin rfl rfl rfl rfl (int_lt_d _ _ _ _ _) ?_
  refine WL.done ?_
  refine EW.on ?_
  refine EW.seq ?_
  refine EW.cond_d rfl (fun h8 => ?_) (fun h8 => ?_)
  · refine EW.skip ?_
    refine EW.on ?_
    refine EW.seq ?_
    refine EW.block ?_
    refine EW.seq ?_
    have ht : t < bs.length := by omega
    have tn : IntKind.i64.wrap ((t : Int) + 1) = ((t + 1 : Nat) : Int) := by rw [IntKind.wrap_i64]; omega
    obtain ⟨u, hu⟩ : ∃ u, bs[t]? = some u := ⟨_, List.getElem?_eq_getElem ht⟩
    obtain ⟨ad, iu, lu⟩ := hb.item hu
    refine EW.region ?_
    refine WL.index rfl rfl rfl rfl (iu _) ?_
    refine WL.load rfl rfl rfl lu ?_
    first | refine WL.assign rfl rfl rfl ?_
    refine WL.done ?_
    refine EW.on ?_
    refine EW.seq ?_
    refine EW.region ?_
    first | refine WL.move rfl rfl rfl ?_
    refine WL.bin rfl rfl rfl rfl (ne8 u _ _ _) ?_
    refine WL.done ?_
    refine EW.on ?_
    refine EW.cond_d rfl (fun h12 => ?_) (fun h12 => ?_)
    · refine EW.seq ?_
      refine EW.region ?_
      first | refine WL.assign rfl rfl rfl ?_
      refine WL.done ?_
      refine EW.on ?_
      refine EW.ret ?_
      refine pr_block ?_
      refine pr_then ?_
      refine pr_then ?_
      refine pr_block ?_
      refine pr_then ?_
      exact EW.returns Try.results49 rfl ⟨by rw [zB_not hu h12], rfl⟩
    · refine EW.skip ?_
      refine pn_block ?_
      refine EW.on ?_
      refine EW.region ?_
      first | refine WL.bin rfl rfl rfl rfl (int_add ‹_› _ _ _) ?_
      first | refine WL.move rfl rfl rfl ?_
      refine WL.done ?_
      refine EW.again (E := azE v bs.length) (R := AzR wi bs) (m := fun t => bs.length - t) (x := t) (t + 1) [5, 6, 7] rfl ⟨rfl, by omega, zB_take hu (Classical.not_not.1 h12) hz⟩ (by show bs.length - (t + 1) < bs.length - t; omega)
  · refine EW.exit ?_
    refine px_then ?_
    refine px_then ?_
    refine px_block ?_
    refine EW.on ?_
    refine EW.seq ?_
    refine EW.region ?_
    first | refine WL.assign rfl rfl rfl ?_
    refine WL.done ?_
    refine EW.on ?_
    refine EW.ret ?_
    exact EW.returns Try.results49 rfl ⟨by rw [show zB bs = true by rw [List.take_of_length_le (by omega)] at hz; exact hz], rfl⟩
end Go.Proofs.Ythlpfpggjkocmaa
