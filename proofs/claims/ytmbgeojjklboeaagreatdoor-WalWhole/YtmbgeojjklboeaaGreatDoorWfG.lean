import Derived.Test.YtmbgeojjklboeaaGreatDoorWbG
set_option linter.unusedVariables false
set_option linter.unusedSimpArgs false
namespace Go.Proofs.YtmbgeojjklboeaaGreatDoor
open Go.RowKit

def secB (img : List UInt8) (i : Nat) : List UInt8 := (img.drop (i * 512)).take 512
theorem secB_length (img : List UInt8) (n i : Nat) (hl : img.length = n * 512) (hi : i < n) : (secB img i).length = 512 := by
  unfold secB; simp; omega
theorem secB_at (img : List UInt8) (i j : Nat) (hj : j < 512) : (secB img i)[j]? = img[i * 512 + j]? := by
  unfold secB
  rw [List.getElem?_take_of_lt hj, List.getElem?_drop]
/-- A sector behind one write. -/
theorem sec_settle (img : List UInt8) (n s m i : Nat) (b : List UInt8) (hl : img.length = n * 512) (hs : s < n) (hi : i < n) (hm : m ≤ 512) (hb : b.length = 512) :
    secB (settleL img s m b) i = if s = i then b.take m ++ (secB img i).drop m else secB img i := by
  have hsl := settle_length img s m n b hl hs hm hb
  have hA : (img.take (s * 512)).length = s * 512 := by simp; omega
  have hB : (b.take m).length = m := by simp; omega
  refine List.ext_getElem? fun j => ?_
  rcases Nat.lt_or_ge j 512 with hj | hj
  · rw [secB_at _ i j hj]
    unfold settleL
    by_cases h : s = i
    · subst h
      rw [if_pos rfl, List.append_assoc, List.getElem?_append_right (by omega), hA, show s * 512 + j - s * 512 = j by omega]
      by_cases hjm : j < m
      · rw [List.getElem?_append_left (by omega), List.getElem?_append_left (by omega)]
      · rw [List.getElem?_append_right (by omega), List.getElem?_append_right (by omega), hB, List.getElem?_drop, List.getElem?_drop, secB_at _ _ _ (by omega), show s * 512 + m + (j - m) = s * 512 + (m + (j - m)) by omega]
    · rw [if_neg h, secB_at _ i j hj]
      rcases Nat.lt_or_ge i s with h1 | h1
      · have h2 : i * 512 + j < s * 512 := by have := Nat.mul_le_mul_right 512 h1; omega
        rw [List.append_assoc, List.getElem?_append_left (by omega), List.getElem?_take_of_lt h2]
      · have h3 : s + 1 ≤ i := by omega
        have h2 : s * 512 + 512 ≤ i * 512 := by have := Nat.mul_le_mul_right 512 h3; omega
        rw [List.getElem?_append_right (by rw [List.length_append, hA, hB]; omega), List.getElem?_drop, List.length_append, hA, hB, show s * 512 + m + (i * 512 + j - (s * 512 + m)) = i * 512 + j by omega]
  · rw [List.getElem?_eq_none (by rw [secB_length _ n i (by rw [hsl, hl]) hi]; exact hj)]
    split
    · rw [List.getElem?_eq_none]
      rw [List.length_append, hB, List.length_drop, secB_length img n i hl hi]
      omega
    · rw [List.getElem?_eq_none (by rw [secB_length img n i hl hi]; exact hj)]
theorem readB_sec (D : Dv) (i : Nat) : readB D i = if nw D.pen i = 0 then secB D.img i else (D.pen.getD (nw D.pen i - 1) (0, [])).2 := rfl
theorem readB_push (D : Dv) (i j : Nat) (b : List UInt8) : readB (tickD (pushD D i b)) j = if j = i then b else readB D j := by
  rw [readB_sec, readB_sec]
  show (if nw (D.pen ++ [(i, b)]) j = 0 then secB D.img j else ((D.pen ++ [(i, b)]).getD (nw (D.pen ++ [(i, b)]) j - 1) (0, [])).2) = _
  rw [nw_snoc]
  by_cases h : j = i
  · subst h
    rw [if_pos (show (j, b).1 = j from rfl), if_neg (by omega), if_pos rfl, Nat.add_sub_cancel, List.getD_eq_getElem?_getD, List.getElem?_append_right (Nat.le_refl _), Nat.sub_self]
    rfl
  · have hne : ¬ (i, b).1 = j := fun e => h e.symm
    rw [if_neg hne, if_neg h]
    by_cases h0 : nw D.pen j = 0
    · rw [if_pos h0, if_pos h0]
    · rw [if_neg h0, if_neg h0]
      have := nw_le D.pen j
      rw [List.getD_eq_getElem?_getD, List.getD_eq_getElem?_getD, List.getElem?_append_left (by omega)]
theorem sec_flushT (pen : List (Nat × List UInt8)) (img : List UInt8) (n i : Nat) (hl : img.length = n * 512) (hp : ∀ x ∈ pen, x.1 < n ∧ x.2.length = 512) (hi : i < n) : ∀ t, t ≤ pen.length → secB (imgT (fun _ => 512) pen img t) i = if nw (pen.take t) i = 0 then secB img i else (pen.getD (nw (pen.take t) i - 1) (0, [])).2
  | 0, _ => by rw [List.take_zero, nw_nil, if_pos rfl]; rfl
  | t + 1, ht => by
    obtain ⟨x, hx⟩ : ∃ x, pen[t]? = some x := ⟨pen[t]'(by omega), List.getElem?_eq_getElem _⟩
    have hge : pen.getD t (0, []) = x := by rw [List.getD_eq_getElem?_getD, hx]; rfl
    have hx2 := hp x (List.mem_of_getElem? hx)
    have ih := sec_flushT pen img n i hl hp hi t (by omega)
    have htk : pen.take (t + 1) = pen.take t ++ [x] := by rw [List.take_add_one, hx]; rfl
    have htl : (pen.take t).length = t := by rw [List.length_take]; omega
    rw [imgT, hge, sec_settle _ n _ _ _ _ (imgT_length _ pen img n hl (fun _ => Nat.le_refl _) hp t (by omega)) hx2.1 hi (Nat.le_refl _) hx2.2, htk, nw_snoc]
    by_cases h : x.1 = i
    · rw [if_pos h, if_pos h, if_neg (by omega), htl, Nat.add_sub_cancel, hge, List.take_of_length_le (by omega), List.drop_eq_nil_of_le, List.append_nil]
      rw [secB_length _ n i (imgT_length _ pen img n hl (fun _ => Nat.le_refl _) hp t (by omega)) hi]
      exact Nat.le_refl _
    · rw [if_neg h, if_neg h, ih]
theorem readB_flush (D : Dv) (h : D.ok) (i : Nat) (hi : i < D.n) : readB (flushD D) i = readB D i := by
  rw [readB_sec, readB_sec]
  show (if nw [] i = 0 then secB (imgT (fun _ => 512) D.pen D.img D.pen.length) i else _) = _
  rw [nw_nil, if_pos rfl, sec_flushT D.pen D.img D.n i h.len h.sec hi D.pen.length (Nat.le_refl _), List.take_length]
/-- The device by what its sectors read: how many, what each reads, how many writes are pending, how many calls there were. -/
structure Dk (w : World) (L : Lay) (N : Nat) (s : Nat → List UInt8) (m c : Nat) : Prop where
  ex : ∃ D, Dev w L D ∧ D.down = false ∧ D.left = 0 ∧ D.n = N ∧ (∀ i, i < N → readB D i = s i) ∧ D.pen.length = m ∧ D.calls = c
theorem Dk.below {w w' : World} {L : Lay} {N : Nat} {s : Nat → List UInt8} {m c : Nat} (h : Dk w L N s m c) (hb : Below w.heap.size w w') : Dk w' L N s m c := by
  obtain ⟨D, h1, h2⟩ := h.ex
  exact ⟨D, h1.below hb, h2⟩
theorem Dk.len {w : World} {L : Lay} {N : Nat} {s : Nat → List UInt8} {m c : Nat} (h : Dk w L N s m c) (i : Nat) (hi : i < N) : (s i).length = 512 := by
  obtain ⟨D, h1, _, _, h4, h5, _⟩ := h.ex
  rw [← h5 i hi]
  exact readB_length D h1.ok i (by omega)
def setS (s : Nat → List UInt8) (i : Nat) (b : List UInt8) : Nat → List UInt8 := fun j => if j = i then b else s j
theorem kread_ok {w : World} {L : Lay} {N : Nat} {s : Nat → List UInt8} {m c : Nat} (n : Nat) (h : Dk w L N s m c) (i : Nat) (hi : i < N) : Calls Tryz.prog 33 #[dkV L.p n, .int .i64 (i : Int)] w fun e w' => ∃ u, e = .returned u ∧ Has w' u (s i) ∧ Below w.heap.size w w' ∧ (∀ k, u.ownBlock = some k → w.heap.size ≤ k) := by
  obtain ⟨D, h1, h2, h3, h4, h5, _⟩ := h.ex
  rw [← h5 i hi]
  exact dread_ok n h1 h2 i (by omega)
theorem kwrite_ok {w : World} {L : Lay} {N : Nat} {s : Nat → List UInt8} {m c : Nat} (n : Nat) (h : Dk w L N s m c) (i : Nat) (hi : i < N) (vb : Value) (b : List UInt8) (hb : b.length = 512) (hv : Has w vb b) (few : m < 1000000) (hcal : c < 1000000000000) : Calls Tryz.prog 64 #[dkV L.p n, .int .i64 (i : Int), vb] w fun e w' => e = .returned (.tuple #[]) ∧ ∃ L', Turn w w' L L' ∧ Dk w' L' N (setS s i b) (m + 1) (c + 1) := by
  obtain ⟨D, h1, h2, h3, h4, h5, h6, h7⟩ := h.ex
  refine (dwrite_ok n h1 h2 h3 i (by omega) vb b hb hv (by omega) (by omega)).mono ?_
  rintro e w' ⟨g1, L', g2, g3⟩
  have hc : changedD (pushD D i b) = tickD (pushD D i b) := by unfold changedD; rw [if_neg (by show ¬ D.left = 1; omega)]
  rw [hc] at g3
  refine ⟨g1, L', g2, ⟨_, g3, h2, by show D.left - 1 = 0; omega, h4, fun j hj => ?_, by show (D.pen ++ [(i, b)]).length = m + 1; rw [List.length_append, h6]; rfl, by show D.calls + 1 = c + 1; omega⟩⟩
  rw [readB_push, setS]
  by_cases hji : j = i
  · rw [if_pos hji, if_pos hji]
  · rw [if_neg hji, if_neg hji]; exact h5 j hj
theorem kflush_ok {w : World} {L : Lay} {N : Nat} {s : Nat → List UInt8} {m c : Nat} (n : Nat) (h : Dk w L N s m c) (hcal : c < 1000000000000) : Calls Tryz.prog 57 #[dkV L.p n] w fun e w' => e = .returned (.tuple #[]) ∧ ∃ L', Turn w w' L L' ∧ Dk w' L' N s 0 (c + 1) := by
  obtain ⟨D, h1, h2, h3, h4, h5, h6, h7⟩ := h.ex
  refine (dflush_ok n h1 h2 h3 (by omega)).mono ?_
  rintro e w' ⟨g1, g2, g3⟩
  exact ⟨g1, _, g2, ⟨_, g3, h2, by show D.left - 1 = 0; omega, h4, fun j hj => by rw [readB_flush D h1.ok j (by omega)]; exact h5 j hj, rfl, by show D.calls + 1 = c + 1; omega⟩⟩
end Go.Proofs.YtmbgeojjklboeaaGreatDoor

set_option linter.unusedVariables false
set_option linter.unusedSimpArgs false
namespace Go.Proofs.YtmbgeojjklboeaaGreatDoor
open Go.RowKit

theorem int_lt_d (a b : Int) (W : World) (x y : Operand) : (do eqGuard .lss 3 x y (.int .i64 a) (.int .i64 b); binOp .lss 3 (.int .i64 a) (.int .i64 b) : Sem Value).run Tryz.prog W = .ok (.bool (decide (a < b))) W := by
  by_cases h : a < b
  · rw [decide_eq_true h]; exact int_lt_t h W x y
  · rw [decide_eq_false h]; exact int_lt_f h W x y
theorem int_gt_d (a b : Int) (W : World) (x y : Operand) : (do eqGuard .gtr 3 x y (.int .i64 a) (.int .i64 b); binOp .gtr 3 (.int .i64 a) (.int .i64 b) : Sem Value).run Tryz.prog W = .ok (.bool (decide (b < a))) W := by
  by_cases h : b < a
  · rw [decide_eq_true h]; exact int_gt_t h W x y
  · rw [decide_eq_false h]; exact int_gt_f h W x y
theorem int_eq_d {t : TypeId} (a b : Int) (W : World) (x y : Operand) : (do eqGuard .eql t x y (.int .i64 a) (.int .i64 b); binOp .eql t (.int .i64 a) (.int .i64 b) : Sem Value).run Tryz.prog W = .ok (.bool (decide (a = b))) W := by
  by_cases h : a = b
  · rw [decide_eq_true h]; exact int_eq_t h W x y
  · rw [decide_eq_false h]; exact int_eq_f h W x y
theorem int_ge_d (a b : Int) (W : World) (x y : Operand) : (do eqGuard .geq 3 x y (.int .i64 a) (.int .i64 b); binOp .geq 3 (.int .i64 a) (.int .i64 b) : Sem Value).run Tryz.prog W = .ok (.bool (decide (b ≤ a))) W := by
  by_cases h : b ≤ a
  · rw [decide_eq_true h]; exact int_ge_t h W x y
  · rw [decide_eq_false h]; exact int_ge_f h W x y
theorem int_ne_d {t : TypeId} (a b : Int) (W : World) (x y : Operand) : (do eqGuard .neq t x y (.int .i64 a) (.int .i64 b); binOp .neq t (.int .i64 a) (.int .i64 b) : Sem Value).run Tryz.prog W = .ok (.bool (decide (¬ a = b))) W := by
  by_cases h : a = b
  · rw [decide_eq_false (by simpa using h)]; exact int_ne_f h W x y
  · rw [decide_eq_true h]; exact int_ne_t h W x y
theorem int_le_t {a b : Int} (h : a ≤ b) (W : World) (x y : Operand) : (do eqGuard .leq 3 x y (.int .i64 a) (.int .i64 b); binOp .leq 3 (.int .i64 a) (.int .i64 b) : Sem Value).run Tryz.prog W = .ok (.bool true) W := by go_simp
theorem int_le_f {a b : Int} (h : ¬ a ≤ b) (W : World) (x y : Operand) : (do eqGuard .leq 3 x y (.int .i64 a) (.int .i64 b); binOp .leq 3 (.int .i64 a) (.int .i64 b) : Sem Value).run Tryz.prog W = .ok (.bool false) W := by go_simp
theorem int_le_d (a b : Int) (W : World) (x y : Operand) : (do eqGuard .leq 3 x y (.int .i64 a) (.int .i64 b); binOp .leq 3 (.int .i64 a) (.int .i64 b) : Sem Value).run Tryz.prog W = .ok (.bool (decide (a ≤ b))) W := by
  by_cases h : a ≤ b
  · rw [decide_eq_true h]; exact int_le_t h W x y
  · rw [decide_eq_false h]; exact int_le_f h W x y
theorem idx37 (ad : Addr) (n cap m : Nat) (h : m < n) (W : World) : (Instr.indexAt 49 (.slice (some ad) n cap) (.int .i64 (m : Int))).run Tryz.prog W = .ok (.pointer (some (ad.add m))) W := by
  have hm : (m : Int) < (n : Int) := by omega
  go_simp
theorem Has.item {w : World} {v : Value} {bs : List UInt8} (h : Has w v bs) {i : Nat} {u : UInt8} (hi : bs[i]? = some u) : ∃ ad, (∀ W, (Instr.indexAt 49 v (.int .i64 (i : Int))).run Tryz.prog W = .ok (.pointer (some ad)) W) ∧ (Instr.loadAt 5 (.pointer (some ad))).run Tryz.prog w = .ok (byt u) w := by
  rcases h with ⟨rfl, rfl⟩ | ⟨ad, cap, rfl, h2, h3⟩
  · simp at hi
  · refine ⟨_, fun W => idx37 ad _ cap i (List.getElem?_eq_some_iff.1 hi).1 W, ?_⟩
    have hc := h3 i u hi
    obtain ⟨a2, ha2⟩ : ∃ a2, ad.add i = a2 := ⟨_, rfl⟩
    rw [ha2] at hc ⊢
    unfold byt at *
    go_simp
def zB (bs : List UInt8) : Bool := bs.all (fun b => b == 0)
theorem ne8 (u : UInt8) (W : World) (x y : Operand) : (do eqGuard .neq 5 x y (byt u) (.int .u8 0); binOp .neq 5 (byt u) (.int .u8 0) : Sem Value).run Tryz.prog W = .ok (.bool (decide (¬ u = 0))) W := by
  have e : decide (¬ (u.toNat : Int) = 0) = decide (¬ u = 0) := by
    apply decide_eq_decide.2
    constructor
    · intro h e; exact h (by rw [e]; rfl)
    · intro h e; exact h (UInt8.toNat_inj.1 (by show u.toNat = 0; omega))
  unfold byt
  rw [← e]
  go_simp
  by_cases h : u.toNat = 0 <;> simp [h]
theorem zB_take {bs : List UInt8} {t : Nat} {u : UInt8} (hu : bs[t]? = some u) (h0 : u = 0) (h : zB (bs.take t) = true) : zB (bs.take (t + 1)) = true := by
  unfold zB at *
  rw [List.take_add_one, hu, List.all_append, h, h0]
  rfl
theorem zB_not {bs : List UInt8} {t : Nat} {u : UInt8} (hu : bs[t]? = some u) (h0 : ¬ u = 0) : zB bs = false := by
  unfold zB
  rw [List.all_eq_false]
  exact ⟨u, List.mem_of_getElem? hu, by simpa using h0⟩
def azE (v : Value) (n t : Nat) : List (Nat × Value) := [(5, v), (6, .int .i64 (n : Int)), (7, .int .i64 (t : Int))]
def AzR (w : World) (bs : List UInt8) (t : Nat) (W : World) : Prop := W = w ∧ t ≤ bs.length ∧ zB (bs.take t) = true
set_option maxRecDepth 100000 in
set_option maxHeartbeats 1000000 in
theorem zeros_any (v : Value) (bs : List UInt8) (w : World) (hb : Has w v bs) (hl : bs.length ≤ 100000) : Calls Tryz.prog 61 #[v] w fun e w' => e = .returned (.bool (zB bs)) ∧ w' = w := by
  refine calls_of_args [v] Tryz.func61 rfl 14 Tryz.ntmps61 (by show 1 ≤ 14; decide) ?_; refine EW.seq ?_; refine EW.region ?_; refine WL.assign rfl rfl rfl ?_; refine WL.done ?_; refine EW.on ?_; refine EW.seq ?_; refine EW.seq ?_; refine EW.region ?_; refine WL.move rfl rfl rfl ?_; refine WL.len rfl rfl rfl (hb.len _ _) ?_; refine WL.move rfl rfl rfl ?_; refine WL.done ?_; refine EW.on ?_; refine EW.block ?_; refine EW.loop (azE v bs.length) (AzR w bs) (fun t => bs.length - t) 0 [5, 6, 7] rfl ⟨rfl, Nat.zero_le _, rfl⟩ ?_
  rintro t wi ⟨hwi, htl, hz⟩
  subst hwi
  show EW _ _ _ _ [(5, v), (6, .int .i64 (bs.length : Int)), (7, .int .i64 (t : Int))] _
  refine EW.seq ?_; refine EW.region ?_
  first | refine WL.bin rfl rfl rfl rfl (int_lt_t ‹_› _ _ _) ?_ | refine WL.bin rfl rfl rfl rfl (int_lt_f ‹_› _ _ _) ?_ | refine WL.bin rfl rfl rfl rfl (int_lt_d _ _ _ _ _) ?_
  refine WL.done ?_; refine EW.on ?_; refine EW.seq ?_; refine EW.cond_d rfl (fun h8 => ?_) (fun h8 => ?_)
  · refine EW.skip ?_; refine EW.on ?_; refine EW.seq ?_; refine EW.block ?_; refine EW.seq ?_
    have ht : t < bs.length := by omega
    have tn : IntKind.i64.wrap ((t : Int) + 1) = ((t + 1 : Nat) : Int) := by rw [IntKind.wrap_i64]; omega
    obtain ⟨u, hu⟩ : ∃ u, bs[t]? = some u := ⟨_, List.getElem?_eq_getElem ht⟩
    obtain ⟨ad, iu, lu⟩ := hb.item hu
    refine EW.region ?_; refine WL.index rfl rfl rfl rfl (iu _) ?_; refine WL.load rfl rfl rfl lu ?_; refine WL.assign rfl rfl rfl ?_; refine WL.done ?_; refine EW.on ?_; refine EW.seq ?_; refine EW.region ?_; refine WL.move rfl rfl rfl ?_; refine WL.bin rfl rfl rfl rfl (ne8 u _ _ _) ?_; refine WL.done ?_; refine EW.on ?_; refine EW.cond_d rfl (fun h12 => ?_) (fun h12 => ?_)
    · refine EW.seq ?_; refine EW.region ?_; refine WL.assign rfl rfl rfl ?_; refine WL.done ?_; refine EW.on ?_; refine EW.ret ?_; refine pr_block ?_; refine pr_then ?_; refine pr_then ?_; refine pr_block ?_; refine pr_then ?_
      exact EW.returns Tryz.results61 rfl ⟨by rw [zB_not hu h12], rfl⟩
    · refine EW.skip ?_; refine pn_block ?_; refine EW.on ?_; refine EW.region ?_; refine WL.bin rfl rfl rfl rfl (int_add ‹_› _ _ _) ?_; refine WL.move rfl rfl rfl ?_; refine WL.done ?_; refine EW.again (E := azE v bs.length) (R := AzR wi bs) (m := fun t => bs.length - t) (x := t) (t + 1) [5, 6, 7] rfl ⟨rfl, by omega, zB_take hu (Classical.not_not.1 h12) hz⟩ (by show bs.length - (t + 1) < bs.length - t; omega)
  · refine EW.exit ?_; refine px_then ?_; refine px_then ?_; refine px_block ?_; refine EW.on ?_; refine EW.seq ?_; refine EW.region ?_; refine WL.assign rfl rfl rfl ?_; refine WL.done ?_; refine EW.on ?_; refine EW.ret ?_
    exact EW.returns Tryz.results61 rfl ⟨by rw [show zB bs = true by rw [List.take_of_length_le (by omega)] at hz; exact hz], rfl⟩
end Go.Proofs.YtmbgeojjklboeaaGreatDoor

set_option linter.unusedVariables false
set_option linter.unusedSimpArgs false
namespace Go.Proofs.YtmbgeojjklboeaaGreatDoor
open Go.RowKit

theorem ZE.mks {P : Program} {n : Fm} {ops : Array Oper} {Rp : List PanicEntry → World → Prop} {S : Nat → World → Prop} {K : List (Nat × Value) → (World → Prop) → Prop} {i lv : Nat} {ty : TypeId} {ps : String} {af : Array Edge} {gd : Option (Nat × Bool)} {r : List (Oper × Nat × Nat)} {e : List (Nat × Value)} {C : World → Prop} {t : TypeId} {x y : Operand} {u u' : Value} (C' : Value → World → Prop) (hw : wantE ops e ⟨some i, .makeSlice t x y, ty, ps, af, gd⟩ = some true) (hi : decide (i < n.k) = true) (hx : evE e x = some u) (hy : evE e y = some u') (h1 : ∀ v w, C' v w → S lv w) (hr : ∀ w, C w → ∃ v w', (Instr.makeSlice t u u').run P w = .ok v w' ∧ C' v w') (k : ∀ v, (∃ w, C' v w) → wpZE P n ops Rp S K r ((i, v) :: e) (C' v)) : wpZE P n ops Rp S K ((⟨some i, .makeSlice t x y, ty, ps, af, gd⟩, 1, lv) :: r) e C :=
  ZE.eff C' hw hi h1 (fun W hW => by
    obtain ⟨v, w', h2, h3⟩ := hr W hW
    exact ⟨v, w', fun a ha => by simp [execOp, ha.ev hx, ha.ev hy, h2, Result.andThen], h3⟩) k
theorem Turn.pre {w w1 w2 : World} {L L' : Lay} (hb : Below w.heap.size w w1) (t : Turn w1 w2 L L') : Turn w w2 L L' := ⟨(Fx.of_below hb).trans t.fx (fun k _ h => h), fun k hk => (t.own k hk).imp id (fun h => Nat.le_trans hb.size h), t.p⟩
theorem Dk.lt {w : World} {L : Lay} {N : Nat} {s : Nat → List UInt8} {m c : Nat} (h : Dk w L N s m c) (k : Nat) (hk : L.F k) : k < w.heap.size := by
  obtain ⟨D, h1, _⟩ := h.ex
  exact h1.lt k hk
def zS : List UInt8 := List.replicate 512 0
set_option maxRecDepth 100000 in
set_option maxHeartbeats 1000000 in
theorem blank_ok {w : World} {L : Lay} {N : Nat} {s : Nat → List UInt8} {m c : Nat} (n : Nat) (h : Dk w L N s m c) (i : Nat) (hi : i < N) (few : m < 1000000) (hcal : c < 1000000000000) : Calls Tryz.prog 66 #[dkV L.p n, .int .i64 (i : Int)] w fun e w' => e = .returned (.tuple #[]) ∧ ∃ L', Turn w w' L L' ∧ Dk w' L' N (setS s i zS) (m + 1) (c + 1) := by
  refine calls_of_args [dkV L.p n, .int .i64 (i : Int)] Tryz.func66 rfl 8 Tryz.ntmps66 (by show 2 ≤ 8; decide) ?_; refine EW.seq ?_; refine EW.region ?_
  obtain ⟨w1, q, r1, b1, e1, hq⟩ := box55 L.p n w
  have h1 := h.below e1
  refine WL.box rfl rfl rfl r1 ?_; refine WL.done ?_; refine EW.on ?_; refine EW.ordB [(0, 0, 1), (1, 0, 0), (2, 1, 1), (3, 1, 0)] (by kernel_rfl) rfl (by kernel_rfl) ?_; simp only [opsZ, List.getD_cons_zero, List.getD_cons_succ]; refine ZE.load rfl rfl rfl rfl sz1 (fun W hW => ld55 (b1.on (sb_of hW))) ?_; refine ZE.move rfl rfl rfl rfl sz0 ?_; refine ZE.mks (fun v W => Has W v zS ∧ Below w1.heap.size w1 W) rfl rfl rfl rfl (fun _ _ h => .inr h.2) (fun W hW => ⟨_, _, run_mk34 W 512 (by decide), by have := Has.new (bs := zS) (Blk.new W _ 5) 512 (by simp [zS]); simpa [zS] using this, hW.trans ((below_new W _).mono hW.size)⟩) ?_
  rintro vz ⟨_, _, _⟩
  refine ZE.callR [dkV L.p n, .int .i64 (i : Int), vz] (fun v W => v = .tuple #[] ∧ ∃ L', Turn w1 W L L' ∧ Dk W L' N (setS s i zS) (m + 1) (c + 1)) enter64 rfl rfl rfl (fun _ _ _ => .inl rfl) (fun W hW => (kwrite_ok n (h1.below hW.2) i hi vz zS (by simp [zS]) hW.1 few hcal).mono fun e w' ⟨g1, L', g2, g3⟩ => ⟨_, g1, rfl, L', g2.pre hW.2, g3⟩) ?_
  rintro _ ⟨_, rfl, _⟩
  rintro w2 ⟨_, L', t2, d2⟩
  exact EW.falls Tryz.results66 ⟨rfl, L', t2.pre e1, d2⟩
theorem sl37 (t : Value) (a b c : Option Value) (W : World) : (Instr.sliceAt 49 t a b c).run Tryz.prog W = (Instr.slice 49 t a b c).run Tryz.prog W := by
  simp [Instr.sliceAt, run_underlying Tryz.underlying49]
set_option maxRecDepth 100000 in
set_option maxHeartbeats 1000000 in
theorem writePage_ok {w : World} {L : Lay} {N : Nat} {s : Nat → List UInt8} {m c : Nat} (n : Nat) (h : Dk w L N s m c) (i : Nat) (hi : i + 1 < N) (hN : N ≤ 1000000) (vb : Value) (b : List UInt8) (hb : b.length = 1024) (hv : Has w vb b) (hvF : ∀ k, vb.ownBlock = some k → ¬ L.F k) (few : m + 2 < 1000000) (hcal : c + 2 < 1000000000000) : Calls Tryz.prog 62 #[dkV L.p n, .int .i64 (i : Int), vb] w fun e w' => e = .returned (.tuple #[]) ∧ ∃ L', Turn w w' L L' ∧ Dk w' L' N (setS (setS s i (b.take 512)) (i + 1) (b.drop 512)) (m + 2) (c + 2) := by
  have a13 : IntKind.i64.wrap ((i : Int) + 1) = ((i + 1 : Nat) : Int) := by rw [IntKind.wrap_i64]; omega
  refine calls_of_args [dkV L.p n, .int .i64 (i : Int), vb] Tryz.func62 rfl 17 Tryz.ntmps62 (by show 3 ≤ 17; decide) ?_; refine EW.seq ?_; refine EW.region ?_
  obtain ⟨w1, q, r1, b1, e1, hq⟩ := box55 L.p n w
  have h1 := h.below e1
  have v1 := hv.below e1
  refine WL.box rfl rfl rfl r1 ?_; refine WL.done ?_; refine EW.on ?_; refine EW.seq ?_; refine EW.ordB [(0, 0, 1), (1, 0, 0), (2, 0, 0), (3, 0, 0), (4, 1, 0)] (by kernel_rfl) rfl (by kernel_rfl) ?_; simp only [opsZ, List.getD_cons_zero, List.getD_cons_succ]; refine ZE.load rfl rfl rfl rfl sz1 (fun W hW => ld55 (b1.on (sb_of hW))) ?_; refine ZE.move rfl rfl rfl rfl sz0 ?_; refine ZE.move rfl rfl rfl rfl sz0 ?_; refine ZE.sliceH rfl rfl rfl rfl rfl sz0 (fun W => by rw [sl37]; exact v1.cutH 512 (by omega) W) ?_; refine ZE.callR [dkV L.p n, .int .i64 (i : Int), cutV vb 0 512] (fun v W => v = .tuple #[] ∧ ∃ L', Turn w1 W L L' ∧ Dk W L' N (setS s i (b.take 512)) (m + 1) (c + 1)) enter64 rfl rfl rfl (fun _ _ _ => .inl rfl) (fun W hW => (kwrite_ok n (h1.below hW) i (by omega) (cutV vb 0 512) (b.take 512) (by simp; omega) (by have := (v1.below hW).cut 0 512 (by omega) (by omega); simpa using this) (by omega) (by omega)).mono fun e w' ⟨g1, L', g2, g3⟩ => ⟨_, g1, rfl, L', g2.pre hW, g3⟩) ?_
  rintro _ ⟨_, rfl, _⟩
  rintro w2 ⟨_, L', t2, d2⟩
  have b2 := b1.fx t2.fx (fun hF => by have := h.lt _ hF; omega)
  have v2 := v1.fx t2.fx hvF
  refine EW.on ?_; refine EW.ordB [(0, 0, 1), (1, 0, 0), (2, 0, 0), (3, 0, 0), (4, 0, 0), (5, 1, 0)] (by kernel_rfl) rfl (by kernel_rfl) ?_; simp only [opsZ, List.getD_cons_zero, List.getD_cons_succ]; refine ZE.load rfl rfl rfl rfl sz1 (fun W hW => ld55 (b2.on (sb_of hW))) ?_; refine ZE.move rfl rfl rfl rfl sz0 ?_; refine ZE.bin rfl rfl rfl rfl rfl sz0 (fun W => int_add a13 W _ _) ?_; refine ZE.move rfl rfl rfl rfl sz0 ?_; refine ZE.sliceL rfl rfl rfl rfl rfl sz0 (fun W => by rw [sl37]; exact v2.cutL 512 (by omega) W) ?_; refine ZE.callR [dkV L.p n, .int .i64 ((i + 1 : Nat) : Int), cutV vb 512 b.length] (fun v W => v = .tuple #[] ∧ ∃ L'', Turn w2 W L' L'' ∧ Dk W L'' N (setS (setS s i (b.take 512)) (i + 1) (b.drop 512)) (m + 1 + 1) (c + 1 + 1)) enter64 rfl rfl rfl (fun _ _ _ => .inl rfl) (fun W hW => by rw [← t2.p]; exact (kwrite_ok n (d2.below hW) (i + 1) hi (cutV vb 512 b.length) (b.drop 512) (by simp; omega) (by have := (v2.below hW).cut 512 b.length (by omega) (Nat.le_refl _); rw [List.take_of_length_le (by simp)] at this; exact this) (by omega) (by omega)).mono fun e w' ⟨g1, L'', g2, g3⟩ => ⟨_, g1, rfl, L'', g2.pre hW, g3⟩) ?_
  rintro _ ⟨_, rfl, _⟩
  rintro w3 ⟨_, L'', t3, d3⟩
  exact EW.falls Tryz.results62 ⟨rfl, L'', (t2.pre e1).trans t3, d3⟩
end Go.Proofs.YtmbgeojjklboeaaGreatDoor

set_option linter.unusedVariables false
set_option linter.unusedSimpArgs false
namespace Go.Proofs.YtmbgeojjklboeaaGreatDoor
open Go.RowKit

theorem len49 (ao : Option Addr) (n c : Nat) (W : World) (ty : TypeId) : (Builtin.len_ #[89] ty #[.slice ao n c]).run Tryz.prog W = .ok (.int .i64 (n : Int)) W := by go_simp
theorem kcache_any {w : World} {L : Lay} {N : Nat} {s : Nat → List UInt8} {m c : Nat} (h : Dk w L N s m c) : Calls Tryz.prog 40 #[.pointer (some ⟨L.p, 0, none⟩)] w fun e w' => (∃ ao, e = .returned (.slice ao m m)) ∧ Below w.heap.size w w' := by
  obtain ⟨D, h1, h2, h3, h4, h5, h6, h7⟩ := h.ex
  refine (cache_any h1).mono ?_
  rintro e w' ⟨g1, g2, _⟩
  exact ⟨⟨_, by rw [g1, h6]⟩, g2⟩
set_option maxRecDepth 100000 in
set_option maxHeartbeats 1000000 in
theorem settle_none {w : World} {L : Lay} {N : Nat} {s : Nat → List UInt8} {m c : Nat} (n : Nat) (h : Dk w L N s m c) (hcal : c < 1000000000000) (hm : ¬ (0 : Int) < (m : Int)) : Calls Tryz.prog 32 #[dkV L.p n] w fun e w' => e = .returned (.tuple #[]) ∧ Below w.heap.size w w' := by
  refine calls_of_args [dkV L.p n] Tryz.func32 rfl 9 Tryz.ntmps32 (by show 1 ≤ 9; decide) ?_; refine EW.seq ?_; refine EW.region ?_
  obtain ⟨w1, q, r1, b1, e1, hq⟩ := box55 L.p n w
  have h1 := h.below e1
  refine WL.box rfl rfl rfl r1 ?_; refine WL.done ?_; refine EW.on ?_; refine EW.seq ?_; refine EW.region ?_; refine WL.field rfl rfl rfl (fld55_0 q _) ?_; refine WL.load rfl rfl rfl (ldP41 b1) ?_; refine WL.call [.pointer (some ⟨L.p, 0, none⟩)] enter40 rfl rfl rfl (kcache_any h1) ?_
  rintro _ w2 ⟨⟨ao, rfl⟩, e2⟩
  refine ⟨_, rfl, ?_⟩; refine WL.len rfl rfl rfl (len49 _ _ _ _ _) ?_
  first | refine WL.bin rfl rfl rfl rfl (int_gt_t ‹_› _ _ _) ?_ | refine WL.bin rfl rfl rfl rfl (int_gt_f ‹_› _ _ _) ?_ | refine WL.bin rfl rfl rfl rfl (int_gt_d _ _ _ _ _) ?_
  refine WL.done ?_; refine EW.on ?_; refine EW.cond_f rfl ?_; refine EW.skip ?_
  exact EW.falls Tryz.results32 ⟨rfl, e1.trans (e2.mono e1.size)⟩
def spC (a b : Nat) : List Value := [.int .i64 (a : Int), .int .i64 (b : Int)]
theorem new63 (w : World) : ∃ w1 q, (Instr.alloc 85 true (.tuple #[])).run Tryz.prog w = .ok (.pointer (some ⟨q, 0, none⟩)) w1 ∧ Blk w1 q (spC 0 0) 85 ∧ Below w.heap.size w w1 ∧ q = w.heap.size :=
  ⟨_, _, run_newR 85 (spC 0 0) (fun w => by rw [Tryz.zeroValue85]; rfl) w _ rfl, Blk.new _ _ _, below_new _ _, rfl⟩
theorem info63 (a b : Nat) : (Tryz.prog.info? 85).map (·.size) = some (spC a b).length := by kernel_rfl
theorem spC_one (a b : Nat) : (spC a b).toArray.all (·.oneCell') = true := all_oneCell_toArray fun v hv => by
  simp only [spC, List.mem_cons, List.not_mem_nil, or_false] at hv
  rcases hv with rfl | rfl <;> rfl
theorem st63 {w : World} {q a b a0 b0 : Nat} (hb : Blk w q (spC a0 b0) 85) : ∃ w', (Instr.storeAt 85 (.pointer (some ⟨q, 0, none⟩)) (.agg (spC a b).toArray)).run Tryz.prog w = .ok () w' ∧ Blk w' q (spC a b) 85 ∧ Fx (fun k => k = q) w w' :=
  ⟨_, run_storeR hb (info63 a b) rfl (spC_one a b), hb.setRow _, by
    refine ⟨rfl, rfl, rfl, by simp [World.setRow], fun k hk hn => ?_⟩
    simp only [World.setRow]
    rw [Array.getElem?_modify]
    rw [if_neg (fun e => hn e.symm)]⟩
theorem bld63 (a b : Nat) (W : World) : (Instr.build 85 [(0, .int .i64 (a : Int)), (1, .int .i64 (b : Int))].toArray).run Tryz.prog W = .ok (.agg (spC a b).toArray) W := by kernel_rfl
set_option maxRecDepth 100000 in
set_option maxHeartbeats 1000000 in
theorem log_any (p n : Nat) (w : World) (hn : n ≤ 1000) : Calls Tryz.prog 39 #[dkV p n] w fun e w' => e = .returned (.agg (spC 0 (1 + 2 * n)).toArray) ∧ Below w.heap.size w w' := by
  refine calls_of_args [dkV p n] Tryz.func39 rfl 6 Tryz.ntmps39 (by show 1 ≤ 6; decide) ?_; refine EW.seq ?_; refine EW.region ?_
  obtain ⟨w1, q, r1, b1, e1, hq⟩ := box55 p n w
  refine WL.box rfl rfl rfl r1 ?_
  obtain ⟨w2, q2, r2, b2, e2, hq2⟩ := new63 w1
  refine WL.new rfl rfl r2 ?_; refine WL.done ?_; refine EW.on ?_; refine EW.seq ?_; refine EW.region ?_; refine WL.load rfl rfl rfl (ld55 (b1.on e2)) ?_; refine WL.call [dkV p n, .int .i64 ((0 : Nat) : Int)] enter50 rfl rfl rfl (home_any p n 0 _ (by omega)) ?_
  rintro _ w3 ⟨rfl, e3⟩
  refine ⟨_, rfl, ?_⟩; refine WL.buildN [(0, .int .i64 ((0 : Nat) : Int)), (1, .int .i64 ((1 + 2 * (n + 0) : Nat) : Int))] rfl rfl rfl (bld63 _ _ _) ?_
  obtain ⟨w4, s4, b4, x4⟩ := st63 (a := 0) (b := 1 + 2 * (n + 0)) (b2.on e3)
  refine WL.store rfl rfl rfl s4 ?_; refine WL.done ?_; refine EW.on ?_; refine EW.ret ?_
  exact EW.returnsC Tryz.results39 rfl b4 Tryz.underlying85 rfl (info63 _ _) ⟨rfl, ((e1.trans (e2.mono e1.size)).trans (e3.mono (Nat.le_trans e1.size e2.size))).trans (x4.below (fun k hk e => by have := e1.size; omega) (by have := e1.size; have := e2.size; have := e3.size; omega))⟩
end Go.Proofs.YtmbgeojjklboeaaGreatDoor
