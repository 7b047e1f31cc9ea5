import Derived.Test.YthfcabhelldokaaKk
import Derived.Test.YthfcabhelldokaaUpG
set_option linter.unusedVariables false
set_option linter.unusedSimpArgs false
namespace Go.Proofs.Ythfcabhelldokaa
open Go.RowKit

/-- A sector of an image, as a string. -/
def secB (img : List UInt8) (i : Nat) : List UInt8 := (img.drop (i * 512)).take 512
def secS (img : List UInt8) (i : Nat) : ByteArray := ⟨(secB img i).toArray⟩
theorem lastT_nw (s0 : ByteArray) (pen : List (Nat × List UInt8)) (i : Nat) : ∀ t, t ≤ pen.length → lastT s0 pen i t = if nw (pen.take t) i = 0 then s0 else ⟨(pen.getD (nw (pen.take t) i - 1) (0, [])).2.toArray⟩
  | 0, _ => by rw [List.take_zero, nw_nil, if_pos rfl]; rfl
  | t + 1, ht => by
    obtain ⟨x, hx⟩ : ∃ x, pen[t]? = some x := ⟨pen[t]'(by omega), List.getElem?_eq_getElem _⟩
    have hge : pen.getD t (0, []) = x := by rw [List.getD_eq_getElem?_getD, hx]; rfl
    have hlt : (pen.take t).length = t := by simp; omega
    rw [lastT, hge, List.take_add_one, hx, show (some x).toList = [x] from rfl, nw_snoc, hlt]
    by_cases h : x.1 = i
    · rw [if_pos h, if_pos h, if_neg (by omega), Nat.add_sub_cancel, hge]
    · rw [if_neg h, if_neg h]
      exact lastT_nw s0 pen i t (by omega)
theorem last_is (D : Dv) (i : Nat) : lastS (secS D.img i) D.pen i = ⟨(readB D i).toArray⟩ := by
  unfold lastS readB
  rw [lastT_nw _ _ _ _ (Nat.le_refl _), List.take_of_length_le (Nat.le_refl _)]
  by_cases h : nw D.pen i = 0
  · rw [if_pos h, if_pos h]; rfl
  · rw [if_neg h, if_neg h]
theorem tn4 (t : Nat) (h : t < 4) : IntKind.i64.wrap ((t : Int) + 1) = ((t + 1 : Nat) : Int) := by rw [IntKind.wrap_i64]; omega
theorem ms4 (t : Nat) (h : t < 4) : 4 - (t + 1) < 4 - t := by omega
def rdE (pv t : Nat) : List (Nat × Value) := [(0, .pointer (some ⟨pv, 0, none⟩)), (3, .int .i64 (t : Int))]
set_option maxRecDepth 100000 in
theorem reads_any {W : World} {L : Lay} {D : Dv} {pv : Nat} {vi vl : Value} {ims : List ByteArray} {gs : List Nat} (hD : Dev W L D) (hB : Bk W pv L.p vi vl ims gs D.pen) (hdn : D.down = false) (hn : D.n = 4) (him : ∀ i, i < 4 → ims[i]? = some (secS D.img i)) :
    Calls Try.prog 29 #[.pointer (some ⟨pv, 0, none⟩)] W fun e w' => e = .returned (.bool true) ∧ Below W.heap.size W w' := by
  refine calls_of_args [.pointer (some ⟨pv, 0, none⟩)] Try.func29 rfl 29 Try.ntmps29 (by show 1 ≤ 29; decide) ?_
  refine EW.seq ?_
  refine EW.region ?_
  first | refine WL.assign rfl rfl rfl ?_
  refine WL.done ?_
  refine EW.on ?_
  refine EW.seq ?_
  refine EW.seq ?_
  refine EW.region ?_
  first | refine WL.assign rfl rfl rfl ?_
  refine WL.done ?_
  refine EW.on ?_
  refine EW.block ?_
  refine EW.loop (rdE pv) (fun t w' => t ≤ 4 ∧ Below W.heap.size W w') (fun t => 4 - t) 0 [0, 3] rfl ⟨Nat.zero_le _, Below.refl _ _⟩ ?_
  rintro t wr ⟨ht4, hbe⟩
  show EW _ _ _ _ [(0, .pointer (some ⟨pv, 0, none⟩)), (3, .int .i64 (t : Int))] _
  by_cases hl : t < 4
  · have z1 : (t : Int) < 4 := Int.ofNat_lt.2 hl
    have tn := tn4 t hl
    have Dr := hD.below hbe
    have Br := hB.below hbe
    have r0 := (Br.bl.cell 0).trans (show _ = some (.pointer (some ⟨L.p, 0, none⟩)) from rfl)
    have hrd := read_ok Dr hdn t (by rw [hn]; exact hl)
    have bl := readB_length D hD.ok t (by rw [hn]; exact hl)
    have b1 : Blk (wr.alloc (.cells ((readB D t).map byt).toArray 5)) wr.heap.size ((readB D t).map byt) 5 := Blk.new _ _ _
    have be1 : Below wr.heap.size wr (wr.alloc (.cells ((readB D t).map byt).toArray 5)) := below_new _ _
    obtain ⟨w1, hw1⟩ : ∃ w1, wr.alloc (.cells ((readB D t).map byt).toArray 5) = w1 := ⟨_, rfl⟩
    rw [hw1] at b1 be1 hrd
    have bd : Below w1.heap.size w1 { w1 with drawn := w1.drawn + 1 } := below_drawn w1
    obtain ⟨wd, hwd⟩ : ∃ wd, { w1 with drawn := w1.drawn + 1 } = wd := ⟨_, rfl⟩
    rw [hwd] at bd
    have hla := last_any ((Br.below be1).below bd) t (secS D.img t) (him t hl)
    rw [last_is D t] at hla
    have hcv : ∀ W, Below w1.heap.size w1 W → (Go.convert 34 9 (.slice (some ⟨wr.heap.size, 0, none⟩) 512 512)).run Try.prog W = .ok (.string ⟨(readB D t).toArray⟩) W := fun W hW => (Blk.hasB (b1.on hW) bl).convert
    refine EW.seq ?_
    refine EW.seq ?_
    refine EW.region ?_
    first | refine WL.move rfl rfl rfl ?_
    first | refine WL.bin rfl rfl rfl rfl (int_lt_t ‹_› _ _ _) ?_ | refine WL.bin rfl rfl rfl rfl (int_lt_f ‹_› _ _ _) ?_
    refine WL.done ?_
    refine EW.on ?_
    refine EW.cond_t rfl ?_
    refine EW.skip ?_
    refine EW.on ?_
    refine EW.seq ?_
    refine EW.block ?_
    refine EW.seq ?_
    refine EW.region ?_
    first | refine WL.move rfl rfl rfl ?_
    first | refine WL.nilc rfl rfl rfl ?_
    first | refine WL.field rfl rfl rfl (fld32_0 _ _) ?_
    refine WL.load rfl rfl rfl (ld28 r0) ?_
    first | refine WL.move rfl rfl rfl ?_
    refine WL.call [.pointer (some ⟨L.p, 0, none⟩), .int .i64 (t : Int)] enter42 rfl rfl rfl hrd ?_
    rintro x w3 ⟨rfl, hz⟩
    rw [hz]; clear hz w3
    refine ⟨_, rfl, ?_⟩
    first | refine WL.move rfl rfl rfl ?_
    first | refine WL.extract rfl rfl rfl (ext_2 _ _ _).1 ?_
    first | refine WL.extract rfl rfl rfl (ext_2 _ _ _).2 ?_
    first | refine WL.assign rfl rfl rfl ?_
    first | refine WL.assign rfl rfl rfl ?_
    refine WL.done ?_
    refine EW.on ?_
    refine EW.seq ?_
    refine EW.ord [(0, false), (1, false), (2, false), (3, false), (4, false), (5, false), (6, false), (7, true), (8, false), (9, false)] (fun W => Below w1.heap.size w1 W) (by kernel_rfl) rfl (by kernel_rfl) (by rw [hwd]; exact bd) ?_
    rw [hwd]
    simp only [ordOps, List.getD_cons_zero, List.getD_cons_succ]
    refine OE.move rfl rfl rfl ?_
    refine OE.bin rfl rfl rfl rfl (fun W => int_ne_f rfl W _ _) ?_
    refine OE.move rfl rfl rfl ?_
    refine OE.move rfl rfl rfl ?_
    refine OE.conv rfl rfl rfl hcv ?_
    refine OE.move rfl rfl rfl ?_
    refine OE.move rfl rfl rfl ?_
    refine OE.call [.pointer (some ⟨pv, 0, none⟩), .int .i64 (t : Int)] (.string ⟨(readB D t).toArray⟩) (fun W => Below w1.heap.size w1 W) (fun W => W = wd) enter45 rfl rfl rfl (fun W hW => by rw [hW]; exact bd) (fun _ h => h) (fun W hW => by rw [hW]; exact hla) ?_
    refine OE.bin rfl rfl rfl rfl (fun W => str_ne_f _ W _ _) ?_
    refine OE.pick rfl rfl rfl rfl ?_
    refine fun a ha Wz hW => ?_
    rw [hW]
    revert a ha
    refine EW.on ?_
    refine EW.cond_f rfl ?_
    refine EW.skip ?_
    refine pn_block ?_
    refine EW.on ?_
    refine EW.region ?_
    first | refine WL.move rfl rfl rfl ?_
    first | refine WL.bin rfl rfl rfl rfl (int_add ‹_› _ _ _) ?_
    first | refine WL.assign rfl rfl rfl ?_
    refine WL.done ?_
    exact EW.again (t + 1) [0, 3] rfl ⟨hl, hbe.trans ((be1.trans (bd.mono be1.size)).mono hbe.size)⟩ (ms4 t hl)
  · have z1 : ¬ (t : Int) < 4 := fun hh => hl (Int.ofNat_lt.1 hh)
    refine EW.seq ?_
    refine EW.seq ?_
    refine EW.region ?_
    first | refine WL.move rfl rfl rfl ?_
    first | refine WL.bin rfl rfl rfl rfl (int_lt_t ‹_› _ _ _) ?_ | refine WL.bin rfl rfl rfl rfl (int_lt_f ‹_› _ _ _) ?_
    refine WL.done ?_
    refine EW.on ?_
    refine EW.cond_f rfl ?_
    refine EW.exit ?_
    repeat refine px_then ?_
    refine px_block ?_
    refine EW.on ?_
    refine EW.seq ?_
    refine EW.region ?_
    first | refine WL.assign rfl rfl rfl ?_
    refine WL.done ?_
    refine EW.on ?_
    refine EW.ret ?_
    exact EW.returns Try.results29 rfl ⟨rfl, hbe⟩
end Go.Proofs.Ythfcabhelldokaa

set_option linter.unusedVariables false
set_option linter.unusedSimpArgs false
namespace Go.Proofs.Ythfcabhelldokaa
open Go.RowKit

theorem secB_length (img : List UInt8) (n i : Nat) (hl : img.length = n * 512) (hi : i < n) : (secB img i).length = 512 := by
  unfold secB; simp; omega
theorem secB_at (img : List UInt8) (i j : Nat) (hj : j < 512) : (secB img i)[j]? = img[i * 512 + j]? := by
  unfold secB
  rw [List.getElem?_take_of_lt hj, List.getElem?_drop]
/-- A sector behind one write. -/
theorem sec_settle (img : List UInt8) (n s m i : Nat) (b : List UInt8) (hl : img.length = n * 512) (hs : s < n) (hi : i < n) (hm : m ≤ 512) (hb : b.length = 512) :
    secB (settleL img s m b) i = if s = i then b.take m ++ (secB img i).drop m else secB img i := by
  have hsl := settle_length img s m n b hl hs hm hb
  have hA : (img.take (s * 512)).length = s * 512 := by simp; omega
  have hB : (b.take m).length = m := by simp; omega
  refine List.ext_getElem? fun j => ?_
  rcases Nat.lt_or_ge j 512 with hj | hj
  · rw [secB_at _ i j hj]
    unfold settleL
    by_cases h : s = i
    · subst h
      rw [if_pos rfl, List.append_assoc, List.getElem?_append_right (by omega), hA, show s * 512 + j - s * 512 = j by omega]
      by_cases hjm : j < m
      · rw [List.getElem?_append_left (by omega), List.getElem?_append_left (by omega)]
      · rw [List.getElem?_append_right (by omega), List.getElem?_append_right (by omega), hB, List.getElem?_drop, List.getElem?_drop, secB_at _ _ _ (by omega), show s * 512 + m + (j - m) = s * 512 + (m + (j - m)) by omega]
    · rw [if_neg h, secB_at _ i j hj]
      rcases Nat.lt_or_ge i s with h1 | h1
      · have h2 : i * 512 + j < s * 512 := by have := Nat.mul_le_mul_right 512 h1; omega
        rw [List.append_assoc, List.getElem?_append_left (by omega), List.getElem?_take_of_lt h2]
      · have h3 : s + 1 ≤ i := by omega
        have h2 : s * 512 + 512 ≤ i * 512 := by have := Nat.mul_le_mul_right 512 h3; omega
        rw [List.getElem?_append_right (by rw [List.length_append, hA, hB]; omega), List.getElem?_drop, List.length_append, hA, hB, show s * 512 + m + (i * 512 + j - (s * 512 + m)) = i * 512 + j by omega]
  · rw [List.getElem?_eq_none (by rw [secB_length _ n i (by rw [hsl, hl]) hi]; exact hj)]
    split
    · rw [List.getElem?_eq_none]
      rw [List.length_append, hB, List.length_drop, secB_length img n i hl hi]
      omega
    · rw [List.getElem?_eq_none (by rw [secB_length img n i hl hi]; exact hj)]
/-- A sector behind t writes, of each so many first bytes. -/
def scT (f : Nat → Nat) (pen : List (Nat × List UInt8)) (i : Nat) (b0 : List UInt8) : Nat → List UInt8
  | 0 => b0
  | t + 1 => if (pen.getD t (0, [])).1 = i then (pen.getD t (0, [])).2.take (f t) ++ (scT f pen i b0 t).drop (f t) else scT f pen i b0 t
theorem sec_imgT (f : Nat → Nat) (pen : List (Nat × List UInt8)) (img : List UInt8) (n i : Nat) (hl : img.length = n * 512) (hf : ∀ k, f k ≤ 512) (hp : ∀ x ∈ pen, x.1 < n ∧ x.2.length = 512) (hi : i < n) : ∀ t, t ≤ pen.length → secB (imgT f pen img t) i = scT f pen i (secB img i) t
  | 0, _ => rfl
  | t + 1, ht => by
    obtain ⟨x, hx⟩ : ∃ x, pen[t]? = some x := ⟨pen[t]'(by omega), List.getElem?_eq_getElem _⟩
    have hge : pen.getD t (0, []) = x := by rw [List.getD_eq_getElem?_getD, hx]; rfl
    have hx2 := hp x (List.mem_of_getElem? hx)
    have ih := sec_imgT f pen img n i hl hf hp hi t (by omega)
    rw [imgT, scT, hge, sec_settle _ n _ _ _ _ (imgT_length f pen img n hl hf hp t (by omega)) hx2.1 hi (hf t) hx2.2, ih]
theorem scT_length (f : Nat → Nat) (pen : List (Nat × List UInt8)) (i : Nat) (b0 : List UInt8) (h0 : b0.length = 512) (hf : ∀ k, f k ≤ 512) (hp : ∀ x ∈ pen, x.2.length = 512) : ∀ t, t ≤ pen.length → (scT f pen i b0 t).length = 512
  | 0, _ => h0
  | t + 1, ht => by
    obtain ⟨x, hx⟩ : ∃ x, pen[t]? = some x := ⟨pen[t]'(by omega), List.getElem?_eq_getElem _⟩
    have hge : pen.getD t (0, []) = x := by rw [List.getD_eq_getElem?_getD, hx]; rfl
    have ih := scT_length f pen i b0 h0 hf hp t (by omega)
    have hx2 := hp x (List.mem_of_getElem? hx)
    have := hf t
    rw [scT, hge]
    split
    · rw [List.length_append, List.length_take, List.length_drop, ih, hx2]
      omega
    · exact ih
/-- What may stand in a sector: the image's bytes, or those of one of its writes. -/
def manyT (pen : List (Nat × List UInt8)) (i : Nat) (b0 : List UInt8) : Nat → List (List UInt8)
  | 0 => [b0]
  | t + 1 => if (pen.getD t (0, [])).1 = i then manyT pen i b0 t ++ [(pen.getD t (0, [])).2] else manyT pen i b0 t
/-- Where each of its writes is kept whole or not at all, a sector is one of these. -/
theorem sc_whole (f : Nat → Nat) (pen : List (Nat × List UInt8)) (i : Nat) (b0 : List UInt8) (h0 : b0.length = 512) (hf : ∀ k, f k ≤ 512) (hp : ∀ x ∈ pen, x.2.length = 512) (hw : ∀ k x, pen[k]? = some x → x.1 = i → f k = 0 ∨ f k = 512) : ∀ t, t ≤ pen.length → scT f pen i b0 t ∈ manyT pen i b0 t
  | 0, _ => by simp [scT, manyT]
  | t + 1, ht => by
    obtain ⟨x, hx⟩ : ∃ x, pen[t]? = some x := ⟨pen[t]'(by omega), List.getElem?_eq_getElem _⟩
    have hge : pen.getD t (0, []) = x := by rw [List.getD_eq_getElem?_getD, hx]; rfl
    have ih := sc_whole f pen i b0 h0 hf hp hw t (by omega)
    have hx2 := hp x (List.mem_of_getElem? hx)
    rw [scT, manyT, hge]
    by_cases h : x.1 = i
    · rw [if_pos h, if_pos h]
      rcases hw t x hx h with e | e
      · rw [e, List.take_zero, List.drop_zero, List.nil_append]
        exact List.mem_append.2 (.inl ih)
      · rw [e, List.take_of_length_le (by omega), List.drop_eq_nil_of_le (by rw [scT_length f pen i b0 h0 hf hp t (by omega)]; exact Nat.le_refl _), List.append_nil]
        exact List.mem_append.2 (.inr (by simp))
    · rw [if_neg h, if_neg h]; exact ih
/-- And in whatever way they are kept, each of its bytes is a byte of one of these. -/
theorem sc_bytes (f : Nat → Nat) (pen : List (Nat × List UInt8)) (i : Nat) (b0 : List UInt8) (h0 : b0.length = 512) (hf : ∀ k, f k ≤ 512) (hp : ∀ x ∈ pen, x.2.length = 512) (j : Nat) (hj : j < 512) : ∀ t, t ≤ pen.length → ∃ c ∈ manyT pen i b0 t, (scT f pen i b0 t)[j]? = c[j]?
  | 0, _ => ⟨b0, by simp [manyT], rfl⟩
  | t + 1, ht => by
    obtain ⟨x, hx⟩ : ∃ x, pen[t]? = some x := ⟨pen[t]'(by omega), List.getElem?_eq_getElem _⟩
    have hge : pen.getD t (0, []) = x := by rw [List.getD_eq_getElem?_getD, hx]; rfl
    obtain ⟨c, hc, e⟩ := sc_bytes f pen i b0 h0 hf hp j hj t (by omega)
    have hx2 := hp x (List.mem_of_getElem? hx)
    have hft := hf t
    rw [scT, manyT, hge]
    by_cases h : x.1 = i
    · rw [if_pos h, if_pos h]
      have hB : (x.2.take (f t)).length = f t := by simp; omega
      by_cases hjm : j < f t
      · refine ⟨x.2, List.mem_append.2 (.inr (by simp)), ?_⟩
        rw [List.getElem?_append_left (by omega), List.getElem?_take_of_lt hjm]
      · refine ⟨c, List.mem_append.2 (.inl hc), ?_⟩
        rw [List.getElem?_append_right (by omega), hB, List.getElem?_drop, ← e, show f t + (j - f t) = j by omega]
    · rw [if_neg h, if_neg h]; exact ⟨c, hc, e⟩
/-- Where all are kept, a sector is as it was written last. -/
theorem sc_last (pen : List (Nat × List UInt8)) (i : Nat) (b0 : List UInt8) (h0 : b0.length = 512) (hp : ∀ x ∈ pen, x.2.length = 512) : ∀ t, t ≤ pen.length → (⟨(scT (fun _ => 512) pen i b0 t).toArray⟩ : ByteArray) = lastT ⟨b0.toArray⟩ pen i t
  | 0, _ => rfl
  | t + 1, ht => by
    obtain ⟨x, hx⟩ : ∃ x, pen[t]? = some x := ⟨pen[t]'(by omega), List.getElem?_eq_getElem _⟩
    have hge : pen.getD t (0, []) = x := by rw [List.getD_eq_getElem?_getD, hx]; rfl
    have hx2 := hp x (List.mem_of_getElem? hx)
    rw [scT, lastT, hge]
    by_cases h : x.1 = i
    · rw [if_pos h, if_pos h, List.take_of_length_le (by omega), List.drop_eq_nil_of_le (by rw [scT_length _ pen i b0 h0 (fun _ => Nat.le_refl _) hp t (by omega)]; exact Nat.le_refl _), List.append_nil]
    · rw [if_neg h, if_neg h]; exact sc_last pen i b0 h0 hp t (by omega)
theorem flush_secS (D : Dv) (h : D.ok) (i : Nat) (hi : i < D.n) : secS (imgT (fun _ => 512) D.pen D.img D.pen.length) i = lastS (secS D.img i) D.pen i := by
  unfold secS lastS
  rw [sec_imgT (fun _ => 512) D.pen D.img D.n i h.len (fun _ => Nat.le_refl _) h.sec hi _ (Nat.le_refl _)]
  exact sc_last D.pen i (secB D.img i) (secB_length D.img D.n i h.len hi) (fun x hx => (h.sec x hx).2) _ (Nat.le_refl _)
/-- A write that is not the torn one is kept whole or not at all. -/
theorem surv_whole (ks : List (BitVec 64)) (torn off : Int) (k : Nat) (h : (k : Int) ≠ torn) : survN ks torn off k = 0 ∨ survN ks torn off k = 512 := by
  unfold survN
  rw [if_neg h]
  split
  · exact .inr rfl
  · first | exact .inl rfl | (rw [if_neg h]; exact .inl rfl)
end Go.Proofs.Ythfcabhelldokaa
