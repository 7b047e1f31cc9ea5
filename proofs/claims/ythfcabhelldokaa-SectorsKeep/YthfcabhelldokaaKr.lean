import Derived.Test.YthfcabhelldokaaKk
import Derived.Test.YthfcabhelldokaaRd
set_option linter.unusedVariables false
set_option linter.unusedSimpArgs false
namespace Go.Proofs.Ythfcabhelldokaa
open Go.RowKit

/-- A sector of an image, as a string. -/
def secB (img : List UInt8) (i : Nat) : List UInt8 := (img.drop (i * 512)).take 512
def secS (img : List UInt8) (i : Nat) : ByteArray := ⟨(secB img i).toArray⟩
theorem lastT_nw (s0 : ByteArray) (pen : List (Nat × List UInt8)) (i : Nat) : ∀ t, t ≤ pen.length → lastT s0 pen i t = if nw (pen.take t) i = 0 then s0 else ⟨(pen.getD (nw (pen.take t) i - 1) (0, [])).2.toArray⟩
  | 0, _ => by rw [List.take_zero, nw_nil, if_pos rfl]; rfl
  | t + 1, ht => by
    obtain ⟨x, hx⟩ : ∃ x, pen[t]? = some x := ⟨pen[t]'(by omega), List.getElem?_eq_getElem _⟩
    have hge : pen.getD t (0, []) = x := by rw [List.getD_eq_getElem?_getD, hx]; rfl
    have hlt : (pen.take t).length = t := by simp; omega
    rw [lastT, hge, List.take_add_one, hx, show (some x).toList = [x] from rfl, nw_snoc, hlt]
    by_cases h : x.1 = i
    · rw [if_pos h, if_pos h, if_neg (by omega), Nat.add_sub_cancel, hge]
    · rw [if_neg h, if_neg h]
      exact lastT_nw s0 pen i t (by omega)
theorem last_is (D : Dv) (i : Nat) : lastS (secS D.img i) D.pen i = ⟨(readB D i).toArray⟩ := by
  unfold lastS readB
  rw [lastT_nw _ _ _ _ (Nat.le_refl _), List.take_of_length_le (Nat.le_refl _)]
  by_cases h : nw D.pen i = 0
  · rw [if_pos h, if_pos h]; rfl
  · rw [if_neg h, if_neg h]
theorem tn4 (t : Nat) (h : t < 4) : IntKind.i64.wrap ((t : Int) + 1) = ((t + 1 : Nat) : Int) := by rw [IntKind.wrap_i64]; omega
theorem ms4 (t : Nat) (h : t < 4) : 4 - (t + 1) < 4 - t := by omega
def rdE (pv t : Nat) : List (Nat × Value) := [(0, .pointer (some ⟨pv, 0, none⟩)), (3, .int .i64 (t : Int))]
set_option maxRecDepth 100000 in
theorem reads_any {W : World} {L : Lay} {D : Dv} {pv : Nat} {vi vl : Value} {ims : List ByteArray} {gs : List Nat} (hD : Dev W L D) (hB : Bk W pv L.p vi vl ims gs D.pen) (hdn : D.down = false) (hn : D.n = 4) (him : ∀ i, i < 4 → ims[i]? = some (secS D.img i)) :
    Calls Try.prog 29 #[.pointer (some ⟨pv, 0, none⟩)] W fun e w' => e = .returned (.bool true) ∧ Below W.heap.size W w' := by
  refine calls_of_args [.pointer (some ⟨pv, 0, none⟩)] Try.func29 rfl 29 Try.ntmps29 (by show 1 ≤ 29; decide) ?_
  refine EW.seq ?_
  refine EW.region ?_
  first | refine WL.assign rfl rfl rfl ?_
  refine WL.done ?_
  refine EW.on ?_
  refine EW.seq ?_
  refine EW.seq ?_
  refine EW.region ?_
  first | refine WL.assign rfl rfl rfl ?_
  refine WL.done ?_
  refine EW.on ?_
  refine EW.block ?_
  refine EW.loop (rdE pv) (fun t w' => t ≤ 4 ∧ Below W.heap.size W w') (fun t => 4 - t) 0 [0, 3] rfl ⟨Nat.zero_le _, Below.refl _ _⟩ ?_
  rintro t wr ⟨ht4, hbe⟩
  show EW _ _ _ _ [(0, .pointer (some ⟨pv, 0, none⟩)), (3, .int .i64 (t : Int))] _
  by_cases hl : t < 4
  · have z1 : (t : Int) < 4 := Int.ofNat_lt.2 hl
    have tn := tn4 t hl
    have Dr := hD.below hbe
    have Br := hB.below hbe
    have r0 := (Br.bl.cell 0).trans (show _ = some (.pointer (some ⟨L.p, 0, none⟩)) from rfl)
    have hrd := read_ok Dr hdn t (by rw [hn]; exact hl)
    have bl := readB_length D hD.ok t (by rw [hn]; exact hl)
    have b1 : Blk (wr.alloc (.cells ((readB D t).map byt).toArray 5)) wr.heap.size ((readB D t).map byt) 5 := Blk.new _ _ _
    have be1 : Below wr.heap.size wr (wr.alloc (.cells ((readB D t).map byt).toArray 5)) := below_new _ _
    obtain ⟨w1, hw1⟩ : ∃ w1, wr.alloc (.cells ((readB D t).map byt).toArray 5) = w1 := ⟨_, rfl⟩
    rw [hw1] at b1 be1 hrd
    have bd : Below w1.heap.size w1 { w1 with drawn := w1.drawn + 1 } := below_drawn w1
    obtain ⟨wd, hwd⟩ : ∃ wd, { w1 with drawn := w1.drawn + 1 } = wd := ⟨_, rfl⟩
    rw [hwd] at bd
    have hla := last_any ((Br.below be1).below bd) t (secS D.img t) (him t hl)
    rw [last_is D t] at hla
    have hcv : ∀ W, Below w1.heap.size w1 W → (Go.convert 34 9 (.slice (some ⟨wr.heap.size, 0, none⟩) 512 512)).run Try.prog W = .ok (.string ⟨(readB D t).toArray⟩) W := fun W hW => (Blk.hasB (b1.on hW) bl).convert
    refine EW.seq ?_
    refine EW.seq ?_
    refine EW.region ?_
    first | refine WL.move rfl rfl rfl ?_
    first | refine WL.bin rfl rfl rfl rfl (int_lt_t ‹_› _ _ _) ?_ | refine WL.bin rfl rfl rfl rfl (int_lt_f ‹_› _ _ _) ?_
    refine WL.done ?_
    refine EW.on ?_
    refine EW.cond_t rfl ?_
    refine EW.skip ?_
    refine EW.on ?_
    refine EW.seq ?_
    refine EW.block ?_
    refine EW.seq ?_
    refine EW.region ?_
    first | refine WL.move rfl rfl rfl ?_
    first | refine WL.nilc rfl rfl rfl ?_
    first | refine WL.field rfl rfl rfl (fld32_0 _ _) ?_
    refine WL.load rfl rfl rfl (ld28 r0) ?_
    first | refine WL.move rfl rfl rfl ?_
    refine WL.call [.pointer (some ⟨L.p, 0, none⟩), .int .i64 (t : Int)] enter42 rfl rfl rfl hrd ?_
    rintro x w3 ⟨rfl, hz⟩
    rw [hz]; clear hz w3
    refine ⟨_, rfl, ?_⟩
    first | refine WL.move rfl rfl rfl ?_
    first | refine WL.extract rfl rfl rfl (ext_2 _ _ _).1 ?_
    first | refine WL.extract rfl rfl rfl (ext_2 _ _ _).2 ?_
    first | refine WL.assign rfl rfl rfl ?_
    first | refine WL.assign rfl rfl rfl ?_
    refine WL.done ?_
    refine EW.on ?_
    refine EW.seq ?_
    refine EW.ord [(0, false), (1, false), (2, false), (3, false), (4, false), (5, false), (6, false), (7, true), (8, false), (9, false)] (fun W => Below w1.heap.size w1 W) (by kernel_rfl) rfl (by kernel_rfl) (by rw [hwd]; exact bd) ?_
    rw [hwd]
    simp only [ordOps, List.getD_cons_zero, List.getD_cons_succ]
    refine OE.move rfl rfl rfl ?_
    refine OE.bin rfl rfl rfl rfl (fun W => int_ne_f rfl W _ _) ?_
    refine OE.move rfl rfl rfl ?_
    refine OE.move rfl rfl rfl ?_
    refine OE.conv rfl rfl rfl hcv ?_
    refine OE.move rfl rfl rfl ?_
    refine OE.move rfl rfl rfl ?_
    refine OE.call [.pointer (some ⟨pv, 0, none⟩), .int .i64 (t : Int)] (.string ⟨(readB D t).toArray⟩) (fun W => Below w1.heap.size w1 W) (fun W => W = wd) enter45 rfl rfl rfl (fun W hW => by rw [hW]; exact bd) (fun _ h => h) (fun W hW => by rw [hW]; exact hla) ?_
    refine OE.bin rfl rfl rfl rfl (fun W => str_ne_f _ W _ _) ?_
    refine OE.pick rfl rfl rfl rfl ?_
    refine fun a ha Wz hW => ?_
    rw [hW]
    revert a ha
    refine EW.on ?_
    refine EW.cond_f rfl ?_
    refine EW.skip ?_
    refine pn_block ?_
    refine EW.on ?_
    refine EW.region ?_
    first | refine WL.move rfl rfl rfl ?_
    first | refine WL.bin rfl rfl rfl rfl (int_add ‹_› _ _ _) ?_
    first | refine WL.assign rfl rfl rfl ?_
    refine WL.done ?_
    exact EW.again (t + 1) [0, 3] rfl ⟨hl, hbe.trans ((be1.trans (bd.mono be1.size)).mono hbe.size)⟩ (ms4 t hl)
  · have z1 : ¬ (t : Int) < 4 := fun hh => hl (Int.ofNat_lt.1 hh)
    refine EW.seq ?_
    refine EW.seq ?_
    refine EW.region ?_
    first | refine WL.move rfl rfl rfl ?_
    first | refine WL.bin rfl rfl rfl rfl (int_lt_t ‹_› _ _ _) ?_ | refine WL.bin rfl rfl rfl rfl (int_lt_f ‹_› _ _ _) ?_
    refine WL.done ?_
    refine EW.on ?_
    refine EW.cond_f rfl ?_
    refine EW.exit ?_
    repeat refine px_then ?_
    refine px_block ?_
    refine EW.on ?_
    refine EW.seq ?_
    refine EW.region ?_
    first | refine WL.assign rfl rfl rfl ?_
    refine WL.done ?_
    refine EW.on ?_
    refine EW.ret ?_
    exact EW.returns Try.results29 rfl ⟨rfl, hbe⟩
end Go.Proofs.Ythfcabhelldokaa
