import Derived.Test.YtplfelfmkgjijaaNh
set_option linter.unusedVariables false
set_option linter.unusedSimpArgs false
namespace Go.Proofs.Ytplfelfmkgjijaa
open Go.RowKit

theorem neg_i (a : Int) {c : Int} (h : IntKind.i64.wrap (-a) = c) (W : World) : (Op.unary .neg (.int .i64 a)).run Try.prog W = .ok (.int .i64 c) W := by
  subst h
  go_simp
theorem max_i (a b : Int) (ty : TypeId) (W : World) : (Builtin.max_ #[3, 3] ty #[.int .i64 a, .int .i64 b]).run Try.prog W = .ok (.int .i64 (max a b)) W := by
  go_simp
theorem rem_i (a b : Int) (h : b ≠ 0) {c : Int} (hc : Int.tmod a b = c) (W : World) (x y : Operand) : (do eqGuard .rem 3 x y (.int .i64 a) (.int .i64 b); binOp .rem 3 (.int .i64 a) (.int .i64 b) : Sem Value).run Try.prog W = .ok (.int .i64 c) W := by
  subst hc
  go_simp
theorem neP (p : Nat) (W : World) (x y : Operand) : (do eqGuard .eql 22 x y (.pointer (some ⟨p, 0, none⟩)) (.pointer none); binOp .eql 22 (.pointer (some ⟨p, 0, none⟩)) (.pointer none) : Sem Value).run Try.prog W = .ok (.bool false) W := by
  go_simp
/-- A number folded. -/
def foldN (m : Int) : Nat := (if 0 ≤ m then m else -(m + 1)).toNat
theorem fold_ops (m : Int) (h1 : -9223372036854775808 ≤ m) (h2 : m ≤ 9223372036854775807) : ∃ a b, IntKind.i64.wrap (m + 1) = a ∧ IntKind.i64.wrap (-a) = b ∧ max m b = (foldN m : Int) ∧ foldN m < 9223372036854775808 := by
  refine ⟨_, _, rfl, rfl, ?_, ?_⟩
  · rw [IntKind.wrap_i64, IntKind.wrap_i64]
    unfold foldN
    split <;> omega
  · unfold foldN
    split <;> omega
/-- A number's low byte. -/
def b8 (a : Int) : UInt8 := UInt8.ofNat (a % 256).toNat
theorem cv5 (a : Int) (W : World) : (Go.convert 3 5 (.int .i64 a)).run Try.prog W = .ok (byt (b8 a)) W := by
  have e : IntKind.u8.wrap a = ((b8 a).toNat : Int) := by
    have h1 : (a % 256).toNat < 256 := by omega
    unfold b8
    rw [UInt8.toNat_ofNat', Nat.mod_eq_of_lt h1]
    simp [IntKind.wrap, IntKind.bits, IntKind.signed]
    omega
  unfold byt
  rw [← e]
  go_simp
theorem new1 (b : UInt8) (w : World) : ∃ v w', (Instr.buildSlice 29 1 [(0, byt b)].toArray).run Try.prog w = .ok v w' ∧ Own w' w.heap.size v [b] ∧ Below w.heap.size w w' :=
  ⟨_, _, bsl22_1 b w, Own.ofBlk (bs := [b]) (Blk.new _ _ _) (Nat.le_refl _) (maxL (by show 1 ≤ 100000; decide)), below_new _ _⟩
/-- A net of two nodes with the numbers 0 to i - 1 on their way. -/
structure Fu (w0 w : World) (p r : Nat) (most : Nat) (i : Nat) (E : List Me) (c : Nat) : Prop where
  nt : Nt w p r 2 most i E c
  ks : (E.map fun m => m.x.n) = (List.range i).map fun (j : Nat) => (j : Int)
  le : i ≤ most
  m40 : most < 40
  be : Below w0.heap.size w0 w
  hp : w0.heap.size ≤ p
  hr : w0.heap.size ≤ r
section
variable {w0 w : World} {p r most i : Nat} {E : List Me} {c : Nat}
theorem Fu.len (h : Fu w0 w p r most i E c) : E.length = i := by
  have := congrArg List.length h.ks
  simpa using this
theorem Fu.on {w' : World} (h : Fu w0 w p r most i E c) (hb : Below w.heap.size w w') : Fu w0 w' p r most i E c := ⟨h.nt.on hb, h.ks, h.le, h.m40, h.be.trans (hb.mono h.be.size), h.hp, h.hr⟩
theorem lk_key {E : List Me} {k : Int} (h : k ∈ E.map fun m => m.x.n) : ∃ x, lkE E k = some x := by
  cases hl : lkE E k with
  | some x => exact ⟨x, rfl⟩
  | none =>
    obtain ⟨m, hm, e⟩ := List.mem_map.1 h
    exact absurd e.symm (lk_none hl m hm)
theorem Fu.lk (h : Fu w0 w p r most i E c) {j : Nat} (hj : j < i) : ∃ x, lkE E (j : Int) = some x := lk_key (by rw [h.ks]; exact List.mem_map.2 ⟨j, List.mem_range.2 hj, rfl⟩)
theorem Fu.push (h : Fu w0 w p r most i E c) {w' : World} {x : Fl} (hx : x.n = (i : Int)) (hn : Nt w' p r 2 most ((i : Int) + 1) (E ++ [⟨x, c⟩]) (c + 1)) (hf : Fx (fun k => k = p ∨ k = r) w w') (hi : i < most) : Fu w0 w' p r most (i + 1) (E ++ [⟨x, c⟩]) (c + 1) :=
  ⟨by rw [Int.natCast_add]; exact hn, by rw [List.map_append, h.ks, List.range_succ, List.map_append]; simp [hx], hi, h.m40, h.be.trans (hf.below (fun k hk e => by have := h.hp; have := h.hr; omega) h.be.size), h.hp, h.hr⟩
theorem full_send (h : Fu w0 w p r most i E c) (hi : i < most) {fr tn : Int} (hf : isN 2 fr) (ht : isN 2 tn) {v : Value} {bs : List UInt8} (hv : Has w v bs) (hl : bs.length ≤ 140737488355328) : Calls Try.prog 9 #[.pointer (some ⟨p, 0, none⟩), .int .i64 fr, .int .i64 tn, v] w fun e w' => e = .returned (.tuple #[.int .i64 (i : Int), .int .i64 0]) ∧ ∃ E', Fu w0 w' p r most (i + 1) E' (c + 1) := by
  have := h.m40
  refine (send_any h.nt fr tn v bs hv hl (by omega)).mono fun e w' hh => ?_
  have hlen := h.len
  rcases hh with ⟨g, _⟩ | ⟨_, g, _⟩ | ⟨_, g, v', e1, n1, _, f1⟩
  · exact absurd ⟨hf, ht⟩ g
  · omega
  · exact ⟨e1, _, h.push rfl n1 f1 hi⟩
theorem full_copy (h : Fu w0 w p r most i E c) (hi : i < most) {j : Nat} (hj : j < i) : Calls Try.prog 8 #[.pointer (some ⟨p, 0, none⟩), .int .i64 (j : Int)] w fun e w' => e = .returned (.tuple #[.int .i64 (i : Int), .int .i64 0]) ∧ ∃ E', Fu w0 w' p r most (i + 1) E' (c + 1) := by
  have := h.m40
  refine (copy_any h.nt (j : Int) (by omega)).mono fun e w' hh => ?_
  have hlen := h.len
  obtain ⟨x, hx⟩ := h.lk hj
  rcases hh with ⟨g, _⟩ | ⟨x', _, g, _⟩ | ⟨x', _, g, v', e1, n1, _, f1⟩
  · rw [hx] at g; cases g
  · omega
  · exact ⟨e1, _, h.push rfl n1 f1 hi⟩
theorem full_no (h : Fu w0 w p r most i E c) (hi : i = most) {fr tn : Int} (hf : isN 2 fr) (ht : isN 2 tn) {v : Value} {bs : List UInt8} (hv : Has w v bs) (hl : bs.length ≤ 140737488355328) : Calls Try.prog 9 #[.pointer (some ⟨p, 0, none⟩), .int .i64 fr, .int .i64 tn, v] w fun e w' => e = .returned (.tuple #[.int .i64 0, .int .i64 231]) ∧ Below w.heap.size w w' := by
  have := h.m40
  refine (send_any h.nt fr tn v bs hv hl (by omega)).mono fun e w' hh => ?_
  have hlen := h.len
  rcases hh with ⟨g, _⟩ | ⟨_, g, e1, b1⟩ | ⟨_, g, _⟩
  · exact absurd ⟨hf, ht⟩ g
  · exact ⟨e1, b1⟩
  · omega
theorem full_cno (h : Fu w0 w p r most i E c) (hi : i = most) {j : Nat} (hj : j < i) : Calls Try.prog 8 #[.pointer (some ⟨p, 0, none⟩), .int .i64 (j : Int)] w fun e w' => e = .returned (.tuple #[.int .i64 0, .int .i64 231]) ∧ Below w.heap.size w w' := by
  have := h.m40
  refine (copy_any h.nt (j : Int) (by omega)).mono fun e w' hh => ?_
  have hlen := h.len
  obtain ⟨x, hx⟩ := h.lk hj
  rcases hh with ⟨g, _⟩ | ⟨x', _, g, e1, b1⟩ | ⟨x', _, g, _⟩
  · rw [hx] at g; cases g
  · exact ⟨e1, b1⟩
  · omega
theorem full_c30 (h : Fu w0 w p r most i E c) (hi : i = most) : Calls Try.prog 8 #[.pointer (some ⟨p, 0, none⟩), .int .i64 (most : Int)] w fun e w' => e = .returned (.tuple #[.int .i64 0, .int .i64 230]) ∧ Below w.heap.size w w' := by
  have := h.m40
  refine (copy_any h.nt (most : Int) (by omega)).mono fun e w' hh => ?_
  have hlk := h.nt.lk
  rw [hi] at hlk
  rcases hh with ⟨g, e1, b1⟩ | ⟨x', g, _⟩ | ⟨x', g, _⟩
  · exact ⟨e1, b1⟩
  · rw [hlk] at g; cases g
  · rw [hlk] at g; cases g
theorem del_len {E : List Me} {k : Int} {x : Fl} (hnd : (E.map fun m => m.x.n).Nodup) (h : lkE E k = some x) : (delE E k).length + 1 = E.length := by
  have hl := fk_lk k E 0
  rw [h] at hl
  cases hk : fk k E 0 with
  | none => rw [hk] at hl; cases hl
  | some y =>
    obtain ⟨j, v⟩ := y
    obtain ⟨_, h2, h3⟩ := fk_del hnd hk
    rw [Nat.sub_zero] at h2 h3
    rw [← h2, List.length_eraseIdx_of_lt h3]
    omega
end
def fuE (most i : Nat) (k : Int) (p : Nat) : List (Nat × Value) := [(0, .int .i64 (most : Int)), (1, .int .i64 k), (5, .pointer (some ⟨p, 0, none⟩)), (7, .int .i64 (i : Int))]
def FuR (w0 : World) (p r most : Nat) (i : Nat) (W : World) : Prop := ∃ E c, Fu w0 W p r most i E c
set_option maxRecDepth 100000 in
set_option maxHeartbeats 4000000 in
theorem full_any (m k : Int) (hm1 : -9223372036854775808 ≤ m) (hm2 : m ≤ 9223372036854775807) (hk1 : -9223372036854775808 ≤ k) (hk2 : k ≤ 9223372036854775807) (w : World) : Calls Try.prog 3 #[.int .i64 m, .int .i64 k] w fun e w' => e = .returned (.bool true) ∧ Below w.heap.size w w' := by
  obtain ⟨a1, b1, ha1, hb1, hmx, hfl⟩ := fold_ops m hm1 hm2
  obtain ⟨a2, b2, ha2, hb2, hmx2, hfl2⟩ := fold_ops k hk1 hk2
  obtain ⟨most, hmost⟩ : ∃ most, foldN m % 40 = most := ⟨_, rfl⟩
  have hm40 : most < 40 := by omega
  have hmo : Int.tmod (foldN m : Int) 40 = (most : Int) := by rw [Int.tmod_eq_emod_of_nonneg (by omega)]; omega
  refine calls_of_args [.int .i64 m, .int .i64 k] Try.func3 rfl 149 Try.ntmps3 (by show 2 ≤ 149; decide) ?_
  refine EW.seq ?_
  refine EW.region ?_
  first | refine WL.assign rfl rfl rfl ?_
  refine WL.done ?_
  refine EW.on ?_
  refine EW.seq ?_
  refine EW.region ?_
  first | refine WL.move rfl rfl rfl ?_
  first | refine WL.move rfl rfl rfl ?_
  refine WL.bin rfl rfl rfl rfl (int_add (c := a1) ha1 _ _ _) ?_
  refine WL.un rfl rfl rfl (neg_i _ hb1 _) ?_
  refine WL.max rfl rfl rfl rfl (by rw [max_i, hmx]) ?_
  refine WL.bin rfl rfl rfl rfl (rem_i _ _ (by decide) (c := (most : Int)) hmo _ _ _) ?_
  first | refine WL.assign rfl rfl rfl ?_
  refine WL.done ?_
  refine EW.on ?_
  refine EW.seq ?_
  refine EW.region ?_
  first | refine WL.move rfl rfl rfl ?_
  refine WL.call [.int .i64 2, .int .i64 (most : Int)] enter7 rfl rfl rfl (new_ok 2 (most : Int) ⟨by decide, by decide, by omega, by omega⟩ _) ?_
  rintro x1 w1 ⟨p, r, rfl, nt1, hp1, hr1, be1⟩
  refine ⟨_, rfl, ?_⟩
  first | refine WL.move rfl rfl rfl ?_
  first | refine WL.extract rfl rfl rfl (ext_2 _ _ _).1 ?_
  first | refine WL.extract rfl rfl rfl (ext_2 _ _ _).2 ?_
  first | refine WL.assign rfl rfl rfl ?_
  first | refine WL.assign rfl rfl rfl ?_
  refine WL.done ?_
  refine EW.on ?_
  refine EW.seq ?_
  refine EW.seq ?_
  refine EW.region ?_
  first | refine WL.move rfl rfl rfl ?_
  refine WL.bin rfl rfl rfl rfl (int_ne_f rfl _ _ _) ?_
  first | refine WL.move rfl rfl rfl ?_
  first | refine WL.move rfl rfl rfl ?_ | refine WL.skip _ rfl rfl rfl ?_
  refine WL.bin rfl rfl rfl rfl (neP _ _ _ _) ?_
  first | refine WL.pick rfl rfl rfl rfl ?_
  refine WL.done ?_
  refine EW.on ?_
  refine EW.cond_f rfl ?_
  refine EW.skip ?_
  refine EW.on ?_
  refine EW.seq ?_
  refine EW.seq ?_
  refine EW.region ?_
  first | refine WL.assign rfl rfl rfl ?_
  refine WL.done ?_
  refine EW.on ?_
  refine EW.block ?_
  refine EW.loop (fun i => fuE most i k p) (FuR w p r most) (fun i => most - i) 0 [0, 1, 5, 7] rfl ⟨[], 0, ⟨nt1, rfl, Nat.zero_le _, hm40, be1, hp1, hr1⟩⟩ ?_
  rintro i wi ⟨E, c, fu⟩
  have hle := fu.le
  show EW _ _ _ _ [(0, .int .i64 (most : Int)), (1, .int .i64 k), (5, .pointer (some ⟨p, 0, none⟩)), (7, .int .i64 (i : Int))] _
  refine EW.seq ?_
  refine EW.seq ?_
  refine EW.region ?_
  first | refine WL.move rfl rfl rfl ?_
  first | refine WL.move rfl rfl rfl ?_
  refine WL.bin rfl rfl rfl rfl (int_lt_d _ _ _ _ _) ?_
  refine WL.done ?_
  refine EW.on ?_
  refine EW.cond_d rfl (fun h40 => ?_) (fun h40 => ?_)
  · refine EW.skip ?_
    refine EW.on ?_
    refine EW.seq ?_
    refine EW.block ?_
    refine EW.seq ?_
    refine EW.region ?_
    first | refine WL.assign rfl rfl rfl ?_
    first | refine WL.assign rfl rfl rfl ?_
    refine WL.done ?_
    refine EW.on ?_
    refine EW.seq ?_
    refine EW.seq ?_
    rcases (show i = 0 ∨ (0 < i ∧ i % 2 = 1) ∨ (0 < i ∧ i % 2 = 0) by omega) with hi0 | ⟨hi0, hi2⟩ | ⟨hi0, hi2⟩
    · have h0 : ¬ (0 : Int) < (i : Int) := by omega
      refine EW.region ?_
      first | refine WL.move rfl rfl rfl ?_
      refine WL.bin rfl rfl rfl rfl (int_gt_f h0 _ _ _) ?_
      first | refine WL.move rfl rfl rfl ?_
      refine WL.skip _ rfl rfl rfl ?_
      refine WL.skip _ rfl rfl rfl ?_
      refine WL.skip _ rfl rfl rfl ?_
      first | refine WL.pick rfl rfl rfl rfl ?_
      refine WL.done ?_
      refine EW.on ?_
      refine EW.cond_f rfl ?_
      obtain ⟨vb, wb, rb, ob, lb⟩ := new1 (b8 (i : Int)) wi
      refine EW.region ?_
      first | refine WL.move rfl rfl rfl ?_
      first | refine WL.move rfl rfl rfl ?_
      refine WL.conv rfl rfl rfl (cv5 _ _) ?_
      refine WL.bslN [(0, byt (b8 (i : Int)))] rfl rfl rfl rb ?_
      refine WL.call [.pointer (some ⟨p, 0, none⟩), .int .i64 1, .int .i64 2, vb] enter9 rfl rfl rfl (full_send (fu.on lb) (by omega) ⟨by decide, by decide⟩ ⟨by decide, by decide⟩ ob.has (by simp)) ?_
      rintro x2 w2 ⟨rfl, E2, fu2⟩
      refine ⟨_, rfl, ?_⟩
      first | refine WL.move rfl rfl rfl ?_
      first | refine WL.extract rfl rfl rfl (ext_2 _ _ _).1 ?_
      first | refine WL.extract rfl rfl rfl (ext_2 _ _ _).2 ?_
      first | refine WL.assign rfl rfl rfl ?_
      first | refine WL.assign rfl rfl rfl ?_
      refine WL.done ?_
      refine EW.on ?_
      refine EW.seq ?_
      refine EW.region ?_
      first | refine WL.move rfl rfl rfl ?_
      first | refine WL.move rfl rfl rfl ?_
      refine WL.bin rfl rfl rfl rfl (int_ne_f rfl _ _ _) ?_
      first | refine WL.move rfl rfl rfl ?_
      first | refine WL.move rfl rfl rfl ?_ | refine WL.skip _ rfl rfl rfl ?_
      refine WL.bin rfl rfl rfl rfl (int_ne_f rfl _ _ _) ?_
      first | refine WL.pick rfl rfl rfl rfl ?_
      refine WL.done ?_
      refine EW.on ?_
      refine EW.cond_f rfl ?_
      refine EW.skip ?_
      refine pn_block ?_
      refine EW.on ?_
      refine EW.region ?_
      first | refine WL.move rfl rfl rfl ?_
      refine WL.bin rfl rfl rfl rfl (int_add (c := ((i + 1 : Nat) : Int)) (by rw [IntKind.wrap_i64]; omega) _ _ _) ?_
      first | refine WL.assign rfl rfl rfl ?_
      refine WL.done ?_
      exact EW.again (E := fun i => fuE most i k p) (R := FuR w p r most) (m := fun i => most - i) (x := i) (i + 1) [0, 1, 5, 7] rfl ⟨_, _, fu2⟩ (by show most - (i + 1) < most - i; omega)
    · have h0 : (0 : Int) < (i : Int) := by omega
      have hre : Int.tmod (i : Int) 2 = 1 := by rw [Int.tmod_eq_emod_of_nonneg (by omega)]; omega
      refine EW.region ?_
      first | refine WL.move rfl rfl rfl ?_
      refine WL.bin rfl rfl rfl rfl (int_gt_t h0 _ _ _) ?_
      first | refine WL.move rfl rfl rfl ?_
      first | refine WL.move rfl rfl rfl ?_ | refine WL.skip _ rfl rfl rfl ?_
      refine WL.bin rfl rfl rfl rfl (rem_i _ _ (by decide) (c := 1) hre _ _ _) ?_
      refine WL.bin rfl rfl rfl rfl (int_eq_t rfl _ _ _) ?_
      first | refine WL.pick rfl rfl rfl rfl ?_
      refine WL.done ?_
      refine EW.on ?_
      refine EW.cond_t rfl ?_
      refine EW.region ?_
      first | refine WL.move rfl rfl rfl ?_
      first | refine WL.move rfl rfl rfl ?_
      refine WL.bin rfl rfl rfl rfl (int_sub (c := ((i - 1 : Nat) : Int)) (by rw [IntKind.wrap_i64]; omega) _ _ _) ?_
      refine WL.call [.pointer (some ⟨p, 0, none⟩), .int .i64 ((i - 1 : Nat) : Int)] enter8 rfl rfl rfl (full_copy fu (by omega) (j := i - 1) (by omega)) ?_
      rintro x2 w2 ⟨rfl, E2, fu2⟩
      refine ⟨_, rfl, ?_⟩
      first | refine WL.move rfl rfl rfl ?_
      first | refine WL.extract rfl rfl rfl (ext_2 _ _ _).1 ?_
      first | refine WL.extract rfl rfl rfl (ext_2 _ _ _).2 ?_
      first | refine WL.assign rfl rfl rfl ?_
      first | refine WL.assign rfl rfl rfl ?_
      refine WL.done ?_
      refine EW.on ?_
      refine EW.seq ?_
      refine EW.region ?_
      first | refine WL.move rfl rfl rfl ?_
      first | refine WL.move rfl rfl rfl ?_
      refine WL.bin rfl rfl rfl rfl (int_ne_f rfl _ _ _) ?_
      first | refine WL.move rfl rfl rfl ?_
      first | refine WL.move rfl rfl rfl ?_ | refine WL.skip _ rfl rfl rfl ?_
      refine WL.bin rfl rfl rfl rfl (int_ne_f rfl _ _ _) ?_
      first | refine WL.pick rfl rfl rfl rfl ?_
      refine WL.done ?_
      refine EW.on ?_
      refine EW.cond_f rfl ?_
      refine EW.skip ?_
      refine pn_block ?_
      refine EW.on ?_
      refine EW.region ?_
      first | refine WL.move rfl rfl rfl ?_
      refine WL.bin rfl rfl rfl rfl (int_add (c := ((i + 1 : Nat) : Int)) (by rw [IntKind.wrap_i64]; omega) _ _ _) ?_
      first | refine WL.assign rfl rfl rfl ?_
      refine WL.done ?_
      exact EW.again (E := fun i => fuE most i k p) (R := FuR w p r most) (m := fun i => most - i) (x := i) (i + 1) [0, 1, 5, 7] rfl ⟨_, _, fu2⟩ (by show most - (i + 1) < most - i; omega)
    · have h0 : (0 : Int) < (i : Int) := by omega
      have hre : Int.tmod (i : Int) 2 = 0 := by rw [Int.tmod_eq_emod_of_nonneg (by omega)]; omega
      refine EW.region ?_
      first | refine WL.move rfl rfl rfl ?_
      refine WL.bin rfl rfl rfl rfl (int_gt_t h0 _ _ _) ?_
      first | refine WL.move rfl rfl rfl ?_
      first | refine WL.move rfl rfl rfl ?_ | refine WL.skip _ rfl rfl rfl ?_
      refine WL.bin rfl rfl rfl rfl (rem_i _ _ (by decide) (c := 0) hre _ _ _) ?_
      refine WL.bin rfl rfl rfl rfl (int_eq_f (by decide) _ _ _) ?_
      first | refine WL.pick rfl rfl rfl rfl ?_
      refine WL.done ?_
      refine EW.on ?_
      refine EW.cond_f rfl ?_
      obtain ⟨vb, wb, rb, ob, lb⟩ := new1 (b8 (i : Int)) wi
      refine EW.region ?_
      first | refine WL.move rfl rfl rfl ?_
      first | refine WL.move rfl rfl rfl ?_
      refine WL.conv rfl rfl rfl (cv5 _ _) ?_
      refine WL.bslN [(0, byt (b8 (i : Int)))] rfl rfl rfl rb ?_
      refine WL.call [.pointer (some ⟨p, 0, none⟩), .int .i64 1, .int .i64 2, vb] enter9 rfl rfl rfl (full_send (fu.on lb) (by omega) ⟨by decide, by decide⟩ ⟨by decide, by decide⟩ ob.has (by simp)) ?_
      rintro x2 w2 ⟨rfl, E2, fu2⟩
      refine ⟨_, rfl, ?_⟩
      first | refine WL.move rfl rfl rfl ?_
      first | refine WL.extract rfl rfl rfl (ext_2 _ _ _).1 ?_
      first | refine WL.extract rfl rfl rfl (ext_2 _ _ _).2 ?_
      first | refine WL.assign rfl rfl rfl ?_
      first | refine WL.assign rfl rfl rfl ?_
      refine WL.done ?_
      refine EW.on ?_
      refine EW.seq ?_
      refine EW.region ?_
      first | refine WL.move rfl rfl rfl ?_
      first | refine WL.move rfl rfl rfl ?_
      refine WL.bin rfl rfl rfl rfl (int_ne_f rfl _ _ _) ?_
      first | refine WL.move rfl rfl rfl ?_
      first | refine WL.move rfl rfl rfl ?_ | refine WL.skip _ rfl rfl rfl ?_
      refine WL.bin rfl rfl rfl rfl (int_ne_f rfl _ _ _) ?_
      first | refine WL.pick rfl rfl rfl rfl ?_
      refine WL.done ?_
      refine EW.on ?_
      refine EW.cond_f rfl ?_
      refine EW.skip ?_
      refine pn_block ?_
      refine EW.on ?_
      refine EW.region ?_
      first | refine WL.move rfl rfl rfl ?_
      refine WL.bin rfl rfl rfl rfl (int_add (c := ((i + 1 : Nat) : Int)) (by rw [IntKind.wrap_i64]; omega) _ _ _) ?_
      first | refine WL.assign rfl rfl rfl ?_
      refine WL.done ?_
      exact EW.again (E := fun i => fuE most i k p) (R := FuR w p r most) (m := fun i => most - i) (x := i) (i + 1) [0, 1, 5, 7] rfl ⟨_, _, fu2⟩ (by show most - (i + 1) < most - i; omega)
  · refine EW.exit ?_
    refine px_then ?_
    refine px_then ?_
    refine px_block ?_
    refine EW.on ?_
    refine EW.seq ?_
    have him : i = most := by omega
    refine EW.region ?_
    first | refine WL.move rfl rfl rfl ?_
    refine WL.call [.pointer (some ⟨p, 0, none⟩), .int .i64 1, .int .i64 2, .slice none 0 0] enter9 rfl rfl rfl (full_no fu him ⟨by decide, by decide⟩ ⟨by decide, by decide⟩ (Has.nil _) (by simp)) ?_
    rintro x3 w3 ⟨rfl, l3⟩
    refine ⟨_, rfl, ?_⟩
    replace fu := fu.on l3
    first | refine WL.move rfl rfl rfl ?_
    first | refine WL.extract rfl rfl rfl (ext_2 _ _ _).1 ?_
    first | refine WL.extract rfl rfl rfl (ext_2 _ _ _).2 ?_
    first | refine WL.assign rfl rfl rfl ?_
    first | refine WL.assign rfl rfl rfl ?_
    refine WL.done ?_
    refine EW.on ?_
    refine EW.seq ?_
    refine EW.seq ?_
    refine EW.region ?_
    first | refine WL.move rfl rfl rfl ?_
    refine WL.bin rfl rfl rfl rfl (int_ne_f rfl _ _ _) ?_
    first | refine WL.move rfl rfl rfl ?_
    first | refine WL.move rfl rfl rfl ?_ | refine WL.skip _ rfl rfl rfl ?_
    refine WL.call [.pointer (some ⟨p, 0, none⟩)] enter10 rfl rfl rfl (next_any fu.nt) ?_
    rintro x4 w4 ⟨rfl, hw4⟩
    refine ⟨_, rfl, ?_⟩
    rw [hw4]
    first | refine WL.move rfl rfl rfl ?_ | refine WL.skip _ rfl rfl rfl ?_
    refine WL.bin rfl rfl rfl rfl (int_ne_f (by rw [him]) _ _ _) ?_
    first | refine WL.pick rfl rfl rfl rfl ?_
    first | refine WL.move rfl rfl rfl ?_
    first | refine WL.move rfl rfl rfl ?_ | refine WL.skip _ rfl rfl rfl ?_
    refine WL.call [.pointer (some ⟨p, 0, none⟩)] enter11 rfl rfl rfl (flights_any fu.nt (by have := fu.len; omega)) ?_
    rintro x5 w5 ⟨v5, l5, rfl, d5, fo5, _, _, _, be5⟩
    refine ⟨_, rfl, ?_⟩
    have hln : (l5.length : Int) = (most : Int) := by
      have h1 := congrArg List.length d5
      rw [List.length_map, dat, List.length_map, fu.len] at h1
      omega
    replace fu := fu.on be5
    refine WL.len rfl rfl rfl (fo5.fs.len _ _) ?_
    first | refine WL.move rfl rfl rfl ?_ | refine WL.skip _ rfl rfl rfl ?_
    refine WL.bin rfl rfl rfl rfl (int_ne_f hln _ _ _) ?_
    first | refine WL.pick rfl rfl rfl rfl ?_
    refine WL.done ?_
    refine EW.on ?_
    refine EW.cond_f rfl ?_
    refine EW.skip ?_
    refine EW.on ?_
    refine EW.seq ?_
    refine EW.seq ?_
    refine EW.region ?_
    first | refine WL.move rfl rfl rfl ?_
    refine WL.bin rfl rfl rfl rfl (int_eq_d _ _ _ _ _) ?_
    refine WL.done ?_
    refine EW.on ?_
    refine EW.cond_d rfl (fun h93 => ?_) (fun h93 => ?_)
    · refine EW.seq ?_
      refine EW.region ?_
      first | refine WL.assign rfl rfl rfl ?_
      refine WL.done ?_
      refine EW.on ?_
      refine EW.ret ?_
      refine pr_then ?_
      exact EW.returns Try.results3 rfl ⟨rfl, fu.be⟩
    · refine EW.skip ?_
      refine EW.on ?_
      refine EW.seq ?_
      have hmp : 0 < most := by omega
      have hkm : foldN k % most < i := by rw [him]; exact Nat.mod_lt _ hmp
      have hmo2 : Int.tmod (foldN k : Int) (most : Int) = ((foldN k % most : Nat) : Int) := by
        rw [Int.tmod_eq_emod_of_nonneg (by omega), Int.natCast_emod]
      refine EW.region ?_
      first | refine WL.move rfl rfl rfl ?_
      first | refine WL.move rfl rfl rfl ?_
      refine WL.bin rfl rfl rfl rfl (int_add (c := a2) ha2 _ _ _) ?_
      refine WL.un rfl rfl rfl (neg_i _ hb2 _) ?_
      refine WL.max rfl rfl rfl rfl (by rw [max_i, hmx2]) ?_
      first | refine WL.move rfl rfl rfl ?_
      refine WL.bin rfl rfl rfl rfl (rem_i _ _ (by omega) (c := ((foldN k % most : Nat) : Int)) hmo2 _ _ _) ?_
      first | refine WL.assign rfl rfl rfl ?_
      refine WL.done ?_
      refine EW.on ?_
      refine EW.seq ?_
      refine EW.region ?_
      first | refine WL.move rfl rfl rfl ?_
      first | refine WL.move rfl rfl rfl ?_
      refine WL.call [.pointer (some ⟨p, 0, none⟩), .int .i64 ((foldN k % most : Nat) : Int)] enter8 rfl rfl rfl (full_cno fu him (j := foldN k % most) hkm) ?_
      rintro x6 w6 ⟨rfl, l6⟩
      refine ⟨_, rfl, ?_⟩
      replace fu := fu.on l6
      first | refine WL.move rfl rfl rfl ?_
      first | refine WL.extract rfl rfl rfl (ext_2 _ _ _).1 ?_
      first | refine WL.extract rfl rfl rfl (ext_2 _ _ _).2 ?_
      first | refine WL.assign rfl rfl rfl ?_
      first | refine WL.assign rfl rfl rfl ?_
      refine WL.done ?_
      refine EW.on ?_
      refine EW.seq ?_
      refine EW.region ?_
      first | refine WL.move rfl rfl rfl ?_
      first | refine WL.move rfl rfl rfl ?_
      refine WL.call [.pointer (some ⟨p, 0, none⟩), .int .i64 (most : Int)] enter8 rfl rfl rfl (full_c30 fu him) ?_
      rintro x7 w7 ⟨rfl, l7⟩
      refine ⟨_, rfl, ?_⟩
      replace fu := fu.on l7
      first | refine WL.move rfl rfl rfl ?_
      first | refine WL.extract rfl rfl rfl (ext_2 _ _ _).1 ?_
      first | refine WL.extract rfl rfl rfl (ext_2 _ _ _).2 ?_
      first | refine WL.assign rfl rfl rfl ?_
      first | refine WL.assign rfl rfl rfl ?_
      refine WL.done ?_
      refine EW.on ?_
      refine EW.seq ?_
      refine EW.region ?_
      first | refine WL.move rfl rfl rfl ?_
      first | refine WL.move rfl rfl rfl ?_
      obtain ⟨xk, hxk⟩ := fu.lk hkm
      refine WL.call [.pointer (some ⟨p, 0, none⟩), .int .i64 ((foldN k % most : Nat) : Int)] enter12 rfl rfl rfl (drop_any fu.nt _) ?_
      rintro x8 w8 ⟨rfl, nt8, f8⟩
      refine ⟨_, rfl, ?_⟩
      rw [hxk]
      have hdl := del_len fu.nt.mp.nd hxk
      rw [fu.len] at hdl
      first | refine WL.assign rfl rfl rfl ?_
      refine WL.done ?_
      refine EW.on ?_
      refine EW.seq ?_
      refine EW.region ?_
      first | refine WL.move rfl rfl rfl ?_
      refine WL.call [.pointer (some ⟨p, 0, none⟩), .int .i64 2, .int .i64 1, .slice none 0 0] enter9 rfl rfl rfl (send_any nt8 2 1 _ [] (Has.nil _) (by simp) (by omega)) ?_
      rintro x9 w9 (⟨g, _⟩ | ⟨_, g, _⟩ | ⟨_, g, v9, rfl, nt9, _, f9⟩)
      · exact absurd (show isN 2 2 ∧ isN 2 1 from ⟨⟨by decide, by decide⟩, ⟨by decide, by decide⟩⟩) g
      · omega
      refine ⟨_, rfl, ?_⟩
      first | refine WL.move rfl rfl rfl ?_
      first | refine WL.extract rfl rfl rfl (ext_2 _ _ _).1 ?_
      first | refine WL.extract rfl rfl rfl (ext_2 _ _ _).2 ?_
      first | refine WL.assign rfl rfl rfl ?_
      first | refine WL.assign rfl rfl rfl ?_
      refine WL.done ?_
      refine EW.on ?_
      refine EW.seq ?_
      refine EW.region ?_
      first | refine WL.move rfl rfl rfl ?_
      refine WL.call [.pointer (some ⟨p, 0, none⟩), .int .i64 2, .int .i64 1, .slice none 0 0] enter9 rfl rfl rfl (send_any nt9 2 1 _ [] (Has.nil _) (by simp) (by omega)) ?_
      rintro x10 w10 (⟨g, _⟩ | ⟨_, g, rfl, b10⟩ | ⟨_, g, _⟩)
      · exact absurd (show isN 2 2 ∧ isN 2 1 from ⟨⟨by decide, by decide⟩, ⟨by decide, by decide⟩⟩) g
      rotate_left
      · rw [List.length_append] at g
        simp only [List.length_cons, List.length_nil] at g
        omega
      refine ⟨_, rfl, ?_⟩
      first | refine WL.move rfl rfl rfl ?_
      first | refine WL.extract rfl rfl rfl (ext_2 _ _ _).1 ?_
      first | refine WL.extract rfl rfl rfl (ext_2 _ _ _).2 ?_
      first | refine WL.assign rfl rfl rfl ?_
      first | refine WL.assign rfl rfl rfl ?_
      refine WL.done ?_
      refine EW.on ?_
      refine EW.seq ?_
      have fin : Below w.heap.size w w10 := by
        have q1 := fu.hp
        have q2 := fu.hr
        have q3 := fu.be.size
        have q4 := f8.size
        have q5 := f9.size
        exact fu.be.trans ((f8.below (fun k hk e => by omega) q3).trans ((f9.below (fun k hk e => by omega) (by omega)).trans (b10.mono (by omega))))
      refine EW.region ?_
      first | refine WL.move rfl rfl rfl ?_
      refine WL.bin rfl rfl rfl rfl (int_eq_t rfl _ _ _) ?_
      first | refine WL.move rfl rfl rfl ?_
      first | refine WL.move rfl rfl rfl ?_ | refine WL.skip _ rfl rfl rfl ?_
      refine WL.bin rfl rfl rfl rfl (int_eq_t rfl _ _ _) ?_
      first | refine WL.pick rfl rfl rfl rfl ?_
      first | refine WL.move rfl rfl rfl ?_
      first | refine WL.move rfl rfl rfl ?_ | refine WL.skip _ rfl rfl rfl ?_
      refine WL.bin rfl rfl rfl rfl (int_eq_t rfl _ _ _) ?_
      first | refine WL.pick rfl rfl rfl rfl ?_
      first | refine WL.move rfl rfl rfl ?_
      first | refine WL.move rfl rfl rfl ?_ | refine WL.skip _ rfl rfl rfl ?_
      refine WL.bin rfl rfl rfl rfl (int_eq_t rfl _ _ _) ?_
      first | refine WL.pick rfl rfl rfl rfl ?_
      first | refine WL.move rfl rfl rfl ?_
      first | refine WL.move rfl rfl rfl ?_ | refine WL.skip _ rfl rfl rfl ?_
      first | refine WL.move rfl rfl rfl ?_ | refine WL.skip _ rfl rfl rfl ?_
      refine WL.bin rfl rfl rfl rfl (int_eq_t (by rw [him]) _ _ _) ?_
      first | refine WL.pick rfl rfl rfl rfl ?_
      first | refine WL.move rfl rfl rfl ?_
      first | refine WL.move rfl rfl rfl ?_ | refine WL.skip _ rfl rfl rfl ?_
      refine WL.bin rfl rfl rfl rfl (int_eq_t rfl _ _ _) ?_
      first | refine WL.pick rfl rfl rfl rfl ?_
      first | refine WL.assign rfl rfl rfl ?_
      refine WL.done ?_
      refine EW.on ?_
      refine EW.ret ?_
      exact EW.returns Try.results3 rfl ⟨rfl, fin⟩
end Go.Proofs.Ytplfelfmkgjijaa
