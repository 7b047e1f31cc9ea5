import Derived.Test.YteghbkeaojbdgaaQe
set_option linter.unusedVariables false
set_option linter.unusedSimpArgs false
namespace Go.Proofs.Yteghbkeaojbdgaa
open Go.RowKit

def orB (bs : List UInt8) : UInt8 := bs.foldl (fun a b => a ||| b) 0
theorem orB_snoc (bs : List UInt8) (b : UInt8) : orB (bs ++ [b]) = orB bs ||| b := by unfold orB; rw [List.foldl_append]; rfl
theorem or_zero8 (a b : UInt8) : a ||| b = 0 ↔ a = 0 ∧ b = 0 := by
  constructor
  · intro h
    have h' : (a ||| b).toNat = 0 := by rw [h]; rfl
    rw [UInt8.toNat_or] at h'
    have h1 : a.toNat ≤ a.toNat ||| b.toNat := Nat.left_le_or
    have h2 : b.toNat ≤ a.toNat ||| b.toNat := Nat.right_le_or
    exact ⟨UInt8.toNat_inj.1 (by show a.toNat = 0; omega), UInt8.toNat_inj.1 (by show b.toNat = 0; omega)⟩
  · rintro ⟨rfl, rfl⟩; rfl
theorem fold_or : ∀ (bs : List UInt8) (a : UInt8), bs.foldl (fun a b => a ||| b) a = 0 ↔ a = 0 ∧ ∀ b ∈ bs, b = 0
  | [], a => by simp
  | b :: bs, a => by
    rw [List.foldl_cons, fold_or bs, or_zero8]
    simp [and_assoc]
theorem orB_zero (bs : List UInt8) : orB bs = 0 ↔ ∀ b ∈ bs, b = 0 := by
  have := fold_or bs 0
  simpa [orB] using this
theorem or8 (a b : UInt8) (W : World) (x y : Operand) : (do eqGuard .or 5 x y (byt a) (byt b); binOp .or 5 (byt a) (byt b) : Sem Value).run Try.prog W = .ok (byt (a ||| b)) W := by
  have e := or_u8 a b
  unfold byt at *
  go_simp
theorem eq8 (a : UInt8) (W : World) (x y : Operand) : (do eqGuard .eql 5 x y (byt a) (.int .u8 0); binOp .eql 5 (byt a) (.int .u8 0) : Sem Value).run Try.prog W = .ok (.bool (decide (a = 0))) W := by
  have e : decide ((a.toNat : Int) = 0) = decide (a = 0) := by
    apply decide_eq_decide.2
    constructor
    · intro h; exact UInt8.toNat_inj.1 (by show a.toNat = 0; omega)
    · rintro rfl; rfl
  unfold byt
  rw [← e]
  go_simp
  by_cases h : a.toNat = 0 <;> simp [h]
def blE (v : Value) (bs : List UInt8) (t : Nat) : List (Nat × Value) := [(3, byt (orB (bs.take t))), (6, v), (7, .int .i64 (bs.length : Int)), (8, .int .i64 (t : Int))]
set_option maxRecDepth 100000 in
set_option maxHeartbeats 1000000 in
theorem blank_any (v : Value) (bs : List UInt8) (w : World) (hb : Has w v bs) (hl : bs.length ≤ 100000) : Calls Try.prog 30 #[v] w fun e w' => e = .returned (.bool (decide (orB bs = 0))) ∧ w' = w := by
  refine calls_of_args [v] Try.func30 rfl 18 Try.ntmps30 (by show 1 ≤ 18; decide) ?_
  refine EW.seq ?_
  refine EW.region ?_
  first | refine WL.assign rfl rfl rfl ?_
  refine WL.done ?_
  refine EW.on ?_
  refine EW.seq ?_
  refine EW.region ?_
  first | refine WL.assign rfl rfl rfl ?_
  refine WL.done ?_
  refine EW.on ?_
  refine EW.seq ?_
  refine EW.seq ?_
  refine EW.region ?_
  first | refine WL.move rfl rfl rfl ?_
  refine WL.len rfl rfl rfl (hb.len _ _) ?_
  first | refine WL.move rfl rfl rfl ?_
  refine WL.done ?_
  refine EW.on ?_
  refine EW.block ?_
  refine EW.loop (blE v bs) (NuR w bs.length) (fun t => bs.length - t) 0 [3, 6, 7, 8] rfl ⟨rfl, Nat.zero_le _⟩ ?_
  rintro t wi ⟨hwi, htl⟩
  subst hwi
  show EW _ _ _ _ [(3, byt (orB (bs.take t))), (6, v), (7, .int .i64 (bs.length : Int)), (8, .int .i64 (t : Int))] _
  refine EW.seq ?_
  refine EW.region ?_
  first | refine WL.bin rfl rfl rfl rfl (int_lt_t ‹_› _ _ _) ?_ | refine WL.bin rfl rfl rfl rfl (int_lt_f ‹_› _ _ _) ?_ | refine WL.bin rfl rfl rfl rfl (int_lt_d _ _ _ _ _) ?_
  refine WL.done ?_
  refine EW.on ?_
  refine EW.seq ?_
  refine EW.cond_d rfl (fun h9 => ?_) (fun h9 => ?_)
  · refine EW.skip ?_
    refine EW.on ?_
    refine EW.seq ?_
    refine EW.block ?_
    refine EW.seq ?_
    have ht : t < bs.length := by omega
    have tn : IntKind.i64.wrap ((t : Int) + 1) = ((t + 1 : Nat) : Int) := by rw [IntKind.wrap_i64]; omega
    obtain ⟨u, hu⟩ : ∃ u, bs[t]? = some u := ⟨_, List.getElem?_eq_getElem ht⟩
    obtain ⟨ad, iu, lu⟩ := hb.item hu
    have hst : orB (bs.take (t + 1)) = orB (bs.take t) ||| u := by rw [List.take_add_one, hu]; exact orB_snoc _ _
    refine EW.region ?_
    refine WL.index rfl rfl rfl rfl (iu _) ?_
    refine WL.load rfl rfl rfl lu ?_
    first | refine WL.assign rfl rfl rfl ?_
    refine WL.done ?_
    refine EW.on ?_
    refine EW.region ?_
    first | refine WL.move rfl rfl rfl ?_
    first | refine WL.move rfl rfl rfl ?_
    refine WL.bin rfl rfl rfl rfl (or8 _ u _ _ _) ?_
    first | refine WL.assign rfl rfl rfl ?_
    refine WL.done ?_
    refine pn_block ?_
    refine EW.on ?_
    refine EW.region ?_
    first | refine WL.bin rfl rfl rfl rfl (int_add ‹_› _ _ _) ?_
    first | refine WL.move rfl rfl rfl ?_
    refine WL.done ?_
    refine EW.again (E := blE v bs) (R := NuR wi bs.length) (m := fun t => bs.length - t) (x := t) (t + 1) [3, 6, 7, 8] (by rw [blE, hst]; rfl) ⟨rfl, by omega⟩ (by show bs.length - (t + 1) < bs.length - t; omega)
  · refine EW.exit ?_
    refine px_then ?_
    refine px_then ?_
    refine px_block ?_
    refine EW.on ?_
    refine EW.seq ?_
    have hte : bs.take t = bs := List.take_of_length_le (by omega)
    rw [hte]
    refine EW.region ?_
    first | refine WL.move rfl rfl rfl ?_
    refine WL.bin rfl rfl rfl rfl (eq8 _ _ _ _) ?_
    first | refine WL.assign rfl rfl rfl ?_
    refine WL.done ?_
    refine EW.on ?_
    refine EW.ret ?_
    exact EW.returns Try.results30 rfl ⟨rfl, rfl⟩
theorem bld78 (a : Value) (ha : ∃ ao n c, a = .slice ao n c) (W : World) : (Instr.build 78 [(0, a)].toArray).run Try.prog W = .ok (.agg [a, .int .i64 0, .int .i64 0].toArray) W := by
  obtain ⟨_, _, _, rfl⟩ := ha
  kernel_rfl
theorem box78 (a : Value) (ha : ∃ ao n c, a = .slice ao n c) (w : World) : ∃ w1 q, (Instr.box 78 (.agg [a, .int .i64 0, .int .i64 0].toArray)).run Try.prog w = .ok (.pointer (some ⟨q, 0, none⟩)) w1 ∧ Blk w1 q [a, .int .i64 0, .int .i64 0] 78 ∧ Below w.heap.size w w1 ∧ q = w.heap.size := by
  obtain ⟨_, _, _, rfl⟩ := ha
  exact ⟨_, _, run_boxR 78 _ w _ rfl, Blk.new _ _ _, below_new _ _, rfl⟩
set_option maxRecDepth 100000 in
set_option maxHeartbeats 1000000 in
theorem newR_any (v : Value) (c : List UInt8) (w : World) (hb : Has w v c) (hl : c.length ≤ 100000) : Calls Try.prog 28 #[v] w fun e w' => ∃ u q, e = .returned (.pointer (some ⟨q, 0, none⟩)) ∧ Rd w' q u c 0 0 ∧ w.heap.size ≤ q ∧ Below w.heap.size w w' := by
  refine calls_of_args [v] Try.func28 rfl 7 Try.ntmps28 (by show 1 ≤ 7; decide) ?_
  refine EW.seq ?_
  refine EW.region ?_
  first | refine WL.assign rfl rfl rfl ?_
  refine WL.done ?_
  refine EW.on ?_
  refine EW.seq ?_
  refine EW.region ?_
  first | refine WL.move rfl rfl rfl ?_
  refine WL.call [v] enter43 rfl rfl rfl (clone_any v c _ hb (by omega)) ?_
  rintro _ w1 ⟨u, rfl, g1, g2, g3⟩
  obtain ⟨w2, q, r2, b2, e2, hq⟩ := box78 u g1.sl w1
  refine ⟨_, rfl, ?_⟩
  refine WL.buildN [(0, u)] rfl rfl rfl (bld78 _ g1.sl _) ?_
  refine WL.box rfl rfl rfl r2 ?_
  first | refine WL.assign rfl rfl rfl ?_
  refine WL.done ?_
  refine EW.on ?_
  refine EW.ret ?_
  exact EW.returns Try.results28 rfl ⟨u, q, rfl, ⟨b2, g1.below e2, Nat.zero_le _⟩, by have := g3.size; omega, g3.trans (e2.mono g3.size)⟩
end Go.Proofs.Yteghbkeaojbdgaa
