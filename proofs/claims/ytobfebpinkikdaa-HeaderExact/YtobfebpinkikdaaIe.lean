import Derived.Test.YtobfebpinkikdaaId
set_option linter.unusedVariables false
set_option linter.unusedSimpArgs false
namespace Go.Proofs.Ytobfebpinkikdaa
open Go.RowKit

def joE (qp n c : Nat) (x : Nat × Value) : List (Nat × Value) := [(0, .slice (some ⟨qp, 0, none⟩) n c), (3, x.2), (4, .int .i64 (x.1 : Int))]
def JoI (w : World) (ps : List (Value × List UInt8)) (x : Nat × Value) (W : World) : Prop := x.1 ≤ ps.length ∧ Ob W w.heap.size x.2 (flatB (ps.take x.1)) ∧ Below w.heap.size w W
set_option maxRecDepth 100000 in
set_option maxHeartbeats 1000000 in
theorem joined_any (qp c : Nat) (ps : List (Value × List UInt8)) (w : World) (hP : Bp w qp ps) (hn : ps.length ≤ 1000) (hl : (flatB ps).length ≤ 1000000) : Calls Try.prog 55 #[.slice (some ⟨qp, 0, none⟩) ps.length c] w fun e w' => ∃ v, e = .returned v ∧ Ob w' w.heap.size v (flatB ps) ∧ Below w.heap.size w w' := by
  refine calls_of_args [.slice (some ⟨qp, 0, none⟩) ps.length c] Try.func55 rfl 18 Try.ntmps55 (by show 1 ≤ 18; decide) ?_
  refine EW.seq ?_
  refine EW.region ?_
  first | refine WL.assign rfl rfl rfl ?_
  refine WL.done ?_
  refine EW.on ?_
  refine EW.seq ?_
  refine EW.region ?_
  first | refine WL.assign rfl rfl rfl ?_
  refine WL.done ?_
  refine EW.on ?_
  refine EW.seq ?_
  refine EW.seq ?_
  refine EW.region ?_
  first | refine WL.assign rfl rfl rfl ?_
  refine WL.done ?_
  refine EW.on ?_
  refine EW.block ?_
  refine EW.loop (joE qp ps.length c) (JoI w ps) (fun x => ps.length - x.1) (0, .slice none 0 0) [0, 3, 4] rfl ⟨Nat.zero_le _, Ob.nil _ _, Below.refl _ _⟩ ?_
  rintro ⟨t, vi⟩ wi ⟨htl, ob, be⟩
  dsimp only at htl ob
  show EW _ _ _ _ [(0, .slice (some ⟨qp, 0, none⟩) ps.length c), (3, vi), (4, .int .i64 (t : Int))] _
  refine EW.seq ?_
  refine EW.seq ?_
  refine EW.region ?_
  first | refine WL.move rfl rfl rfl ?_
  first | refine WL.move rfl rfl rfl ?_
  refine WL.len rfl rfl rfl (len55 _ _ _ _ _) ?_
  refine WL.bin rfl rfl rfl rfl (int_lt_d _ _ _ _ _) ?_
  refine WL.done ?_
  refine EW.on ?_
  refine EW.cond_d rfl (fun h8 => ?_) (fun h8 => ?_)
  · refine EW.skip ?_
    refine EW.on ?_
    refine EW.seq ?_
    refine EW.block ?_
    have ht : t < ps.length := by omega
    obtain ⟨p, hp⟩ : ∃ p, ps[t]? = some p := ⟨_, List.getElem?_eq_getElem ht⟩
    have hpm : p ∈ ps := List.mem_of_getElem? hp
    have hfl := flatB_le ps t p hp
    refine EW.region ?_
    first | refine WL.move rfl rfl rfl ?_
    first | refine WL.move rfl rfl rfl ?_
    first | refine WL.move rfl rfl rfl ?_
    refine WL.index rfl rfl rfl rfl (idx55 _ _ _ _ ht _) ?_
    refine WL.load rfl rfl rfl (ldS (hP.bl.on be) (by rw [List.getElem?_map, hp]; rfl)) ?_
    obtain ⟨v', w5, a1, a2, a3, a4⟩ := ob.push be.size p.1 p.2 ((hP.hs p hpm).below be) (by omega) 31
    refine WL.app rfl rfl rfl rfl a1 ?_
    first | refine WL.assign rfl rfl rfl ?_
    refine WL.done ?_
    refine pn_block ?_
    refine EW.on ?_
    refine EW.region ?_
    first | refine WL.move rfl rfl rfl ?_
    refine WL.bin rfl rfl rfl rfl (int_add (c := ((t + 1 : Nat) : Int)) (by rw [IntKind.wrap_i64]; omega) _ _ _) ?_
    first | refine WL.assign rfl rfl rfl ?_
    refine WL.done ?_
    refine EW.again (E := joE qp ps.length c) (R := JoI w ps) (m := fun x => ps.length - x.1) (x := (t, vi)) (t + 1, v') [0, 3, 4] rfl ⟨by show t + 1 ≤ _; omega, ?_, be.trans (a3.below (fun k hk e => by have := ob.base k e; omega) be.size)⟩ (by show ps.length - (t + 1) < ps.length - t; omega)
    rw [flatB_take ps t p hp]
    exact a2
  · refine EW.exit ?_
    refine px_then ?_
    refine px_then ?_
    refine px_block ?_
    refine EW.on ?_
    refine EW.seq ?_
    refine EW.region ?_
    first | refine WL.move rfl rfl rfl ?_
    first | refine WL.assign rfl rfl rfl ?_
    refine WL.done ?_
    refine EW.on ?_
    refine EW.ret ?_
    exact EW.returns Try.results55 rfl ⟨vi, rfl, by rw [List.take_of_length_le (by omega)] at ob; exact ob, be⟩
/-- The first m bytes of a part. -/
def midN (X : List UInt8) (i N m : Nat) : List UInt8 := cutB X i m ++ List.replicate (N - m) 0
theorem midN_length (X : List UInt8) (i N m : Nat) (hX : i + N ≤ X.length) (hm : m ≤ N) : (midN X i N m).length = N := by
  unfold midN
  rw [List.length_append, cutB_len (by omega), List.length_replicate]; omega
theorem midN_succ (X : List UInt8) (i N m : Nat) (hX : i + N ≤ X.length) (hm : m < N) (u : UInt8) (hu : X[i + m]? = some u) : (midN X i N m).set m u = midN X i N (m + 1) := by
  have e : cutB X (i + m) 1 = [u] := by
    have h1 := (List.getElem?_eq_some_iff.1 hu)
    unfold cutB
    rw [List.drop_eq_getElem_cons h1.1, h1.2]
    rfl
  unfold midN
  rw [← cutB_add X i m 1, e, List.set_append_right _ _ (by rw [cutB_len (by omega)]; exact Nat.le_refl _), cutB_len (by omega), Nat.sub_self, show N - m = (N - (m + 1)) + 1 by omega, List.replicate_succ, List.set_cons_zero]
  simp
theorem midN_all (X : List UInt8) (i N : Nat) : midN X i N N = cutB X i N := by simp [midN]
theorem midN_zero (X : List UInt8) (i N : Nat) : midN X i N 0 = List.replicate N 0 := by simp [midN, cutB]
def kyE (vb : Value) (i p q t : Nat) : List (Nat × Value) := [(0, vb), (1, .int .i64 (i : Int)), (4, .pointer (some ⟨p, 0, none⟩)), (5, .pointer (some ⟨q, 0, none⟩)), (6, .int .i64 (t : Int))]
def KyI (w : World) (X : List UInt8) (i p q t : Nat) (W : World) : Prop := t ≤ 32 ∧ Blk W q ((midN X i 32 t).map byt) 23 ∧ Blk W p (z32.map byt) 23 ∧ Below w.heap.size w W
set_option maxRecDepth 100000 in
set_option maxHeartbeats 1000000 in
theorem keyr_any (vb : Value) (X : List UInt8) (i : Nat) (w : World) (hb : Has w vb X) (hX : i + 32 ≤ X.length) (hXl : X.length ≤ 140737488355328) : Calls Try.prog 59 #[vb, .int .i64 (i : Int)] w fun e w' => e = .returned (kv (cutB X i 32)) ∧ Below w.heap.size w w' := by
  obtain ⟨w1, p, r1, b1, l1, hp⟩ := new_any (t := 23) (cs := z32.map byt) zv23 w
  obtain ⟨w2, q, r2, b2, l2, hq⟩ := new_any (t := 23) (cs := z32.map byt) zv23 w1
  have hne : p ≠ q := by have := b1.lt; omega
  refine calls_of_args [vb, .int .i64 (i : Int)] Try.func59 rfl 20 Try.ntmps59 (by show 2 ≤ 20; decide) ?_
  refine EW.seq ?_
  refine EW.region ?_
  refine WL.new rfl rfl r1 ?_
  refine WL.done ?_
  refine EW.on ?_
  refine EW.seq ?_
  refine EW.region ?_
  refine WL.new rfl rfl r2 ?_
  refine WL.done ?_
  refine EW.on ?_
  refine EW.seq ?_
  refine EW.seq ?_
  refine EW.region ?_
  first | refine WL.assign rfl rfl rfl ?_
  refine WL.done ?_
  refine EW.on ?_
  refine EW.block ?_
  refine EW.loop (kyE vb i p q) (KyI w X i p q) (fun t => 32 - t) 0 [0, 1, 4, 5, 6] rfl ⟨by decide, by rw [midN_zero]; exact b2, b1.on l2, l1.trans (l2.mono l1.size)⟩ ?_
  rintro t wi ⟨htl, bq, bp, be⟩
  show EW _ _ _ _ [(0, vb), (1, .int .i64 (i : Int)), (4, .pointer (some ⟨p, 0, none⟩)), (5, .pointer (some ⟨q, 0, none⟩)), (6, .int .i64 (t : Int))] _
  refine EW.seq ?_
  refine EW.seq ?_
  refine EW.region ?_
  first | refine WL.move rfl rfl rfl ?_
  refine WL.bin rfl rfl rfl rfl (int_lt_d _ _ _ _ _) ?_
  refine WL.done ?_
  refine EW.on ?_
  refine EW.cond_d rfl (fun h8 => ?_) (fun h8 => ?_)
  · refine EW.skip ?_
    refine EW.on ?_
    refine EW.seq ?_
    refine EW.block ?_
    have hlt : t < 32 := by omega
    obtain ⟨u, hu⟩ := ofset (l := X) (j := i + t) (by omega)
    obtain ⟨ad, ix, ld⟩ := (hb.below be).item hu
    refine EW.region ?_
    first | refine WL.move rfl rfl rfl ?_
    first | refine WL.move rfl rfl rfl ?_
    first | refine WL.move rfl rfl rfl ?_
    first | refine WL.move rfl rfl rfl ?_
    refine WL.bin rfl rfl rfl rfl (int_add (c := ((i + t : Nat) : Int)) (by rw [IntKind.wrap_i64]; omega) _ _ _) ?_
    refine WL.index rfl rfl rfl rfl (ix _) ?_
    refine WL.load rfl rfl rfl ld ?_
    refine WL.index rfl rfl rfl rfl (idxK q 0 t hlt _) ?_
    obtain ⟨w5, s5, b5, f5⟩ := stCell5 (o := 0 + t) bq (by rw [List.length_map, midN_length X i 32 t hX htl]; omega) u
    refine WL.store rfl rfl rfl s5 ?_
    refine WL.done ?_
    refine pn_block ?_
    refine EW.on ?_
    refine EW.region ?_
    first | refine WL.move rfl rfl rfl ?_
    refine WL.bin rfl rfl rfl rfl (int_add (c := ((t + 1 : Nat) : Int)) (by rw [IntKind.wrap_i64]; omega) _ _ _) ?_
    first | refine WL.assign rfl rfl rfl ?_
    refine WL.done ?_
    refine EW.again (E := kyE vb i p q) (R := KyI w X i p q) (m := fun t => 32 - t) (x := t) (t + 1) [0, 1, 4, 5, 6] rfl ⟨by omega, ?_, bp.fx f5 (fun e => hne e), be.trans (f5.low (by have := l1.size; omega) be.size)⟩ (by show 32 - (t + 1) < 32 - t; omega)
    rw [← midN_succ X i 32 t hX hlt u hu, List.map_set]
    rw [Nat.zero_add] at b5
    exact b5
  · refine EW.exit ?_
    refine px_then ?_
    refine px_then ?_
    refine px_block ?_
    refine EW.on ?_
    refine EW.seq ?_
    obtain rfl : t = 32 := by omega
    refine EW.region ?_
    refine WL.load rfl rfl rfl (bq.ldA (a := []) (b := []) (m := (midN X i 32 32).map byt) u23 rfl (i23 (midN_length X i 32 32 hX (by omega))) (by simp) rfl) ?_
    obtain ⟨w6, s6, b6, f6⟩ := bp.stA (o := 0) (a := []) (b := []) (m := z32.map byt) (ty := 23) (vs := (midN X i 32 32).map byt) (i23 (midN_length X i 32 32 hX (by omega))) (byts_one' _) (by simp) rfl (by rw [List.length_map, List.length_map, midN_length X i 32 32 hX (by omega)]; rfl)
    refine WL.store rfl rfl rfl s6 ?_
    refine WL.done ?_
    refine EW.on ?_
    refine EW.ret ?_
    refine EW.returnsC Try.results59 rfl b6 u23 rfl (by simpa using i23 (midN_length X i 32 32 hX (by omega))) ⟨by rw [midN_all]; simp [kv], be.trans (f6.low (by omega) be.size)⟩
theorem ldHlOn {w : World} {q : Nat} {h : Hl} {t : TypeId} (hb : Blk w q h.cs t) (k : h.ok) : (Instr.loadAt 23 (.pointer (some ⟨q, 32, none⟩))).run Try.prog w = .ok (kv h.once) w := hb.ldA (a := h.id.map byt) (m := h.once.map byt) u23 rfl (i23 k.o) rfl (by simp [k.i])
theorem suit2 (h : Hl) : suitD 2 h ↔ h.id = z32 ∧ h.once = z32 ∧ h.pre = 0 := by
  constructor
  · intro hs
    rw [hs.1 rfl]
    exact ⟨rfl, rfl, rfl⟩
  · rintro ⟨a, b, c⟩
    refine ⟨fun _ => ?_, fun e => absurd rfl e⟩
    cases h
    simp only at a b c
    rw [a, b, c]
    rfl
set_option maxRecDepth 100000 in
set_option maxHeartbeats 1000000 in
theorem hellos_1 (k : Int) (h : Hl) (kh : h.ok) (w : World) (hk : k = 2) (di : decide (h.id = z32) = false) : Calls Try.prog 57 #[.int .i64 k, h.v] w fun e w' => e = .returned (.bool (decide (suitD k h))) ∧ Below w.heap.size w w' := by
  obtain ⟨w1, q1, r1, bx1, sb1, hq1⟩ := box_any 26 h.cs w
  refine calls_of_args [.int .i64 k, h.v] Try.func57 rfl 29 Try.ntmps57 (by show 2 ≤ 29; decide) ?_
  refine EW.seq ?_
  refine EW.region ?_
  refine WL.box rfl rfl rfl r1 ?_
  first | refine WL.assign rfl rfl rfl ?_
  refine WL.done ?_
  refine EW.on ?_
  refine EW.seq ?_
  refine EW.seq ?_
  refine EW.region ?_
  first | refine WL.move rfl rfl rfl ?_
  first | refine WL.bin rfl rfl rfl rfl (int_eq_t rfl _ _ _) ?_ | refine WL.bin rfl rfl rfl rfl (int_eq_t ‹_› _ _ _) ?_ | refine WL.bin rfl rfl rfl rfl (int_eq_f ‹_› _ _ _) ?_ | refine WL.bin rfl rfl rfl rfl (int_eq_d _ _ _ _ _) ?_
  refine WL.done ?_
  refine EW.on ?_
  refine EW.cond_t rfl ?_
  refine EW.seq ?_
  refine EW.region ?_
  first | refine WL.field rfl rfl rfl (f26_0 q1 0 _) ?_ | refine WL.skip _ rfl rfl rfl ?_
  first | refine WL.load rfl rfl rfl (ldHlId bx1 kh) ?_ | refine WL.skip _ rfl rfl rfl ?_
  refine WL.call [kv h.id] enter62 rfl rfl rfl (zero_any h.id kh.i _) ?_
  rintro _ w2 ⟨rfl, be2⟩
  rw [di]
  have bx2 := bx1.on be2
  have sb2 := sb1.trans (be2.mono sb1.size)
  refine ⟨_, rfl, ?_⟩
  first | refine WL.move rfl rfl rfl ?_
  first | refine WL.field rfl rfl rfl (f26_1 q1 0 _) ?_ | refine WL.skip _ rfl rfl rfl ?_
  first | refine WL.load rfl rfl rfl (ldHlOn bx2 kh) ?_ | refine WL.skip _ rfl rfl rfl ?_
  refine WL.skip _ rfl rfl rfl ?_
  first | refine WL.pick rfl rfl rfl rfl ?_
  first | refine WL.move rfl rfl rfl ?_
  first | refine WL.field rfl rfl rfl (f26_2 q1 0 _) ?_ | refine WL.skip _ rfl rfl rfl ?_
  first | refine WL.load rfl rfl rfl (ldHlPre bx2 kh) ?_ | refine WL.skip _ rfl rfl rfl ?_
  first | refine WL.bin rfl rfl rfl rfl (eqlU _ 0 _ _ _) ?_ | refine WL.skip _ rfl rfl rfl ?_
  first | refine WL.pick rfl rfl rfl rfl ?_
  first | refine WL.assign rfl rfl rfl ?_
  refine WL.done ?_
  refine EW.on ?_
  refine EW.ret ?_
  refine pr_then ?_
  exact EW.returns Try.results57 rfl ⟨by rw [hk, decide_eq_false (fun hs => of_decide_eq_false di ((suit2 h).1 hs).1)], sb2⟩
set_option maxRecDepth 100000 in
set_option maxHeartbeats 1000000 in
theorem hellos_2 (k : Int) (h : Hl) (kh : h.ok) (w : World) (hk : k = 2) (di : decide (h.id = z32) = true) (do_ : decide (h.once = z32) = false) : Calls Try.prog 57 #[.int .i64 k, h.v] w fun e w' => e = .returned (.bool (decide (suitD k h))) ∧ Below w.heap.size w w' := by
  obtain ⟨w1, q1, r1, bx1, sb1, hq1⟩ := box_any 26 h.cs w
  refine calls_of_args [.int .i64 k, h.v] Try.func57 rfl 29 Try.ntmps57 (by show 2 ≤ 29; decide) ?_
  refine EW.seq ?_
  refine EW.region ?_
  refine WL.box rfl rfl rfl r1 ?_
  first | refine WL.assign rfl rfl rfl ?_
  refine WL.done ?_
  refine EW.on ?_
  refine EW.seq ?_
  refine EW.seq ?_
  refine EW.region ?_
  first | refine WL.move rfl rfl rfl ?_
  first | refine WL.bin rfl rfl rfl rfl (int_eq_t rfl _ _ _) ?_ | refine WL.bin rfl rfl rfl rfl (int_eq_t ‹_› _ _ _) ?_ | refine WL.bin rfl rfl rfl rfl (int_eq_f ‹_› _ _ _) ?_ | refine WL.bin rfl rfl rfl rfl (int_eq_d _ _ _ _ _) ?_
  refine WL.done ?_
  refine EW.on ?_
  refine EW.cond_t rfl ?_
  refine EW.seq ?_
  refine EW.region ?_
  first | refine WL.field rfl rfl rfl (f26_0 q1 0 _) ?_ | refine WL.skip _ rfl rfl rfl ?_
  first | refine WL.load rfl rfl rfl (ldHlId bx1 kh) ?_ | refine WL.skip _ rfl rfl rfl ?_
  refine WL.call [kv h.id] enter62 rfl rfl rfl (zero_any h.id kh.i _) ?_
  rintro _ w2 ⟨rfl, be2⟩
  rw [di]
  have bx2 := bx1.on be2
  have sb2 := sb1.trans (be2.mono sb1.size)
  refine ⟨_, rfl, ?_⟩
  first | refine WL.move rfl rfl rfl ?_
  first | refine WL.field rfl rfl rfl (f26_1 q1 0 _) ?_ | refine WL.skip _ rfl rfl rfl ?_
  first | refine WL.load rfl rfl rfl (ldHlOn bx2 kh) ?_ | refine WL.skip _ rfl rfl rfl ?_
  refine WL.call [kv h.once] enter62 rfl rfl rfl (zero_any h.once kh.o _) ?_
  rintro _ w3 ⟨rfl, be3⟩
  rw [do_]
  have bx3 := bx2.on be3
  have sb3 := sb2.trans (be3.mono sb2.size)
  refine ⟨_, rfl, ?_⟩
  first | refine WL.pick rfl rfl rfl rfl ?_
  first | refine WL.move rfl rfl rfl ?_
  first | refine WL.field rfl rfl rfl (f26_2 q1 0 _) ?_ | refine WL.skip _ rfl rfl rfl ?_
  first | refine WL.load rfl rfl rfl (ldHlPre bx3 kh) ?_ | refine WL.skip _ rfl rfl rfl ?_
  first | refine WL.bin rfl rfl rfl rfl (eqlU _ 0 _ _ _) ?_ | refine WL.skip _ rfl rfl rfl ?_
  first | refine WL.pick rfl rfl rfl rfl ?_
  first | refine WL.assign rfl rfl rfl ?_
  refine WL.done ?_
  refine EW.on ?_
  refine EW.ret ?_
  refine pr_then ?_
  exact EW.returns Try.results57 rfl ⟨by rw [hk, decide_eq_false (fun hs => of_decide_eq_false do_ ((suit2 h).1 hs).2.1)], sb3⟩
set_option maxRecDepth 100000 in
set_option maxHeartbeats 1000000 in
theorem hellos_3 (k : Int) (h : Hl) (kh : h.ok) (w : World) (hk : k = 2) (di : decide (h.id = z32) = true) (do_ : decide (h.once = z32) = true) : Calls Try.prog 57 #[.int .i64 k, h.v] w fun e w' => e = .returned (.bool (decide (suitD k h))) ∧ Below w.heap.size w w' := by
  obtain ⟨w1, q1, r1, bx1, sb1, hq1⟩ := box_any 26 h.cs w
  refine calls_of_args [.int .i64 k, h.v] Try.func57 rfl 29 Try.ntmps57 (by show 2 ≤ 29; decide) ?_
  refine EW.seq ?_
  refine EW.region ?_
  refine WL.box rfl rfl rfl r1 ?_
  first | refine WL.assign rfl rfl rfl ?_
  refine WL.done ?_
  refine EW.on ?_
  refine EW.seq ?_
  refine EW.seq ?_
  refine EW.region ?_
  first | refine WL.move rfl rfl rfl ?_
  first | refine WL.bin rfl rfl rfl rfl (int_eq_t rfl _ _ _) ?_ | refine WL.bin rfl rfl rfl rfl (int_eq_t ‹_› _ _ _) ?_ | refine WL.bin rfl rfl rfl rfl (int_eq_f ‹_› _ _ _) ?_ | refine WL.bin rfl rfl rfl rfl (int_eq_d _ _ _ _ _) ?_
  refine WL.done ?_
  refine EW.on ?_
  refine EW.cond_t rfl ?_
  refine EW.seq ?_
  refine EW.region ?_
  first | refine WL.field rfl rfl rfl (f26_0 q1 0 _) ?_ | refine WL.skip _ rfl rfl rfl ?_
  first | refine WL.load rfl rfl rfl (ldHlId bx1 kh) ?_ | refine WL.skip _ rfl rfl rfl ?_
  refine WL.call [kv h.id] enter62 rfl rfl rfl (zero_any h.id kh.i _) ?_
  rintro _ w2 ⟨rfl, be2⟩
  rw [di]
  have bx2 := bx1.on be2
  have sb2 := sb1.trans (be2.mono sb1.size)
  refine ⟨_, rfl, ?_⟩
  first | refine WL.move rfl rfl rfl ?_
  first | refine WL.field rfl rfl rfl (f26_1 q1 0 _) ?_ | refine WL.skip _ rfl rfl rfl ?_
  first | refine WL.load rfl rfl rfl (ldHlOn bx2 kh) ?_ | refine WL.skip _ rfl rfl rfl ?_
  refine WL.call [kv h.once] enter62 rfl rfl rfl (zero_any h.once kh.o _) ?_
  rintro _ w3 ⟨rfl, be3⟩
  rw [do_]
  have bx3 := bx2.on be3
  have sb3 := sb2.trans (be3.mono sb2.size)
  refine ⟨_, rfl, ?_⟩
  first | refine WL.pick rfl rfl rfl rfl ?_
  first | refine WL.move rfl rfl rfl ?_
  first | refine WL.field rfl rfl rfl (f26_2 q1 0 _) ?_ | refine WL.skip _ rfl rfl rfl ?_
  first | refine WL.load rfl rfl rfl (ldHlPre bx3 kh) ?_ | refine WL.skip _ rfl rfl rfl ?_
  first | refine WL.bin rfl rfl rfl rfl (eqlU _ 0 _ _ _) ?_ | refine WL.skip _ rfl rfl rfl ?_
  first | refine WL.pick rfl rfl rfl rfl ?_
  first | refine WL.assign rfl rfl rfl ?_
  refine WL.done ?_
  refine EW.on ?_
  refine EW.ret ?_
  refine pr_then ?_
  exact EW.returns Try.results57 rfl ⟨by rw [hk, show decide (h.pre = 0) = decide (suitD 2 h) from decide_eq_decide.2 ⟨fun e => (suit2 h).2 ⟨of_decide_eq_true di, of_decide_eq_true do_, e⟩, fun e => ((suit2 h).1 e).2.2⟩], sb3⟩
set_option maxRecDepth 100000 in
set_option maxHeartbeats 1000000 in
theorem hellos_4 (k : Int) (h : Hl) (kh : h.ok) (w : World) (hk : ¬ k = 2) (di : decide (h.id = z32) = true) : Calls Try.prog 57 #[.int .i64 k, h.v] w fun e w' => e = .returned (.bool (decide (suitD k h))) ∧ Below w.heap.size w w' := by
  obtain ⟨w1, q1, r1, bx1, sb1, hq1⟩ := box_any 26 h.cs w
  refine calls_of_args [.int .i64 k, h.v] Try.func57 rfl 29 Try.ntmps57 (by show 2 ≤ 29; decide) ?_
  refine EW.seq ?_
  refine EW.region ?_
  refine WL.box rfl rfl rfl r1 ?_
  first | refine WL.assign rfl rfl rfl ?_
  refine WL.done ?_
  refine EW.on ?_
  refine EW.seq ?_
  refine EW.seq ?_
  refine EW.region ?_
  first | refine WL.move rfl rfl rfl ?_
  first | refine WL.bin rfl rfl rfl rfl (int_eq_t rfl _ _ _) ?_ | refine WL.bin rfl rfl rfl rfl (int_eq_t ‹_› _ _ _) ?_ | refine WL.bin rfl rfl rfl rfl (int_eq_f ‹_› _ _ _) ?_ | refine WL.bin rfl rfl rfl rfl (int_eq_d _ _ _ _ _) ?_
  refine WL.done ?_
  refine EW.on ?_
  refine EW.cond_f rfl ?_
  refine EW.skip ?_
  refine EW.on ?_
  refine EW.seq ?_
  refine EW.region ?_
  first | refine WL.field rfl rfl rfl (f26_0 q1 0 _) ?_ | refine WL.skip _ rfl rfl rfl ?_
  first | refine WL.load rfl rfl rfl (ldHlId bx1 kh) ?_ | refine WL.skip _ rfl rfl rfl ?_
  refine WL.call [kv h.id] enter62 rfl rfl rfl (zero_any h.id kh.i _) ?_
  rintro _ w2 ⟨rfl, be2⟩
  rw [di]
  have bx2 := bx1.on be2
  have sb2 := sb1.trans (be2.mono sb1.size)
  refine ⟨_, rfl, ?_⟩
  refine WL.un rfl rfl rfl (not_t _ _) ?_
  first | refine WL.move rfl rfl rfl ?_
  first | refine WL.field rfl rfl rfl (f26_2 q1 0 _) ?_ | refine WL.skip _ rfl rfl rfl ?_
  first | refine WL.load rfl rfl rfl (ldHlPre bx2 kh) ?_ | refine WL.skip _ rfl rfl rfl ?_
  first | refine WL.bin rfl rfl rfl rfl (neqU _ 0 _ _ _) ?_ | refine WL.skip _ rfl rfl rfl ?_
  first | refine WL.pick rfl rfl rfl rfl ?_
  first | refine WL.assign rfl rfl rfl ?_
  refine WL.done ?_
  refine EW.on ?_
  refine EW.ret ?_
  exact EW.returns Try.results57 rfl ⟨by rw [decide_eq_false (fun hs => (hs.2 hk).1 (of_decide_eq_true di))], sb2⟩
set_option maxRecDepth 100000 in
set_option maxHeartbeats 1000000 in
theorem hellos_5 (k : Int) (h : Hl) (kh : h.ok) (w : World) (hk : ¬ k = 2) (di : decide (h.id = z32) = false) : Calls Try.prog 57 #[.int .i64 k, h.v] w fun e w' => e = .returned (.bool (decide (suitD k h))) ∧ Below w.heap.size w w' := by
  obtain ⟨w1, q1, r1, bx1, sb1, hq1⟩ := box_any 26 h.cs w
  refine calls_of_args [.int .i64 k, h.v] Try.func57 rfl 29 Try.ntmps57 (by show 2 ≤ 29; decide) ?_
  refine EW.seq ?_
  refine EW.region ?_
  refine WL.box rfl rfl rfl r1 ?_
  first | refine WL.assign rfl rfl rfl ?_
  refine WL.done ?_
  refine EW.on ?_
  refine EW.seq ?_
  refine EW.seq ?_
  refine EW.region ?_
  first | refine WL.move rfl rfl rfl ?_
  first | refine WL.bin rfl rfl rfl rfl (int_eq_t rfl _ _ _) ?_ | refine WL.bin rfl rfl rfl rfl (int_eq_t ‹_› _ _ _) ?_ | refine WL.bin rfl rfl rfl rfl (int_eq_f ‹_› _ _ _) ?_ | refine WL.bin rfl rfl rfl rfl (int_eq_d _ _ _ _ _) ?_
  refine WL.done ?_
  refine EW.on ?_
  refine EW.cond_f rfl ?_
  refine EW.skip ?_
  refine EW.on ?_
  refine EW.seq ?_
  refine EW.region ?_
  first | refine WL.field rfl rfl rfl (f26_0 q1 0 _) ?_ | refine WL.skip _ rfl rfl rfl ?_
  first | refine WL.load rfl rfl rfl (ldHlId bx1 kh) ?_ | refine WL.skip _ rfl rfl rfl ?_
  refine WL.call [kv h.id] enter62 rfl rfl rfl (zero_any h.id kh.i _) ?_
  rintro _ w2 ⟨rfl, be2⟩
  rw [di]
  have bx2 := bx1.on be2
  have sb2 := sb1.trans (be2.mono sb1.size)
  refine ⟨_, rfl, ?_⟩
  refine WL.un rfl rfl rfl (not_t _ _) ?_
  first | refine WL.move rfl rfl rfl ?_
  first | refine WL.field rfl rfl rfl (f26_2 q1 0 _) ?_ | refine WL.skip _ rfl rfl rfl ?_
  first | refine WL.load rfl rfl rfl (ldHlPre bx2 kh) ?_ | refine WL.skip _ rfl rfl rfl ?_
  first | refine WL.bin rfl rfl rfl rfl (neqU _ 0 _ _ _) ?_ | refine WL.skip _ rfl rfl rfl ?_
  first | refine WL.pick rfl rfl rfl rfl ?_
  first | refine WL.assign rfl rfl rfl ?_
  refine WL.done ?_
  refine EW.on ?_
  refine EW.ret ?_
  exact EW.returns Try.results57 rfl ⟨by rw [show decide (¬ h.pre = 0) = decide (suitD k h) from decide_eq_decide.2 ⟨fun e => ⟨fun e2 => absurd e2 hk, fun _ => ⟨of_decide_eq_false di, e⟩⟩, fun e => (e.2 hk).2⟩], sb2⟩
theorem hellos_any (k : Int) (h : Hl) (kh : h.ok) (w : World) : Calls Try.prog 57 #[.int .i64 k, h.v] w fun e w' => e = .returned (.bool (decide (suitD k h))) ∧ Below w.heap.size w w' := by
  by_cases hk : k = 2
  · by_cases hi : h.id = z32
    · by_cases ho : h.once = z32
      · exact hellos_3 k h kh w hk (decide_eq_true hi) (decide_eq_true ho)
      · exact hellos_2 k h kh w hk (decide_eq_true hi) (decide_eq_false ho)
    · exact hellos_1 k h kh w hk (decide_eq_false hi)
  · by_cases hi : h.id = z32
    · exact hellos_4 k h kh w hk (decide_eq_true hi)
    · exact hellos_5 k h kh w hk (decide_eq_false hi)
theorem Ob.own' {W : World} {b : Nat} {v : Value} {bs : List UInt8} (h : Ob W b v bs) : Own W b v bs := by
  obtain ⟨hx, h1 | ⟨g, cp, cur, rfl, hg, hr⟩⟩ := h.row
  · exact ⟨hx, .inl h1⟩
  · exact ⟨hx, .inr ⟨g, cp, cur, rfl, h.base _ rfl, hr⟩⟩
def marks : List UInt8 := [209, 210, 211]
theorem bsl22_3 (a b c : UInt8) (w : World) : (Instr.buildSlice 31 3 [(0, byt a), (1, byt b), (2, byt c)].toArray).run Try.prog w = .ok (.slice (some ⟨w.heap.size, 0, none⟩) 3 3) (w.alloc (.cells ([a, b, c].map byt).toArray 5)) := by
  unfold byt
  go_simp
  try rfl
/-- 'append' of three bytes to bytes of one's own. -/
theorem Ob.push3 {w : World} {b : Nat} {v : Value} {bs : List UInt8} (h : Ob w b v bs) (hbw : b ≤ w.heap.size) (g : Nat) (ys : List UInt8) (hy : ys.length = 3) (hg : Has w (.slice (some ⟨g, 0, none⟩) 3 3) ys) (hl : bs.length ≤ 140737488355328) (ty : TypeId) : ∃ v' w', (Builtin.append_ #[31, 31] ty #[v, .slice (some ⟨g, 0, none⟩) 3 3]).run Try.prog w = .ok v' w' ∧ Ob w' b v' (bs ++ ys) ∧ Below b w w' := by
  rcases hg with ⟨e, _⟩ | ⟨ad, cap, e, h2, h3⟩
  · cases e
  · rw [hy] at e
    simp only [Value.slice.injEq, Option.some.injEq, true_and] at e
    obtain ⟨rfl, rfl⟩ := e
    obtain ⟨v', w', r1, r2, r3⟩ := run_app w b v bs h.own' _ 3 ys h3 (by omega) hbw ty
    rw [hy] at r1
    exact ⟨v', w', r1, r2.ob, (grown_fx r3).below (fun k hk e => by have := h.base k e; omega) hbw⟩
set_option maxRecDepth 100000 in
set_option maxHeartbeats 1000000 in
theorem room_any (v : Value) (bs : List UInt8) (w : World) (hb : Has w v bs) (hl : bs.length ≤ 140737488355328) : Calls Try.prog 36 #[v] w fun e w' => ∃ v', e = .returned v' ∧ Ob w' w.heap.size v' (bs ++ marks) ∧ Below w.heap.size w w' := by
  refine calls_of_args [v] Try.func36 rfl 7 Try.ntmps36 (by show 1 ≤ 7; decide) ?_
  refine EW.seq ?_
  refine EW.region ?_
  first | refine WL.assign rfl rfl rfl ?_
  refine WL.done ?_
  refine EW.on ?_
  refine EW.seq ?_
  refine EW.region ?_
  first | refine WL.move rfl rfl rfl ?_
  obtain ⟨v1, w1, a1, o1, e1⟩ := app_nil hb hl 31
  refine WL.app rfl rfl rfl rfl a1 ?_
  refine WL.bslN [(0, byt 209), (1, byt 210), (2, byt 211)] rfl rfl rfl (bsl22_3 _ _ _ _) ?_
  have e2 := below_new w1 (.cells ([209, 210, 211].map byt).toArray 5)
  have hh2 : Has (w1.alloc (.cells ([209, 210, 211].map byt).toArray 5)) (.slice (some ⟨w1.heap.size, 0, none⟩) 3 3) [209, 210, 211] := Has.new (Blk.new _ _ _) 3 (Nat.le_refl _)
  obtain ⟨w2, hw2⟩ : ∃ w2, w1.alloc (.cells (([209, 210, 211] : List UInt8).map byt).toArray 5) = w2 := ⟨_, rfl⟩
  rw [hw2] at e2 hh2 ⊢
  obtain ⟨v3, w3, a3, o3, e3⟩ := (o1.below e2).push3 (by have := e1.size; have := e2.size; omega) w1.heap.size [209, 210, 211] rfl hh2 hl 31
  refine WL.app rfl rfl rfl rfl a3 ?_
  first | refine WL.assign rfl rfl rfl ?_
  refine WL.done ?_
  refine EW.on ?_
  refine EW.ret ?_
  exact EW.returns Try.results36 rfl ⟨v3, rfl, o3, (e1.trans (e2.mono e1.size)).trans e3⟩
set_option maxRecDepth 100000 in
set_option maxHeartbeats 1000000 in
theorem kept_yes (va vb : Value) (bs : List UInt8) (w : World) (ha : Has w va (bs ++ marks)) (hb : Has w vb bs) (hl : bs.length ≤ 140737488355328) : Calls Try.prog 43 #[va, vb] w fun e w' => e = .returned (.bool true) ∧ Below w.heap.size w w' := by
  refine calls_of_args [va, vb] Try.func43 rfl 9 Try.ntmps43 (by show 2 ≤ 9; decide) ?_
  refine EW.seq ?_
  refine EW.region ?_
  first | refine WL.assign rfl rfl rfl ?_
  refine WL.done ?_
  refine EW.on ?_
  refine EW.seq ?_
  refine EW.region ?_
  first | refine WL.move rfl rfl rfl ?_
  first | refine WL.move rfl rfl rfl ?_
  refine WL.call [vb] enter36 rfl rfl rfl (room_any vb bs _ hb hl) ?_
  rintro _ w1 ⟨v1, rfl, o1, e1⟩
  refine ⟨_, rfl, ?_⟩
  refine WL.call [va, v1] enter14 rfl rfl rfl (eq_yes va v1 (bs ++ marks) _ (ha.below e1) o1.has) ?_
  rintro _ w2 ⟨rfl, hz⟩
  rw [hz]
  clear hz
  refine ⟨_, rfl, ?_⟩
  first | refine WL.assign rfl rfl rfl ?_
  refine WL.done ?_
  refine EW.on ?_
  refine EW.ret ?_
  exact EW.returns Try.results43 rfl ⟨rfl, e1⟩
end Go.Proofs.Ytobfebpinkikdaa
