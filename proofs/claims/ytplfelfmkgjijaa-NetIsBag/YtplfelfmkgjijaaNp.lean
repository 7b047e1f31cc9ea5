import Derived.Test.YtplfelfmkgjijaaNo
set_option linter.unusedVariables false
set_option linter.unusedSimpArgs false
namespace Go.Proofs.Ytplfelfmkgjijaa
open Go.RowKit

def bE (vS vB : Value) (p : Nat) (x : Nat × Value) : List (Nat × Value) := [(0, vS), (1, vB), (5, .pointer (some ⟨p, 0, none⟩)), (8, x.2), (9, .int .i64 (x.1 : Int))]
def bR (w0 : World) (p r : Nat) (x : Nat × Value) (W : World) : Prop := x.1 ≤ 200 ∧ ∃ S E c, Bg w0 W p r S.length x.2 S E c (hereD S) ∧ S.length ≤ x.1 + 1
def bJ (vS vB : Value) (p q : Nat) (x : Nat × Value) (k : Nat) (b : Bool) : List (Nat × Value) := [(0, vS), (1, vB), (5, .pointer (some ⟨p, 0, none⟩)), (8, x.2), (9, .int .i64 (x.1 : Int)), (10, .pointer (some ⟨q, 0, none⟩)), (11, .int .i64 (k : Int)), (12, .bool b)]
def bK (vS vB : Value) (p q : Nat) (x : Nat × Value) (q16 : Nat) : List (Nat × Value) := [(0, vS), (1, vB), (5, .pointer (some ⟨p, 0, none⟩)), (8, x.2), (9, .int .i64 (x.1 : Int)), (10, .pointer (some ⟨q, 0, none⟩)), (16, .pointer (some ⟨q16, 0, none⟩))]
def bKR (wr : World) (N : Nat) (f t : Int) (bs : List UInt8) (q16 : Nat) (W : World) : Prop := ∃ v, Blk W q16 (Fl.cs ⟨(N : Int), f, t, v, bs⟩) 36 ∧ Own W wr.heap.size v bs ∧ Below wr.heap.size wr W
def pos (back : Bool) (n j : Nat) : Nat := if back then n - 1 - j else j
def eE (vB : Value) (p : Nat) (vl : Value) (i : Nat) : List (Nat × Value) := [(1, vB), (5, .pointer (some ⟨p, 0, none⟩)), (8, vl), (19, .int .i64 (i : Int))]
def eR (w0 : World) (p r : Nat) (vl : Value) (c n : Nat) (back : Bool) (i : Nat) (W : World) : Prop := i ≤ n ∧ ∃ S E, S.length = n ∧ Bg w0 W p r n vl S E c (hereD S) ∧ ∀ j, j < i → hereD S (pos back n j) = none
theorem clr_keep {S : List Sn} {k j : Nat} (h : hereD S j = none) : hereD (clr S k) j = none := by
  rw [here_clr]
  dsimp only
  split
  · rfl
  · exact h
theorem clr_here (S : List Sn) (k : Nat) : hereD (clr S k) k = none := by
  rw [here_clr]
  simp
theorem low_fx {S : Nat → Prop} {a b : World} (h : Fx S a b) {n : Nat} (hS : ∀ k, S k → n ≤ k) (hn : n ≤ a.heap.size) : Below n a b := h.below (fun k hk e => by have := hS k e; omega) hn
theorem Own.ownM {w : World} {b q : Nat} {v : Value} {bs : List UInt8} {es : Array MapEntry} {c : Nat} (h : Own w b v bs) (e : v.ownBlock = some q) (k : w.heap[q]? = some (.map es c)) : False := by
  obtain ⟨_, ⟨rfl, _⟩ | ⟨g, cp, cur, rfl, _, hh, _⟩⟩ := h
  · cases e
  · simp only [Value.ownBlock, Option.some.injEq] at e
    rw [← e, hh] at k
    cases k
set_option maxRecDepth 100000 in
set_option maxHeartbeats 20000000 in
theorem bag_any (vS : Value) (L : List Op5) (back : Bool) (w : World) (hS : Scr w vS L) : Calls Try.prog 5 #[vS, .bool back] w fun e w' => e = .returned (.bool true) ∧ Below w.heap.size w w' := by
  refine calls_of_args [vS, .bool back] Try.func5 rfl 210 Try.ntmps5 (by show 2 ≤ 210; decide) ?_
  refine EW.seq ?_
  refine EW.region ?_
  first | refine WL.assign rfl rfl rfl ?_
  refine WL.done ?_
  refine EW.on ?_
  refine EW.seq ?_
  refine EW.region ?_
  refine WL.call [.int .i64 3, .int .i64 1000] enter7 rfl rfl rfl (new_ok 3 1000 ⟨by decide, by decide, by decide, by decide⟩ _) ?_
  rintro x1 w1 ⟨p, r, rfl, nt1, hp1, hr1, be1⟩
  refine ⟨_, rfl, ?_⟩
  obtain ⟨va, w2, w3, ra1, ra2, ha3, fa3, la3⟩ := ab w1
  have nt3 := nt1.on la3
  first | refine WL.move rfl rfl rfl ?_
  first | refine WL.extract rfl rfl rfl (ext_2 _ _ _).1 ?_
  first | refine WL.extract rfl rfl rfl (ext_2 _ _ _).2 ?_
  first | refine WL.assign rfl rfl rfl ?_
  first | refine WL.assign rfl rfl rfl ?_
  refine WL.done ?_
  refine EW.on ?_
  refine EW.seq ?_
  refine EW.seq ?_
  refine EW.region ?_
  first | refine WL.move rfl rfl rfl ?_
  refine WL.bin rfl rfl rfl rfl (int_ne_f rfl _ _ _) ?_
  first | refine WL.move rfl rfl rfl ?_
  first | refine WL.move rfl rfl rfl ?_ | refine WL.skip _ rfl rfl rfl ?_
  refine WL.bin rfl rfl rfl rfl (neP _ _ _ _) ?_
  first | refine WL.pick rfl rfl rfl rfl ?_
  refine WL.done ?_
  refine EW.on ?_
  refine EW.cond_f rfl ?_
  refine EW.skip ?_
  refine EW.on ?_
  refine EW.seq ?_
  refine EW.region ?_
  first | refine WL.move rfl rfl rfl ?_
  refine WL.bslN [(0, byt 97), (1, byt 98)] rfl rfl rfl ra1 ?_
  refine WL.conv rfl rfl rfl ra2 ?_
  refine WL.call [.pointer (some ⟨p, 0, none⟩), .int .i64 1, .int .i64 2, va] enter9 rfl rfl rfl (send_any nt3 1 2 va [97, 98] ha3 (by decide) (by decide)) ?_
  rintro x4 w4 (⟨g, _⟩ | ⟨_, g, _⟩ | ⟨_, _, v1, rfl, nt4, fr4, f4⟩)
  · exact absurd (show isN 3 1 ∧ isN 3 2 from ⟨⟨by decide, by decide⟩, ⟨by decide, by decide⟩⟩) g
  · exact absurd g (by show ¬ (1000 : Int) ≤ ((0 : Nat) : Int); decide)
  refine ⟨_, rfl, ?_⟩
  replace nt4 : Nt w4 p r 3 1000 1 [⟨⟨0, 1, 2, v1, [97, 98]⟩, 0⟩] 1 := nt4
  obtain ⟨vb, w5, w6, rb1, rb2, hb6, fb6, lb6⟩ := ab w4
  obtain ⟨aob, nb, cb, hvb⟩ := hb6.sl
  have hs0 : Sn.g ⟨⟨0, 1, 2, vb, [97, 98]⟩, true⟩ = Sn.g ⟨⟨0, 1, 2, vb, [97, 98]⟩, true⟩ := rfl
  have r7 := run_bsN elN w6 ([(⟨⟨0, 1, 2, vb, [97, 98]⟩, true⟩ : Sn)].map Sn.cs) (scs_sz _) (by show 0 < 1; decide) (by show 1 * 5 ≤ 2 ^ 24; decide)
  have o7 := Ow.new (e := 44) w6 ([(⟨⟨0, 1, 2, vb, [97, 98]⟩, true⟩ : Sn)].map Sn.cs) (scs_sz _) (maxL (by show 1 ≤ 100000; decide))
  have l7 : Below w6.heap.size w6 (w6.alloc (.cells ([(⟨⟨0, 1, 2, vb, [97, 98]⟩, true⟩ : Sn)].map Sn.cs).flatten.toArray 44)) := below_new _ _
  generalize w6.alloc (.cells ([(⟨⟨0, 1, 2, vb, [97, 98]⟩, true⟩ : Sn)].map Sn.cs).flatten.toArray 44) = w7 at r7 o7 l7
  have nt7 := (nt4.on lb6).on l7
  have s3 := la3.size
  have s4 := f4.size
  have s6 := lb6.size
  have s1 := be1.size
  have hoff : ∀ (v : Value) (b : List UInt8), Has w6 v b → ∀ k, (Value.slice (some ⟨w6.heap.size, 0, none⟩) 1 1).ownBlock = some k → Off v b k := fun v b hh k hk => by
    simp only [Value.ownBlock, Option.some.injEq] at hk
    by_cases e2 : v.ownBlock = some k
    · rcases hh.blk e2 with e3 | e3
      · exact .inl e3
      · omega
    · exact .inr e2
  have bg0 : Bg w w7 p r 1 (.slice (some ⟨w6.heap.size, 0, none⟩) 1 1) [⟨⟨0, 1, 2, vb, [97, 98]⟩, true⟩] [⟨⟨0, 1, 2, v1, [97, 98]⟩, 0⟩] 1 (hereD [⟨⟨0, 1, 2, vb, [97, 98]⟩, true⟩]) := by
    refine ⟨nt7, o7, fun j s hj => ?_, fun s hs => ?_, fun k => ?_, fun m hm => ?_, Nat.le_refl _, fun s hs => ?_, fun m hm => ?_, ?_, hp1, hr1, fun k hk => ?_⟩
    · rcases j with _ | j
      · simp at hj; rw [← hj]; rfl
      · simp at hj
    · rw [List.mem_singleton.1 hs]
      exact ⟨hb6.below l7, by show 2 ≤ _; decide⟩
    · rcases k with _ | k
      · rfl
      · rw [lk_of_none (fun m hm => by rw [List.mem_singleton.1 hm]; show ¬ ((k + 1 : Nat) : Int) = 0; omega)]
        rfl
    · rw [List.mem_singleton.1 hm]; exact Int.le_refl _
    · rw [List.mem_singleton.1 hs]
      exact hoff _ _ hb6
    · exact hoff _ _ ((nt4.on lb6).hs m hm)
    · exact (((be1.trans (la3.mono s1)).trans (low_fx f4 (n := w.heap.size) (fun k e => by omega) (by omega))).trans (lb6.mono (by omega))).trans (l7.mono (by omega))
    · simp only [Value.ownBlock, Option.some.injEq] at hk
      omega
  first | refine WL.move rfl rfl rfl ?_
  first | refine WL.extract rfl rfl rfl (ext_2 _ _ _).1 ?_
  first | refine WL.extract rfl rfl rfl (ext_2 _ _ _).2 ?_
  first | refine WL.assign rfl rfl rfl ?_
  first | refine WL.assign rfl rfl rfl ?_
  refine WL.done ?_
  refine EW.on ?_
  refine EW.seq ?_
  refine EW.seq ?_
  refine EW.region ?_
  first | refine WL.move rfl rfl rfl ?_
  refine WL.bin rfl rfl rfl rfl (int_ne_f rfl _ _ _) ?_
  first | refine WL.move rfl rfl rfl ?_
  first | refine WL.move rfl rfl rfl ?_ | refine WL.skip _ rfl rfl rfl ?_
  refine WL.bin rfl rfl rfl rfl (int_ne_f rfl _ _ _) ?_
  first | refine WL.pick rfl rfl rfl rfl ?_
  refine WL.done ?_
  refine EW.on ?_
  refine EW.cond_f rfl ?_
  refine EW.skip ?_
  refine EW.on ?_
  refine EW.seq ?_
  refine EW.region ?_
  refine WL.bslN [(0, byt 97), (1, byt 98)] rfl rfl rfl rb1 ?_
  refine WL.conv rfl rfl rfl rb2 ?_
  refine WL.buildN [(1, .int .i64 1), (2, .int .i64 2), (3, vb)] rfl rfl rfl (b36_3v 1 2 vb [97, 98] hb6.sl _) ?_
  refine WL.buildN [(0, Fl.g ⟨0, 1, 2, vb, [97, 98]⟩), (1, .bool true)] rfl rfl rfl (b44 ⟨0, 1, 2, vb, [97, 98]⟩ true hb6.sl _) ?_
  refine WL.bslN [(0, Sn.g ⟨⟨0, 1, 2, vb, [97, 98]⟩, true⟩)] rfl rfl rfl r7 ?_
  first | refine WL.assign rfl rfl rfl ?_
  refine WL.done ?_
  refine EW.on ?_
  refine EW.seq ?_
  refine EW.seq ?_
  refine EW.region ?_
  first | refine WL.assign rfl rfl rfl ?_
  refine WL.done ?_
  refine EW.on ?_
  refine EW.block ?_
  refine EW.loop (bE vS (.bool back) p) (bR w p r) (fun x => 200 - x.1) (0, .slice (some ⟨w6.heap.size, 0, none⟩) 1 1) [0, 1, 5, 8, 9] rfl ⟨Nat.zero_le _, [⟨⟨0, 1, 2, vb, [97, 98]⟩, true⟩], _, _, bg0, Nat.le_refl _⟩ ?_
  rintro x wi ⟨hx200, S, E, c, bg, hSl⟩
  show EW _ _ _ _ [(0, vS), (1, .bool back), (5, .pointer (some ⟨p, 0, none⟩)), (8, x.2), (9, .int .i64 (x.1 : Int))] _
  refine EW.seq ?_
  refine EW.seq ?_
  rcases (show ((x.1 : Int) < (L.length : Int) ∧ (x.1 : Int) < 200) ∨ ((x.1 : Int) < (L.length : Int) ∧ ¬ (x.1 : Int) < 200) ∨ ¬ (x.1 : Int) < (L.length : Int) by omega) with ⟨hx1, hx2⟩ | ⟨hx1, hx2⟩ | hx1
  · refine EW.region ?_
    first | refine WL.move rfl rfl rfl ?_
    first | refine WL.move rfl rfl rfl ?_
    refine WL.len rfl rfl rfl (hS.len _ _) ?_
    refine WL.bin rfl rfl rfl rfl (int_lt_t hx1 _ _ _) ?_
    first | refine WL.move rfl rfl rfl ?_
    first | refine WL.move rfl rfl rfl ?_ | refine WL.skip _ rfl rfl rfl ?_
    refine WL.bin rfl rfl rfl rfl (int_lt_t hx2 _ _ _) ?_
    first | refine WL.pick rfl rfl rfl rfl ?_
    refine WL.done ?_
    refine EW.on ?_
    refine EW.cond_t rfl ?_
    refine EW.skip ?_
    refine EW.on ?_
    refine EW.seq ?_
    refine EW.block ?_
    refine EW.seq ?_
    obtain ⟨o, ho⟩ : ∃ o, L[x.1]? = some o := ⟨_, List.getElem?_eq_getElem (by omega)⟩
    obtain ⟨ado, ixo, ldo⟩ := hS.get ho
    have oko := hS.ok o (List.mem_of_getElem? ho)
    obtain ⟨q10, w10, w11, rO1, rO2, b10, l11, hq10⟩ := newO wi o oko.hs.sl
    have bg1 := bg.on l11
    obtain ⟨c1, hc1v, hc1⟩ := and1 o.f
    obtain ⟨c2, hc2v, hc2⟩ := and1 o.t
    have ok11 := oko.on bg1.be
    obtain ⟨a1, b1, ha1, hb1, hmx, hfl⟩ := fold_ops o.k oko.k.1 oko.k.2
    obtain ⟨k, hk⟩ : ∃ k, foldN o.k % (S.length + 1) = k := ⟨_, rfl⟩
    have hkN : k ≤ S.length := by
      have := Nat.mod_lt (foldN o.k) (show 0 < S.length + 1 by omega)
      omega
    have hrem : Int.tmod (foldN o.k : Int) ((S.length + 1 : Nat) : Int) = (k : Int) := by
      rw [Int.tmod_eq_emod_of_nonneg (by omega), ← Int.natCast_emod, hk]
    refine EW.region ?_
    first | refine WL.move rfl rfl rfl ?_
    first | refine WL.move rfl rfl rfl ?_
    refine WL.index rfl rfl rfl rfl (ixo _) ?_
    refine WL.load rfl rfl rfl (ldo _ (hS.on bg.be)) ?_
    refine WL.new rfl rfl rO1 ?_
    refine WL.store rfl rfl rfl rO2 ?_
    refine WL.done ?_
    refine EW.on ?_
    refine EW.seq ?_
    refine EW.region ?_
    refine WL.field rfl rfl rfl (g47_1 q10 _) ?_
    refine WL.load rfl rfl rfl (ldI b10 rfl) ?_
    refine WL.field rfl rfl rfl (g47_1 q10 _) ?_
    refine WL.load rfl rfl rfl (ldI b10 rfl) ?_
    refine WL.bin rfl rfl rfl rfl (int_add (c := a1) ha1 _ _ _) ?_
    refine WL.un rfl rfl rfl (neg_i _ hb1 _) ?_
    refine WL.max rfl rfl rfl rfl (by rw [max_i, hmx]) ?_
    first | refine WL.move rfl rfl rfl ?_
    refine WL.len rfl rfl rfl (bg1.len _ _) ?_
    refine WL.bin rfl rfl rfl rfl (int_add (c := ((S.length + 1 : Nat) : Int)) (by rw [IntKind.wrap_i64]; omega) _ _ _) ?_
    refine WL.bin rfl rfl rfl rfl (rem_i _ _ (by omega) (c := (k : Int)) hrem _ _ _) ?_
    first | refine WL.assign rfl rfl rfl ?_
    refine WL.done ?_
    refine EW.on ?_
    refine EW.join (bJ vS (.bool back) p q10 x k) (fun b W => b = (hereD S k).isSome ∧ W = w11) ?_ ?_
    · rcases (show k < S.length ∨ k = S.length by omega) with hkl | hkl
      · obtain ⟨s, hs⟩ : ∃ s, S[k]? = some s := ⟨_, List.getElem?_eq_getElem hkl⟩
        obtain ⟨ads, ixs, lxs⟩ := bg1.get hs
        refine EW.region ?_
        first | refine WL.move rfl rfl rfl ?_
        first | refine WL.move rfl rfl rfl ?_
        refine WL.len rfl rfl rfl (bg1.len _ _) ?_
        refine WL.bin rfl rfl rfl rfl (int_lt_t (by omega) _ _ _) ?_
        first | refine WL.move rfl rfl rfl ?_
        first | refine WL.move rfl rfl rfl ?_ | refine WL.skip _ rfl rfl rfl ?_
        first | refine WL.move rfl rfl rfl ?_ | refine WL.skip _ rfl rfl rfl ?_
        refine WL.index rfl rfl rfl rfl (ixs _) ?_
        refine WL.field rfl rfl rfl (f44_1 ads _) ?_
        refine WL.load rfl rfl rfl (lxs _ bg1.sl).1 ?_
        first | refine WL.pick rfl rfl rfl rfl ?_
        first | refine WL.assign rfl rfl rfl ?_
        refine WL.done ?_
        exact EW.met _ [0, 1, 5, 8, 9, 10, 11, 12] rfl ⟨by unfold hereD; rw [hs]; cases eh : s.h <;> simp [eh], rfl⟩
      · skip
        refine EW.region ?_
        first | refine WL.move rfl rfl rfl ?_
        first | refine WL.move rfl rfl rfl ?_
        refine WL.len rfl rfl rfl (bg1.len _ _) ?_
        refine WL.bin rfl rfl rfl rfl (int_lt_f (by omega) _ _ _) ?_
        first | refine WL.move rfl rfl rfl ?_
        refine WL.skip _ rfl rfl rfl ?_
        refine WL.skip _ rfl rfl rfl ?_
        refine WL.skip _ rfl rfl rfl ?_
        refine WL.skip _ rfl rfl rfl ?_
        refine WL.skip _ rfl rfl rfl ?_
        first | refine WL.pick rfl rfl rfl rfl ?_
        first | refine WL.assign rfl rfl rfl ?_
        refine WL.done ?_
        exact EW.met _ [0, 1, 5, 8, 9, 10, 11, 12] rfl ⟨by unfold hereD; rw [List.getElem?_eq_none (by omega)]; rfl, rfl⟩
    · rintro b wb ⟨hb, hwb⟩
      rw [hwb]
      show EW _ _ _ _ [(0, vS), (1, .bool back), (5, .pointer (some ⟨p, 0, none⟩)), (8, x.2), (9, .int .i64 (x.1 : Int)), (10, .pointer (some ⟨q10, 0, none⟩)), (11, .int .i64 (k : Int)), (12, .bool b)] _
      refine EW.seq ?_
      refine EW.region ?_
      refine WL.field rfl rfl rfl (g47_0 q10 _) ?_
      refine WL.load rfl rfl rfl (ldI b10 rfl) ?_
      refine WL.done ?_
      refine EW.on ?_
      refine EW.block ?_
      refine EW.seq ?_
      refine EW.region ?_
      refine WL.bin rfl rfl rfl rfl (int_eq_d _ _ _ _ _) ?_
      first | refine WL.assign rfl rfl rfl ?_
      refine WL.done ?_
      refine EW.on ?_
      refine EW.cond_d rfl (fun h128 => ?_) (fun h128 => ?_)
      · refine EW.seq ?_
        refine EW.region ?_
        first | refine WL.move rfl rfl rfl ?_
        first | refine WL.move rfl rfl rfl ?_
        first | refine WL.move rfl rfl rfl ?_
        refine WL.call [.pointer (some ⟨p, 0, none⟩), x.2, .int .i64 (k : Int)] enter15 rfl rfl rfl (brought_any bg1 k) ?_
        rintro y21 w21 ⟨rfl, E21, bg21⟩
        refine ⟨_, rfl, ?_⟩
        refine WL.un rfl rfl rfl (not_b _ _) ?_
        refine WL.done ?_
        refine EW.on ?_
        refine EW.cond_f rfl ?_
        refine EW.skip ?_
        refine pn_block ?_
        refine pn_block ?_
        refine EW.on ?_
        refine EW.region ?_
        first | refine WL.move rfl rfl rfl ?_
        refine WL.bin rfl rfl rfl rfl (int_add (c := ((x.1 + 1 : Nat) : Int)) (by rw [IntKind.wrap_i64]; omega) _ _ _) ?_
        first | refine WL.assign rfl rfl rfl ?_
        refine WL.done ?_
        exact EW.again (E := bE vS (.bool back) p) (R := bR w p r) (m := fun x => 200 - x.1) (x := x) (x.1 + 1, x.2) [0, 1, 5, 8, 9] rfl ⟨by show x.1 + 1 ≤ 200; omega, clr S k, _, _, by rw [clr_len]; exact bg21, by rw [clr_len]; show S.length ≤ x.1 + 1 + 1; omega⟩ (by show 200 - (x.1 + 1) < 200 - x.1; omega)
      · refine EW.seq ?_
        refine EW.region ?_
        refine WL.bin rfl rfl rfl rfl (int_eq_d _ _ _ _ _) ?_
        first | refine WL.assign rfl rfl rfl ?_
        refine WL.done ?_
        refine EW.on ?_
        refine EW.cond_d rfl (fun h135 => ?_) (fun h135 => ?_)
        · refine EW.seq ?_
          refine EW.seq ?_
          have hrl := lk_map (bg1.rl k)
          rcases b with _ | _
          · have hD : hereD S k = none := by
              cases e : hereD S k with
              | none => rfl
              | some d => rw [e] at hb; cases hb
            have hlk : lkE E (k : Int) = none := hrl.1 hD
            have hHs : (fun j => if j = k then none else hereD S j) = hereD S := by
              funext j
              by_cases e : j = k
              · rw [if_pos e, e, hD]
              · rw [if_neg e]
            refine EW.region ?_
            first | refine WL.move rfl rfl rfl ?_
            first | refine WL.move rfl rfl rfl ?_
            refine WL.call [.pointer (some ⟨p, 0, none⟩), .int .i64 (k : Int)] enter12 rfl rfl rfl (drop_any bg1.nt (k : Int)) ?_
            rintro y24 w24 ⟨rfl, nt24, f24⟩
            refine ⟨_, rfl, ?_⟩
            have bg24 := bg1.del k nt24 f24
            rw [hlk]
            refine WL.bin rfl rfl rfl rfl (int_eq_f (by decide) _ _ _) ?_
            first | refine WL.move rfl rfl rfl ?_
            refine WL.bin rfl rfl rfl rfl (bool_ne_f _ _ _ _) ?_
            refine WL.done ?_
            refine EW.on ?_
            refine EW.cond_f rfl ?_
            refine EW.skip ?_
            refine EW.on ?_
            refine EW.seq ?_
            refine EW.region ?_
            first | refine WL.move rfl rfl rfl ?_
            refine WL.done ?_
            refine EW.on ?_
            refine EW.cond_f rfl ?_
            refine EW.skip ?_
            refine pn_block ?_
            refine pn_block ?_
            refine EW.on ?_
            refine EW.region ?_
            first | refine WL.move rfl rfl rfl ?_
            refine WL.bin rfl rfl rfl rfl (int_add (c := ((x.1 + 1 : Nat) : Int)) (by rw [IntKind.wrap_i64]; omega) _ _ _) ?_
            first | refine WL.assign rfl rfl rfl ?_
            refine WL.done ?_
            exact EW.again (E := bE vS (.bool back) p) (R := bR w p r) (m := fun x => 200 - x.1) (x := x) (x.1 + 1, x.2) [0, 1, 5, 8, 9] rfl ⟨by show x.1 + 1 ≤ 200; omega, S, _, _, bg24.eqH hHs, by show S.length ≤ x.1 + 1 + 1; omega⟩ (by show 200 - (x.1 + 1) < 200 - x.1; omega)
          · obtain ⟨d, hD⟩ : ∃ d, hereD S k = some d := by
              cases e : hereD S k with
              | none => rw [e] at hb; cases hb
              | some d => exact ⟨d, rfl⟩
            obtain ⟨y, hlk, hyd⟩ := hrl.2 d hD
            obtain ⟨s, hs, hsh, hsd⟩ : ∃ s, S[k]? = some s ∧ s.h = true ∧ s.x.d = d := by
              unfold hereD at hD
              cases e : S[k]? with
              | none => rw [e] at hD; cases hD
              | some s =>
                rw [e] at hD
                cases eh : s.h with
                | false => simp [eh] at hD
                | true => simp [eh] at hD; exact ⟨s, rfl, eh, hD⟩
            refine EW.region ?_
            first | refine WL.move rfl rfl rfl ?_
            first | refine WL.move rfl rfl rfl ?_
            refine WL.call [.pointer (some ⟨p, 0, none⟩), .int .i64 (k : Int)] enter12 rfl rfl rfl (drop_any bg1.nt (k : Int)) ?_
            rintro y24 w24 ⟨rfl, nt24, f24⟩
            refine ⟨_, rfl, ?_⟩
            have bg24 := bg1.del k nt24 f24
            rw [hlk]
            refine WL.bin rfl rfl rfl rfl (int_eq_t rfl _ _ _) ?_
            first | refine WL.move rfl rfl rfl ?_
            refine WL.bin rfl rfl rfl rfl (bool_ne_f _ _ _ _) ?_
            refine WL.done ?_
            refine EW.on ?_
            refine EW.cond_f rfl ?_
            refine EW.skip ?_
            refine EW.on ?_
            refine EW.seq ?_
            refine EW.region ?_
            first | refine WL.move rfl rfl rfl ?_
            refine WL.done ?_
            refine EW.on ?_
            refine EW.cond_t rfl ?_
            obtain ⟨ad27, w27, ix27, st27, bg27, f27⟩ := bg24.clr hs
            replace bg27 : Bg w w27 p r (S.set k { s with h := false }).length x.2 (S.set k { s with h := false }) (delE E (k : Int)) c (hereD (S.set k { s with h := false })) := by
              rw [List.length_set, ← clr_some hs, here_clr, clr_some hs]
              exact bg27
            refine EW.region ?_
            first | refine WL.move rfl rfl rfl ?_
            first | refine WL.move rfl rfl rfl ?_
            refine WL.index rfl rfl rfl rfl (ix27 _) ?_
            refine WL.field rfl rfl rfl (f44_1 ad27 _) ?_
            refine WL.store rfl rfl rfl st27 ?_
            refine WL.done ?_
            refine pn_block ?_
            refine pn_block ?_
            refine EW.on ?_
            refine EW.region ?_
            first | refine WL.move rfl rfl rfl ?_
            refine WL.bin rfl rfl rfl rfl (int_add (c := ((x.1 + 1 : Nat) : Int)) (by rw [IntKind.wrap_i64]; omega) _ _ _) ?_
            first | refine WL.assign rfl rfl rfl ?_
            refine WL.done ?_
            exact EW.again (E := bE vS (.bool back) p) (R := bR w p r) (m := fun x => 200 - x.1) (x := x) (x.1 + 1, x.2) [0, 1, 5, 8, 9] rfl ⟨by show x.1 + 1 ≤ 200; omega, S.set k { s with h := false }, _, _, bg27, by rw [List.length_set]; omega⟩ (by show 200 - (x.1 + 1) < 200 - x.1; omega)
        · refine EW.seq ?_
          refine EW.region ?_
          refine WL.bin rfl rfl rfl rfl (int_eq_d _ _ _ _ _) ?_
          first | refine WL.assign rfl rfl rfl ?_
          refine WL.done ?_
          refine EW.on ?_
          refine EW.cond_d rfl (fun h148 => ?_) (fun h148 => ?_)
          · refine EW.seq ?_
            have hrl := lk_map (bg1.rl k)
            rcases b with _ | _
            · have hD : hereD S k = none := by
                cases e : hereD S k with
                | none => rfl
                | some d => rw [e] at hb; cases hb
              have hlk : lkE E (k : Int) = none := hrl.1 hD
              refine EW.region ?_
              first | refine WL.move rfl rfl rfl ?_
              first | refine WL.move rfl rfl rfl ?_
              refine WL.call [.pointer (some ⟨p, 0, none⟩), .int .i64 (k : Int)] enter8 rfl rfl rfl (copy_any bg1.nt (k : Int) (by omega)) ?_
              rintro y29 w29 (⟨_, rfl, l29⟩ | ⟨_, g, _⟩ | ⟨_, g, _⟩)
              rotate_left
              · rw [hlk] at g; cases g
              · rw [hlk] at g; cases g
              refine ⟨_, rfl, ?_⟩
              have bg29 := bg1.on l29
              first | refine WL.move rfl rfl rfl ?_
              first | refine WL.extract rfl rfl rfl (ext_2 _ _ _).1 ?_
              first | refine WL.extract rfl rfl rfl (ext_2 _ _ _).2 ?_
              first | refine WL.assign rfl rfl rfl ?_
              first | refine WL.assign rfl rfl rfl ?_
              refine WL.done ?_
              refine EW.on ?_
              refine EW.seq ?_
              refine EW.seq ?_
              refine EW.region ?_
              first | refine WL.move rfl rfl rfl ?_
              refine WL.bin rfl rfl rfl rfl (int_eq_f (by decide) _ _ _) ?_
              first | refine WL.move rfl rfl rfl ?_
              refine WL.bin rfl rfl rfl rfl (bool_ne_f _ _ _ _) ?_
              first | refine WL.move rfl rfl rfl ?_
              first | refine WL.move rfl rfl rfl ?_ | refine WL.skip _ rfl rfl rfl ?_
              first | refine WL.move rfl rfl rfl ?_ | refine WL.skip _ rfl rfl rfl ?_
              refine WL.skip _ rfl rfl rfl ?_
              refine WL.skip _ rfl rfl rfl ?_
              refine WL.skip _ rfl rfl rfl ?_
              refine WL.skip _ rfl rfl rfl ?_
              first | refine WL.pick rfl rfl rfl rfl ?_ | refine WL.skip _ rfl rfl rfl ?_
              first | refine WL.pick rfl rfl rfl rfl ?_
              refine WL.done ?_
              refine EW.on ?_
              refine EW.cond_f rfl ?_
              refine EW.skip ?_
              refine EW.on ?_
              refine EW.seq ?_
              refine EW.region ?_
              first | refine WL.move rfl rfl rfl ?_
              refine WL.done ?_
              refine EW.on ?_
              refine EW.cond_f rfl ?_
              refine EW.skip ?_
              refine pn_block ?_
              refine pn_block ?_
              refine EW.on ?_
              refine EW.region ?_
              first | refine WL.move rfl rfl rfl ?_
              refine WL.bin rfl rfl rfl rfl (int_add (c := ((x.1 + 1 : Nat) : Int)) (by rw [IntKind.wrap_i64]; omega) _ _ _) ?_
              first | refine WL.assign rfl rfl rfl ?_
              refine WL.done ?_
              exact EW.again (E := bE vS (.bool back) p) (R := bR w p r) (m := fun x => 200 - x.1) (x := x) (x.1 + 1, x.2) [0, 1, 5, 8, 9] rfl ⟨by show x.1 + 1 ≤ 200; omega, S, _, _, bg29, by show S.length ≤ x.1 + 1 + 1; omega⟩ (by show 200 - (x.1 + 1) < 200 - x.1; omega)
            · obtain ⟨d, hD⟩ : ∃ d, hereD S k = some d := by
                cases e : hereD S k with
                | none => rw [e] at hb; cases hb
                | some d => exact ⟨d, rfl⟩
              obtain ⟨y, hlk, hyd⟩ := hrl.2 d hD
              obtain ⟨s, hs, hsh, hsd⟩ : ∃ s, S[k]? = some s ∧ s.h = true ∧ s.x.d = d := by
                unfold hereD at hD
                cases e : S[k]? with
                | none => rw [e] at hD; cases hD
                | some s =>
                  rw [e] at hD
                  cases eh : s.h with
                  | false => simp [eh] at hD
                  | true => simp [eh] at hD; exact ⟨s, rfl, eh, hD⟩
              refine EW.region ?_
              first | refine WL.move rfl rfl rfl ?_
              first | refine WL.move rfl rfl rfl ?_
              refine WL.call [.pointer (some ⟨p, 0, none⟩), .int .i64 (k : Int)] enter8 rfl rfl rfl (copy_any bg1.nt (k : Int) (by omega)) ?_
              rintro y29 w29 (⟨g, _⟩ | ⟨_, _, g, _⟩ | ⟨y', hy', _, v29, rfl, nt29, fr29, f29⟩)
              · rw [hlk] at g; cases g
              · have := bg1.le; omega
              rw [hlk] at hy'
              cases hy'
              refine ⟨_, rfl, ?_⟩
              have bg29 := bg1.push (y := ⟨(S.length : Int), y.f, y.t, v29, y.b⟩) rfl fr29 nt29 f29
              first | refine WL.move rfl rfl rfl ?_
              first | refine WL.extract rfl rfl rfl (ext_2 _ _ _).1 ?_
              first | refine WL.extract rfl rfl rfl (ext_2 _ _ _).2 ?_
              first | refine WL.assign rfl rfl rfl ?_
              first | refine WL.assign rfl rfl rfl ?_
              refine WL.done ?_
              refine EW.on ?_
              refine EW.seq ?_
              refine EW.seq ?_
              refine EW.region ?_
              first | refine WL.move rfl rfl rfl ?_
              refine WL.bin rfl rfl rfl rfl (int_eq_t rfl _ _ _) ?_
              first | refine WL.move rfl rfl rfl ?_
              refine WL.bin rfl rfl rfl rfl (bool_ne_f _ _ _ _) ?_
              first | refine WL.move rfl rfl rfl ?_
              first | refine WL.move rfl rfl rfl ?_ | refine WL.skip _ rfl rfl rfl ?_
              first | refine WL.move rfl rfl rfl ?_ | refine WL.skip _ rfl rfl rfl ?_
              first | refine WL.move rfl rfl rfl ?_ | refine WL.skip _ rfl rfl rfl ?_
              first | refine WL.move rfl rfl rfl ?_ | refine WL.skip _ rfl rfl rfl ?_
              refine WL.len rfl rfl rfl (bg1.len _ _) ?_
              refine WL.bin rfl rfl rfl rfl (int_ne_f rfl _ _ _) ?_
              first | refine WL.pick rfl rfl rfl rfl ?_ | refine WL.skip _ rfl rfl rfl ?_
              first | refine WL.pick rfl rfl rfl rfl ?_
              refine WL.done ?_
              refine EW.on ?_
              refine EW.cond_f rfl ?_
              refine EW.skip ?_
              refine EW.on ?_
              refine EW.seq ?_
              refine EW.region ?_
              first | refine WL.move rfl rfl rfl ?_
              refine WL.done ?_
              refine EW.on ?_
              refine EW.cond_t rfl ?_
              refine EW.seq ?_
              obtain ⟨ad33, ix33, lx33⟩ := bg29.get hs
              obtain ⟨q15, w33, w34, rN1, rN2, b15, l34, hq15⟩ := newN w29 s (sh_of (bg29.hs s (List.mem_of_getElem? hs)).1)
              obtain ⟨w35, rN3, b15c, f35⟩ := stI b15 (j := 0) (by show 0 < 5; decide) (S.length : Int)
              replace b15c : Blk w35 q15 (Sn.cs ⟨⟨(S.length : Int), s.x.f, s.x.t, s.x.v, s.x.b⟩, s.h⟩) 44 := b15c
              have bg35 := bg29.on (l34.trans (f35.below (fun k hk e => by omega) l34.size))
              obtain ⟨vA1, wA1, vA, wA, rA1, rA2, bgA⟩ := bg35.app ⟨⟨(S.length : Int), s.x.f, s.x.t, s.x.v, s.x.b⟩, s.h⟩ rfl (bg35.hs s (List.mem_of_getElem? hs)).1 (bg35.hs s (List.mem_of_getElem? hs)).2 (bg35.aS s (List.mem_of_getElem? hs)) (by omega) 45
              have bgA2 := bgA.eqH (H' := hereD (S ++ [(⟨⟨(S.length : Int), s.x.f, s.x.t, s.x.v, s.x.b⟩, s.h⟩ : Sn)])) (by
                rw [here_app]
                funext j
                by_cases e : j = S.length
                · rw [if_pos e, if_pos e, if_pos hsh]
                  rw [← hsd] at hyd
                  unfold Fl.d at hyd ⊢
                  simp only [Prod.mk.injEq] at hyd
                  rw [hyd.2.1, hyd.2.2.1, hyd.2.2.2]
                · rw [if_neg e, if_neg e])
              rw [show S.length + 1 = (S ++ [(⟨⟨(S.length : Int), s.x.f, s.x.t, s.x.v, s.x.b⟩, s.h⟩ : Sn)]).length from by simp] at bgA2
              refine EW.region ?_
              first | refine WL.move rfl rfl rfl ?_
              first | refine WL.move rfl rfl rfl ?_
              refine WL.index rfl rfl rfl rfl (ix33 _) ?_
              refine WL.load rfl rfl rfl (lx33 _ bg29.sl).2.2 ?_
              refine WL.new rfl rfl rN1 ?_
              refine WL.store rfl rfl rfl rN2 ?_
              refine WL.done ?_
              refine EW.on ?_
              refine EW.seq ?_
              refine EW.region ?_
              first | refine WL.move rfl rfl rfl ?_
              refine WL.field rfl rfl rfl (g44_0 q15 _) ?_
              refine WL.field rfl rfl rfl (g36_0 q15 _) ?_
              refine WL.store rfl rfl rfl rN3 ?_
              refine WL.done ?_
              refine EW.on ?_
              refine EW.region ?_
              first | refine WL.move rfl rfl rfl ?_
              refine WL.load rfl rfl rfl (ld44 b15c) ?_
              refine WL.bslN [(0, Sn.g ⟨⟨(S.length : Int), s.x.f, s.x.t, s.x.v, s.x.b⟩, s.h⟩)] rfl rfl rfl rA1 ?_
              refine WL.app rfl rfl rfl rfl rA2 ?_
              first | refine WL.assign rfl rfl rfl ?_
              refine WL.done ?_
              refine pn_block ?_
              refine pn_block ?_
              refine EW.on ?_
              refine EW.region ?_
              first | refine WL.move rfl rfl rfl ?_
              refine WL.bin rfl rfl rfl rfl (int_add (c := ((x.1 + 1 : Nat) : Int)) (by rw [IntKind.wrap_i64]; omega) _ _ _) ?_
              first | refine WL.assign rfl rfl rfl ?_
              refine WL.done ?_
              exact EW.again (E := bE vS (.bool back) p) (R := bR w p r) (m := fun x => 200 - x.1) (x := x) (x.1 + 1, vA) [0, 1, 5, 8, 9] rfl ⟨by show x.1 + 1 ≤ 200; omega, S ++ [(⟨⟨(S.length : Int), s.x.f, s.x.t, s.x.v, s.x.b⟩, s.h⟩ : Sn)], _, _, bgA2, by rw [List.length_append]; show S.length + 1 ≤ x.1 + 1 + 1; omega⟩ (by show 200 - (x.1 + 1) < 200 - x.1; omega)
          · refine EW.join (bK vS (.bool back) p q10 x) (bKR w11 S.length (1 + c1) (1 + c2) o.b) ?_ ?_
            · refine EW.az (SQ (fun W => Below w11.heap.size w11 W)) (levZ [(3, 0, 1), (7, 0, 1), (12, 0, 1), (10, 1, 1), (13, 1, 1), (15, 1, 1), (16, 1, 1)]) (fun W => Below w11.heap.size w11 W) 17 (by kernel_rfl) rfl (below_drawn w11) ?_
              refine AZ.seg [(0, 0, 0), (1, 0, 0), (2, 0, 0), (3, 0, 1), (4, 0, 0), (5, 0, 0), (6, 0, 0), (7, 0, 1), (8, 0, 0), (9, 0, 0), (11, 0, 0), (12, 0, 1)] 5 rfl (by kernel_rfl) (sq_anti _) (by kernel_rfl) ?_
              simp only [opsZ, List.getD_cons_zero, List.getD_cons_succ]
              first | refine ZE.move rfl rfl rfl rfl sq0 ?_
              refine ZE.len rfl rfl rfl rfl sq0 (fun W => bg1.len W _) ?_
              refine ZE.field rfl rfl rfl rfl sq0 (fun W => g47_2 q10 W) ?_
              refine ZE.load rfl rfl rfl rfl sq1 (fun W hW => ldI (b10.on (sq_of hW)) rfl) ?_
              refine ZE.bin rfl rfl rfl rfl rfl sq0 (fun W => hc1 W _ _) ?_
              refine ZE.bin rfl rfl rfl rfl rfl sq0 (fun W => int_add (c := 1 + c1) (by rw [IntKind.wrap_i64]; omega) W _ _) ?_
              refine ZE.field rfl rfl rfl rfl sq0 (fun W => g47_3 q10 W) ?_
              refine ZE.load rfl rfl rfl rfl sq1 (fun W hW => ldI (b10.on (sq_of hW)) rfl) ?_
              refine ZE.bin rfl rfl rfl rfl rfl sq0 (fun W => hc2 W _ _) ?_
              refine ZE.bin rfl rfl rfl rfl rfl sq0 (fun W => int_add (c := 1 + c2) (by rw [IntKind.wrap_i64]; omega) W _ _) ?_
              refine ZE.field rfl rfl rfl rfl sq0 (fun W => g47_4 q10 W) ?_
              refine ZE.load rfl rfl rfl rfl sq1 (fun W hW => ldS (b10.on (sq_of hW)) rfl) ?_
              refine AZ.two 4 10 1 15 1 rfl (by kernel_rfl) ?_ ?_
              · simp only [List.getD_cons_zero, List.getD_cons_succ]
                refine ZE.bsl [] (fun v W => Y15 w11 none v [] W) rfl rfl rfl (fun _ _ h => .inr h.be) (fun W hW => ?_) ?_
                · obtain ⟨v, w', r1, o1, l1⟩ := bsl0 W
                  exact ⟨v, w', r1, o1.weaken hW.size, fun q' e => (by cases e), bt hW l1⟩
                rintro v97 ⟨_, _⟩
                refine AZ.two 3 13 1 15 1 rfl (by kernel_rfl) ?_ ?_
                · simp only [List.getD_cons_zero, List.getD_cons_succ]
                  refine ZE.app (fun v W => Y15 w11 none v o.b W) rfl rfl rfl rfl (fun _ _ h => .inr h.be) (fun W hW => ?_) ?_
                  · obtain ⟨v, w', r1, o1, l1, f1⟩ := hW.own.app ((ok11.hs).below hW.be) (by have := oko.lb; simp; omega) hW.be.size 29
                    rw [List.nil_append] at o1
                    exact ⟨v, w', r1, o1, fun q' e => ⟨(hW.bl q' e).1.fx f1 (fun e2 => hW.own.neT (hW.bl q' e).1 (by decide) e2), (hW.bl q' e).2⟩, hW.be.trans l1⟩
                  rintro v100 ⟨Wx, hWx⟩
                  have hv100 : ∃ ao n c, v100 = .slice ao n c := hWx.own.has.sl
                  clear hWx
                  refine AZ.seg [(14, 0, 0), (15, 1, 1), (16, 1, 1)] 0 rfl (by kernel_rfl) (sq_anti _) (by kernel_rfl) ?_
                  simp only [opsZ, List.getD_cons_zero, List.getD_cons_succ]
                  refine ZE.buildN [(0, .int .i64 (S.length : Int)), (1, .int .i64 (1 + c1)), (2, .int .i64 (1 + c2)), (3, v100)] rfl rfl rfl rfl sq0 (fun W => b36v _ _ _ v100 o.b hv100 W) ?_
                  refine ZE.eff (fun v W => ∃ q, v = .pointer (some ⟨q, 0, none⟩) ∧ Y15 w11 (some q) v100 o.b W) rfl rfl (fun _ _ ⟨_, _, h⟩ => .inr h.be) (fun W hW => ?_) ?_
                  · obtain ⟨w1', q, r1, b1, l1, hq, _⟩ := new36 W
                    exact ⟨_, w1', fun a ha => (by simp only [execOp, Sem.run_bind, r1, Result.andThen_ok, Sem.run_pure]), q, rfl, hW.own.below l1, fun q' e => (by cases e; exact ⟨b1, by rw [hq]; exact hW.be.size⟩), bt hW.be l1⟩
                  rintro va16 ⟨W0, q16, rfl, _⟩
                  refine ZE.store (fun W => Blk W q16 (Fl.cs ⟨(S.length : Int), 1 + c1, 1 + c2, v100, o.b⟩) 36 ∧ Own W w11.heap.size v100 o.b ∧ Below w11.heap.size w11 W) rfl rfl rfl (fun _ h => .inr h.2.2) (fun W hW => ?_) ?_
                  · obtain ⟨_, hq', hW⟩ := hW
                    cases hq'
                    obtain ⟨bz, hq⟩ := hW.bl q16 rfl
                    obtain ⟨w', r1, b1, f1⟩ := st36 (y := ⟨(S.length : Int), 1 + c1, 1 + c2, v100, o.b⟩) bz hv100
                    have hne := hW.own.neT bz (by decide)
                    exact ⟨w', r1, b1, hW.own.fx f1 (fun k hk e => hne (by rw [hk, e])), hW.be.trans (f1.below (fun k hk e => by omega) hW.be.size)⟩
                  refine AZ.done (by kernel_rfl) ?_
                  rintro W15 h15
                  exact EW.met q16 [0, 1, 5, 8, 9, 10, 16] rfl ⟨v100, h15.1, h15.2.1, h15.2.2⟩
                · simp only [List.getD_cons_zero, List.getD_cons_succ]
                  refine ZE.eff (fun v W => ∃ q, v = .pointer (some ⟨q, 0, none⟩) ∧ Y15 w11 (some q) v97 [] W) rfl rfl (fun _ _ ⟨_, _, h⟩ => .inr h.be) (fun W hW => ?_) ?_
                  · obtain ⟨w1', q, r1, b1, l1, hq, _⟩ := new36 W
                    exact ⟨_, w1', fun a ha => (by simp only [execOp, Sem.run_bind, r1, Result.andThen_ok, Sem.run_pure]), q, rfl, hW.own.below l1, fun q' e => (by cases e; exact ⟨b1, by rw [hq]; exact hW.be.size⟩), bt hW.be l1⟩
                  rintro va16 ⟨W0, q16, rfl, _⟩
                  refine AZ.seg [(13, 1, 1), (14, 0, 0), (16, 1, 1)] 0 rfl (by kernel_rfl) (sq_anti _) (by kernel_rfl) ?_
                  simp only [opsZ, List.getD_cons_zero, List.getD_cons_succ]
                  refine ZE.app (fun v W => Y15 w11 (some q16) v o.b W) rfl rfl rfl rfl (fun _ _ h => .inr h.be) (fun W hW => ?_) ?_
                  · obtain ⟨_, hq', hW⟩ := hW
                    cases hq'
                    obtain ⟨v, w', r1, o1, l1, f1⟩ := hW.own.app ((ok11.hs).below hW.be) (by have := oko.lb; simp; omega) hW.be.size 29
                    rw [List.nil_append] at o1
                    exact ⟨v, w', r1, o1, fun q' e => ⟨(hW.bl q' e).1.fx f1 (fun e2 => hW.own.neT (hW.bl q' e).1 (by decide) e2), (hW.bl q' e).2⟩, hW.be.trans l1⟩
                  rintro v100 ⟨Wx, hWx⟩
                  have hv100 : ∃ ao n c, v100 = .slice ao n c := hWx.own.has.sl
                  clear hWx
                  refine ZE.buildN [(0, .int .i64 (S.length : Int)), (1, .int .i64 (1 + c1)), (2, .int .i64 (1 + c2)), (3, v100)] rfl rfl rfl rfl sq0 (fun W => b36v _ _ _ v100 o.b hv100 W) ?_
                  refine ZE.store (fun W => Blk W q16 (Fl.cs ⟨(S.length : Int), 1 + c1, 1 + c2, v100, o.b⟩) 36 ∧ Own W w11.heap.size v100 o.b ∧ Below w11.heap.size w11 W) rfl rfl rfl (fun _ h => .inr h.2.2) (fun W hW => ?_) ?_
                  · obtain ⟨bz, hq⟩ := hW.bl q16 rfl
                    obtain ⟨w', r1, b1, f1⟩ := st36 (y := ⟨(S.length : Int), 1 + c1, 1 + c2, v100, o.b⟩) bz hv100
                    have hne := hW.own.neT bz (by decide)
                    exact ⟨w', r1, b1, hW.own.fx f1 (fun k hk e => hne (by rw [hk, e])), hW.be.trans (f1.below (fun k hk e => by omega) hW.be.size)⟩
                  refine AZ.done (by kernel_rfl) ?_
                  rintro W15 h15
                  exact EW.met q16 [0, 1, 5, 8, 9, 10, 16] rfl ⟨v100, h15.1, h15.2.1, h15.2.2⟩
              · simp only [List.getD_cons_zero, List.getD_cons_succ]
                refine ZE.eff (fun v W => ∃ q, v = .pointer (some ⟨q, 0, none⟩) ∧ Blk W q Fl.z.cs 36 ∧ w11.heap.size ≤ q ∧ Below w11.heap.size w11 W) rfl rfl (fun _ _ ⟨_, _, _, _, h⟩ => .inr h) (fun W hW => ?_) ?_
                · obtain ⟨w1', q, r1, b1, l1, hq, _⟩ := new36 W
                  exact ⟨_, w1', fun a ha => (by simp only [execOp, Sem.run_bind, r1, Result.andThen_ok, Sem.run_pure]), q, rfl, b1, (by rw [hq]; exact hW.size), bt hW l1⟩
                rintro va16 ⟨W0, q16, rfl, _, _, _⟩
                refine AZ.seg [(10, 1, 1), (13, 1, 1), (14, 0, 0), (16, 1, 1)] 0 rfl (by kernel_rfl) (sq_anti _) (by kernel_rfl) ?_
                simp only [opsZ, List.getD_cons_zero, List.getD_cons_succ]
                refine ZE.bsl [] (fun v W => Y15 w11 (some q16) v [] W) rfl rfl rfl (fun _ _ h => .inr h.be) (fun W hW => ?_) ?_
                · obtain ⟨_, hq', hW⟩ := hW
                  cases hq'
                  obtain ⟨v, w', r1, o1, l1⟩ := bsl0 W
                  exact ⟨v, w', r1, o1.weaken hW.2.2.size, fun q' e => (by cases e; exact ⟨hW.1.on l1, hW.2.1⟩), bt hW.2.2 l1⟩
                rintro v97 ⟨_, _⟩
                refine ZE.app (fun v W => Y15 w11 (some q16) v o.b W) rfl rfl rfl rfl (fun _ _ h => .inr h.be) (fun W hW => ?_) ?_
                · obtain ⟨v, w', r1, o1, l1, f1⟩ := hW.own.app ((ok11.hs).below hW.be) (by have := oko.lb; simp; omega) hW.be.size 29
                  rw [List.nil_append] at o1
                  exact ⟨v, w', r1, o1, fun q' e => ⟨(hW.bl q' e).1.fx f1 (fun e2 => hW.own.neT (hW.bl q' e).1 (by decide) e2), (hW.bl q' e).2⟩, hW.be.trans l1⟩
                rintro v100 ⟨Wx, hWx⟩
                have hv100 : ∃ ao n c, v100 = .slice ao n c := hWx.own.has.sl
                clear hWx
                refine ZE.buildN [(0, .int .i64 (S.length : Int)), (1, .int .i64 (1 + c1)), (2, .int .i64 (1 + c2)), (3, v100)] rfl rfl rfl rfl sq0 (fun W => b36v _ _ _ v100 o.b hv100 W) ?_
                refine ZE.store (fun W => Blk W q16 (Fl.cs ⟨(S.length : Int), 1 + c1, 1 + c2, v100, o.b⟩) 36 ∧ Own W w11.heap.size v100 o.b ∧ Below w11.heap.size w11 W) rfl rfl rfl (fun _ h => .inr h.2.2) (fun W hW => ?_) ?_
                · obtain ⟨bz, hq⟩ := hW.bl q16 rfl
                  obtain ⟨w', r1, b1, f1⟩ := st36 (y := ⟨(S.length : Int), 1 + c1, 1 + c2, v100, o.b⟩) bz hv100
                  have hne := hW.own.neT bz (by decide)
                  exact ⟨w', r1, b1, hW.own.fx f1 (fun k hk e => hne (by rw [hk, e])), hW.be.trans (f1.below (fun k hk e => by omega) hW.be.size)⟩
                refine AZ.done (by kernel_rfl) ?_
                rintro W15 h15
                exact EW.met q16 [0, 1, 5, 8, 9, 10, 16] rfl ⟨v100, h15.1, h15.2.1, h15.2.2⟩
            · rintro q16 wk ⟨v100, b16, own100, lk⟩
              have bgk := bg1.on lk
              have b10k := b10.on lk
              have okk := ok11.on lk
              show EW _ _ _ _ [(0, vS), (1, .bool back), (5, .pointer (some ⟨p, 0, none⟩)), (8, x.2), (9, .int .i64 (x.1 : Int)), (10, .pointer (some ⟨q10, 0, none⟩)), (16, .pointer (some ⟨q16, 0, none⟩))] _
              refine EW.seq ?_
              refine EW.ordB [(0, 0, 0), (1, 0, 0), (2, 0, 1), (3, 0, 0), (4, 0, 1), (6, 0, 0), (7, 0, 1), (5, 1, 1), (8, 1, 1), (9, 1, 0), (10, 0, 0), (11, 0, 0), (12, 0, 0), (13, 0, 0), (14, 0, 0)] (by kernel_rfl) rfl (by kernel_rfl) ?_
              simp only [opsZ, List.getD_cons_zero, List.getD_cons_succ]
              first | refine ZE.move rfl rfl rfl rfl sz0 ?_
              refine ZE.field rfl rfl rfl rfl sz0 (fun W => g36_1 q16 W) ?_
              refine ZE.load rfl rfl rfl rfl sz1 (fun W hW => ldI (b16.on (sb_of hW)) rfl) ?_
              refine ZE.field rfl rfl rfl rfl sz0 (fun W => g36_2 q16 W) ?_
              refine ZE.load rfl rfl rfl rfl sz1 (fun W hW => ldI (b16.on (sb_of hW)) rfl) ?_
              refine ZE.field rfl rfl rfl rfl sz0 (fun W => g47_4 q10 W) ?_
              refine ZE.load rfl rfl rfl rfl sz1 (fun W hW => ldS (b10k.on (sb_of hW)) rfl) ?_
              refine ZE.bsl [] (fun v W => Own W wk.heap.size v [] ∧ Below wk.heap.size wk W) rfl rfl rfl (fun _ _ h => .inr h.2) (fun W hW => ?_) ?_
              · obtain ⟨v, w', r1, o1, l1⟩ := bsl0 W
                exact ⟨v, w', r1, o1.weaken hW.size, bt hW l1⟩
              rintro v108 ⟨_, _⟩
              refine ZE.app (fun v W => Own W wk.heap.size v o.b ∧ Below wk.heap.size wk W) rfl rfl rfl rfl (fun _ _ h => .inr h.2) (fun W hW => ?_) ?_
              · obtain ⟨v, w', r1, o1, l1, f1⟩ := hW.1.app ((okk.hs).below hW.2) (by have := oko.lb; simp; omega) hW.2.size 29
                rw [List.nil_append] at o1
                exact ⟨v, w', r1, o1, hW.2.trans l1⟩
              rintro v111 ⟨_, _⟩
              refine ZE.callV [.pointer (some ⟨p, 0, none⟩), .int .i64 (1 + c1), .int .i64 (1 + c2), v111] (.tuple #[.int .i64 (S.length : Int), .int .i64 0]) (fun W => ∃ v', Nt W p r 3 1000 ((S.length : Int) + 1) (E ++ [⟨⟨(S.length : Int), 1 + c1, 1 + c2, v', o.b⟩, c⟩]) (c + 1) ∧ Fresh wk v' ∧ Fx (fun k => k = p ∨ k = r) wk W) enter9 rfl rfl rfl (fun _ _ => .inl rfl) (fun W hW => ?_) ?_
              · refine (send_any (bgk.on hW.2).nt (1 + c1) (1 + c2) v111 o.b hW.1.has (by have := oko.lb; omega) (by omega)).mono fun e w' hh => ?_
                have hle := bgk.le
                rcases hh with ⟨g, _⟩ | ⟨_, g, _⟩ | ⟨_, _, v', e1, n1, fr1, f1⟩
                · exact absurd (show isN 3 (1 + c1) ∧ isN 3 (1 + c2) from ⟨⟨by omega, by omega⟩, ⟨by omega, by omega⟩⟩) g
                · omega
                · exact ⟨e1, v', n1, fun k hk => by have := fr1 k hk; have := hW.2.size; omega, (Fx.of_below (S := fun k => k = p ∨ k = r) hW.2).and f1⟩
              first | refine ZE.move rfl rfl rfl rfl sz0 ?_
              first | refine ZE.extract rfl rfl rfl rfl sz0 (fun W => (ext_2 _ _ W).1) ?_
              first | refine ZE.extract rfl rfl rfl rfl sz0 (fun W => (ext_2 _ _ W).2) ?_
              first | refine ZE.assign rfl rfl rfl rfl sz0 ?_
              first | refine ZE.assign rfl rfl rfl rfl sz0 ?_
              rintro W16 ⟨v16', nt16, fr16, f16⟩
              refine EW.on ?_
              refine EW.seq ?_
              refine EW.seq ?_
              skip
              refine EW.region ?_
              first | refine WL.move rfl rfl rfl ?_
              refine WL.bin rfl rfl rfl rfl (int_ne_f rfl _ _ _) ?_
              first | refine WL.move rfl rfl rfl ?_
              first | refine WL.move rfl rfl rfl ?_ | refine WL.skip _ rfl rfl rfl ?_
              first | refine WL.move rfl rfl rfl ?_ | refine WL.skip _ rfl rfl rfl ?_
              refine WL.len rfl rfl rfl (bg1.len _ _) ?_
              refine WL.bin rfl rfl rfl rfl (int_ne_f rfl _ _ _) ?_
              first | refine WL.pick rfl rfl rfl rfl ?_
              refine WL.done ?_
              refine EW.on ?_
              refine EW.cond_f rfl ?_
              refine EW.skip ?_
              refine EW.on ?_
              have bg18 := bgk.push (y := ⟨(S.length : Int), 1 + c1, 1 + c2, v16', o.b⟩) rfl fr16 nt16 f16
              have b16f : Blk W16 q16 (Fl.cs ⟨(S.length : Int), 1 + c1, 1 + c2, v100, o.b⟩) 36 := b16.fx f16 (fun e => by
                rcases e with e | e
                · rw [e] at b16; exact b16.neT bgk.nt.bl (by decide) rfl
                · have h1 := bgk.nt.mp.hp
                  have h2 := b16
                  unfold Blk at h2
                  rw [← e, h2] at h1
                  cases h1)
              have own16 := own100.fx f16 (fun j hj e => by
                rcases e with e | e
                · rw [e] at hj; exact own100.neT bgk.nt.bl (by decide) hj
                · rw [e] at hj
                  exact (own100.ownM hj bgk.nt.mp.hp))
              obtain ⟨vA1, wA1, vA, wA, rA1, rA2, bgA⟩ := bg18.app ⟨⟨(S.length : Int), 1 + c1, 1 + c2, v100, o.b⟩, true⟩ rfl own16.has (by have := oko.lb; show o.b.length ≤ _; omega) (fun j hj => .inr fun e => by have := own16.ownBlock j e; have := bg1.sl.lt hj; omega) (by omega) 45
              have bgA2 := bgA.eqH (H' := hereD (S ++ [(⟨⟨(S.length : Int), 1 + c1, 1 + c2, v100, o.b⟩, true⟩ : Sn)])) (by
                rw [here_app]
                funext j
                by_cases e : j = S.length
                · rw [if_pos e, if_pos e]; rfl
                · rw [if_neg e, if_neg e])
              rw [show S.length + 1 = (S ++ [(⟨⟨(S.length : Int), 1 + c1, 1 + c2, v100, o.b⟩, true⟩ : Sn)]).length from by simp] at bgA2
              refine EW.region ?_
              first | refine WL.move rfl rfl rfl ?_
              refine WL.load rfl rfl rfl (ld36 b16f) ?_
              refine WL.buildN [(0, Fl.g ⟨(S.length : Int), 1 + c1, 1 + c2, v100, o.b⟩), (1, .bool true)] rfl rfl rfl (b44 ⟨(S.length : Int), 1 + c1, 1 + c2, v100, o.b⟩ true own16.has.sl _) ?_
              refine WL.bslN [(0, Sn.g ⟨⟨(S.length : Int), 1 + c1, 1 + c2, v100, o.b⟩, true⟩)] rfl rfl rfl rA1 ?_
              refine WL.app rfl rfl rfl rfl rA2 ?_
              first | refine WL.assign rfl rfl rfl ?_
              refine WL.done ?_
              refine pn_block ?_
              refine pn_block ?_
              refine EW.on ?_
              refine EW.region ?_
              first | refine WL.move rfl rfl rfl ?_
              refine WL.bin rfl rfl rfl rfl (int_add (c := ((x.1 + 1 : Nat) : Int)) (by rw [IntKind.wrap_i64]; omega) _ _ _) ?_
              first | refine WL.assign rfl rfl rfl ?_
              refine WL.done ?_
              exact EW.again (E := bE vS (.bool back) p) (R := bR w p r) (m := fun x => 200 - x.1) (x := x) (x.1 + 1, vA) [0, 1, 5, 8, 9] rfl ⟨by show x.1 + 1 ≤ 200; omega, S ++ [(⟨⟨(S.length : Int), 1 + c1, 1 + c2, v100, o.b⟩, true⟩ : Sn)], _, _, bgA2, by rw [List.length_append]; show S.length + 1 ≤ x.1 + 1 + 1; omega⟩ (by show 200 - (x.1 + 1) < 200 - x.1; omega)
  · refine EW.region ?_
    first | refine WL.move rfl rfl rfl ?_
    first | refine WL.move rfl rfl rfl ?_
    refine WL.len rfl rfl rfl (hS.len _ _) ?_
    refine WL.bin rfl rfl rfl rfl (int_lt_t hx1 _ _ _) ?_
    first | refine WL.move rfl rfl rfl ?_
    first | refine WL.move rfl rfl rfl ?_ | refine WL.skip _ rfl rfl rfl ?_
    refine WL.bin rfl rfl rfl rfl (int_lt_f hx2 _ _ _) ?_
    first | refine WL.pick rfl rfl rfl rfl ?_
    refine WL.done ?_
    refine EW.on ?_
    refine EW.cond_f rfl ?_
    refine EW.exit ?_
    refine px_then ?_
    refine px_then ?_
    refine px_block ?_
    refine EW.on ?_
    refine EW.seq ?_
    refine EW.seq ?_
    refine EW.region ?_
    first | refine WL.assign rfl rfl rfl ?_
    refine WL.done ?_
    refine EW.on ?_
    refine EW.block ?_
    obtain ⟨n, hn⟩ : ∃ n, S.length = n := ⟨_, rfl⟩
    have hn' : n ≤ 201 := by omega
    rw [hn] at bg
    refine EW.loop (eE (.bool back) p x.2) (eR w p r x.2 c n back) (fun i => n - i) 0 [1, 5, 8, 19] rfl ⟨Nat.zero_le _, S, E, hn, bg, fun j hj => absurd hj (Nat.not_lt_zero _)⟩ ?_
    clear bg hn hSl S E
    rintro i wj ⟨hin, S, E, hSn, bgi, hdone⟩
    show EW _ _ _ _ [(1, .bool back), (5, .pointer (some ⟨p, 0, none⟩)), (8, x.2), (19, .int .i64 (i : Int))] _
    refine EW.seq ?_
    refine EW.seq ?_
    refine EW.region ?_
    first | refine WL.move rfl rfl rfl ?_
    first | refine WL.move rfl rfl rfl ?_
    refine WL.len rfl rfl rfl (bgi.len _ _) ?_
    refine WL.bin rfl rfl rfl rfl (int_lt_d _ _ _ _ _) ?_
    refine WL.done ?_
    refine EW.on ?_
    refine EW.cond_d rfl (fun h184 => ?_) (fun h184 => ?_)
    · refine EW.skip ?_
      refine EW.on ?_
      refine EW.seq ?_
      refine EW.block ?_
      refine EW.seq ?_
      refine EW.region ?_
      first | refine WL.move rfl rfl rfl ?_
      first | refine WL.assign rfl rfl rfl ?_
      refine WL.done ?_
      refine EW.on ?_
      refine EW.seq ?_
      refine EW.seq ?_
      refine EW.region ?_
      first | refine WL.move rfl rfl rfl ?_
      refine WL.done ?_
      refine EW.on ?_
      refine EW.cond_b rfl (fun h188 => ?_) (fun h188 => ?_)
      · refine EW.region ?_
        first | refine WL.move rfl rfl rfl ?_
        refine WL.len rfl rfl rfl (bgi.len _ _) ?_
        refine WL.bin rfl rfl rfl rfl (int_sub (c := ((n - 1 : Nat) : Int)) (by rw [IntKind.wrap_i64]; omega) _ _ _) ?_
        first | refine WL.move rfl rfl rfl ?_
        refine WL.bin rfl rfl rfl rfl (int_sub (c := ((n - 1 - i : Nat) : Int)) (by rw [IntKind.wrap_i64]; omega) _ _ _) ?_
        first | refine WL.assign rfl rfl rfl ?_
        refine WL.done ?_
        refine EW.on ?_
        refine EW.seq ?_
        refine EW.region ?_
        first | refine WL.move rfl rfl rfl ?_
        first | refine WL.move rfl rfl rfl ?_
        first | refine WL.move rfl rfl rfl ?_
        refine WL.call [.pointer (some ⟨p, 0, none⟩), x.2, .int .i64 (((n - 1 - i : Nat)) : Int)] enter15 rfl rfl rfl (brought_any bgi ((n - 1 - i : Nat))) ?_
        rintro y42 w42 ⟨rfl, E42, bg42⟩
        refine ⟨_, rfl, ?_⟩
        refine WL.un rfl rfl rfl (not_b _ _) ?_
        refine WL.done ?_
        refine EW.on ?_
        refine EW.cond_f rfl ?_
        refine EW.skip ?_
        refine pn_block ?_
        refine EW.on ?_
        refine EW.region ?_
        first | refine WL.move rfl rfl rfl ?_
        refine WL.bin rfl rfl rfl rfl (int_add (c := ((i + 1 : Nat) : Int)) (by rw [IntKind.wrap_i64]; omega) _ _ _) ?_
        first | refine WL.assign rfl rfl rfl ?_
        refine WL.done ?_
        exact EW.again (E := eE (.bool back) p x.2) (R := eR w p r x.2 c n back) (m := fun i => n - i) (x := i) (i + 1) [1, 5, 8, 19] rfl ⟨by omega, _, _, by rw [clr_len]; exact hSn, bg42, fun j hj => (by
          by_cases e : j = i
          · rw [e, show pos back n i = n - 1 - i by unfold pos; rw [if_pos h188]]
            exact clr_here _ _
          · exact clr_keep (hdone j (by omega)))⟩ (by show n - (i + 1) < n - i; omega)
      · refine EW.skip ?_
        refine EW.on ?_
        refine EW.seq ?_
        refine EW.region ?_
        first | refine WL.move rfl rfl rfl ?_
        first | refine WL.move rfl rfl rfl ?_
        first | refine WL.move rfl rfl rfl ?_
        refine WL.call [.pointer (some ⟨p, 0, none⟩), x.2, .int .i64 (((i : Nat)) : Int)] enter15 rfl rfl rfl (brought_any bgi ((i : Nat))) ?_
        rintro y42 w42 ⟨rfl, E42, bg42⟩
        refine ⟨_, rfl, ?_⟩
        refine WL.un rfl rfl rfl (not_b _ _) ?_
        refine WL.done ?_
        refine EW.on ?_
        refine EW.cond_f rfl ?_
        refine EW.skip ?_
        refine pn_block ?_
        refine EW.on ?_
        refine EW.region ?_
        first | refine WL.move rfl rfl rfl ?_
        refine WL.bin rfl rfl rfl rfl (int_add (c := ((i + 1 : Nat) : Int)) (by rw [IntKind.wrap_i64]; omega) _ _ _) ?_
        first | refine WL.assign rfl rfl rfl ?_
        refine WL.done ?_
        exact EW.again (E := eE (.bool back) p x.2) (R := eR w p r x.2 c n back) (m := fun i => n - i) (x := i) (i + 1) [1, 5, 8, 19] rfl ⟨by omega, _, _, by rw [clr_len]; exact hSn, bg42, fun j hj => (by
          by_cases e : j = i
          · rw [e, show pos back n i = i by unfold pos; rw [if_neg (by rw [h188]; decide)]]
            exact clr_here _ _
          · exact clr_keep (hdone j (by omega)))⟩ (by show n - (i + 1) < n - i; omega)
    · refine EW.exit ?_
      refine px_then ?_
      refine px_then ?_
      refine px_block ?_
      refine EW.on ?_
      refine EW.seq ?_
      have hin' : i = n := by omega
      have hEn : E = [] := bgi.empty (fun k => by
        rcases Nat.lt_or_ge k n with hk | hk
        · cases hbk : back with
          | false =>
            have := hdone k (by omega)
            rw [show pos back n k = k by unfold pos; rw [if_neg (by rw [hbk]; decide)]] at this
            exact this
          | true =>
            have := hdone (n - 1 - k) (by omega)
            rw [show pos back n (n - 1 - k) = k by unfold pos; rw [if_pos hbk]; omega] at this
            exact this
        · unfold hereD
          rw [List.getElem?_eq_none (by omega)]; rfl)
      refine EW.region ?_
      first | refine WL.move rfl rfl rfl ?_
      refine WL.call [.pointer (some ⟨p, 0, none⟩)] enter11 rfl rfl rfl (flights_any bgi.nt (by rw [hEn]; show 0 ≤ _; decide)) ?_
      rintro y44 w44 ⟨v44, l44, rfl, d44, fo44, _, _, _, be44⟩
      refine ⟨_, rfl, ?_⟩
      rw [hEn] at d44
      have hl44 : l44.length = 0 := by have := congrArg List.length d44; simpa [dat] using this
      refine WL.len rfl rfl rfl (fo44.fs.len _ _) ?_
      refine WL.bin rfl rfl rfl rfl (int_eq_t (by rw [hl44]; rfl) _ _ _) ?_
      first | refine WL.move rfl rfl rfl ?_
      first | refine WL.move rfl rfl rfl ?_ | refine WL.skip _ rfl rfl rfl ?_
      refine WL.call [.pointer (some ⟨p, 0, none⟩)] enter10 rfl rfl rfl (next_any (bgi.nt.on be44)) ?_
      rintro y45 w45 ⟨rfl, hw45⟩
      refine ⟨_, rfl, ?_⟩
      rw [hw45]
      first | refine WL.move rfl rfl rfl ?_ | refine WL.skip _ rfl rfl rfl ?_
      refine WL.len rfl rfl rfl (bgi.len _ _) ?_
      refine WL.bin rfl rfl rfl rfl (int_eq_t (by rw [hSn]) _ _ _) ?_
      first | refine WL.pick rfl rfl rfl rfl ?_
      first | refine WL.assign rfl rfl rfl ?_
      refine WL.done ?_
      refine EW.on ?_
      refine EW.ret ?_
      exact EW.returns Try.results5 rfl ⟨rfl, (bgi.on be44).be⟩
  · refine EW.region ?_
    first | refine WL.move rfl rfl rfl ?_
    first | refine WL.move rfl rfl rfl ?_
    refine WL.len rfl rfl rfl (hS.len _ _) ?_
    refine WL.bin rfl rfl rfl rfl (int_lt_f hx1 _ _ _) ?_
    first | refine WL.move rfl rfl rfl ?_
    refine WL.skip _ rfl rfl rfl ?_
    refine WL.skip _ rfl rfl rfl ?_
    first | refine WL.pick rfl rfl rfl rfl ?_
    refine WL.done ?_
    refine EW.on ?_
    refine EW.cond_f rfl ?_
    refine EW.exit ?_
    refine px_then ?_
    refine px_then ?_
    refine px_block ?_
    refine EW.on ?_
    refine EW.seq ?_
    refine EW.seq ?_
    refine EW.region ?_
    first | refine WL.assign rfl rfl rfl ?_
    refine WL.done ?_
    refine EW.on ?_
    refine EW.block ?_
    obtain ⟨n, hn⟩ : ∃ n, S.length = n := ⟨_, rfl⟩
    have hn' : n ≤ 201 := by omega
    rw [hn] at bg
    refine EW.loop (eE (.bool back) p x.2) (eR w p r x.2 c n back) (fun i => n - i) 0 [1, 5, 8, 19] rfl ⟨Nat.zero_le _, S, E, hn, bg, fun j hj => absurd hj (Nat.not_lt_zero _)⟩ ?_
    clear bg hn hSl S E
    rintro i wj ⟨hin, S, E, hSn, bgi, hdone⟩
    show EW _ _ _ _ [(1, .bool back), (5, .pointer (some ⟨p, 0, none⟩)), (8, x.2), (19, .int .i64 (i : Int))] _
    refine EW.seq ?_
    refine EW.seq ?_
    refine EW.region ?_
    first | refine WL.move rfl rfl rfl ?_
    first | refine WL.move rfl rfl rfl ?_
    refine WL.len rfl rfl rfl (bgi.len _ _) ?_
    refine WL.bin rfl rfl rfl rfl (int_lt_d _ _ _ _ _) ?_
    refine WL.done ?_
    refine EW.on ?_
    refine EW.cond_d rfl (fun h184 => ?_) (fun h184 => ?_)
    · refine EW.skip ?_
      refine EW.on ?_
      refine EW.seq ?_
      refine EW.block ?_
      refine EW.seq ?_
      refine EW.region ?_
      first | refine WL.move rfl rfl rfl ?_
      first | refine WL.assign rfl rfl rfl ?_
      refine WL.done ?_
      refine EW.on ?_
      refine EW.seq ?_
      refine EW.seq ?_
      refine EW.region ?_
      first | refine WL.move rfl rfl rfl ?_
      refine WL.done ?_
      refine EW.on ?_
      refine EW.cond_b rfl (fun h188 => ?_) (fun h188 => ?_)
      · refine EW.region ?_
        first | refine WL.move rfl rfl rfl ?_
        refine WL.len rfl rfl rfl (bgi.len _ _) ?_
        refine WL.bin rfl rfl rfl rfl (int_sub (c := ((n - 1 : Nat) : Int)) (by rw [IntKind.wrap_i64]; omega) _ _ _) ?_
        first | refine WL.move rfl rfl rfl ?_
        refine WL.bin rfl rfl rfl rfl (int_sub (c := ((n - 1 - i : Nat) : Int)) (by rw [IntKind.wrap_i64]; omega) _ _ _) ?_
        first | refine WL.assign rfl rfl rfl ?_
        refine WL.done ?_
        refine EW.on ?_
        refine EW.seq ?_
        refine EW.region ?_
        first | refine WL.move rfl rfl rfl ?_
        first | refine WL.move rfl rfl rfl ?_
        first | refine WL.move rfl rfl rfl ?_
        refine WL.call [.pointer (some ⟨p, 0, none⟩), x.2, .int .i64 (((n - 1 - i : Nat)) : Int)] enter15 rfl rfl rfl (brought_any bgi ((n - 1 - i : Nat))) ?_
        rintro y42 w42 ⟨rfl, E42, bg42⟩
        refine ⟨_, rfl, ?_⟩
        refine WL.un rfl rfl rfl (not_b _ _) ?_
        refine WL.done ?_
        refine EW.on ?_
        refine EW.cond_f rfl ?_
        refine EW.skip ?_
        refine pn_block ?_
        refine EW.on ?_
        refine EW.region ?_
        first | refine WL.move rfl rfl rfl ?_
        refine WL.bin rfl rfl rfl rfl (int_add (c := ((i + 1 : Nat) : Int)) (by rw [IntKind.wrap_i64]; omega) _ _ _) ?_
        first | refine WL.assign rfl rfl rfl ?_
        refine WL.done ?_
        exact EW.again (E := eE (.bool back) p x.2) (R := eR w p r x.2 c n back) (m := fun i => n - i) (x := i) (i + 1) [1, 5, 8, 19] rfl ⟨by omega, _, _, by rw [clr_len]; exact hSn, bg42, fun j hj => (by
          by_cases e : j = i
          · rw [e, show pos back n i = n - 1 - i by unfold pos; rw [if_pos h188]]
            exact clr_here _ _
          · exact clr_keep (hdone j (by omega)))⟩ (by show n - (i + 1) < n - i; omega)
      · refine EW.skip ?_
        refine EW.on ?_
        refine EW.seq ?_
        refine EW.region ?_
        first | refine WL.move rfl rfl rfl ?_
        first | refine WL.move rfl rfl rfl ?_
        first | refine WL.move rfl rfl rfl ?_
        refine WL.call [.pointer (some ⟨p, 0, none⟩), x.2, .int .i64 (((i : Nat)) : Int)] enter15 rfl rfl rfl (brought_any bgi ((i : Nat))) ?_
        rintro y42 w42 ⟨rfl, E42, bg42⟩
        refine ⟨_, rfl, ?_⟩
        refine WL.un rfl rfl rfl (not_b _ _) ?_
        refine WL.done ?_
        refine EW.on ?_
        refine EW.cond_f rfl ?_
        refine EW.skip ?_
        refine pn_block ?_
        refine EW.on ?_
        refine EW.region ?_
        first | refine WL.move rfl rfl rfl ?_
        refine WL.bin rfl rfl rfl rfl (int_add (c := ((i + 1 : Nat) : Int)) (by rw [IntKind.wrap_i64]; omega) _ _ _) ?_
        first | refine WL.assign rfl rfl rfl ?_
        refine WL.done ?_
        exact EW.again (E := eE (.bool back) p x.2) (R := eR w p r x.2 c n back) (m := fun i => n - i) (x := i) (i + 1) [1, 5, 8, 19] rfl ⟨by omega, _, _, by rw [clr_len]; exact hSn, bg42, fun j hj => (by
          by_cases e : j = i
          · rw [e, show pos back n i = i by unfold pos; rw [if_neg (by rw [h188]; decide)]]
            exact clr_here _ _
          · exact clr_keep (hdone j (by omega)))⟩ (by show n - (i + 1) < n - i; omega)
    · refine EW.exit ?_
      refine px_then ?_
      refine px_then ?_
      refine px_block ?_
      refine EW.on ?_
      refine EW.seq ?_
      have hin' : i = n := by omega
      have hEn : E = [] := bgi.empty (fun k => by
        rcases Nat.lt_or_ge k n with hk | hk
        · cases hbk : back with
          | false =>
            have := hdone k (by omega)
            rw [show pos back n k = k by unfold pos; rw [if_neg (by rw [hbk]; decide)]] at this
            exact this
          | true =>
            have := hdone (n - 1 - k) (by omega)
            rw [show pos back n (n - 1 - k) = k by unfold pos; rw [if_pos hbk]; omega] at this
            exact this
        · unfold hereD
          rw [List.getElem?_eq_none (by omega)]; rfl)
      refine EW.region ?_
      first | refine WL.move rfl rfl rfl ?_
      refine WL.call [.pointer (some ⟨p, 0, none⟩)] enter11 rfl rfl rfl (flights_any bgi.nt (by rw [hEn]; show 0 ≤ _; decide)) ?_
      rintro y44 w44 ⟨v44, l44, rfl, d44, fo44, _, _, _, be44⟩
      refine ⟨_, rfl, ?_⟩
      rw [hEn] at d44
      have hl44 : l44.length = 0 := by have := congrArg List.length d44; simpa [dat] using this
      refine WL.len rfl rfl rfl (fo44.fs.len _ _) ?_
      refine WL.bin rfl rfl rfl rfl (int_eq_t (by rw [hl44]; rfl) _ _ _) ?_
      first | refine WL.move rfl rfl rfl ?_
      first | refine WL.move rfl rfl rfl ?_ | refine WL.skip _ rfl rfl rfl ?_
      refine WL.call [.pointer (some ⟨p, 0, none⟩)] enter10 rfl rfl rfl (next_any (bgi.nt.on be44)) ?_
      rintro y45 w45 ⟨rfl, hw45⟩
      refine ⟨_, rfl, ?_⟩
      rw [hw45]
      first | refine WL.move rfl rfl rfl ?_ | refine WL.skip _ rfl rfl rfl ?_
      refine WL.len rfl rfl rfl (bgi.len _ _) ?_
      refine WL.bin rfl rfl rfl rfl (int_eq_t (by rw [hSn]) _ _ _) ?_
      first | refine WL.pick rfl rfl rfl rfl ?_
      first | refine WL.assign rfl rfl rfl ?_
      refine WL.done ?_
      refine EW.on ?_
      refine EW.ret ?_
      exact EW.returns Try.results5 rfl ⟨rfl, (bgi.on be44).be⟩
end Go.Proofs.Ytplfelfmkgjijaa
