import Derived.Test.YtplfelfmkgjijaaNk
set_option linter.unusedVariables false
set_option linter.unusedSimpArgs false
namespace Go.Proofs.Ytplfelfmkgjijaa
open Go.RowKit

def wr (a : Int) : Int := IntKind.i64.wrap a
theorem low_fx {S : Nat → Prop} {a b : World} (h : Fx S a b) {n : Nat} (hS : ∀ k, S k → n ≤ k) (hn : n ≤ a.heap.size) : Below n a b := h.below (fun k hk e => by have := hS k e; omega) hn
theorem rep_of {n : Nat} {u : UInt8} {l : List UInt8} (hl : l.length = n) (h : ∀ t, t < n → l[t]? = some u) : l = List.replicate n u := by
  apply List.ext_getElem?
  intro t
  rcases Nat.lt_or_ge t n with ht | ht
  · rw [h t ht, List.getElem?_replicate, if_pos ht]
  · rw [List.getElem?_eq_none (by omega), List.getElem?_eq_none (by simpa using ht)]
theorem set_at {u : UInt8} {l : List UInt8} {i : Nat} (hi : i < l.length) (h : ∀ t, t < i → l[t]? = some u) : ∀ t, t < i + 1 → (l.set i u)[t]? = some u := fun t ht => by
  rw [List.getElem?_set]
  split
  · rename_i e
    first | rfl | (subst e; rw [if_pos hi]) | rw [if_pos hi]
  · exact h t (by omega)
def h0E (vb : Value) (mark : Int) (p : Nat) (vL : Value) (i : Nat) : List (Nat × Value) := [(0, vb), (1, .int .i64 mark), (5, .pointer (some ⟨p, 0, none⟩)), (7, vL), (14, .int .i64 (i : Int))]
def h0R (w10 : World) (s : Nat) (vL : Value) (n : Nat) (i : Nat) (W : World) : Prop := i ≤ n ∧ ∃ LL : List UInt8, LL.length = n + 3 ∧ Own W s vL LL ∧ Fx (fun k => vL.ownBlock = some k) w10 W
def h2E (vb : Value) (mark : Int) (p : Nat) (va vc : Value) (k : Nat) : List (Nat × Value) := [(0, vb), (1, .int .i64 mark), (5, .pointer (some ⟨p, 0, none⟩)), (15, va), (16, vc), (17, .int .i64 (k : Int))]
structure H2 (wA : World) (vc : Value) (n : Nat) (mark : Int) (k : Nat) (L : List Fl) (W : World) : Prop where
  cs : Cs W wA.heap.size vc L
  l3 : L.length = 3
  le : k ≤ 3
  bl : ∀ x ∈ L, x.b.length = n
  dn : ∀ (j : Nat) x, j < k → L[j]? = some x → x.n = mark ∧ x.b = List.replicate n (b8 (wr (mark + (j : Int))))
  be : Below wA.heap.size wA W
def h2R (wA : World) (vc : Value) (n : Nat) (mark : Int) (k : Nat) (W : World) : Prop := ∃ L, H2 wA vc n mark k L W
def h4E (vb : Value) (mark : Int) (p : Nat) (va vc : Value) (k : Nat) (i : Nat) : List (Nat × Value) := [(0, vb), (1, .int .i64 mark), (5, .pointer (some ⟨p, 0, none⟩)), (15, va), (16, vc), (17, .int .i64 (k : Int)), (18, .int .i64 (i : Int))]
def h4R (wA : World) (vc : Value) (n : Nat) (mark : Int) (k : Nat) (i : Nat) (W : World) : Prop := ∃ L x, H2 wA vc n mark k L W ∧ L[k]? = some x ∧ i ≤ n ∧ ∀ t, t < i → x.b[t]? = some (b8 (wr (mark + (k : Int))))
def h6E (vb : Value) (mark : Int) (p : Nat) (va vc : Value) (x : Nat × Value) : List (Nat × Value) := [(0, vb), (1, .int .i64 mark), (5, .pointer (some ⟨p, 0, none⟩)), (15, va), (16, vc), (19, x.2), (20, .int .i64 (x.1 : Int))]
def h6R (wM : World) (u9 : UInt8) (x : Nat × Value) (W : World) : Prop := x.1 ≤ 3 ∧ ∃ M, Mor W wM.heap.size x.2 M ∧ M.length = x.1 ∧ (∀ m ∈ M, ∃ pre, m.2 = pre ++ [u9]) ∧ Below wM.heap.size wM W
def h8E (vb : Value) (mark : Int) (p : Nat) (vc vm : Value) (q : Nat) (i : Nat) : List (Nat × Value) := [(0, vb), (1, .int .i64 mark), (5, .pointer (some ⟨p, 0, none⟩)), (16, vc), (19, vm), (22, .pointer (some ⟨q, 0, none⟩)), (23, .int .i64 (i : Int))]
def h8R (w18 : World) (s : Nat) (vF : Value) (n : Nat) (u3 : UInt8) (i : Nat) (W : World) : Prop := i ≤ n ∧ ∃ bF : List UInt8, bF.length = n ∧ Bx W s vF bF ∧ (∀ t, t < i → bF[t]? = some u3) ∧ Fx (fun k => vF.ownBlock = some k) w18 W
def hAE (mark : Int) (vc vm : Value) (k : Nat) : List (Nat × Value) := [(1, .int .i64 mark), (16, vc), (19, vm), (26, .int .i64 (k : Int))]
def hAR (w24 : World) (k : Nat) (W : World) : Prop := k ≤ 3 ∧ Below w24.heap.size w24 W
def hCE (mark : Int) (vc vm : Value) (k i : Nat) : List (Nat × Value) := [(1, .int .i64 mark), (16, vc), (19, vm), (26, .int .i64 (k : Int)), (27, .int .i64 (i : Int))]
def hCR (w24 : World) (n : Nat) (i : Nat) (W : World) : Prop := i ≤ n ∧ Below w24.heap.size w24 W
set_option maxRecDepth 100000 in
set_option maxHeartbeats 20000000 in
theorem hands_any (v0 : Value) (bs0 : List UInt8) (mark : Int) (w : World) (h0 : Has w v0 bs0) : Calls Try.prog 4 #[v0, .int .i64 mark] w fun e w' => e = .returned (.bool true) ∧ Below w.heap.size w w' := by
  obtain ⟨n0, hn0⟩ : ∃ n0, min bs0.length 40 = n0 := ⟨_, rfl⟩
  have hn40 : n0 ≤ 40 := by omega
  have hn0l : n0 ≤ bs0.length := by omega
  have hmin : min (bs0.length : Int) 40 = (n0 : Int) := by omega
  obtain ⟨B, hB⟩ : ∃ B, [1, 2] ++ bs0.take n0 = B := ⟨_, rfl⟩
  have hBl : B.length = n0 + 2 := by rw [← hB]; simp; omega
  refine calls_of_args [v0, .int .i64 mark] Try.func4 rfl 305 Try.ntmps4 (by show 2 ≤ 305; decide) ?_
  refine EW.seq ?_
  refine EW.region ?_
  first | refine WL.assign rfl rfl rfl ?_
  refine WL.done ?_
  refine EW.on ?_
  refine EW.seq ?_
  refine EW.region ?_
  refine WL.call [.int .i64 2, .int .i64 9] enter7 rfl rfl rfl (new_ok 2 9 ⟨by decide, by decide, by decide, by decide⟩ _) ?_
  rintro x1 w1 ⟨p, r, rfl, nt1, hp1, hr1, be1⟩
  refine ⟨_, rfl, ?_⟩
  have hpl := nt1.bl.lt
  have hrl := nt1.mp.ltb
  first | refine WL.move rfl rfl rfl ?_
  first | refine WL.extract rfl rfl rfl (ext_2 _ _ _).1 ?_
  first | refine WL.extract rfl rfl rfl (ext_2 _ _ _).2 ?_
  first | refine WL.assign rfl rfl rfl ?_
  first | refine WL.assign rfl rfl rfl ?_
  refine WL.done ?_
  refine EW.on ?_
  refine EW.seq ?_
  refine EW.seq ?_
  refine EW.region ?_
  first | refine WL.move rfl rfl rfl ?_
  refine WL.bin rfl rfl rfl rfl (int_ne_f rfl _ _ _) ?_
  first | refine WL.move rfl rfl rfl ?_
  first | refine WL.move rfl rfl rfl ?_ | refine WL.skip _ rfl rfl rfl ?_
  refine WL.bin rfl rfl rfl rfl (neP _ _ _ _) ?_
  first | refine WL.pick rfl rfl rfl rfl ?_
  refine WL.done ?_
  refine EW.on ?_
  refine EW.cond_f rfl ?_
  refine EW.skip ?_
  refine EW.on ?_
  refine EW.seq ?_
  refine EW.region ?_
  obtain ⟨v38, w2, r2, own2, l2⟩ := bsl2 1 2 w1
  refine WL.bslN [(0, byt 1), (1, byt 2)] rfl rfl rfl r2 ?_
  first | refine WL.move rfl rfl rfl ?_
  first | refine WL.move rfl rfl rfl ?_
  refine WL.len rfl rfl rfl (h0.len _ _) ?_
  refine WL.min rfl rfl rfl rfl (by rw [min_i, hmin]) ?_
  refine WL.sliceH rfl rfl rfl rfl (by rw [sl22]; exact h0.cutH n0 hn0l _) ?_
  have hcut : Has w2 (cutV v0 0 n0) (bs0.take n0) := by simpa using (h0.below (bt be1 l2)).cut 0 n0 (Nat.zero_le _) hn0l
  obtain ⟨vb, w3, r3, own3, l3, _⟩ := own2.app hcut (by simp; omega) l2.size 29
  rw [hB] at own3
  refine WL.app rfl rfl rfl rfl r3 ?_
  first | refine WL.assign rfl rfl rfl ?_
  refine WL.done ?_
  refine EW.on ?_
  refine EW.seq ?_
  refine EW.region ?_
  obtain ⟨v45, w4, r4, own4, l4⟩ := bsl0 w3
  refine WL.bslN [] rfl rfl rfl r4 ?_
  first | refine WL.move rfl rfl rfl ?_
  obtain ⟨v47, w5, r5, own5, l5, _⟩ := own4.app (own3.has.below l4) (by simp; omega) l4.size 29
  rw [List.nil_append] at own5
  refine WL.app rfl rfl rfl rfl r5 ?_
  obtain ⟨v48, w6, r6, own6, l6⟩ := bsl3 7 7 7 w5
  refine WL.bslN [(0, byt 7), (1, byt 7), (2, byt 7)] rfl rfl rfl r6 ?_
  have s5 : w3.heap.size ≤ w5.heap.size := by have := l4.size; have := l5.size; omega
  obtain ⟨vL, w7, r7, own7, l7, _⟩ := (own5.below l6).app own6.has (by simp; omega) (by have := l6.size; omega) 29
  refine WL.app rfl rfl rfl rfl r7 ?_
  first | refine WL.assign rfl rfl rfl ?_
  refine WL.done ?_
  refine EW.on ?_
  refine EW.seq ?_
  have b37 : Below w3.heap.size w3 w7 := l4.trans (l5.trans ((l6.mono s5).trans l7))
  have s3 := l3.size
  have s2 := l2.size
  have ob7 := own3.below b37
  have b17 : Below w1.heap.size w1 w7 := l2.trans (l3.trans (b37.mono (by omega)))
  have nt7 := nt1.on b17
  have be7 := bt be1 b17
  have s7 := b37.size
  refine EW.region ?_
  first | refine WL.move rfl rfl rfl ?_
  first | refine WL.move rfl rfl rfl ?_
  first | refine WL.move rfl rfl rfl ?_
  refine WL.len rfl rfl rfl (ob7.has.len _ _) ?_
  refine WL.sliceH rfl rfl rfl rfl (by rw [sl22]; exact own7.has.cutH B.length (by simp) _) ?_
  have hcL : Has w7 (cutV vL 0 B.length) B := by simpa using own7.has.cut 0 B.length (Nat.zero_le _) (by simp)
  refine WL.call [.pointer (some ⟨p, 0, none⟩), .int .i64 1, .int .i64 2, cutV vL 0 B.length] enter9 rfl rfl rfl (send_any nt7 1 2 _ B hcL (by omega) (by decide)) ?_
  rintro x8 w8 (⟨g, _⟩ | ⟨_, g, _⟩ | ⟨_, _, v1, rfl, nt8, fr8, f8⟩)
  · exact absurd (show isN 2 1 ∧ isN 2 2 from ⟨⟨by decide, by decide⟩, ⟨by decide, by decide⟩⟩) g
  · exact absurd g (by show ¬ (9 : Int) ≤ ((0 : Nat) : Int); decide)
  refine ⟨_, rfl, ?_⟩
  have own8 := own7.fx f8 (fun k hk e => by have := own7.ownBlock k hk; omega)
  have ob8 := ob7.fx f8 (fun k hk e => by have := ob7.ownBlock k hk; omega)
  have be8 := be7.trans (low_fx f8 (n := w.heap.size) (fun k e => by omega) be7.size)
  have s8' := f8.size
  replace nt8 : Nt w8 p r 2 9 1 [⟨⟨0, 1, 2, v1, B⟩, 0⟩] 1 := nt8
  first | refine WL.move rfl rfl rfl ?_
  first | refine WL.extract rfl rfl rfl (ext_2 _ _ _).1 ?_
  first | refine WL.extract rfl rfl rfl (ext_2 _ _ _).2 ?_
  first | refine WL.assign rfl rfl rfl ?_
  first | refine WL.assign rfl rfl rfl ?_
  refine WL.done ?_
  refine EW.on ?_
  refine EW.seq ?_
  refine EW.region ?_
  first | refine WL.move rfl rfl rfl ?_
  first | refine WL.move rfl rfl rfl ?_
  first | refine WL.move rfl rfl rfl ?_
  refine WL.len rfl rfl rfl (ob8.has.len _ _) ?_
  refine WL.sliceH rfl rfl rfl rfl (by rw [sl22]; exact own8.has.cutH B.length (by simp) _) ?_
  have hcL : Has w8 (cutV vL 0 B.length) B := by simpa using own8.has.cut 0 B.length (Nat.zero_le _) (by simp)
  refine WL.call [.pointer (some ⟨p, 0, none⟩), .int .i64 2, .int .i64 1, cutV vL 0 B.length] enter9 rfl rfl rfl (send_any nt8 2 1 _ B hcL (by omega) (by decide)) ?_
  rintro x9 w9 (⟨g, _⟩ | ⟨_, g, _⟩ | ⟨_, _, v2, rfl, nt9, fr9, f9⟩)
  · exact absurd (show isN 2 2 ∧ isN 2 1 from ⟨⟨by decide, by decide⟩, ⟨by decide, by decide⟩⟩) g
  · exact absurd g (by show ¬ (9 : Int) ≤ ((1 : Nat) : Int); decide)
  refine ⟨_, rfl, ?_⟩
  have own9 := own8.fx f9 (fun k hk e => by have := own8.ownBlock k hk; omega)
  have ob9 := ob8.fx f9 (fun k hk e => by have := ob8.ownBlock k hk; omega)
  have be9 := be8.trans (low_fx f9 (n := w.heap.size) (fun k e => by omega) be8.size)
  have s9' := f9.size
  replace nt9 : Nt w9 p r 2 9 2 [⟨⟨0, 1, 2, v1, B⟩, 0⟩, ⟨⟨1, 2, 1, v2, B⟩, 1⟩] 2 := nt9
  first | refine WL.move rfl rfl rfl ?_
  first | refine WL.extract rfl rfl rfl (ext_2 _ _ _).1 ?_
  first | refine WL.extract rfl rfl rfl (ext_2 _ _ _).2 ?_
  first | refine WL.assign rfl rfl rfl ?_
  first | refine WL.assign rfl rfl rfl ?_
  refine WL.done ?_
  refine EW.on ?_
  refine EW.seq ?_
  refine EW.region ?_
  first | refine WL.move rfl rfl rfl ?_
  refine WL.call [.pointer (some ⟨p, 0, none⟩), .int .i64 0] enter8 rfl rfl rfl (copy_any nt9 0 (by decide)) ?_
  have hlk : lkE [⟨⟨0, 1, 2, v1, B⟩, 0⟩, ⟨⟨1, 2, 1, v2, B⟩, 1⟩] 0 = some ⟨0, 1, 2, v1, B⟩ := rfl
  rintro x10 w10 (⟨g, _⟩ | ⟨x, _, g, _⟩ | ⟨x, hx, _, v3, rfl, nt10, fr10, f10⟩)
  · rw [hlk] at g; cases g
  · exact absurd g (by show ¬ (9 : Int) ≤ ((2 : Nat) : Int); decide)
  rw [hlk] at hx
  cases hx
  refine ⟨_, rfl, ?_⟩
  have own10 := own9.fx f10 (fun k hk e => by have := own9.ownBlock k hk; omega)
  have ob10 := ob9.fx f10 (fun k hk e => by have := ob9.ownBlock k hk; omega)
  have be10 := be9.trans (low_fx f10 (n := w.heap.size) (fun k e => by omega) be9.size)
  have s10' := f10.size
  obtain ⟨E3, hE3⟩ : ∃ E3, ([⟨⟨0, 1, 2, v1, B⟩, 0⟩, ⟨⟨1, 2, 1, v2, B⟩, 1⟩, ⟨⟨2, 1, 2, v3, B⟩, 2⟩] : List Me) = E3 := ⟨_, rfl⟩
  replace nt10 : Nt w10 p r 2 9 3 E3 3 := by rw [← hE3]; exact nt10
  have hdat : dat E3 = three B := by rw [← hE3]; rfl
  have hlen3 : E3.length = 3 := by rw [← hE3]; rfl
  first | refine WL.move rfl rfl rfl ?_
  first | refine WL.extract rfl rfl rfl (ext_2 _ _ _).1 ?_
  first | refine WL.extract rfl rfl rfl (ext_2 _ _ _).2 ?_
  first | refine WL.assign rfl rfl rfl ?_
  first | refine WL.assign rfl rfl rfl ?_
  refine WL.done ?_
  refine EW.on ?_
  refine EW.seq ?_
  refine EW.seq ?_
  refine EW.region ?_
  first | refine WL.move rfl rfl rfl ?_
  refine WL.bin rfl rfl rfl rfl (int_ne_f rfl _ _ _) ?_
  first | refine WL.move rfl rfl rfl ?_
  first | refine WL.move rfl rfl rfl ?_ | refine WL.skip _ rfl rfl rfl ?_
  refine WL.bin rfl rfl rfl rfl (int_ne_f rfl _ _ _) ?_
  first | refine WL.pick rfl rfl rfl rfl ?_
  first | refine WL.move rfl rfl rfl ?_
  first | refine WL.move rfl rfl rfl ?_ | refine WL.skip _ rfl rfl rfl ?_
  refine WL.bin rfl rfl rfl rfl (int_ne_f rfl _ _ _) ?_
  first | refine WL.pick rfl rfl rfl rfl ?_
  first | refine WL.move rfl rfl rfl ?_
  first | refine WL.move rfl rfl rfl ?_ | refine WL.skip _ rfl rfl rfl ?_
  refine WL.conv rfl rfl rfl own10.has.convert ?_
  first | refine WL.move rfl rfl rfl ?_ | refine WL.skip _ rfl rfl rfl ?_
  refine WL.conv rfl rfl rfl ob10.has.convert ?_
  refine WL.bin rfl rfl rfl rfl (str_cat B [7, 7, 7] (by simp; omega) _ _ _) ?_
  refine WL.bin rfl rfl rfl rfl (str_ne_f rfl _ _ _) ?_
  first | refine WL.pick rfl rfl rfl rfl ?_
  refine WL.done ?_
  refine EW.on ?_
  refine EW.cond_f rfl ?_
  refine EW.skip ?_
  refine EW.on ?_
  refine EW.seq ?_
  refine EW.seq ?_
  refine EW.region ?_
  first | refine WL.assign rfl rfl rfl ?_
  refine WL.done ?_
  refine EW.on ?_
  refine EW.block ?_
  refine EW.loop (h0E vb mark p vL) (h0R w10 w3.heap.size vL B.length) (fun i => B.length - i) 0 [0, 1, 5, 7, 14] rfl ⟨Nat.zero_le _, _, by simp, own10, Fx.refl _ _⟩ ?_
  rintro i wi ⟨hi1, LL, hLL, ownW, fW⟩
  show EW _ _ _ _ [(0, vb), (1, .int .i64 mark), (5, .pointer (some ⟨p, 0, none⟩)), (7, vL), (14, .int .i64 (i : Int))] _
  refine EW.seq ?_
  refine EW.seq ?_
  refine EW.region ?_
  first | refine WL.move rfl rfl rfl ?_
  first | refine WL.move rfl rfl rfl ?_
  refine WL.len rfl rfl rfl (ob10.has.len _ _) ?_
  refine WL.bin rfl rfl rfl rfl (int_lt_d _ _ _ _ _) ?_
  refine WL.done ?_
  refine EW.on ?_
  refine EW.cond_d rfl (fun h94 => ?_) (fun h94 => ?_)
  · refine EW.skip ?_
    refine EW.on ?_
    refine EW.seq ?_
    refine EW.block ?_
    obtain ⟨ad, w', ix, st, own', f'⟩ := ownW.setAt (i := i) (by omega) (b8 mark)
    refine EW.region ?_
    first | refine WL.move rfl rfl rfl ?_
    first | refine WL.move rfl rfl rfl ?_
    first | refine WL.move rfl rfl rfl ?_
    refine WL.conv rfl rfl rfl (cv5 _ _) ?_
    refine WL.index rfl rfl rfl rfl (ix _) ?_
    refine WL.store rfl rfl rfl st ?_
    refine WL.done ?_
    refine pn_block ?_
    refine EW.on ?_
    refine EW.region ?_
    first | refine WL.move rfl rfl rfl ?_
    refine WL.bin rfl rfl rfl rfl (int_add (c := ((i + 1 : Nat) : Int)) (by rw [IntKind.wrap_i64]; omega) _ _ _) ?_
    first | refine WL.assign rfl rfl rfl ?_
    refine WL.done ?_
    exact EW.again (E := h0E vb mark p vL) (R := h0R w10 w3.heap.size vL B.length) (m := fun i => B.length - i) (x := i) (i + 1) [0, 1, 5, 7, 14] rfl ⟨by omega, _, by rw [List.length_set]; exact hLL, own', fW.and f'⟩ (by show B.length - (i + 1) < B.length - i; omega)
  · refine EW.exit ?_
    refine px_then ?_
    refine px_then ?_
    refine px_block ?_
    refine EW.on ?_
    refine EW.seq ?_
    have hSv : ∀ k, vL.ownBlock = some k → w3.heap.size ≤ k ∧ k < w7.heap.size := fun k hk => ⟨own7.ownBlock k hk, own7.lt hk⟩
    have obi := ob10.fx fW (fun k hk e => by have := hSv k e; have := own3.lt hk; omega)
    have nti := nt10.fx fW (fun e => by have := hSv _ e; omega) (fun e => by have := hSv _ e; omega) (fun m hm k hk => by
      have h1 := hSv k hk
      rw [← hE3] at hm
      simp only [List.mem_cons, List.not_mem_nil, or_false] at hm
      rcases hm with rfl | rfl | rfl
      · exact .inr fun e => by have := fr8 k e; omega
      · exact .inr fun e => by have := fr9 k e; omega
      · exact .inr fun e => by have := fr10 k e; omega)
    have bei := be10.trans (low_fx fW (n := w.heap.size) (fun k e => by have := hSv k e; have := be1.size; omega) be10.size)
    have szi : w1.heap.size ≤ wi.heap.size := by have := fW.size; omega
    refine EW.region ?_
    first | refine WL.move rfl rfl rfl ?_
    refine WL.call [.pointer (some ⟨p, 0, none⟩)] enter11 rfl rfl rfl (flights_any nti (by omega)) ?_
    rintro x15 wA ⟨va, la, rfl, da, foa, owa, bxa, apa, bea⟩
    refine ⟨_, rfl, ?_⟩
    have ntA := nti.on bea
    have obA := obi.below bea
    have szA := bea.size
    have flA : Fls wA w1.heap.size va la := ⟨foa, fun b hb => by have := owa b hb; omega, fun x hx => (bxa x hx).1.weaken (by omega)⟩
    have beA := bei.trans (bea.mono bei.size)
    first | refine WL.assign rfl rfl rfl ?_
    refine WL.done ?_
    refine EW.on ?_
    refine EW.seq ?_
    refine EW.region ?_
    first | refine WL.move rfl rfl rfl ?_
    refine WL.call [.pointer (some ⟨p, 0, none⟩)] enter11 rfl rfl rfl (flights_any ntA (by omega)) ?_
    rintro x16 w16 ⟨vc, lc, rfl, dc, foc, owc, bxc, apc, bec⟩
    refine ⟨_, rfl, ?_⟩
    have csC : Cs w16 wA.heap.size vc lc := ⟨⟨foc, owc, fun x hx => (bxc x hx).1⟩, fun x hx => (bxc x hx).2, apc⟩
    rw [hdat] at da dc
    have hla : la.length = 3 := by have := congrArg List.length da; simpa [three] using this
    have hlc : lc.length = 3 := by have := congrArg List.length dc; simpa [three] using this
    have hbl : ∀ x ∈ lc, x.b.length = B.length := fun x hx => by
      have h1 : x.d ∈ three B := by rw [← dc]; exact List.mem_map.2 ⟨x, hx, rfl⟩
      have h2 : x.b = B := by
        simp only [three, Fl.d, List.mem_cons, Prod.mk.injEq, List.not_mem_nil, or_false] at h1
        rcases h1 with h1 | h1 | h1 <;> exact h1.2.2.2
      rw [h2]
    first | refine WL.assign rfl rfl rfl ?_
    refine WL.done ?_
    refine EW.on ?_
    refine EW.seq ?_
    refine EW.seq ?_
    refine EW.region ?_
    first | refine WL.move rfl rfl rfl ?_
    refine WL.len rfl rfl rfl (foa.fs.len _ _) ?_
    refine WL.bin rfl rfl rfl rfl (int_ne_f (by rw [hla]; rfl) _ _ _) ?_
    first | refine WL.move rfl rfl rfl ?_
    first | refine WL.move rfl rfl rfl ?_ | refine WL.skip _ rfl rfl rfl ?_
    refine WL.len rfl rfl rfl (foc.fs.len _ _) ?_
    refine WL.bin rfl rfl rfl rfl (int_ne_f (by rw [hlc]; rfl) _ _ _) ?_
    first | refine WL.pick rfl rfl rfl rfl ?_
    refine WL.done ?_
    refine EW.on ?_
    refine EW.cond_f rfl ?_
    refine EW.skip ?_
    refine EW.on ?_
    refine EW.seq ?_
    refine EW.seq ?_
    refine EW.region ?_
    first | refine WL.assign rfl rfl rfl ?_
    refine WL.done ?_
    refine EW.on ?_
    refine EW.block ?_
    refine EW.loop (h2E vb mark p va vc) (h2R wA vc B.length mark) (fun k => 3 - k) 0 [0, 1, 5, 15, 16, 17] rfl ⟨lc, csC, hlc, Nat.zero_le _, hbl, fun j x hj => absurd hj (Nat.not_lt_zero _), bec⟩ ?_
    rintro k wk ⟨L, H⟩
    have hk3 := H.le
    show EW _ _ _ _ [(0, vb), (1, .int .i64 mark), (5, .pointer (some ⟨p, 0, none⟩)), (15, va), (16, vc), (17, .int .i64 (k : Int))] _
    refine EW.seq ?_
    refine EW.seq ?_
    refine EW.region ?_
    first | refine WL.move rfl rfl rfl ?_
    refine WL.bin rfl rfl rfl rfl (int_lt_d _ _ _ _ _) ?_
    refine WL.done ?_
    refine EW.on ?_
    refine EW.cond_d rfl (fun h115 => ?_) (fun h115 => ?_)
    · refine EW.skip ?_
      refine EW.on ?_
      refine EW.seq ?_
      refine EW.block ?_
      refine EW.seq ?_
      refine EW.seq ?_
      refine EW.region ?_
      first | refine WL.assign rfl rfl rfl ?_
      refine WL.done ?_
      refine EW.on ?_
      refine EW.block ?_
      obtain ⟨x0, hx0⟩ : ∃ x, L[k]? = some x := ⟨_, List.getElem?_eq_getElem (by have := H.l3; omega)⟩
      refine EW.loop (h4E vb mark p va vc k) (h4R wA vc B.length mark k) (fun i => B.length - i) 0 [0, 1, 5, 15, 16, 17, 18] rfl ⟨L, x0, H, hx0, Nat.zero_le _, fun t ht => absurd ht (Nat.not_lt_zero _)⟩ ?_
      clear hx0 x0 H L wk
      rintro i wj ⟨L, x, H, hx, hin, hpre⟩
      have hxl := H.bl x (List.mem_of_getElem? hx)
      obtain ⟨ad, ix, lx⟩ := H.cs.fl.fo.fs.get hx
      show EW _ _ _ _ [(0, vb), (1, .int .i64 mark), (5, .pointer (some ⟨p, 0, none⟩)), (15, va), (16, vc), (17, .int .i64 (k : Int)), (18, .int .i64 (i : Int))] _
      refine EW.seq ?_
      refine EW.seq ?_
      refine EW.region ?_
      first | refine WL.move rfl rfl rfl ?_
      first | refine WL.move rfl rfl rfl ?_
      first | refine WL.move rfl rfl rfl ?_
      refine WL.index rfl rfl rfl rfl (ix _) ?_
      refine WL.field rfl rfl rfl (f36_3 ad _) ?_
      refine WL.load rfl rfl rfl (lx _ H.cs.fl.fo.fs).2.2 ?_
      refine WL.len rfl rfl rfl ((H.cs.fl.bx x (List.mem_of_getElem? hx)).has.len _ _) ?_
      refine WL.bin rfl rfl rfl rfl (int_lt_d _ _ _ _ _) ?_
      refine WL.done ?_
      refine EW.on ?_
      refine EW.cond_d rfl (fun h125 => ?_) (fun h125 => ?_)
      · refine EW.skip ?_
        refine EW.on ?_
        refine EW.seq ?_
        refine EW.block ?_
        obtain ⟨ad5, w', ix5, st5', cs', f'⟩ := H.cs.setB hx (t := i) (by omega) (b8 (wr (mark + (k : Int))))
        have H5 : H2 wA vc B.length mark k (L.set k { x with b := x.b.set i (b8 (wr (mark + (k : Int)))) }) w' := by
          refine ⟨cs', by rw [List.length_set]; exact H.l3, H.le, fun y hy => ?_, fun j y hj hy => ?_, H.be.trans (f'.below (fun b hb e => by omega) H.be.size)⟩
          · rcases List.mem_or_eq_of_mem_set hy with hy | rfl
            · exact H.bl y hy
            · show (x.b.set i _).length = _
              rw [List.length_set]; exact hxl
          · rw [List.getElem?_set, if_neg (by omega)] at hy
            exact H.dn j y hj hy
        refine EW.region ?_
        first | refine WL.move rfl rfl rfl ?_
        first | refine WL.move rfl rfl rfl ?_
        refine WL.index rfl rfl rfl rfl (ix _) ?_
        refine WL.field rfl rfl rfl (f36_3 ad _) ?_
        refine WL.load rfl rfl rfl (lx _ H.cs.fl.fo.fs).2.2 ?_
        first | refine WL.move rfl rfl rfl ?_
        first | refine WL.move rfl rfl rfl ?_
        first | refine WL.move rfl rfl rfl ?_
        refine WL.bin rfl rfl rfl rfl (int_add (c := wr (mark + (k : Int))) rfl _ _ _) ?_
        refine WL.conv rfl rfl rfl (cv5 _ _) ?_
        refine WL.index rfl rfl rfl rfl (ix5 _) ?_
        refine WL.store rfl rfl rfl st5' ?_
        refine WL.done ?_
        refine pn_block ?_
        refine EW.on ?_
        refine EW.region ?_
        first | refine WL.move rfl rfl rfl ?_
        refine WL.bin rfl rfl rfl rfl (int_add (c := ((i + 1 : Nat) : Int)) (by rw [IntKind.wrap_i64]; omega) _ _ _) ?_
        first | refine WL.assign rfl rfl rfl ?_
        refine WL.done ?_
        exact EW.again (E := h4E vb mark p va vc k) (R := h4R wA vc B.length mark k) (m := fun i => B.length - i) (x := i) (i + 1) [0, 1, 5, 15, 16, 17, 18] rfl ⟨_, _, H5, List.getElem?_set_self (by have := H.l3; omega), by omega, set_at (by omega) hpre⟩ (by show B.length - (i + 1) < B.length - i; omega)
      · refine EW.exit ?_
        refine px_then ?_
        refine px_then ?_
        refine px_block ?_
        refine EW.on ?_
        have hxb := rep_of hxl (fun t ht => hpre t (by omega))
        obtain ⟨ad6, w6', ix6, st6, cs6, f6'⟩ := H.cs.setN hx mark
        have H6 : H2 wA vc B.length mark (k + 1) (L.set k { x with n := mark }) w6' := by
          refine ⟨cs6, by rw [List.length_set]; exact H.l3, by omega, fun y hy => ?_, fun j y hj hy => ?_, H.be.trans (f6'.below (fun b hb e => by omega) H.be.size)⟩
          · rcases List.mem_or_eq_of_mem_set hy with hy | rfl
            · exact H.bl y hy
            · exact hxl
          · rw [List.getElem?_set] at hy
            split at hy
            · rename_i e
              split at hy
              · cases hy
                subst e
                exact ⟨rfl, hxb⟩
              · cases hy
            · exact H.dn j y (by omega) hy
        refine EW.region ?_
        first | refine WL.move rfl rfl rfl ?_
        first | refine WL.move rfl rfl rfl ?_
        first | refine WL.move rfl rfl rfl ?_
        refine WL.index rfl rfl rfl rfl (ix6 _) ?_
        refine WL.field rfl rfl rfl (f36_0 ad6 _) ?_
        refine WL.store rfl rfl rfl st6 ?_
        refine WL.done ?_
        refine pn_block ?_
        refine EW.on ?_
        refine EW.region ?_
        first | refine WL.move rfl rfl rfl ?_
        refine WL.bin rfl rfl rfl rfl (int_add (c := ((k + 1 : Nat) : Int)) (by rw [IntKind.wrap_i64]; omega) _ _ _) ?_
        first | refine WL.assign rfl rfl rfl ?_
        refine WL.done ?_
        exact EW.again (E := h2E vb mark p va vc) (R := h2R wA vc B.length mark) (m := fun k => 3 - k) (x := k) (k + 1) [0, 1, 5, 15, 16, 17] rfl ⟨_, H6⟩ (by show 3 - (k + 1) < 3 - k; omega)
    · refine EW.exit ?_
      refine px_then ?_
      refine px_then ?_
      refine px_block ?_
      refine EW.on ?_
      refine EW.seq ?_
      have hk3' : k = 3 := by omega
      subst hk3'
      obtain ⟨wM, hwM⟩ : ∃ wM, wk = wM := ⟨_, rfl⟩
      rw [hwM] at H ⊢
      have szM := H.be.size
      refine EW.region ?_
      first | refine WL.assign rfl rfl rfl ?_
      refine WL.done ?_
      refine EW.on ?_
      refine EW.seq ?_
      refine EW.seq ?_
      refine EW.region ?_
      first | refine WL.assign rfl rfl rfl ?_
      refine WL.done ?_
      refine EW.on ?_
      refine EW.block ?_
      refine EW.loop (h6E vb mark p va vc) (h6R wM (b8 (wr (mark + 9)))) (fun x => 3 - x.1) (0, .slice none 0 0) [0, 1, 5, 15, 16, 19, 20] rfl ⟨Nat.zero_le _, [], Mor.nil _ _, rfl, fun m hm => (by cases hm), Below.refl _ _⟩ ?_
      rintro x wi6 ⟨hx3, M, mor, hMl, hM9, be6⟩
      show EW _ _ _ _ [(0, vb), (1, .int .i64 mark), (5, .pointer (some ⟨p, 0, none⟩)), (15, va), (16, vc), (19, x.2), (20, .int .i64 (x.1 : Int))] _
      refine EW.seq ?_
      refine EW.seq ?_
      refine EW.region ?_
      first | refine WL.move rfl rfl rfl ?_
      refine WL.bin rfl rfl rfl rfl (int_lt_d _ _ _ _ _) ?_
      refine WL.done ?_
      refine EW.on ?_
      refine EW.cond_d rfl (fun h145 => ?_) (fun h145 => ?_)
      · refine EW.skip ?_
        refine EW.on ?_
        refine EW.seq ?_
        refine EW.block ?_
        obtain ⟨y, hy⟩ : ∃ y, L[x.1]? = some y := ⟨_, List.getElem?_eq_getElem (by have := H.l3; omega)⟩
        have hyl := H.bl y (List.mem_of_getElem? hy)
        obtain ⟨ad, ix, lx⟩ := H.cs.fl.fo.fs.get hy
        obtain ⟨v1', w1', r1', o1, l1'⟩ := new1 (b8 (wr (mark + 9))) wi6
        obtain ⟨v2', w2', r2', o2, l2'⟩ := (((H.cs.fl.bx y (List.mem_of_getElem? hy)).below be6).below l1').grow o1.has (by show 0 < 1; decide) (by show y.b.length + 1 ≤ 1000000; omega) 29
        have s6 := be6.size
        have s1' := l1'.size
        have s2' := l2'.size
        obtain ⟨v3', w3', v4', w4', r3', r4', m4, l4'⟩ := ((mor.on l1').on l2').push (by omega) (o2.weaken (by omega)) (by omega) 37
        have b6' : Below wM.heap.size wM w4' := be6.trans ((l1'.mono s6).trans ((l2'.mono (by omega)).trans l4'))
        refine EW.region ?_
        first | refine WL.move rfl rfl rfl ?_
        first | refine WL.move rfl rfl rfl ?_
        first | refine WL.move rfl rfl rfl ?_
        refine WL.index rfl rfl rfl rfl (ix _) ?_
        refine WL.field rfl rfl rfl (f36_3 ad _) ?_
        refine WL.load rfl rfl rfl (lx _ (H.cs.fl.fo.on be6).fs).2.2 ?_
        first | refine WL.move rfl rfl rfl ?_
        refine WL.bin rfl rfl rfl rfl (int_add (c := wr (mark + 9)) rfl _ _ _) ?_
        refine WL.conv rfl rfl rfl (cv5 _ _) ?_
        refine WL.bslN [(0, byt (b8 (wr (mark + 9))))] rfl rfl rfl r1' ?_
        refine WL.app rfl rfl rfl rfl r2' ?_
        refine WL.bslN [(0, v2')] rfl rfl rfl r3' ?_
        refine WL.app rfl rfl rfl rfl r4' ?_
        first | refine WL.assign rfl rfl rfl ?_
        refine WL.done ?_
        refine pn_block ?_
        refine EW.on ?_
        refine EW.region ?_
        first | refine WL.move rfl rfl rfl ?_
        refine WL.bin rfl rfl rfl rfl (int_add (c := ((x.1 + 1 : Nat) : Int)) (by rw [IntKind.wrap_i64]; omega) _ _ _) ?_
        first | refine WL.assign rfl rfl rfl ?_
        refine WL.done ?_
        exact EW.again (E := h6E vb mark p va vc) (R := h6R wM (b8 (wr (mark + 9)))) (m := fun x => 3 - x.1) (x := x) (x.1 + 1, v4') [0, 1, 5, 15, 16, 19, 20] rfl ⟨by show x.1 + 1 ≤ 3; omega, _, m4, by rw [List.length_append, hMl]; rfl, fun m hm => (by
          rcases List.mem_append.1 hm with hm | hm
          · exact hM9 m hm
          · rw [List.mem_singleton.1 hm]; exact ⟨_, rfl⟩), b6'⟩ (by show 3 - (x.1 + 1) < 3 - x.1; omega)
      · refine EW.exit ?_
        refine px_then ?_
        refine px_then ?_
        refine px_block ?_
        refine EW.on ?_
        refine EW.seq ?_
        refine EW.seq ?_
        have hMx : x.1 = 3 := by omega
        have bAM : Below wA.heap.size wA wi6 := H.be.trans (be6.mono (by omega))
        refine EW.region ?_
        first | refine WL.move rfl rfl rfl ?_
        first | refine WL.move rfl rfl rfl ?_
        refine WL.call [va, vb] enter13 rfl rfl rfl (right_yes va vb la B _ (flA.on bAM).fo.fs (fun x hx => ((flA.on bAM).bx x hx).has) (obA.below bAM).has da) ?_
        rintro x32 w32 ⟨rfl, l32⟩
        refine ⟨_, rfl, ?_⟩
        have bA32 : Below wA.heap.size wA w32 := bt bAM l32
        have nt32 := ntA.on bA32
        refine WL.un rfl rfl rfl (not_b _ _) ?_
        refine WL.done ?_
        refine EW.on ?_
        refine EW.cond_f rfl ?_
        refine EW.skip ?_
        refine EW.on ?_
        refine EW.seq ?_
        refine EW.region ?_
        first | refine WL.move rfl rfl rfl ?_
        refine WL.call [.pointer (some ⟨p, 0, none⟩)] enter11 rfl rfl rfl (flights_any nt32 (by omega)) ?_
        rintro x34 w14 ⟨vd, ld, rfl, dd, fod, owd, bxd, apd, bed⟩
        refine ⟨_, rfl, ?_⟩
        rw [hdat] at dd
        have bA14 : Below wA.heap.size wA w14 := bt bA32 bed
        have sz14 : w1.heap.size ≤ w14.heap.size := by have := bA14.size; omega
        have flD : Fls w14 w1.heap.size vd ld := ⟨fod, fun b hb => by have := owd b hb; have := bA32.size; omega, fun x hx => (bxd x hx).1.weaken (by have := bA32.size; omega)⟩
        have nt14 := nt32.on bed
        have be14 := beA.trans (bA14.mono beA.size)
        first | refine WL.assign rfl rfl rfl ?_
        refine WL.done ?_
        refine EW.on ?_
        refine EW.seq ?_
        refine EW.region ?_
        first | refine WL.move rfl rfl rfl ?_
        refine WL.call [.pointer (some ⟨p, 0, none⟩), .int .i64 0] enter14 rfl rfl rfl (deliver_any nt14 0) ?_
        have hlk0 : lkE E3 0 = some ⟨0, 1, 2, v1, B⟩ := by rw [← hE3]; rfl
        rintro x35 w15 (⟨g, _⟩ | ⟨x, vF, hx, rfl, bxF, nt15, f15⟩)
        · rw [hlk0] at g; cases g
        rw [hlk0] at hx
        cases hx
        refine ⟨_, rfl, ?_⟩
        obtain ⟨q22, w15a, w16', ra, rs, b22, l16, hq22⟩ := newF w15 ⟨0, 1, 2, vF, B⟩ (sh_of bxF.has)
        have F14 : Fx (fun k => k = r) w14 w16' := f15.then_below l16
        have flD16 := flD.fx F14 (fun k e => by omega)
        have flA16 := (flA.on bA14).fx F14 (fun k e => by omega)
        have ob16 := (obA.below bA14).fx F14 (fun k hk e => by have := obA.ownBlock k hk; omega)
        have sz15 := f15.size
        have be16 := (be14.trans (low_fx f15 (n := w.heap.size) (fun k e => by omega) be14.size)).trans (l16.mono (by have := be14.size; omega))
        first | refine WL.move rfl rfl rfl ?_
        first | refine WL.extract rfl rfl rfl (ext_2 _ _ _).1 ?_
        first | refine WL.extract rfl rfl rfl (ext_2 _ _ _).2 ?_
        refine WL.new rfl rfl ra ?_
        refine WL.store rfl rfl rfl rs ?_
        first | refine WL.assign rfl rfl rfl ?_
        refine WL.done ?_
        refine EW.on ?_
        refine EW.seq ?_
        refine EW.seq ?_
        refine EW.region ?_
        first | refine WL.move rfl rfl rfl ?_
        refine WL.bin rfl rfl rfl rfl (int_ne_f rfl _ _ _) ?_
        first | refine WL.move rfl rfl rfl ?_
        refine WL.field rfl rfl rfl (g36_3 q22 _) ?_
        refine WL.load rfl rfl rfl (ldS b22 rfl) ?_
        refine WL.conv rfl rfl rfl (bxF.has.below l16).convert ?_
        first | refine WL.move rfl rfl rfl ?_ | refine WL.skip _ rfl rfl rfl ?_
        refine WL.conv rfl rfl rfl ob16.has.convert ?_
        refine WL.bin rfl rfl rfl rfl (str_ne_f rfl _ _ _) ?_
        first | refine WL.pick rfl rfl rfl rfl ?_
        first | refine WL.move rfl rfl rfl ?_
        first | refine WL.move rfl rfl rfl ?_ | refine WL.skip _ rfl rfl rfl ?_
        first | refine WL.move rfl rfl rfl ?_ | refine WL.skip _ rfl rfl rfl ?_
        refine WL.call [vd, vb] enter13 rfl rfl rfl (right_yes vd vb ld B _ flD16.fo.fs (fun x hx => (flD16.bx x hx).has) ob16.has dd) ?_
        rintro x36 w17 ⟨rfl, l17⟩
        refine ⟨_, rfl, ?_⟩
        refine WL.un rfl rfl rfl (not_b _ _) ?_
        first | refine WL.pick rfl rfl rfl rfl ?_
        first | refine WL.move rfl rfl rfl ?_
        first | refine WL.move rfl rfl rfl ?_ | refine WL.skip _ rfl rfl rfl ?_
        first | refine WL.move rfl rfl rfl ?_ | refine WL.skip _ rfl rfl rfl ?_
        refine WL.call [va, vb] enter13 rfl rfl rfl (right_yes va vb la B _ (flA16.on l17).fo.fs (fun x hx => ((flA16.on l17).bx x hx).has) (ob16.below l17).has da) ?_
        rintro x37 w18 ⟨rfl, l18⟩
        refine ⟨_, rfl, ?_⟩
        refine WL.un rfl rfl rfl (not_b _ _) ?_
        first | refine WL.pick rfl rfl rfl rfl ?_
        refine WL.done ?_
        refine EW.on ?_
        refine EW.cond_f rfl ?_
        refine EW.skip ?_
        refine EW.on ?_
        refine EW.seq ?_
        refine EW.seq ?_
        refine EW.region ?_
        first | refine WL.assign rfl rfl rfl ?_
        refine WL.done ?_
        refine EW.on ?_
        refine EW.block ?_
        refine EW.loop (h8E vb mark p vc x.2 q22) (h8R w18 w14.heap.size vF B.length (b8 (wr (mark + 3)))) (fun i => B.length - i) 0 [0, 1, 5, 16, 19, 22, 23] rfl ⟨Nat.zero_le _, B, rfl, ((bxF.below l16).below l17).below l18, fun t ht => absurd ht (Nat.not_lt_zero _), Fx.refl _ _⟩ ?_
        rintro i wi8 ⟨hi8, bF, hbF, bxi, hpre, f8'⟩
        have b22i : Blk wi8 q22 (Fl.cs ⟨0, 1, 2, vF, B⟩) 36 := ((b22.on l17).on l18).fx f8' (fun e => by have := bxF.lt e; omega)
        show EW _ _ _ _ [(0, vb), (1, .int .i64 mark), (5, .pointer (some ⟨p, 0, none⟩)), (16, vc), (19, x.2), (22, .pointer (some ⟨q22, 0, none⟩)), (23, .int .i64 (i : Int))] _
        refine EW.seq ?_
        refine EW.seq ?_
        refine EW.region ?_
        first | refine WL.move rfl rfl rfl ?_
        refine WL.field rfl rfl rfl (g36_3 q22 _) ?_
        refine WL.load rfl rfl rfl (ldS b22i rfl) ?_
        refine WL.len rfl rfl rfl (bxi.has.len _ _) ?_
        refine WL.bin rfl rfl rfl rfl (int_lt_d _ _ _ _ _) ?_
        refine WL.done ?_
        refine EW.on ?_
        refine EW.cond_d rfl (fun h198 => ?_) (fun h198 => ?_)
        · refine EW.skip ?_
          refine EW.on ?_
          refine EW.seq ?_
          refine EW.block ?_
          obtain ⟨ad, w', ix, st, bx', f'⟩ := bxi.setAt (i := i) (by omega) (b8 (wr (mark + 3)))
          refine EW.region ?_
          refine WL.field rfl rfl rfl (g36_3 q22 _) ?_
          refine WL.load rfl rfl rfl (ldS b22i rfl) ?_
          first | refine WL.move rfl rfl rfl ?_
          first | refine WL.move rfl rfl rfl ?_
          refine WL.bin rfl rfl rfl rfl (int_add (c := wr (mark + 3)) rfl _ _ _) ?_
          refine WL.conv rfl rfl rfl (cv5 _ _) ?_
          refine WL.index rfl rfl rfl rfl (ix _) ?_
          refine WL.store rfl rfl rfl st ?_
          refine WL.done ?_
          refine pn_block ?_
          refine EW.on ?_
          refine EW.region ?_
          first | refine WL.move rfl rfl rfl ?_
          refine WL.bin rfl rfl rfl rfl (int_add (c := ((i + 1 : Nat) : Int)) (by rw [IntKind.wrap_i64]; omega) _ _ _) ?_
          first | refine WL.assign rfl rfl rfl ?_
          refine WL.done ?_
          exact EW.again (E := h8E vb mark p vc x.2 q22) (R := h8R w18 w14.heap.size vF B.length (b8 (wr (mark + 3)))) (m := fun i => B.length - i) (x := i) (i + 1) [0, 1, 5, 16, 19, 22, 23] rfl ⟨by omega, _, by rw [List.length_set]; exact hbF, bx', set_at (by omega) hpre, f8'.and f'⟩ (by show B.length - (i + 1) < B.length - i; omega)
        · refine EW.exit ?_
          refine px_then ?_
          refine px_then ?_
          refine px_block ?_
          refine EW.on ?_
          refine EW.seq ?_
          have hbFr : bF = List.replicate B.length (b8 (wr (mark + 3))) := rep_of hbF (fun t ht => hpre t (by omega))
          subst hbFr
          obtain ⟨vb1, wb1, rb1, ob1, lb1⟩ := new1 (b8 (wr (mark + 4))) wi8
          obtain ⟨vG, w20, rb2, own20, lb2⟩ := (bxi.below lb1).grow ob1.has (by show 0 < 1; decide) (by simp; omega) 29
          obtain ⟨aoG, cG, hvG⟩ := own20.slice
          obtain ⟨w21, rb3, b22g, f21⟩ := stS ((b22i.on lb1).on lb2) (j := 3) (by show 3 < 4; decide) aoG _ cG
          rw [← hvG] at rb3 b22g
          replace b22g : Blk w21 q22 (Fl.cs ⟨0, 1, 2, vG, List.replicate B.length (b8 (wr (mark + 3))) ++ [b8 (wr (mark + 4))]⟩) 36 := b22g
          have szw1 := lb1.size
          have szw2 := lb2.size
          have szw8 := f8'.size
          have szw16 := l16.size
          have szw17 := l17.size
          have szw18 := l18.size
          have szw21 := f21.size
          have hq22l := b22.lt
          have kF : ∀ k, vF.ownBlock = some k → w14.heap.size ≤ k := fun k hk => bxF.ownBlock k hk
          have own21 := own20.fx f21 (fun k hk e => by have e' : k = q22 := e; have := own20.ownBlock k hk; omega)
          have nt18 := ((nt15.on l16).on l17).on l18
          have nti8 := nt18.fx f8' (fun e => by have := kF _ e; omega) (fun e => by have := kF _ e; omega) (fun m hm k hk => by
            have h1 := kF k hk
            have h2 : m ∈ E3 := (List.filter_sublist (l := E3)).subset hm
            by_cases e2 : m.x.v.ownBlock = some k
            · rcases (nt14.hs m h2).blk e2 with e3 | e3
              · exact .inl e3
              · omega
            · exact .inr e2)
          have nt20 := (nti8.on lb1).on lb2
          have nt21 := nt20.fx f21 (fun e => by have e' : p = q22 := e; omega) (fun e => by have e' : r = q22 := e; omega) (fun m hm k hk => by
            have e' : k = q22 := hk
            rw [e']
            exact (nt20.hs m hm).offB ((b22i.on lb1).on lb2) (nob_fl (sh_of bxF.has)))
          have F1421 : Fx (fun k => k = r) w14 w21 := by
            have a1 := (F14.then_below l17).then_below l18
            have a2 := a1.trans f8' (fun i hi e => by have := kF i e; omega)
            have a3 := (a2.then_below lb1).then_below lb2
            exact a3.trans f21 (fun i hi e => by have e' : i = q22 := e; omega)
          have be21 : Below w.heap.size w w21 := by
            have q0 := be16.size
            have q1 : w.heap.size ≤ w14.heap.size := be14.size
            exact (((((be16.trans (l17.mono q0)).trans (l18.mono (by omega))).trans (low_fx f8' (n := w.heap.size) (fun k e => by have := kF k e; omega) (by omega))).trans (lb1.mono (by omega))).trans (lb2.mono (by omega))).trans (low_fx f21 (n := w.heap.size) (fun k e => by have e' : k = q22 := e; omega) (by omega))
          refine EW.region ?_
          refine WL.field rfl rfl rfl (g36_3 q22 _) ?_
          refine WL.load rfl rfl rfl (ldS b22i rfl) ?_
          first | refine WL.move rfl rfl rfl ?_
          refine WL.bin rfl rfl rfl rfl (int_add (c := wr (mark + 4)) rfl _ _ _) ?_
          refine WL.conv rfl rfl rfl (cv5 _ _) ?_
          refine WL.bslN [(0, byt (b8 (wr (mark + 4))))] rfl rfl rfl rb1 ?_
          refine WL.app rfl rfl rfl rfl rb2 ?_
          refine WL.field rfl rfl rfl (g36_3 q22 _) ?_
          refine WL.store rfl rfl rfl rb3 ?_
          refine WL.done ?_
          refine EW.on ?_
          refine EW.seq ?_
          refine EW.region ?_
          first | refine WL.move rfl rfl rfl ?_
          refine WL.call [.pointer (some ⟨p, 0, none⟩), .int .i64 2] enter14 rfl rfl rfl (deliver_any nt21 2) ?_
          have hlk2 : lkE (delE E3 0) 2 = some ⟨2, 1, 2, v3, B⟩ := by rw [← hE3]; rfl
          rintro x43 w22 (⟨g, _⟩ | ⟨x, vH, hx, rfl, bxH, nt22, f22⟩)
          · rw [hlk2] at g; cases g
          rw [hlk2] at hx
          cases hx
          refine ⟨_, rfl, ?_⟩
          obtain ⟨q24, w22a, w24, ra', rs', b24, l24, hq24⟩ := newF w22 ⟨2, 1, 2, vH, B⟩ (sh_of bxH.has)
          have b22z : Blk w24 q22 (Fl.cs ⟨0, 1, 2, vG, List.replicate B.length (b8 (wr (mark + 3))) ++ [b8 (wr (mark + 4))]⟩) 36 := (b22g.fx f22 (by omega)).on l24
          have hGz := ((own21.fx f22 (fun k hk e => by have := own20.ownBlock k hk; omega)).below l24).has
          have F1424 : Fx (fun k => k = r) w14 w24 := (F1421.trans f22 (fun i hi e => e)).then_below l24
          have obz := ((obA.below bA14).fx F1424 (fun k hk e => by have := obA.ownBlock k hk; omega)).has
          have be24 := (be21.trans (low_fx f22 (n := w.heap.size) (fun k e => by omega) be21.size)).trans (l24.mono (by have := be21.size; have := f22.size; omega))
          first | refine WL.move rfl rfl rfl ?_
          first | refine WL.extract rfl rfl rfl (ext_2 _ _ _).1 ?_
          first | refine WL.extract rfl rfl rfl (ext_2 _ _ _).2 ?_
          refine WL.new rfl rfl ra' ?_
          refine WL.store rfl rfl rfl rs' ?_
          first | refine WL.assign rfl rfl rfl ?_
          refine WL.done ?_
          refine EW.on ?_
          refine EW.seq ?_
          refine EW.seq ?_
          obtain ⟨ga4, gi4, gl4⟩ := hGz.get (i := B.length) (u := b8 (wr (mark + 4))) (by simp)
          obtain ⟨ga3, gi3, gl3⟩ := hGz.get (i := 0) (u := b8 (wr (mark + 3))) (by rw [List.getElem?_append_left (by simp; omega), List.getElem?_replicate, if_pos (by omega)])
          refine EW.region ?_
          first | refine WL.move rfl rfl rfl ?_
          refine WL.bin rfl rfl rfl rfl (int_ne_f rfl _ _ _) ?_
          first | refine WL.move rfl rfl rfl ?_
          refine WL.field rfl rfl rfl (g36_3 q24 _) ?_
          refine WL.load rfl rfl rfl (ldS b24 rfl) ?_
          refine WL.conv rfl rfl rfl (bxH.has.below l24).convert ?_
          first | refine WL.move rfl rfl rfl ?_ | refine WL.skip _ rfl rfl rfl ?_
          refine WL.conv rfl rfl rfl obz.convert ?_
          refine WL.bin rfl rfl rfl rfl (str_ne_f rfl _ _ _) ?_
          first | refine WL.pick rfl rfl rfl rfl ?_
          first | refine WL.move rfl rfl rfl ?_
          refine WL.field rfl rfl rfl (g36_3 q22 _) ?_
          refine WL.load rfl rfl rfl (ldS b22z rfl) ?_
          first | refine WL.move rfl rfl rfl ?_ | refine WL.skip _ rfl rfl rfl ?_
          refine WL.len rfl rfl rfl (obz.len _ _) ?_
          refine WL.index rfl rfl rfl rfl (gi4 _) ?_
          refine WL.load rfl rfl rfl (gl4 _ hGz) ?_
          first | refine WL.move rfl rfl rfl ?_ | refine WL.skip _ rfl rfl rfl ?_
          refine WL.bin rfl rfl rfl rfl (int_add (c := wr (mark + 4)) rfl _ _ _) ?_
          refine WL.conv rfl rfl rfl (cv5 _ _) ?_
          refine WL.bin rfl rfl rfl rfl (byte_ne_f _ _ _ _) ?_
          first | refine WL.pick rfl rfl rfl rfl ?_
          first | refine WL.move rfl rfl rfl ?_
          refine WL.field rfl rfl rfl (g36_3 q22 _) ?_
          refine WL.load rfl rfl rfl (ldS b22z rfl) ?_
          refine WL.index rfl rfl rfl rfl (gi3 _) ?_
          refine WL.load rfl rfl rfl (gl3 _ hGz) ?_
          first | refine WL.move rfl rfl rfl ?_ | refine WL.skip _ rfl rfl rfl ?_
          refine WL.bin rfl rfl rfl rfl (int_add (c := wr (mark + 3)) rfl _ _ _) ?_
          refine WL.conv rfl rfl rfl (cv5 _ _) ?_
          refine WL.bin rfl rfl rfl rfl (byte_ne_f _ _ _ _) ?_
          first | refine WL.pick rfl rfl rfl rfl ?_
          refine WL.done ?_
          refine EW.on ?_
          refine EW.cond_f rfl ?_
          refine EW.skip ?_
          refine EW.on ?_
          refine EW.seq ?_
          refine EW.seq ?_
          have flC24 : Fls w24 wA.heap.size vc L := (((H.cs.fl.on be6).on l32).on bed).fx F1424 (fun k e => by omega)
          have mor24 : Mor w24 wM.heap.size x.2 M := ((mor.on l32).on bed).fx F1424 (fun k e => by omega)
          refine EW.region ?_
          first | refine WL.assign rfl rfl rfl ?_
          refine WL.done ?_
          refine EW.on ?_
          refine EW.block ?_
          refine EW.loop (hAE mark vc x.2) (hAR w24) (fun k => 3 - k) 0 [1, 16, 19, 26] rfl ⟨Nat.zero_le _, Below.refl _ _⟩ ?_
          clear hk3
          rintro k wk ⟨hk3, beK⟩
          show EW _ _ _ _ [(1, .int .i64 mark), (16, vc), (19, x.2), (26, .int .i64 (k : Int))] _
          refine EW.seq ?_
          refine EW.seq ?_
          refine EW.region ?_
          first | refine WL.move rfl rfl rfl ?_
          refine WL.bin rfl rfl rfl rfl (int_lt_d _ _ _ _ _) ?_
          refine WL.done ?_
          refine EW.on ?_
          refine EW.cond_d rfl (fun h254 => ?_) (fun h254 => ?_)
          · refine EW.skip ?_
            refine EW.on ?_
            refine EW.seq ?_
            refine EW.block ?_
            refine EW.seq ?_
            refine EW.seq ?_
            refine EW.region ?_
            first | refine WL.assign rfl rfl rfl ?_
            refine WL.done ?_
            refine EW.on ?_
            refine EW.block ?_
            obtain ⟨x', hx⟩ : ∃ x, L[k]? = some x := ⟨_, List.getElem?_eq_getElem (by have := H.l3; omega)⟩
            obtain ⟨hxn, hxb⟩ := H.dn k x' (by omega) hx
            obtain ⟨ad, ix, lx⟩ := flC24.fo.fs.get hx
            have hxl : x'.b.length = B.length := by rw [hxb, List.length_replicate]
            refine EW.loop (hCE mark vc x.2 k) (hCR w24 B.length) (fun i => B.length - i) 0 [1, 16, 19, 26, 27] rfl ⟨Nat.zero_le _, beK⟩ ?_
            rintro i wz ⟨hin, beW⟩
            show EW _ _ _ _ [(1, .int .i64 mark), (16, vc), (19, x.2), (26, .int .i64 (k : Int)), (27, .int .i64 (i : Int))] _
            refine EW.seq ?_
            refine EW.seq ?_
            skip
            refine EW.region ?_
            first | refine WL.move rfl rfl rfl ?_
            first | refine WL.move rfl rfl rfl ?_
            first | refine WL.move rfl rfl rfl ?_
            refine WL.index rfl rfl rfl rfl (ix _) ?_
            refine WL.field rfl rfl rfl (f36_3 ad _) ?_
            refine WL.load rfl rfl rfl (lx _ (flC24.on beW).fo.fs).2.2 ?_
            refine WL.len rfl rfl rfl ((flC24.bx x' (List.mem_of_getElem? hx)).has.len _ _) ?_
            refine WL.bin rfl rfl rfl rfl (int_lt_d _ _ _ _ _) ?_
            refine WL.done ?_
            refine EW.on ?_
            refine EW.cond_d rfl (fun h264 => ?_) (fun h264 => ?_)
            · refine EW.skip ?_
              refine EW.on ?_
              refine EW.seq ?_
              refine EW.block ?_
              refine EW.seq ?_
              obtain ⟨ab, bi, bl⟩ := (flC24.bx x' (List.mem_of_getElem? hx)).has.get (i := i) (u := b8 (wr (mark + (k : Int)))) (by rw [hxb, List.getElem?_replicate, if_pos (by omega)])
              refine EW.region ?_
              first | refine WL.move rfl rfl rfl ?_
              first | refine WL.move rfl rfl rfl ?_
              refine WL.index rfl rfl rfl rfl (ix _) ?_
              refine WL.field rfl rfl rfl (f36_3 ad _) ?_
              refine WL.load rfl rfl rfl (lx _ (flC24.on beW).fo.fs).2.2 ?_
              first | refine WL.move rfl rfl rfl ?_
              refine WL.index rfl rfl rfl rfl (bi _) ?_
              refine WL.load rfl rfl rfl (bl _ ((flC24.on beW).bx x' (List.mem_of_getElem? hx)).has) ?_
              first | refine WL.move rfl rfl rfl ?_
              first | refine WL.move rfl rfl rfl ?_
              refine WL.bin rfl rfl rfl rfl (int_add (c := wr (mark + (k : Int))) rfl _ _ _) ?_
              refine WL.conv rfl rfl rfl (cv5 _ _) ?_
              refine WL.bin rfl rfl rfl rfl (byte_ne_f _ _ _ _) ?_
              refine WL.done ?_
              refine EW.on ?_
              refine EW.cond_f rfl ?_
              refine EW.skip ?_
              refine pn_block ?_
              refine EW.on ?_
              refine EW.region ?_
              first | refine WL.move rfl rfl rfl ?_
              refine WL.bin rfl rfl rfl rfl (int_add (c := ((i + 1 : Nat) : Int)) (by rw [IntKind.wrap_i64]; omega) _ _ _) ?_
              first | refine WL.assign rfl rfl rfl ?_
              refine WL.done ?_
              exact EW.again (E := hCE mark vc x.2 k) (R := hCR w24 B.length) (m := fun i => B.length - i) (x := i) (i + 1) [1, 16, 19, 26, 27] rfl ⟨by omega, beW⟩ (by show B.length - (i + 1) < B.length - i; omega)
            · refine EW.exit ?_
              refine px_then ?_
              refine px_then ?_
              refine px_block ?_
              refine EW.on ?_
              refine EW.seq ?_
              obtain ⟨m, hm⟩ : ∃ m, M[k]? = some m := ⟨_, List.getElem?_eq_getElem (by omega)⟩
              obtain ⟨am, mi, ml⟩ := mor24.get hm
              obtain ⟨pm, hpm⟩ := hM9 m (List.mem_of_getElem? hm)
              have hml : 0 < m.2.length := by rw [hpm]; simp
              have hmlt : m.2.length ≤ 9223372036854775807 := by
                have h1 := (mor24.ob m (List.mem_of_getElem? hm))
                obtain ⟨_, ⟨_, e⟩ | ⟨g, cp, cur, _, _, _, hn, hc, _⟩⟩ := h1
                · omega
                · unfold maxLen at hc; omega
              obtain ⟨ab, bi, bl⟩ := (mor24.ob m (List.mem_of_getElem? hm)).has.get (i := m.2.length - 1) (u := b8 (wr (mark + 9))) (by rw [hpm]; simp)
              refine EW.ordB [(0, 0, 0), (1, 0, 0), (2, 0, 0), (3, 0, 0), (4, 0, 1), (5, 0, 0), (6, 0, 0), (7, 0, 0), (8, 0, 0), (9, 0, 0), (10, 0, 0), (11, 0, 1), (12, 0, 0), (13, 0, 0), (14, 0, 0), (15, 0, 1), (16, 0, 0), (17, 0, 0), (18, 0, 0), (19, 0, 1), (20, 0, 0), (21, 0, 0), (22, 0, 1), (23, 0, 0), (24, 0, 0)] (by kernel_rfl) rfl (by kernel_rfl) ?_
              simp only [opsZ, List.getD_cons_zero, List.getD_cons_succ]
              first | refine ZE.move rfl rfl rfl rfl sz0 ?_
              first | refine ZE.move rfl rfl rfl rfl sz0 ?_
              refine ZE.index rfl rfl rfl rfl rfl sz0 (fun W => ix W) ?_
              refine ZE.field rfl rfl rfl rfl sz0 (fun W => f36_0 ad W) ?_
              refine ZE.load rfl rfl rfl rfl sz1 (fun W hW => (lx W (flC24.on (bt beW (sb_of hW))).fo.fs).2.1) ?_
              first | refine ZE.move rfl rfl rfl rfl sz0 ?_
              refine ZE.bin rfl rfl rfl rfl rfl sz0 (fun W => int_ne_f hxn W _ _) ?_
              first | refine ZE.move rfl rfl rfl rfl sz0 ?_
              first | refine ZE.move rfl rfl rfl rfl sz0 ?_ | refine ZE.skip rfl rfl rfl sz0 ?_
              first | refine ZE.move rfl rfl rfl rfl sz0 ?_ | refine ZE.skip rfl rfl rfl sz0 ?_
              refine ZE.index rfl rfl rfl rfl rfl sz0 (fun W => mi W) ?_
              refine ZE.load rfl rfl rfl rfl sz1 (fun W hW => ml W (mor24.on (bt beW (sb_of hW)))) ?_
              first | refine ZE.move rfl rfl rfl rfl sz0 ?_ | refine ZE.skip rfl rfl rfl sz0 ?_
              first | refine ZE.move rfl rfl rfl rfl sz0 ?_ | refine ZE.skip rfl rfl rfl sz0 ?_
              refine ZE.index rfl rfl rfl rfl rfl sz0 (fun W => mi W) ?_
              refine ZE.load rfl rfl rfl rfl sz1 (fun W hW => ml W (mor24.on (bt beW (sb_of hW)))) ?_
              refine ZE.len rfl rfl rfl rfl sz0 (fun W => (mor24.ob m (List.mem_of_getElem? hm)).has.len W _) ?_
              refine ZE.bin rfl rfl rfl rfl rfl sz0 (fun W => int_sub (c := ((m.2.length - 1 : Nat) : Int)) (by rw [IntKind.wrap_i64]; omega) W _ _) ?_
              refine ZE.index rfl rfl rfl rfl rfl sz0 (fun W => bi W) ?_
              refine ZE.load rfl rfl rfl rfl sz1 (fun W hW => bl W (((mor24.on (bt beW (sb_of hW))).ob m (List.mem_of_getElem? hm)).has)) ?_
              first | refine ZE.move rfl rfl rfl rfl sz0 ?_ | refine ZE.skip rfl rfl rfl sz0 ?_
              refine ZE.bin rfl rfl rfl rfl rfl sz0 (fun W => int_add (c := wr (mark + 9)) rfl W _ _) ?_
              refine ZE.conv rfl rfl rfl rfl sz1 (fun W hW => cv5 _ W) ?_
              refine ZE.bin rfl rfl rfl rfl rfl sz0 (fun W => byte_ne_f _ W _ _) ?_
              first | refine ZE.pick rfl rfl rfl rfl rfl sz0 ?_
              rintro Wd hWd
              refine EW.on ?_
              refine EW.cond_f rfl ?_
              refine EW.skip ?_
              refine pn_block ?_
              refine EW.on ?_
              refine EW.region ?_
              first | refine WL.move rfl rfl rfl ?_
              refine WL.bin rfl rfl rfl rfl (int_add (c := ((k + 1 : Nat) : Int)) (by rw [IntKind.wrap_i64]; omega) _ _ _) ?_
              first | refine WL.assign rfl rfl rfl ?_
              refine WL.done ?_
              exact EW.again (E := hAE mark vc x.2) (R := hAR w24) (m := fun k => 3 - k) (x := k) (k + 1) [1, 16, 19, 26] rfl ⟨by omega, bt beW hWd⟩ (by show 3 - (k + 1) < 3 - k; omega)
          · refine EW.exit ?_
            refine px_then ?_
            refine px_then ?_
            refine px_block ?_
            refine EW.on ?_
            refine EW.seq ?_
            refine EW.region ?_
            first | refine WL.assign rfl rfl rfl ?_
            refine WL.done ?_
            refine EW.on ?_
            refine EW.ret ?_
            exact EW.returns Try.results4 rfl ⟨rfl, be24.trans (beK.mono be24.size)⟩
end Go.Proofs.Ytplfelfmkgjijaa
