import Derived.Test.YtiefgmgjlhjjhaaDoorPrG
set_option linter.unusedVariables false
set_option linter.unusedSimpArgs false
namespace Go.Proofs.YtiefgmgjlhjjhaaDoor
open Go.RowKit

theorem st5 {w : World} {ad : Addr} {v0 : Value} (u : UInt8) (hc : w.cell? ad = some v0) (hf : w.frozen? ad = false) : (Instr.storeAt 5 (.pointer (some ad)) (byt u)).run Tryd.prog w = .ok () (w.setCell ad (byt u)) := by
  unfold byt
  go_simp
theorem Ob.setAt {w : World} {b : Nat} {v : Value} {bs : List UInt8} (h : Ob w b v bs) (hbw : b ≤ w.heap.size) (i : Nat) (hi : i < bs.length) (u : UInt8) : ∃ ad w', (∀ W, (Instr.indexAt 24 v (.int .i64 (i : Int))).run Tryd.prog W = .ok (.pointer (some ad)) W) ∧ (Instr.storeAt 5 (.pointer (some ad)) (byt u)).run Tryd.prog w = .ok () w' ∧ Ob w' b v (bs.set i u) ∧ Below b w w' := by
  obtain ⟨hx, ⟨rfl, h0⟩ | ⟨g, cp, cur, rfl, hg, hh2, hnc, hc, hs, htk⟩⟩ := h.row
  · simp only [h0] at hi; omega
  · have hcur : i < cur.size := by simp at hs; omega
    have hcell : w.cell? ⟨g, i, none⟩ = some cur[i] := by
      have := (show Blk w g cur.toList 5 from by unfold Blk; simpa using hh2).cell i
      rw [this, Array.getElem?_toList, Array.getElem?_eq_getElem hcur]
    have hbl : Blk w g cur.toList 5 := by unfold Blk; simpa using hh2
    have hbg := h.base g rfl
    refine ⟨⟨g, i, none⟩, w.setCell ⟨g, i, none⟩ (byt u), fun W => ?_, st5 u hcell (hbl.frozen i), ?_, (Fx.setCell (S := fun k => k = g) _ _ _ _ rfl).low hbg hbw⟩
    · have := idx24 ⟨g, 0, none⟩ bs.length cp i hi W
      rwa [add_plain] at this
    · refine ⟨⟨by simp, .inr ⟨g, cp, (cur.toList.set i (byt u)).toArray, by simp, hg, ?_, by simpa using hnc, hc, by simpa using hs, ?_⟩⟩, fun k hk => h.base k (by simpa [Value.ownBlock] using hk)⟩
      · have := hbl.set i (byt u)
        exact this
      · have e1 : (bs.set i u).map byt = (bs.map byt).set i (byt u) := by rw [List.map_set]
        rw [e1, List.length_set, ← htk]
        simp [List.take_set]

theorem xor1 (u : UInt8) (W : World) (x y : Operand) : (do eqGuard .xor 5 x y (byt u) (.int .u8 1); binOp .xor 5 (byt u) (.int .u8 1) : Sem Value).run Tryd.prog W = .ok (byt (u ^^^ 1)) W := by
  have e := xor_u8 u 1
  unfold byt
  rw [← e]
  go_simp
  try rfl

attribute [local irreducible] sm sumOf cnt chk partB ptB lgL
def eve : List UInt8 := [101, 118, 101]
def joe : List UInt8 := [106, 111, 101]
theorem ptB_2 {id : Nat} {T : List UInt8} (h : cnt T = 2) (x : Nat) : ptB id T x = partB id 2 x (sm T) (chk T x) := by unfold ptB; rw [h]
theorem part_set (id n i : Nat) (s d : List UInt8) (hs : s.length = 8) (k : Nat) (y : UInt8) : (partB id n i s d).set (15 + k) y = partB id n i s (d.set k y) := by
  unfold partB
  rw [← List.append_assoc, ← List.append_assoc, List.set_append_right _ _ (by simp [be32_len, hs])]
  congr 2
  simp [be32_len, hs]
theorem part_sum (id n i : Nat) (s d : List UInt8) (hs : s.length = 8) : ((partB id n i s d).drop 7).take (15 - 7) = s := by
  have e : partB id n i s d = (((([] ++ [UInt8.ofNat 5]) ++ be32 id) ++ [UInt8.ofNat n]) ++ [UInt8.ofNat i]) ++ (s ++ d) := by unfold partB; rfl
  rw [e, List.drop_append_of_le_length (by simp [be32_len]), List.drop_of_length_le (by simp [be32_len]), List.nil_append, List.take_append_of_le_length (by omega), List.take_of_length_le (by omega)]
theorem own0 (w : World) : Own (w.alloc (.cells #[] 5)) w.heap.size (.slice (some ⟨w.heap.size, 0, none⟩) 0 0) [] := ⟨rfl, .inr ⟨w.heap.size, 0, #[], rfl, Nat.le_refl _, heap_alloc_new w _, Nat.le_refl _, Nat.zero_le _, rfl, rfl⟩⟩
/-- A copy in new memory. -/
theorem copy_new {w : World} {v : Value} {bs : List UInt8} (h : Has w v bs) (hl : bs.length ≤ 140737488355328) (ty : TypeId) : ∃ v' w', (Builtin.append_ #[24, 24] ty #[.slice (some ⟨w.heap.size, 0, none⟩) 0 0, v]).run Tryd.prog (w.alloc (.cells #[] 5)) = .ok v' w' ∧ Own w' w.heap.size v' bs ∧ Below w.heap.size w w' := by
  have l1 := below_new w (.cells #[] 5)
  obtain ⟨v', w', r1, r2, r3, _⟩ := (own0 w).app (h.below l1) (by simp; omega) l1.size ty
  exact ⟨v', w', r1, by simpa using r2, l1.trans r3⟩
/-- Two texts' parts beside a tray. -/
structure Ap (w0 W : World) (p r ga gb : Nat) (va vb : List Value) (id : Nat) (A B : List UInt8) (E : List Me) (c : Nat) : Prop where
  tr : Tr W p r 2 E c
  sa : Spl W 0 ga va (spP id A)
  sb : Spl W 0 gb vb (spP id B)
  ks : Kst W
  be : Below w0.heap.size w0 W
  hr : w0.heap.size ≤ r
section
variable {w0 W W' : World} {p r ga gb : Nat} {va vb : List Value} {id : Nat} {A B : List UInt8} {E E' : List Me} {c c' : Nat}
theorem Ap.on (h : Ap w0 W p r ga gb va vb id A B E c) (hb : Below W.heap.size W W') : Ap w0 W' p r ga gb va vb id A B E c := ⟨h.tr.on hb, h.sa.on hb, h.sb.on hb, h.ks.below hb h.ks.lt, bt h.be hb, h.hr⟩
theorem Ap.fx (h : Ap w0 W p r ga gb va vb id A B E c) (ht : Tr W' p r 2 E' c') (hf : Fx (fun k => k = r) W W') : Ap w0 W' p r ga gb va vb id A B E' c' := ⟨ht, h.sa.fxM h.tr.mp.hp hf, h.sb.fxM h.tr.mp.hp hf, h.ks.fxM h.tr.mp.hp hf, fxBe h.be hf h.hr, h.hr⟩
end
theorem Spl.zero {W : World} {b g : Nat} {vs : List Value} {ls : List (List UInt8)} (h : Spl W b g vs ls) : Spl W 0 g vs ls := ⟨h.bl, h.ln, fun i v l hv hl => (h.ob i v l hv hl).lower (Nat.zero_le _), Nat.zero_le _, h.ap, h.ag⟩
theorem Lc.none {E : List Me} {most : Nat} {a : List UInt8} {id : Nat} {T : List UInt8} (h : lkE E a id = none) (hl : E.length < most) : Lc E most a id T f0 := .inl ⟨h, hl, fun _ => rfl⟩
theorem Lc.keep {E : List Me} {most : Nat} {a a' : List UInt8} {id id' : Nat} {T : List UInt8} {f : Nat → Bool} {q : Pc} (hq : lkE E a id = some q) (h : Lc E most a id T f) (K : Pc) (c : Nat) (hne : ¬ (a = a' ∧ id = id')) : Lc (upE E a' id' K c) most a id T f := by
  rcases h with ⟨h1, _⟩ | ⟨q', h1, h2, h3⟩
  · rw [hq] at h1; cases h1
  · exact .inr ⟨q', by rw [lk_up_other _ _ _ _ _ hne]; exact h1, h2, h3⟩
theorem Lc.some {E : List Me} {most : Nat} {a : List UInt8} {id : Nat} {T : List UInt8} {f : Nat → Bool} (h : Lc E most a id T f) {x : Nat} (hx : f x = true) : ∃ q, lkE E a id = some q ∧ Gt T q f := by
  rcases h with ⟨_, _, h3⟩ | ⟨q', h1, h2, _⟩
  · rw [h3] at hx; cases hx
  · exact ⟨q', h1, h2⟩
theorem chk_sum (T : List UInt8) (h : cnt T = 2) : (chk T 0).length + (chk T 1).length = T.length := by
  have := chks_all T
  rw [h, show List.range 2 = [0, 1] from rfl] at this
  have := congrArg List.length this
  simpa using this
theorem Own.lowerB {w : World} {b b' : Nat} {v : Value} {bs : List UInt8} (h : Own w b v bs) (hb : b' ≤ b) : Own w b' v bs := by
  obtain ⟨hx, h1 | ⟨g, cp, cur, rfl, hg, hr⟩⟩ := h
  · exact ⟨hx, .inl h1⟩
  · exact ⟨hx, .inr ⟨g, cp, cur, rfl, Nat.le_trans hb hg, hr⟩⟩
set_option maxRecDepth 100000 in
set_option maxHeartbeats 16000000 in
theorem apart4_any (n seed at_ : Int) (id : Nat) (w : World) (hn1 : -9223372036854775808 ≤ n) (hn2 : n ≤ 9223372036854775807) (ha1 : -9223372036854775808 ≤ at_) (ha2' : at_ ≤ 9223372036854775807) (hid : id < 4294967296) (hK : Kst w) : Calls Tryd.prog 4 #[.int .i64 n, .int .i64 seed, .int .i64 at_, u32v id] w fun e w' => e = .returned (.bool true) ∧ Below w.heap.size w w' := by
  obtain ⟨r0, hr0⟩ := abs_i n hn1 hn2
  obtain ⟨N, hN⟩ : ∃ N, N = 498 + r0 % 400 := ⟨_, rfl⟩
  have hN1 : 498 ≤ N ∧ N ≤ 897 := by omega
  have sN : IntKind.i64.wrap (498 + ((r0 % 400 : Nat) : Int)) = (N : Int) := by rw [IntKind.wrap_i64]; omega
  obtain ⟨seed1, hs1⟩ : ∃ s, IntKind.i64.wrap (seed + 1) = s := ⟨_, rfl⟩
  obtain ⟨A, hAe⟩ : ∃ A, A = lgL N seed := ⟨_, rfl⟩
  obtain ⟨B, hBe⟩ : ∃ B, B = lgL N seed1 := ⟨_, rfl⟩
  have hAl : A.length = N := by rw [hAe, lgL_len]
  have hBl : B.length = N := by rw [hBe, lgL_len]
  have hA : A.length ≤ 31808 := by omega
  have hB : B.length ≤ 31808 := by omega
  have ha2 : cnt A = 2 := cnt2 (by omega) (by omega)
  have hb2 : cnt B = 2 := cnt2 (by omega) (by omega)
  refine calls_of_args [.int .i64 n, .int .i64 seed, .int .i64 at_, u32v id] Tryd.func4 rfl 314 Tryd.ntmps4 (by show 4 ≤ 314; decide) ?_
  refine EW.seq ?_
  refine EW.region ?_
  first | refine WL.assign rfl rfl rfl ?_
  refine WL.done ?_
  refine EW.on ?_
  refine EW.seq ?_
  refine EW.region ?_
  first | refine WL.move rfl rfl rfl ?_
  first | refine WL.move rfl rfl rfl ?_
  refine WL.bin rfl rfl rfl rfl (int_add rfl _ _ _) ?_
  refine WL.un rfl rfl rfl (neg_i _ rfl _) ?_
  refine WL.max rfl rfl rfl rfl (max_i _ _ _ _) ?_
  rw [hr0]
  refine WL.bin rfl rfl rfl rfl (rem_i _ _ (by decide) (mod_n r0 400) _ _ _) ?_
  refine WL.bin rfl rfl rfl rfl (int_add sN _ _ _) ?_
  first | refine WL.assign rfl rfl rfl ?_
  refine WL.done ?_
  refine EW.on ?_
  refine EW.seq ?_
  refine EW.region ?_
  first | refine WL.move rfl rfl rfl ?_
  first | refine WL.move rfl rfl rfl ?_
  first | refine WL.move rfl rfl rfl ?_
  refine WL.call [.int .i64 (N : Int), .int .i64 seed] enter7 rfl rfl rfl (long_any N seed (by omega) w) ?_
  rintro _ w1 ⟨tv, rfl, oA, l1⟩
  refine ⟨_, rfl, ?_⟩
  rw [← hAe] at oA
  refine WL.call [u32v id, tv] enter8 rfl rfl rfl (split_ok id tv A w1 oA.has hA (hK.below l1 hK.lt)) ?_
  rintro _ w2 ⟨ga, va, rfl, sa2, l2⟩
  refine ⟨_, rfl, ?_⟩
  rw [ha2]
  first | refine WL.move rfl rfl rfl ?_
  first | refine WL.extract rfl rfl rfl (ext_2 _ _ _).1 ?_
  first | refine WL.extract rfl rfl rfl (ext_2 _ _ _).2 ?_
  first | refine WL.assign rfl rfl rfl ?_
  first | refine WL.assign rfl rfl rfl ?_
  refine WL.done ?_
  refine EW.on ?_
  refine EW.seq ?_
  refine EW.region ?_
  first | refine WL.move rfl rfl rfl ?_
  first | refine WL.move rfl rfl rfl ?_
  first | refine WL.move rfl rfl rfl ?_
  refine WL.bin rfl rfl rfl rfl (int_add hs1 _ _ _) ?_
  refine WL.call [.int .i64 (N : Int), .int .i64 seed1] enter7 rfl rfl rfl (long_any N seed1 (by omega) w2) ?_
  rintro _ w3 ⟨tb, rfl, oB, l3⟩
  refine ⟨_, rfl, ?_⟩
  rw [← hBe] at oB
  refine WL.call [u32v id, tb] enter8 rfl rfl rfl (split_ok id tb B w3 oB.has hB (hK.below (bt (bt l1 l2) l3) hK.lt)) ?_
  rintro _ w4 ⟨gb, vb, rfl, sb4, l4⟩
  refine ⟨_, rfl, ?_⟩
  rw [hb2]
  first | refine WL.move rfl rfl rfl ?_
  first | refine WL.extract rfl rfl rfl (ext_2 _ _ _).1 ?_
  first | refine WL.extract rfl rfl rfl (ext_2 _ _ _).2 ?_
  first | refine WL.assign rfl rfl rfl ?_
  first | refine WL.assign rfl rfl rfl ?_
  refine WL.done ?_
  refine EW.on ?_
  refine EW.seq ?_
  refine EW.region ?_
  refine WL.call [.int .i64 2] enter9 rfl rfl rfl (tnew_ok 2 w4 (by decide) (by decide)) ?_
  rintro _ w5 ⟨p, r, rfl, tr5, l5, _, hrw0⟩
  refine ⟨_, rfl, ?_⟩
  replace tr5 : Tr w5 p r 2 [] 0 := tr5
  have L4 := bt (bt (bt l1 l2) l3) l4
  have S0 : Ap w w5 p r ga gb va vb id A B [] 0 := ⟨tr5, (((sa2.on l3).on l4).on l5).zero, (sb4.on l5).zero, hK.below (bt L4 l5) hK.lt, bt L4 l5, by have := L4.size; omega⟩
  obtain ⟨a0, p_a0, c_a0, o_a0⟩ := S0.sa.get (x := 0) (by rw [ha2]; decide)
  obtain ⟨a1, p_a1, c_a1, o_a1⟩ := S0.sa.get (x := 1) (by rw [ha2]; decide)
  obtain ⟨b0, p_b0, c_b0, o_b0⟩ := S0.sb.get (x := 0) (by rw [hb2]; decide)
  obtain ⟨b1, p_b1, c_b1, o_b1⟩ := S0.sb.get (x := 1) (by rw [hb2]; decide)
  obtain ⟨aoA, cpA, hA0, hA0c⟩ := o_a0.slice'
  obtain ⟨aoB, cpB, hB0, hB0c⟩ := o_b0.slice'
  have la0 : ((ptB id A 0).length : Int) = 512 := by rw [pt_len, (chk_len (T := A) (i := 0) (by omega)).1 (by omega)]; rfl
  have lb0 : ((ptB id B 0).length : Int) = 512 := by rw [pt_len, (chk_len (T := B) (i := 0) (by omega)).1 (by omega)]; rfl
  first | refine WL.move rfl rfl rfl ?_
  first | refine WL.extract rfl rfl rfl (ext_2 _ _ _).1 ?_
  first | refine WL.extract rfl rfl rfl (ext_2 _ _ _).2 ?_
  first | refine WL.assign rfl rfl rfl ?_
  first | refine WL.assign rfl rfl rfl ?_
  refine WL.done ?_
  refine EW.on ?_
  refine EW.seq ?_
  refine EW.seq ?_
  refine EW.region ?_
  first | refine WL.move rfl rfl rfl ?_
  first | refine WL.bin rfl rfl rfl rfl (int_ne_f rfl _ _ _) ?_ | refine WL.bin rfl rfl rfl rfl (int_ne_t ‹_› _ _ _) ?_ | refine WL.bin rfl rfl rfl rfl (int_ne_f ‹_› _ _ _) ?_ | refine WL.bin rfl rfl rfl rfl (int_ne_t (by decide) _ _ _) ?_ | refine WL.bin rfl rfl rfl rfl (int_ne_d _ _ _ _ _) ?_
  first | refine WL.move rfl rfl rfl ?_
  first | refine WL.move rfl rfl rfl ?_ | refine WL.skip _ rfl rfl rfl ?_
  first | refine WL.bin rfl rfl rfl rfl (int_ne_f rfl _ _ _) ?_ | refine WL.bin rfl rfl rfl rfl (int_ne_t ‹_› _ _ _) ?_ | refine WL.bin rfl rfl rfl rfl (int_ne_f ‹_› _ _ _) ?_ | refine WL.bin rfl rfl rfl rfl (int_ne_t (by decide) _ _ _) ?_ | refine WL.bin rfl rfl rfl rfl (int_ne_d _ _ _ _ _) ?_ | refine WL.skip _ rfl rfl rfl ?_
  first | refine WL.pick rfl rfl rfl rfl ?_
  first | refine WL.move rfl rfl rfl ?_
  first | refine WL.move rfl rfl rfl ?_ | refine WL.skip _ rfl rfl rfl ?_
  first | refine WL.bin rfl rfl rfl rfl (int_ne_f rfl _ _ _) ?_ | refine WL.bin rfl rfl rfl rfl (int_ne_t ‹_› _ _ _) ?_ | refine WL.bin rfl rfl rfl rfl (int_ne_f ‹_› _ _ _) ?_ | refine WL.bin rfl rfl rfl rfl (int_ne_t (by decide) _ _ _) ?_ | refine WL.bin rfl rfl rfl rfl (int_ne_d _ _ _ _ _) ?_ | refine WL.skip _ rfl rfl rfl ?_
  first | refine WL.pick rfl rfl rfl rfl ?_
  first | refine WL.move rfl rfl rfl ?_
  first | refine WL.move rfl rfl rfl ?_ | refine WL.skip _ rfl rfl rfl ?_
  first | refine WL.bin rfl rfl rfl rfl (ptr_nn _ _ _ _) ?_ | refine WL.skip _ rfl rfl rfl ?_
  first | refine WL.pick rfl rfl rfl rfl ?_
  first | refine WL.move rfl rfl rfl ?_
  first | refine WL.move rfl rfl rfl ?_ | refine WL.skip _ rfl rfl rfl ?_
  refine WL.len rfl rfl rfl (len26 _ _ _ _ _) ?_
  first | refine WL.bin rfl rfl rfl rfl (int_ne_f rfl _ _ _) ?_ | refine WL.bin rfl rfl rfl rfl (int_ne_t ‹_› _ _ _) ?_ | refine WL.bin rfl rfl rfl rfl (int_ne_f ‹_› _ _ _) ?_ | refine WL.bin rfl rfl rfl rfl (int_ne_t (by decide) _ _ _) ?_ | refine WL.bin rfl rfl rfl rfl (int_ne_d _ _ _ _ _) ?_ | refine WL.skip _ rfl rfl rfl ?_
  first | refine WL.pick rfl rfl rfl rfl ?_
  first | refine WL.move rfl rfl rfl ?_
  first | refine WL.move rfl rfl rfl ?_ | refine WL.skip _ rfl rfl rfl ?_
  refine WL.len rfl rfl rfl (len26 _ _ _ _ _) ?_
  first | refine WL.bin rfl rfl rfl rfl (int_ne_f rfl _ _ _) ?_ | refine WL.bin rfl rfl rfl rfl (int_ne_t ‹_› _ _ _) ?_ | refine WL.bin rfl rfl rfl rfl (int_ne_f ‹_› _ _ _) ?_ | refine WL.bin rfl rfl rfl rfl (int_ne_t (by decide) _ _ _) ?_ | refine WL.bin rfl rfl rfl rfl (int_ne_d _ _ _ _ _) ?_ | refine WL.skip _ rfl rfl rfl ?_
  first | refine WL.pick rfl rfl rfl rfl ?_
  first | refine WL.move rfl rfl rfl ?_
  first | refine WL.move rfl rfl rfl ?_ | refine WL.skip _ rfl rfl rfl ?_
  refine WL.index rfl rfl rfl rfl (x26g _ 2 0 (by decide) _) ?_
  refine WL.load rfl rfl rfl (ldC c_a0) ?_
  rw [hA0]
  refine WL.len rfl rfl rfl (len24 _ _ _ _ _) ?_
  rw [← hA0]
  first | refine WL.bin rfl rfl rfl rfl (int_ne_f rfl _ _ _) ?_ | refine WL.bin rfl rfl rfl rfl (int_ne_t ‹_› _ _ _) ?_ | refine WL.bin rfl rfl rfl rfl (int_ne_f ‹_› _ _ _) ?_ | refine WL.bin rfl rfl rfl rfl (int_ne_t (by decide) _ _ _) ?_ | refine WL.bin rfl rfl rfl rfl (int_ne_d _ _ _ _ _) ?_ | refine WL.skip _ rfl rfl rfl ?_
  first | refine WL.pick rfl rfl rfl rfl ?_
  first | refine WL.move rfl rfl rfl ?_
  first | refine WL.move rfl rfl rfl ?_ | refine WL.skip _ rfl rfl rfl ?_
  refine WL.index rfl rfl rfl rfl (x26g _ 2 0 (by decide) _) ?_
  refine WL.load rfl rfl rfl (ldC c_b0) ?_
  rw [hB0]
  refine WL.len rfl rfl rfl (len24 _ _ _ _ _) ?_
  rw [← hB0]
  first | refine WL.bin rfl rfl rfl rfl (int_ne_f rfl _ _ _) ?_ | refine WL.bin rfl rfl rfl rfl (int_ne_t ‹_› _ _ _) ?_ | refine WL.bin rfl rfl rfl rfl (int_ne_f ‹_› _ _ _) ?_ | refine WL.bin rfl rfl rfl rfl (int_ne_t (by decide) _ _ _) ?_ | refine WL.bin rfl rfl rfl rfl (int_ne_d _ _ _ _ _) ?_ | refine WL.skip _ rfl rfl rfl ?_
  first | refine WL.pick rfl rfl rfl rfl ?_
  refine WL.done ?_
  refine EW.on ?_
  refine EW.cond_f rfl ?_
  refine EW.skip ?_
  refine EW.on ?_
  refine EW.seq ?_
  refine EW.seq ?_
  refine EW.ordB [(0, 0, 0), (1, 0, 0), (2, 0, 1), (3, 0, 0), (4, 0, 1), (5, 0, 0), (6, 0, 0), (7, 0, 1), (8, 0, 0), (9, 0, 1), (10, 0, 0)] (by kernel_rfl) rfl (by kernel_rfl) ?_
  simp only [opsZ, List.getD_cons_zero, List.getD_cons_succ]
  first | refine ZE.move rfl rfl rfl rfl sz0 ?_
  refine ZE.index rfl rfl rfl rfl rfl sz0 (fun W => x26g _ 2 0 (by decide) W) ?_
  refine ZE.load rfl rfl rfl rfl sz1 (fun W hW => ldC (((hW.resolve_left (by decide)).cell (cell_lt c_a0)).trans c_a0)) ?_
  rw [hA0]
  refine ZE.slice2 rfl rfl rfl rfl rfl rfl sz0 (fun W => cut24 _ (ptB id A 0).length _ 7 15 (by decide) (by rw [pt_len]; omega) hA0c W) ?_
  rw [← hA0]
  refine ZE.conv rfl rfl rfl rfl sz1 (fun W hW => show _ = Result.ok (sv (sm A)) W by have := ((o_a0.below (hW.resolve_left (by decide))).has.cut 7 15 (by decide) (by rw [pt_len]; omega)).convert; rw [ptB_2 ha2, part_sum _ _ _ _ _ (sm_len _)] at this; rw [ptB_2 ha2] at *; exact this) ?_
  first | refine ZE.move rfl rfl rfl rfl sz0 ?_
  refine ZE.index rfl rfl rfl rfl rfl sz0 (fun W => x26g _ 2 0 (by decide) W) ?_
  refine ZE.load rfl rfl rfl rfl sz1 (fun W hW => ldC (((hW.resolve_left (by decide)).cell (cell_lt c_b0)).trans c_b0)) ?_
  rw [hB0]
  refine ZE.slice2 rfl rfl rfl rfl rfl rfl sz0 (fun W => cut24 _ (ptB id B 0).length _ 7 15 (by decide) (by rw [pt_len]; omega) hB0c W) ?_
  rw [← hB0]
  refine ZE.conv rfl rfl rfl rfl sz1 (fun W hW => show _ = Result.ok (sv (sm B)) W by have := ((o_b0.below (hW.resolve_left (by decide))).has.cut 7 15 (by decide) (by rw [pt_len]; omega)).convert; rw [ptB_2 hb2, part_sum _ _ _ _ _ (sm_len _)] at this; rw [ptB_2 hb2] at *; exact this) ?_
  refine ZE.bin rfl rfl rfl rfl rfl sz0 (fun W => str_eq_s _ _ W _ _) ?_
  rintro W7 l7
  have S7 := S0.on l7
  obtain ⟨_, e_, c_a0, o_a0⟩ := S7.sa.get (x := 0) (by rw [ha2]; decide)
  rw [p_a0] at e_
  cases e_
  obtain ⟨_, e_, c_a1, o_a1⟩ := S7.sa.get (x := 1) (by rw [ha2]; decide)
  rw [p_a1] at e_
  cases e_
  obtain ⟨_, e_, c_b0, o_b0⟩ := S7.sb.get (x := 0) (by rw [hb2]; decide)
  rw [p_b0] at e_
  cases e_
  obtain ⟨_, e_, c_b1, o_b1⟩ := S7.sb.get (x := 1) (by rw [hb2]; decide)
  rw [p_b1] at e_
  cases e_
  have K0a : Lc [] 2 bob id A f0 := Lc.none rfl (by decide)
  refine EW.on ?_
  refine EW.cond_d rfl (fun h120 => ?_) (fun h120 => ?_)
  · skip
    refine EW.seq ?_
    refine EW.region ?_
    first | refine WL.assign rfl rfl rfl ?_
    refine WL.done ?_
    refine EW.on ?_
    refine EW.ret ?_
    refine pr_then ?_
    exact EW.returns Tryd.results4 rfl ⟨rfl, S7.be⟩
  · skip
    refine EW.skip ?_
    refine EW.on ?_
    refine EW.seq ?_
    refine EW.region ?_
    first | refine WL.move rfl rfl rfl ?_
    first | refine WL.move rfl rfl rfl ?_
    refine WL.index rfl rfl rfl rfl (x26g _ 2 0 (by decide) _) ?_
    refine WL.load rfl rfl rfl (ldC c_a0) ?_
    refine WL.call [.pointer (some ⟨p, 0, none⟩), sv bob, a0] enter10 rfl rfl rfl (add_any p r 2 [] 0 bob a0 (ptB id A 0) W7 S7.tr o_a0.has (by first | (rw [pt_len]; have := chk_le A 0; have := chk_le A 1; have := chk_le B 0; have := chk_le B 1; omega) | (rw [partB_len _ _ _ _ _ (sm_len A), List.length_set]; have := chk_le A 1; omega)) S7.ks) ?_
    rintro _ W9 ⟨u9, c9, rfl, tr9, fx9, _⟩
    refine ⟨_, rfl, ?_⟩
    obtain ⟨x1, _, x3, x4⟩ := add_new K0a bob_nm hid hA (x := 0) (by omega) rfl
    rw [x1]
    rw [x4] at tr9
    have K1a := K0a.up hid hA (x := 0) (by omega) rfl u9 0
    obtain ⟨E1, hE1⟩ : ∃ E1, E1 = upE [] bob id (adQ [] 2 bob (ptB id A 0) u9) 0 := ⟨_, rfl⟩
    have n1 : E1.length = 1 := by rw [hE1, up_len]; rfl
    have k1e : lkE E1 eve id = none := by rw [hE1, lk_up_other _ _ _ _ _ (fun h => by cases h.1)]; rfl
    have k1j : lkE E1 joe id = none := by rw [hE1, lk_up_other _ _ _ _ _ (fun h => by cases h.1)]; rfl
    rw [← hE1] at tr9 K1a
    replace K1a : Lc E1 2 bob id A f1 := K1a
    have S1 := S7.fx tr9 fx9
    have K1b : Lc E1 2 eve id B f0 := Lc.none k1e (by omega)
    obtain ⟨_, e_, c_a0, o_a0⟩ := S1.sa.get (x := 0) (by rw [ha2]; decide)
    rw [p_a0] at e_
    cases e_
    obtain ⟨_, e_, c_a1, o_a1⟩ := S1.sa.get (x := 1) (by rw [ha2]; decide)
    rw [p_a1] at e_
    cases e_
    obtain ⟨_, e_, c_b0, o_b0⟩ := S1.sb.get (x := 0) (by rw [hb2]; decide)
    rw [p_b0] at e_
    cases e_
    obtain ⟨_, e_, c_b1, o_b1⟩ := S1.sb.get (x := 1) (by rw [hb2]; decide)
    rw [p_b1] at e_
    cases e_
    first | refine WL.move rfl rfl rfl ?_
    refine WL.extract rfl rfl rfl (ext_3 _ _ _ _).1 ?_
    refine WL.extract rfl rfl rfl (ext_3 _ _ _ _).2.1 ?_
    refine WL.extract rfl rfl rfl (ext_3 _ _ _ _).2.2 ?_
    first | refine WL.assign rfl rfl rfl ?_
    first | refine WL.assign rfl rfl rfl ?_
    first | refine WL.assign rfl rfl rfl ?_
    refine WL.done ?_
    refine EW.on ?_
    refine EW.seq ?_
    refine EW.region ?_
    first | refine WL.move rfl rfl rfl ?_
    first | refine WL.move rfl rfl rfl ?_
    refine WL.index rfl rfl rfl rfl (x26g _ 2 0 (by decide) _) ?_
    refine WL.load rfl rfl rfl (ldC c_b0) ?_
    refine WL.call [.pointer (some ⟨p, 0, none⟩), sv eve, b0] enter10 rfl rfl rfl (add_any p r 2 E1 c9 eve b0 (ptB id B 0) W9 S1.tr o_b0.has (by first | (rw [pt_len]; have := chk_le A 0; have := chk_le A 1; have := chk_le B 0; have := chk_le B 1; omega) | (rw [partB_len _ _ _ _ _ (sm_len A), List.length_set]; have := chk_le A 1; omega)) S1.ks) ?_
    rintro _ W10 ⟨u10, c10, rfl, tr10, fx10, _⟩
    refine ⟨_, rfl, ?_⟩
    obtain ⟨x1, _, x3, x4⟩ := add_new K1b rfl hid hB (x := 0) (by omega) rfl
    rw [x1]
    rw [x4] at tr10
    have K2b := K1b.up hid hB (x := 0) (by omega) rfl u10 c9
    obtain ⟨qa, hqa, ga1⟩ := K1a.some (x := 0) rfl
    have K2a := Lc.keep hqa K1a (adQ E1 2 eve (ptB id B 0) u10) c9 (a' := eve) (id' := id) (fun h => by cases h.1)
    obtain ⟨E2, hE2⟩ : ∃ E2, E2 = upE E1 eve id (adQ E1 2 eve (ptB id B 0) u10) c9 := ⟨_, rfl⟩
    have n2 : E2.length = 2 := by rw [hE2, up_len, k1e, n1]; rfl
    have k2j : lkE E2 joe id = none := by rw [hE2, lk_up_other _ _ _ _ _ (fun h => by cases h.1)]; exact k1j
    have k2a : lkE E2 bob id = some qa := by rw [hE2, lk_up_other _ _ _ _ _ (fun h => by cases h.1)]; exact hqa
    rw [← hE2] at tr10 K2a K2b
    replace K2b : Lc E2 2 eve id B f1 := K2b
    have S2 := S1.fx tr10 fx10
    obtain ⟨_, e_, c_a0, o_a0⟩ := S2.sa.get (x := 0) (by rw [ha2]; decide)
    rw [p_a0] at e_
    cases e_
    obtain ⟨_, e_, c_a1, o_a1⟩ := S2.sa.get (x := 1) (by rw [ha2]; decide)
    rw [p_a1] at e_
    cases e_
    obtain ⟨_, e_, c_b0, o_b0⟩ := S2.sb.get (x := 0) (by rw [hb2]; decide)
    rw [p_b0] at e_
    cases e_
    obtain ⟨_, e_, c_b1, o_b1⟩ := S2.sb.get (x := 1) (by rw [hb2]; decide)
    rw [p_b1] at e_
    cases e_
    first | refine WL.move rfl rfl rfl ?_
    refine WL.extract rfl rfl rfl (ext_3 _ _ _ _).1 ?_
    refine WL.extract rfl rfl rfl (ext_3 _ _ _ _).2.1 ?_
    refine WL.extract rfl rfl rfl (ext_3 _ _ _ _).2.2 ?_
    first | refine WL.assign rfl rfl rfl ?_
    first | refine WL.assign rfl rfl rfl ?_
    first | refine WL.assign rfl rfl rfl ?_
    refine WL.done ?_
    refine EW.on ?_
    refine EW.seq ?_
    refine EW.region ?_
    first | refine WL.move rfl rfl rfl ?_
    first | refine WL.move rfl rfl rfl ?_
    refine WL.index rfl rfl rfl rfl (x26g _ 2 0 (by decide) _) ?_
    refine WL.load rfl rfl rfl (ldC c_b0) ?_
    refine WL.call [.pointer (some ⟨p, 0, none⟩), sv joe, b0] enter10 rfl rfl rfl (add_any p r 2 E2 c10 joe b0 (ptB id B 0) W10 S2.tr o_b0.has (by first | (rw [pt_len]; have := chk_le A 0; have := chk_le A 1; have := chk_le B 0; have := chk_le B 1; omega) | (rw [partB_len _ _ _ _ _ (sm_len A), List.length_set]; have := chk_le A 1; omega)) S2.ks) ?_
    rintro _ W11 ⟨u11, c11, rfl, tr11, fx11, _⟩
    refine ⟨_, rfl, ?_⟩
    have x1 := add_full (most := 2) (T := B) k2j (by omega) (show nmB joe = true from rfl) hid hB (x := 0) (by omega)
    rw [x1]
    unfold adL at tr11
    rw [x1, if_neg (by decide)] at tr11
    have S3 := S2.fx tr11 fx11
    obtain ⟨_, e_, c_a0, o_a0⟩ := S3.sa.get (x := 0) (by rw [ha2]; decide)
    rw [p_a0] at e_
    cases e_
    obtain ⟨_, e_, c_a1, o_a1⟩ := S3.sa.get (x := 1) (by rw [ha2]; decide)
    rw [p_a1] at e_
    cases e_
    obtain ⟨_, e_, c_b0, o_b0⟩ := S3.sb.get (x := 0) (by rw [hb2]; decide)
    rw [p_b0] at e_
    cases e_
    obtain ⟨_, e_, c_b1, o_b1⟩ := S3.sb.get (x := 1) (by rw [hb2]; decide)
    rw [p_b1] at e_
    cases e_
    first | refine WL.move rfl rfl rfl ?_
    refine WL.extract rfl rfl rfl (ext_3 _ _ _ _).1 ?_
    refine WL.extract rfl rfl rfl (ext_3 _ _ _ _).2.1 ?_
    refine WL.extract rfl rfl rfl (ext_3 _ _ _ _).2.2 ?_
    first | refine WL.assign rfl rfl rfl ?_
    first | refine WL.assign rfl rfl rfl ?_
    first | refine WL.assign rfl rfl rfl ?_
    refine WL.done ?_
    refine EW.on ?_
    refine EW.seq ?_
    refine EW.region ?_
    first | refine WL.move rfl rfl rfl ?_
    first | refine WL.move rfl rfl rfl ?_
    refine WL.index rfl rfl rfl rfl (x26g _ 2 1 (by decide) _) ?_
    refine WL.load rfl rfl rfl (ldC c_b1) ?_
    refine WL.call [.pointer (some ⟨p, 0, none⟩), sv bob, b1] enter10 rfl rfl rfl (add_any p r 2 E2 c11 bob b1 (ptB id B 1) W11 S3.tr o_b1.has (by first | (rw [pt_len]; have := chk_le A 0; have := chk_le A 1; have := chk_le B 0; have := chk_le B 1; omega) | (rw [partB_len _ _ _ _ _ (sm_len A), List.length_set]; have := chk_le A 1; omega)) S3.ks) ?_
    rintro _ W12 ⟨u12, c12, rfl, tr12, fx12, _⟩
    refine ⟨_, rfl, ?_⟩
    have x1 := add_other (most := 2) (T := B) k2a (by rw [ga1.s]; exact h120) bob_nm hid hB (x := 1) (by omega)
    rw [x1]
    unfold adL at tr12
    rw [x1, if_neg (by decide)] at tr12
    have S4 := S3.fx tr12 fx12
    obtain ⟨_, e_, c_a0, o_a0⟩ := S4.sa.get (x := 0) (by rw [ha2]; decide)
    rw [p_a0] at e_
    cases e_
    obtain ⟨_, e_, c_a1, o_a1⟩ := S4.sa.get (x := 1) (by rw [ha2]; decide)
    rw [p_a1] at e_
    cases e_
    obtain ⟨_, e_, c_b0, o_b0⟩ := S4.sb.get (x := 0) (by rw [hb2]; decide)
    rw [p_b0] at e_
    cases e_
    obtain ⟨_, e_, c_b1, o_b1⟩ := S4.sb.get (x := 1) (by rw [hb2]; decide)
    rw [p_b1] at e_
    cases e_
    first | refine WL.move rfl rfl rfl ?_
    refine WL.extract rfl rfl rfl (ext_3 _ _ _ _).1 ?_
    refine WL.extract rfl rfl rfl (ext_3 _ _ _ _).2.1 ?_
    refine WL.extract rfl rfl rfl (ext_3 _ _ _ _).2.2 ?_
    first | refine WL.assign rfl rfl rfl ?_
    first | refine WL.assign rfl rfl rfl ?_
    first | refine WL.assign rfl rfl rfl ?_
    refine WL.done ?_
    refine EW.on ?_
    refine EW.seq ?_
    refine EW.seq ?_
    refine EW.region ?_
    first | refine WL.move rfl rfl rfl ?_
    first | refine WL.bin rfl rfl rfl rfl (int_ne_f rfl _ _ _) ?_ | refine WL.bin rfl rfl rfl rfl (int_ne_t ‹_› _ _ _) ?_ | refine WL.bin rfl rfl rfl rfl (int_ne_f ‹_› _ _ _) ?_ | refine WL.bin rfl rfl rfl rfl (int_ne_t (by decide) _ _ _) ?_ | refine WL.bin rfl rfl rfl rfl (int_ne_d _ _ _ _ _) ?_
    first | refine WL.move rfl rfl rfl ?_
    first | refine WL.move rfl rfl rfl ?_ | refine WL.skip _ rfl rfl rfl ?_
    first | refine WL.bin rfl rfl rfl rfl (int_ne_f rfl _ _ _) ?_ | refine WL.bin rfl rfl rfl rfl (int_ne_t ‹_› _ _ _) ?_ | refine WL.bin rfl rfl rfl rfl (int_ne_f ‹_› _ _ _) ?_ | refine WL.bin rfl rfl rfl rfl (int_ne_t (by decide) _ _ _) ?_ | refine WL.bin rfl rfl rfl rfl (int_ne_d _ _ _ _ _) ?_ | refine WL.skip _ rfl rfl rfl ?_
    first | refine WL.pick rfl rfl rfl rfl ?_
    first | refine WL.move rfl rfl rfl ?_
    first | refine WL.move rfl rfl rfl ?_ | refine WL.skip _ rfl rfl rfl ?_
    first | refine WL.bin rfl rfl rfl rfl (int_ne_f rfl _ _ _) ?_ | refine WL.bin rfl rfl rfl rfl (int_ne_t ‹_› _ _ _) ?_ | refine WL.bin rfl rfl rfl rfl (int_ne_f ‹_› _ _ _) ?_ | refine WL.bin rfl rfl rfl rfl (int_ne_t (by decide) _ _ _) ?_ | refine WL.bin rfl rfl rfl rfl (int_ne_d _ _ _ _ _) ?_ | refine WL.skip _ rfl rfl rfl ?_
    first | refine WL.pick rfl rfl rfl rfl ?_
    first | refine WL.move rfl rfl rfl ?_
    first | refine WL.move rfl rfl rfl ?_ | refine WL.skip _ rfl rfl rfl ?_
    first | refine WL.bin rfl rfl rfl rfl (int_ne_f rfl _ _ _) ?_ | refine WL.bin rfl rfl rfl rfl (int_ne_t ‹_› _ _ _) ?_ | refine WL.bin rfl rfl rfl rfl (int_ne_f ‹_› _ _ _) ?_ | refine WL.bin rfl rfl rfl rfl (int_ne_t (by decide) _ _ _) ?_ | refine WL.bin rfl rfl rfl rfl (int_ne_d _ _ _ _ _) ?_ | refine WL.skip _ rfl rfl rfl ?_
    first | refine WL.pick rfl rfl rfl rfl ?_
    refine WL.done ?_
    refine EW.on ?_
    refine EW.cond_f rfl ?_
    refine EW.skip ?_
    refine EW.on ?_
    refine EW.seq ?_
    refine EW.region ?_
    refine WL.bslN [] rfl rfl rfl (bsl22n _) ?_
    first | refine WL.move rfl rfl rfl ?_
    refine WL.index rfl rfl rfl rfl (x26g _ 2 1 (by decide) _) ?_
    have l15 := below_new W12 (.cells #[] 5)
    refine WL.load rfl rfl rfl (ldC ((l15.cell (cell_lt c_a1)).trans c_a1)) ?_
    obtain ⟨bd, W15, r15, ob15, be15⟩ := copy_new o_a1.has (by rw [pt_len]; have := chk_le A 1; omega) 24
    refine WL.app rfl rfl rfl rfl r15 ?_
    have obd0 := ob15.ob
    rw [ptB_2 ha2] at obd0
    obtain ⟨aoD, cpD, hD, hDc⟩ := obd0.slice'
    obtain ⟨r1, hr1⟩ := abs_i at_ ha1 ha2'
    have d1 : (chk A 1).length = N - 497 := by have := chk_sum A ha2; rw [hAl] at this; have := (chk_len (T := A) (i := 0) (by omega)).1 (by omega); omega
    obtain ⟨kk, hkk⟩ : ∃ kk, kk = r1 % (chk A 1).length := ⟨_, rfl⟩
    have hkl : kk < (chk A 1).length := by rw [hkk]; exact Nat.mod_lt _ (by omega)
    have lD : (partB id 2 1 (sm A) (chk A 1)).length = 15 + (chk A 1).length := partB_len _ _ _ _ _ (sm_len A)
    have sD : IntKind.i64.wrap (((partB id 2 1 (sm A) (chk A 1)).length : Int) - 15) = ((chk A 1).length : Int) := by rw [lD, IntKind.wrap_i64]; omega
    have sK : IntKind.i64.wrap (15 + (kk : Int)) = ((15 + kk : Nat) : Int) := by rw [IntKind.wrap_i64]; omega
    obtain ⟨u, hu⟩ : ∃ u, (partB id 2 1 (sm A) (chk A 1))[15 + kk]? = some u := ⟨_, List.getElem?_eq_getElem (by omega)⟩
    obtain ⟨ad0, x0a, x0b⟩ := obd0.has.item hu
    obtain ⟨ad1, W16, x1a, x1b, x1c, x1d⟩ := obd0.setAt be15.size (15 + kk) (by omega) (u ^^^ 1)
    rw [part_set _ _ _ _ _ (sm_len A)] at x1c
    first | refine WL.assign rfl rfl rfl ?_
    refine WL.done ?_
    refine EW.on ?_
    refine EW.seq ?_
    refine EW.region ?_
    first | refine WL.move rfl rfl rfl ?_
    first | refine WL.move rfl rfl rfl ?_
    first | refine WL.move rfl rfl rfl ?_
    refine WL.bin rfl rfl rfl rfl (int_add rfl _ _ _) ?_
    refine WL.un rfl rfl rfl (neg_i _ rfl _) ?_
    refine WL.max rfl rfl rfl rfl (max_i _ _ _ _) ?_
    rw [hr1]
    first | refine WL.move rfl rfl rfl ?_
    rw [hD]
    refine WL.len rfl rfl rfl (len24 _ _ _ _ _) ?_
    rw [← hD]
    refine WL.bin rfl rfl rfl rfl (int_sub sD _ _ _) ?_
    refine WL.bin rfl rfl rfl rfl (rem_i _ _ (by omega) (mod_n r1 (chk A 1).length) _ _ _) ?_
    rw [← hkk]
    refine WL.bin rfl rfl rfl rfl (int_add sK _ _ _) ?_
    refine WL.index rfl rfl rfl rfl (x0a _) ?_
    refine WL.load rfl rfl rfl x0b ?_
    refine WL.bin rfl rfl rfl rfl (xor1 _ _ _ _) ?_
    refine WL.index rfl rfl rfl rfl (x1a _) ?_
    refine WL.store rfl rfl rfl x1b ?_
    obtain ⟨y, hy⟩ : ∃ y, y = u ^^^ 1 := ⟨_, rfl⟩
    rw [← hy] at x1c
    have be16 := be15.trans x1d
    have S5 := S4.on be16
    obtain ⟨C, hCe⟩ : ∃ C, C = chk A 0 ++ (chk A 1).set kk y := ⟨_, rfl⟩
    have hCl : C.length = N := by rw [hCe, List.length_append, List.length_set, d1, (chk_len (T := A) (i := 0) (by omega)).1 (by omega)]; omega
    have hc2 : cnt C = 2 := cnt2 (by omega) (by omega)
    have hC : C.length ≤ 31808 := by omega
    obtain ⟨_, e_, c_a0, o_a0⟩ := S5.sa.get (x := 0) (by rw [ha2]; decide)
    rw [p_a0] at e_
    cases e_
    obtain ⟨_, e_, c_a1, o_a1⟩ := S5.sa.get (x := 1) (by rw [ha2]; decide)
    rw [p_a1] at e_
    cases e_
    obtain ⟨_, e_, c_b0, o_b0⟩ := S5.sb.get (x := 0) (by rw [hb2]; decide)
    rw [p_b0] at e_
    cases e_
    obtain ⟨_, e_, c_b1, o_b1⟩ := S5.sb.get (x := 1) (by rw [hb2]; decide)
    rw [p_b1] at e_
    cases e_
    have lDs : (partB id 2 1 (sm A) ((chk A 1).set kk y)).length = 15 + (chk A 1).length := by rw [partB_len _ _ _ _ _ (sm_len A), List.length_set]
    obtain ⟨aoE, cpE, hE, hEc⟩ := x1c.slice'
    have cutA := pt_cut (id := id) hid hA (x := 0) (by omega)
    have cutD : ((partB id 2 1 (sm A) ((chk A 1).set kk y)).drop 15).take ((partB id 2 1 (sm A) ((chk A 1).set kk y)).length - 15) = (chk A 1).set kk y := by
      have h0 := (part_is id 2 1 (sm A) ((chk A 1).set kk y) hid (by omega) (by omega) (sm_len A)).2.2.2.2.2
      unfold pC at h0
      exact h0
    refine WL.done ?_
    refine EW.on ?_
    refine EW.seq ?_
    refine EW.ordB [(0, 0, 0), (2, 0, 0), (3, 0, 0), (4, 0, 1), (5, 0, 0), (7, 0, 0), (8, 0, 0), (1, 1, 1), (6, 1, 1), (9, 1, 1), (10, 1, 1), (11, 0, 0), (12, 0, 0), (13, 0, 0), (14, 0, 0), (15, 0, 0)] (by kernel_rfl) rfl (by kernel_rfl) ?_
    simp only [opsZ, List.getD_cons_zero, List.getD_cons_succ]
    first | refine ZE.move rfl rfl rfl rfl sz0 ?_
    first | refine ZE.move rfl rfl rfl rfl sz0 ?_
    refine ZE.index rfl rfl rfl rfl rfl sz0 (fun W => x26g _ 2 0 (by decide) W) ?_
    refine ZE.load rfl rfl rfl rfl sz1 (fun W hW => ldC (((hW.resolve_left (by decide)).cell (cell_lt c_a0)).trans c_a0)) ?_
    rw [hA0]
    refine ZE.sliceL rfl rfl rfl rfl rfl sz0 (fun W => c24L _ (ptB id A 0).length _ 15 (by rw [pt_len]; omega) hA0c W) ?_
    rw [← hA0]
    first | refine ZE.move rfl rfl rfl rfl sz0 ?_
    rw [hE]
    refine ZE.sliceL rfl rfl rfl rfl rfl sz0 (fun W => c24L _ (partB id 2 1 (sm A) ((chk A 1).set kk y)).length _ 15 (by omega) hEc W) ?_
    rw [← hE]
    refine ZE.bsl [] (fun v W => ∃ W0, v = .slice (some ⟨W0.heap.size, 0, none⟩) 0 0 ∧ W = W0.alloc (.cells #[] 5) ∧ Below W16.heap.size W16 W0) rfl rfl rfl (fun _ _ ⟨W0, _, h, l⟩ => .inr (h ▸ bt l (below_new _ _))) (fun W hW => ⟨_, _, bsl22n W, W, rfl, rfl, hW⟩) ?_
    rintro _ ⟨_, V0, rfl, _, _⟩
    refine ZE.app (fun v W => Own W W16.heap.size v (chk A 0) ∧ Below W16.heap.size W16 W) rfl rfl rfl rfl (fun _ _ h => .inr h.2) (fun W hW => ?_) ?_
    · obtain ⟨W0, e, e2, l⟩ := hW
      have hh := (o_a0.below l).has.cut 15 (ptB id A 0).length (by rw [pt_len]; omega) (Nat.le_refl _)
      rw [cutA] at hh
      obtain ⟨v', w', q1, q2, q3⟩ := copy_new hh (by have := chk_le A 0; omega) 24
      have e3 : V0.heap.size = W0.heap.size := by simpa using e
      rw [e2]
      rw [e3]
      exact ⟨v', w', q1, q2.lowerB l.size, bt l q3⟩
    rintro v198 ⟨_, _, _⟩
    refine ZE.app (fun v W => Own W W16.heap.size v C ∧ Below W16.heap.size W16 W) rfl rfl rfl rfl (fun _ _ h => .inr h.2) (fun W hW => ?_) ?_
    · have hh := (x1c.below hW.2).has.cut 15 (partB id 2 1 (sm A) ((chk A 1).set kk y)).length (by omega) (Nat.le_refl _)
      rw [cutD] at hh
      obtain ⟨v', w', q1, q2, q3, _⟩ := hW.1.app hh (by rw [List.length_set]; have := chk_le A 0; have := chk_le A 1; omega) hW.2.size 24
      exact ⟨v', w', q1, hCe ▸ q2, hW.2.trans q3⟩
    rintro v201 ⟨_, _, _⟩
    refine ZE.callR [u32v id, v201] (fun v W => ∃ gq vq, v = .tuple #[.slice (some ⟨gq, 0, none⟩) 2 2, .int .i64 0] ∧ Spl W 0 gq vq (spP id C) ∧ Below W16.heap.size W16 W) enter8 rfl rfl rfl (fun _ _ ⟨_, _, _, _, h⟩ => .inr h) (fun W hW => (split_ok id v201 C W hW.1.has hC ((S5.on hW.2).ks)).mono fun e w' ⟨g, vs, h1, h2, h3⟩ => ⟨_, h1, g, vs, by rw [hc2], h2.zero, bt hW.2 h3⟩) ?_
    rintro _ ⟨_, gq, vq, rfl, _, _⟩
    first | refine ZE.move rfl rfl rfl rfl sz0 ?_
    first | refine ZE.extract rfl rfl rfl rfl sz0 (fun W => (ext_2 _ _ W).1) ?_
    first | refine ZE.extract rfl rfl rfl rfl sz0 (fun W => (ext_2 _ _ W).2) ?_
    first | refine ZE.assign rfl rfl rfl rfl sz0 ?_
    first | refine ZE.assign rfl rfl rfl rfl sz0 ?_
    rintro W17 ⟨gq', vq', eq', sq, l17⟩
    cases eq'
    have S6 := S5.on l17
    have obd := x1c.below l17
    obtain ⟨q0, p_q0, c_q0, o_q0⟩ := sq.get (x := 0) (by rw [hc2]; decide)
    obtain ⟨aoQ, cpQ, hQ0, hQ0c⟩ := o_q0.slice'
    obtain ⟨_, e_, c_a0', o_a0'⟩ := S6.sa.get (x := 0) (by rw [ha2]; decide)
    rw [p_a0] at e_
    cases e_
    refine EW.on ?_
    refine EW.seq ?_
    refine EW.seq ?_
    refine EW.region ?_
    first | refine WL.move rfl rfl rfl ?_
    first | refine WL.bin rfl rfl rfl rfl (int_ne_f rfl _ _ _) ?_ | refine WL.bin rfl rfl rfl rfl (int_ne_t ‹_› _ _ _) ?_ | refine WL.bin rfl rfl rfl rfl (int_ne_f ‹_› _ _ _) ?_ | refine WL.bin rfl rfl rfl rfl (int_ne_t (by decide) _ _ _) ?_ | refine WL.bin rfl rfl rfl rfl (int_ne_d _ _ _ _ _) ?_
    first | refine WL.move rfl rfl rfl ?_
    first | refine WL.move rfl rfl rfl ?_ | refine WL.skip _ rfl rfl rfl ?_
    refine WL.len rfl rfl rfl (len26 _ _ _ _ _) ?_
    first | refine WL.bin rfl rfl rfl rfl (int_ne_f rfl _ _ _) ?_ | refine WL.bin rfl rfl rfl rfl (int_ne_t ‹_› _ _ _) ?_ | refine WL.bin rfl rfl rfl rfl (int_ne_f ‹_› _ _ _) ?_ | refine WL.bin rfl rfl rfl rfl (int_ne_t (by decide) _ _ _) ?_ | refine WL.bin rfl rfl rfl rfl (int_ne_d _ _ _ _ _) ?_ | refine WL.skip _ rfl rfl rfl ?_
    first | refine WL.pick rfl rfl rfl rfl ?_
    refine WL.done ?_
    refine EW.on ?_
    refine EW.cond_f rfl ?_
    refine EW.skip ?_
    refine EW.on ?_
    refine EW.seq ?_
    refine EW.ordB [(0, 0, 0), (1, 0, 0), (2, 0, 1), (3, 0, 0), (4, 0, 1), (5, 0, 0), (6, 0, 0), (7, 0, 1), (8, 0, 0), (9, 0, 1), (10, 0, 0), (11, 0, 0)] (by kernel_rfl) rfl (by kernel_rfl) ?_
    simp only [opsZ, List.getD_cons_zero, List.getD_cons_succ]
    first | refine ZE.move rfl rfl rfl rfl sz0 ?_
    refine ZE.index rfl rfl rfl rfl rfl sz0 (fun W => x26g _ 2 0 (by decide) W) ?_
    refine ZE.load rfl rfl rfl rfl sz1 (fun W hW => ldC (((hW.resolve_left (by decide)).cell (cell_lt c_q0)).trans c_q0)) ?_
    rw [hQ0]
    refine ZE.slice2 rfl rfl rfl rfl rfl rfl sz0 (fun W => cut24 _ (ptB id C 0).length _ 7 15 (by decide) (by rw [pt_len]; omega) hQ0c W) ?_
    rw [← hQ0]
    refine ZE.conv rfl rfl rfl rfl sz1 (fun W hW => show _ = Result.ok (sv (sm C)) W by have := ((o_q0.below (hW.resolve_left (by decide))).has.cut 7 15 (by decide) (by rw [pt_len]; omega)).convert; rw [ptB_2 hc2, part_sum _ _ _ _ _ (sm_len _)] at this; rw [ptB_2 hc2] at *; exact this) ?_
    first | refine ZE.move rfl rfl rfl rfl sz0 ?_
    refine ZE.index rfl rfl rfl rfl rfl sz0 (fun W => x26g _ 2 0 (by decide) W) ?_
    refine ZE.load rfl rfl rfl rfl sz1 (fun W hW => ldC (((hW.resolve_left (by decide)).cell (cell_lt c_a0')).trans c_a0')) ?_
    rw [hA0]
    refine ZE.slice2 rfl rfl rfl rfl rfl rfl sz0 (fun W => cut24 _ (ptB id A 0).length _ 7 15 (by decide) (by rw [pt_len]; omega) hA0c W) ?_
    rw [← hA0]
    refine ZE.conv rfl rfl rfl rfl sz1 (fun W hW => show _ = Result.ok (sv (sm A)) W by have := ((o_a0'.below (hW.resolve_left (by decide))).has.cut 7 15 (by decide) (by rw [pt_len]; omega)).convert; rw [ptB_2 ha2, part_sum _ _ _ _ _ (sm_len _)] at this; rw [ptB_2 ha2] at *; exact this) ?_
    refine ZE.bin rfl rfl rfl rfl rfl sz0 (fun W => str_eq_s _ _ W _ _) ?_
    first | refine ZE.assign rfl rfl rfl rfl sz0 ?_
    rintro W20 l20
    have S7' := S6.on l20
    obtain ⟨_, e_, c_a0, o_a0⟩ := S7'.sa.get (x := 0) (by rw [ha2]; decide)
    rw [p_a0] at e_
    cases e_
    obtain ⟨_, e_, c_a1, o_a1⟩ := S7'.sa.get (x := 1) (by rw [ha2]; decide)
    rw [p_a1] at e_
    cases e_
    obtain ⟨_, e_, c_b0, o_b0⟩ := S7'.sb.get (x := 0) (by rw [hb2]; decide)
    rw [p_b0] at e_
    cases e_
    obtain ⟨_, e_, c_b1, o_b1⟩ := S7'.sb.get (x := 1) (by rw [hb2]; decide)
    rw [p_b1] at e_
    cases e_
    refine EW.on ?_
    refine EW.seq ?_
    refine EW.seq ?_
    refine EW.region ?_
    first | refine WL.move rfl rfl rfl ?_
    refine WL.done ?_
    refine EW.on ?_
    refine EW.cond_d rfl (fun h223 => ?_) (fun h223 => ?_)
    · skip
      refine EW.seq ?_
      refine EW.region ?_
      first | refine WL.assign rfl rfl rfl ?_
      refine WL.done ?_
      refine EW.on ?_
      refine EW.ret ?_
      refine pr_then ?_
      exact EW.returns Tryd.results4 rfl ⟨rfl, S7'.be⟩
    · skip
      refine EW.skip ?_
      refine EW.on ?_
      refine EW.seq ?_
      refine EW.region ?_
      first | refine WL.move rfl rfl rfl ?_
      first | refine WL.move rfl rfl rfl ?_
      refine WL.call [.pointer (some ⟨p, 0, none⟩), sv bob, bd] enter10 rfl rfl rfl (add_any p r 2 E2 c12 bob bd (partB id 2 1 (sm A) ((chk A 1).set kk y)) W20 S7'.tr (obd.below l20).has (by first | (rw [pt_len]; have := chk_le A 0; have := chk_le A 1; have := chk_le B 0; have := chk_le B 1; omega) | (rw [partB_len _ _ _ _ _ (sm_len A), List.length_set]; have := chk_le A 1; omega)) S7'.ks) ?_
      rintro _ W23 ⟨u23, c23, rfl, tr23, fx23, _⟩
      refine ⟨_, rfl, ?_⟩
      have x1 := add_bad K2a ha2 bob_nm hid hA (d := (chk A 1).set kk y) (by rw [List.length_set]) (by rw [← hCe]; exact h223)
      rw [x1]
      unfold adL at tr23
      rw [x1, if_neg (by decide)] at tr23
      have S8 := S7'.fx tr23 fx23
      obtain ⟨_, e_, c_a0, o_a0⟩ := S8.sa.get (x := 0) (by rw [ha2]; decide)
      rw [p_a0] at e_
      cases e_
      obtain ⟨_, e_, c_a1, o_a1⟩ := S8.sa.get (x := 1) (by rw [ha2]; decide)
      rw [p_a1] at e_
      cases e_
      obtain ⟨_, e_, c_b0, o_b0⟩ := S8.sb.get (x := 0) (by rw [hb2]; decide)
      rw [p_b0] at e_
      cases e_
      obtain ⟨_, e_, c_b1, o_b1⟩ := S8.sb.get (x := 1) (by rw [hb2]; decide)
      rw [p_b1] at e_
      cases e_
      first | refine WL.move rfl rfl rfl ?_
      refine WL.extract rfl rfl rfl (ext_3 _ _ _ _).1 ?_
      refine WL.extract rfl rfl rfl (ext_3 _ _ _ _).2.1 ?_
      refine WL.extract rfl rfl rfl (ext_3 _ _ _ _).2.2 ?_
      first | refine WL.assign rfl rfl rfl ?_
      first | refine WL.assign rfl rfl rfl ?_
      first | refine WL.assign rfl rfl rfl ?_
      refine WL.done ?_
      refine EW.on ?_
      refine EW.seq ?_
      refine EW.region ?_
      first | refine WL.move rfl rfl rfl ?_
      first | refine WL.move rfl rfl rfl ?_
      refine WL.index rfl rfl rfl rfl (x26g _ 2 1 (by decide) _) ?_
      refine WL.load rfl rfl rfl (ldC c_a1) ?_
      refine WL.call [.pointer (some ⟨p, 0, none⟩), sv bob, a1] enter10 rfl rfl rfl (add_any p r 2 E2 c23 bob a1 (ptB id A 1) W23 S8.tr o_a1.has (by first | (rw [pt_len]; have := chk_le A 0; have := chk_le A 1; have := chk_le B 0; have := chk_le B 1; omega) | (rw [partB_len _ _ _ _ _ (sm_len A), List.length_set]; have := chk_le A 1; omega)) S8.ks) ?_
      rintro _ W24 ⟨u24, c24, rfl, tr24, fx24, _⟩
      refine ⟨_, rfl, ?_⟩
      obtain ⟨x1, _, x3, x4⟩ := add_new K2a bob_nm hid hA (x := 1) (by omega) rfl
      replace x3 : adW E2 2 bob (ptB id A 1) = true := by rw [x3]; exact decide_eq_true (fun i hi => f2_all i (by omega))
      rw [x1, x3]
      rw [x4] at tr24
      have K5a := K2a.up hid hA (x := 1) (by omega) rfl u24 c23
      obtain ⟨qb, hqb, gb1⟩ := K2b.some (x := 0) rfl
      have K5b := Lc.keep hqb K2b (adQ E2 2 bob (ptB id A 1) u24) c23 (a' := bob) (id' := id) (fun h => by cases h.1)
      obtain ⟨E3, hE3⟩ : ∃ E3, E3 = upE E2 bob id (adQ E2 2 bob (ptB id A 1) u24) c23 := ⟨_, rfl⟩
      have n3 : E3.length = 2 := by rw [hE3, up_len, k2a, n2]; rfl
      rw [← hE3] at tr24 K5a K5b
      replace K5a : Lc E3 2 bob id A f2 := K5a
      have S9 := S8.fx tr24 fx24
      obtain ⟨_, e_, c_a0, o_a0⟩ := S9.sa.get (x := 0) (by rw [ha2]; decide)
      rw [p_a0] at e_
      cases e_
      obtain ⟨_, e_, c_a1, o_a1⟩ := S9.sa.get (x := 1) (by rw [ha2]; decide)
      rw [p_a1] at e_
      cases e_
      obtain ⟨_, e_, c_b0, o_b0⟩ := S9.sb.get (x := 0) (by rw [hb2]; decide)
      rw [p_b0] at e_
      cases e_
      obtain ⟨_, e_, c_b1, o_b1⟩ := S9.sb.get (x := 1) (by rw [hb2]; decide)
      rw [p_b1] at e_
      cases e_
      first | refine WL.move rfl rfl rfl ?_
      refine WL.extract rfl rfl rfl (ext_3 _ _ _ _).1 ?_
      refine WL.extract rfl rfl rfl (ext_3 _ _ _ _).2.1 ?_
      refine WL.extract rfl rfl rfl (ext_3 _ _ _ _).2.2 ?_
      first | refine WL.assign rfl rfl rfl ?_
      first | refine WL.assign rfl rfl rfl ?_
      first | refine WL.assign rfl rfl rfl ?_
      refine WL.done ?_
      refine EW.on ?_
      refine EW.seq ?_
      refine EW.region ?_
      first | refine WL.move rfl rfl rfl ?_
      first | refine WL.move rfl rfl rfl ?_
      refine WL.index rfl rfl rfl rfl (x26g _ 2 1 (by decide) _) ?_
      refine WL.load rfl rfl rfl (ldC c_b1) ?_
      refine WL.call [.pointer (some ⟨p, 0, none⟩), sv eve, b1] enter10 rfl rfl rfl (add_any p r 2 E3 c24 eve b1 (ptB id B 1) W24 S9.tr o_b1.has (by first | (rw [pt_len]; have := chk_le A 0; have := chk_le A 1; have := chk_le B 0; have := chk_le B 1; omega) | (rw [partB_len _ _ _ _ _ (sm_len A), List.length_set]; have := chk_le A 1; omega)) S9.ks) ?_
      rintro _ W25 ⟨u25, c25, rfl, tr25, fx25, _⟩
      refine ⟨_, rfl, ?_⟩
      obtain ⟨x1, _, x3, x4⟩ := add_new K5b (show nmB eve = true from rfl) hid hB (x := 1) (by omega) rfl
      replace x3 : adW E3 2 eve (ptB id B 1) = true := by rw [x3]; exact decide_eq_true (fun i hi => f2_all i (by omega))
      rw [x1, x3]
      rw [x4] at tr25
      have K6b := K5b.up hid hB (x := 1) (by omega) rfl u25 c24
      obtain ⟨qa2, hqa2, ga2⟩ := K5a.some (x := 0) rfl
      have K6a := Lc.keep hqa2 K5a (adQ E3 2 eve (ptB id B 1) u25) c24 (a' := eve) (id' := id) (fun h => by cases h.1)
      obtain ⟨qb3, hqb3, gb3⟩ := K5b.some (x := 0) rfl
      obtain ⟨E4, hE4⟩ : ∃ E4, E4 = upE E3 eve id (adQ E3 2 eve (ptB id B 1) u25) c24 := ⟨_, rfl⟩
      have n4 : E4.length = 2 := by rw [hE4, up_len, hqb3, n3]; rfl
      rw [← hE4] at tr25 K6a K6b
      replace K6b : Lc E4 2 eve id B f2 := K6b
      have S10 := S9.fx tr25 fx25
      obtain ⟨qa4, hqa4, _⟩ := K6a.some (x := 0) rfl
      obtain ⟨d1, d2⟩ := K6a.fd bob_nm (x := 0) rfl
      have f2A : ∀ i, i < cnt A → f2 i = true := by rw [ha2]; exact f2_all
      have f2B : ∀ i, i < cnt B → f2 i = true := by rw [hb2]; exact f2_all
      have k6 : tkE E4 bob id = 0 := by unfold tkE; rw [if_pos d1, d2.all (by omega), decide_eq_true f2A]; rfl
      first | refine WL.move rfl rfl rfl ?_
      refine WL.extract rfl rfl rfl (ext_3 _ _ _ _).1 ?_
      refine WL.extract rfl rfl rfl (ext_3 _ _ _ _).2.1 ?_
      refine WL.extract rfl rfl rfl (ext_3 _ _ _ _).2.2 ?_
      first | refine WL.assign rfl rfl rfl ?_
      first | refine WL.assign rfl rfl rfl ?_
      first | refine WL.assign rfl rfl rfl ?_
      refine WL.done ?_
      refine EW.on ?_
      refine EW.seq ?_
      refine EW.seq ?_
      refine EW.region ?_
      first | refine WL.move rfl rfl rfl ?_
      first | refine WL.bin rfl rfl rfl rfl (int_ne_f rfl _ _ _) ?_ | refine WL.bin rfl rfl rfl rfl (int_ne_t ‹_› _ _ _) ?_ | refine WL.bin rfl rfl rfl rfl (int_ne_f ‹_› _ _ _) ?_ | refine WL.bin rfl rfl rfl rfl (int_ne_t (by decide) _ _ _) ?_ | refine WL.bin rfl rfl rfl rfl (int_ne_d _ _ _ _ _) ?_
      first | refine WL.move rfl rfl rfl ?_
      first | refine WL.move rfl rfl rfl ?_ | refine WL.skip _ rfl rfl rfl ?_
      first | refine WL.bin rfl rfl rfl rfl (int_ne_f rfl _ _ _) ?_ | refine WL.bin rfl rfl rfl rfl (int_ne_t ‹_› _ _ _) ?_ | refine WL.bin rfl rfl rfl rfl (int_ne_f ‹_› _ _ _) ?_ | refine WL.bin rfl rfl rfl rfl (int_ne_t (by decide) _ _ _) ?_ | refine WL.bin rfl rfl rfl rfl (int_ne_d _ _ _ _ _) ?_ | refine WL.skip _ rfl rfl rfl ?_
      first | refine WL.pick rfl rfl rfl rfl ?_
      first | refine WL.move rfl rfl rfl ?_
      first | refine WL.move rfl rfl rfl ?_ | refine WL.skip _ rfl rfl rfl ?_
      first | refine WL.un rfl rfl rfl (not_t _ _) ?_ | refine WL.skip _ rfl rfl rfl ?_
      first | refine WL.pick rfl rfl rfl rfl ?_
      first | refine WL.move rfl rfl rfl ?_
      first | refine WL.move rfl rfl rfl ?_ | refine WL.skip _ rfl rfl rfl ?_
      first | refine WL.bin rfl rfl rfl rfl (int_ne_f rfl _ _ _) ?_ | refine WL.bin rfl rfl rfl rfl (int_ne_t ‹_› _ _ _) ?_ | refine WL.bin rfl rfl rfl rfl (int_ne_f ‹_› _ _ _) ?_ | refine WL.bin rfl rfl rfl rfl (int_ne_t (by decide) _ _ _) ?_ | refine WL.bin rfl rfl rfl rfl (int_ne_d _ _ _ _ _) ?_ | refine WL.skip _ rfl rfl rfl ?_
      first | refine WL.pick rfl rfl rfl rfl ?_
      first | refine WL.move rfl rfl rfl ?_
      first | refine WL.move rfl rfl rfl ?_ | refine WL.skip _ rfl rfl rfl ?_
      first | refine WL.un rfl rfl rfl (not_t _ _) ?_ | refine WL.skip _ rfl rfl rfl ?_
      first | refine WL.pick rfl rfl rfl rfl ?_
      refine WL.done ?_
      refine EW.on ?_
      refine EW.cond_f rfl ?_
      refine EW.skip ?_
      refine EW.on ?_
      refine EW.seq ?_
      refine EW.region ?_
      first | refine WL.move rfl rfl rfl ?_
      first | refine WL.move rfl rfl rfl ?_
      refine WL.call [.pointer (some ⟨p, 0, none⟩), sv bob, u32v id] enter12 rfl rfl rfl (take_any' p r 2 E4 c25 bob id W25 S10.tr) ?_
      rintro _ W28 ⟨v28, rfl, tr28, o28, fx28⟩
      refine ⟨_, rfl, ?_⟩
      unfold tkL at tr28
      unfold tkT at o28
      rw [if_pos k6] at tr28 o28
      rw [k6]
      rw [d2.txt (by omega) f2A] at o28
      have S11 := S10.fx tr28 fx28
      obtain ⟨qe, hqe, gqe⟩ := K6b.some (x := 0) rfl
      have K7b : Lc (delE E4 bob id) 2 eve id B f2 := by
        rcases K6b with ⟨_, _, h3⟩ | ⟨q', h1, h2, h3⟩
        · exact absurd (h3 0) (by decide)
        · exact .inr ⟨q', by rw [lk_del_other _ _ _ (fun h => by cases h.1)]; exact h1, h2, h3⟩
      obtain ⟨qe4, d4e, _⟩ := K7b.some (x := 0) rfl
      obtain ⟨d3, d4⟩ := K7b.fd (show nmB eve = true from rfl) (x := 0) rfl
      have k7 : tkE (delE E4 bob id) eve id = 0 := by unfold tkE; rw [if_pos d3, d4.all (by omega), decide_eq_true f2B]; rfl
      first | refine WL.move rfl rfl rfl ?_
      first | refine WL.extract rfl rfl rfl (ext_2 _ _ _).1 ?_
      first | refine WL.extract rfl rfl rfl (ext_2 _ _ _).2 ?_
      first | refine WL.assign rfl rfl rfl ?_
      first | refine WL.assign rfl rfl rfl ?_
      refine WL.done ?_
      refine EW.on ?_
      refine EW.seq ?_
      refine EW.region ?_
      first | refine WL.move rfl rfl rfl ?_
      first | refine WL.move rfl rfl rfl ?_
      refine WL.call [.pointer (some ⟨p, 0, none⟩), sv eve, u32v id] enter12 rfl rfl rfl (take_any' p r 2 (delE E4 bob id) c25 eve id W28 tr28) ?_
      rintro _ W29 ⟨v29, rfl, tr29, o29, fx29⟩
      refine ⟨_, rfl, ?_⟩
      unfold tkL at tr29
      unfold tkT at o29
      rw [if_pos k7] at tr29 o29
      rw [k7]
      rw [d4.txt (by omega) f2B] at o29
      have S12 := S11.fx tr29 fx29
      have o28' := o28.fx fx29 (fun k hk e => by have e' : k = r := hk; rw [e'] at e; exact o28.neM tr28.mp.hp e)
      have hz : delE (delE E4 bob id) eve id = [] := by
        obtain ⟨m1, hm1, _, q1, q2⟩ := lk_mem hqa4
        obtain ⟨m2, hm2, _, q3, q4⟩ := lk_mem (d4e)
        have i1 := del_len S10.tr.mp.nd hm1
        rw [q1, q2] at i1
        have i2 := del_len tr28.mp.nd hm2
        rw [q3, q4] at i2
        exact List.length_eq_zero_iff.1 (by omega)
      rw [hz] at tr29
      first | refine WL.move rfl rfl rfl ?_
      first | refine WL.extract rfl rfl rfl (ext_2 _ _ _).1 ?_
      first | refine WL.extract rfl rfl rfl (ext_2 _ _ _).2 ?_
      first | refine WL.assign rfl rfl rfl ?_
      first | refine WL.assign rfl rfl rfl ?_
      refine WL.done ?_
      refine EW.on ?_
      refine EW.seq ?_
      refine EW.ordB [(0, 0, 0), (1, 0, 0), (2, 0, 0), (3, 0, 0), (4, 0, 0), (5, 0, 0), (6, 0, 0), (7, 0, 0), (8, 0, 1), (9, 0, 0), (10, 0, 0), (11, 1, 1), (12, 2, 0), (13, 0, 0), (14, 0, 0), (15, 0, 0), (16, 0, 0), (17, 0, 1), (18, 0, 0), (19, 0, 0), (20, 0, 0), (21, 1, 1), (22, 2, 0), (23, 0, 0), (24, 0, 0), (25, 0, 0), (26, 0, 0), (27, 1, 0), (28, 0, 0), (29, 0, 0), (30, 0, 0), (31, 0, 0), (32, 1, 0), (33, 0, 0), (34, 0, 0), (35, 0, 0)] (by kernel_rfl) rfl (by kernel_rfl) ?_
      simp only [opsZ, List.getD_cons_zero, List.getD_cons_succ]
      first | refine ZE.move rfl rfl rfl rfl sz0 ?_
      first | refine ZE.bin rfl rfl rfl rfl rfl sz0 (fun W => int_eq_t rfl W _ _) ?_ | refine ZE.bin rfl rfl rfl rfl rfl sz0 (fun W => int_eq_t ‹_› W _ _) ?_ | refine ZE.bin rfl rfl rfl rfl rfl sz0 (fun W => int_eq_f ‹_› W _ _) ?_ | refine ZE.bin rfl rfl rfl rfl rfl sz0 (fun W => int_eq_d _ _ W _ _) ?_
      first | refine ZE.move rfl rfl rfl rfl sz0 ?_
      first | refine ZE.move rfl rfl rfl rfl sz0 ?_ | refine ZE.skip rfl rfl rfl sz0 ?_
      first | refine ZE.bin rfl rfl rfl rfl rfl sz0 (fun W => int_eq_t rfl W _ _) ?_ | refine ZE.bin rfl rfl rfl rfl rfl sz0 (fun W => int_eq_t ‹_› W _ _) ?_ | refine ZE.bin rfl rfl rfl rfl rfl sz0 (fun W => int_eq_f ‹_› W _ _) ?_ | refine ZE.bin rfl rfl rfl rfl rfl sz0 (fun W => int_eq_d _ _ W _ _) ?_ | refine ZE.skip rfl rfl rfl sz0 ?_
      first | refine ZE.pick rfl rfl rfl rfl rfl sz0 ?_
      first | refine ZE.move rfl rfl rfl rfl sz0 ?_
      first | refine ZE.move rfl rfl rfl rfl sz0 ?_ | refine ZE.skip rfl rfl rfl sz0 ?_
      refine ZE.conv rfl rfl rfl rfl sz1 (fun W hW => (o28'.below (hW.resolve_left (by decide))).has.convert) ?_
      first | refine ZE.move rfl rfl rfl rfl sz0 ?_ | refine ZE.skip rfl rfl rfl sz0 ?_
      first | refine ZE.move rfl rfl rfl rfl sz0 ?_ | refine ZE.skip rfl rfl rfl sz0 ?_
      refine ZE.callR [.int .i64 (N : Int), .int .i64 seed] (fun v W => Ob W W29.heap.size v A ∧ Below W29.heap.size W29 W) enter7 rfl rfl rfl (fun _ _ h => .inr h.2) (fun W hW => (long_any N seed (by omega) W).mono fun e w' ⟨v, h1, h2, h3⟩ => ⟨v, h1, hAe ▸ h2.lower hW.size, bt hW h3⟩) ?_
      rintro v290 ⟨_, _, _⟩
      refine ZE.conv rfl rfl rfl rfl szC (fun W hW => (szc_of hW).1.has.convert) ?_
      refine ZE.bin rfl rfl rfl rfl rfl sz0 (fun W => str_eq_s _ _ W _ _) ?_
      rw [show decide (A = A) = true by simp]
      first | refine ZE.pick rfl rfl rfl rfl rfl sz0 ?_
      first | refine ZE.move rfl rfl rfl rfl sz0 ?_
      first | refine ZE.move rfl rfl rfl rfl sz0 ?_ | refine ZE.skip rfl rfl rfl sz0 ?_
      refine ZE.conv rfl rfl rfl rfl (fun W h => sz1 W h.2) (fun W hW => (o29.below (hW.resolve_left (by decide))).has.convert) ?_
      first | refine ZE.move rfl rfl rfl rfl sz0 ?_ | refine ZE.skip rfl rfl rfl sz0 ?_
      first | refine ZE.move rfl rfl rfl rfl sz0 ?_ | refine ZE.skip rfl rfl rfl sz0 ?_
      refine ZE.bin rfl rfl rfl rfl rfl sz0 (fun W => int_add hs1 W _ _) ?_
      refine ZE.callR [.int .i64 (N : Int), .int .i64 seed1] (fun v W => Ob W W29.heap.size v B ∧ Below W29.heap.size W29 W) enter7 rfl rfl rfl (fun _ _ h => .inr h.2) (fun W hW => (long_any N seed1 (by omega) W).mono fun e w' ⟨v, h1, h2, h3⟩ => ⟨v, h1, hBe ▸ h2.lower hW.2.size, bt hW.2 h3⟩) ?_
      rintro v300 ⟨_, _, _⟩
      refine ZE.conv rfl rfl rfl rfl szC (fun W hW => (szc_of hW).1.has.convert) ?_
      refine ZE.bin rfl rfl rfl rfl rfl sz0 (fun W => str_eq_s _ _ W _ _) ?_
      rw [show decide (B = B) = true by simp]
      first | refine ZE.pick rfl rfl rfl rfl rfl sz0 ?_
      first | refine ZE.move rfl rfl rfl rfl sz0 ?_
      first | refine ZE.move rfl rfl rfl rfl sz0 ?_ | refine ZE.skip rfl rfl rfl sz0 ?_
      refine ZE.callR [.pointer (some ⟨p, 0, none⟩), sv bob] (fun v W => v = .int .i64 0 ∧ (∃ c1, Tr W p r 2 [] c1) ∧ Fx (fun k => k = r) W29 W) enter14 rfl rfl rfl (fun _ _ _ => .inl rfl) (fun W hW => (drop_any p r 2 [] c25 bob W (tr29.on hW.2) (by decide)).mono fun e w' ⟨c1, h1, h2, h3⟩ => ⟨_, h1, rfl, ⟨c1, h2⟩, (Fx.of_below hW.2).and h3⟩) ?_
      rintro _ ⟨_, rfl, _, _⟩
      first | refine ZE.bin rfl rfl rfl rfl rfl sz0 (fun W => int_eq_t rfl W _ _) ?_ | refine ZE.bin rfl rfl rfl rfl rfl sz0 (fun W => int_eq_t ‹_› W _ _) ?_ | refine ZE.bin rfl rfl rfl rfl rfl sz0 (fun W => int_eq_f ‹_› W _ _) ?_ | refine ZE.bin rfl rfl rfl rfl rfl sz0 (fun W => int_eq_d _ _ W _ _) ?_ | refine ZE.skip rfl rfl rfl sz0 ?_
      first | refine ZE.pick rfl rfl rfl rfl rfl sz0 ?_
      first | refine ZE.move rfl rfl rfl rfl sz0 ?_
      first | refine ZE.move rfl rfl rfl rfl sz0 ?_ | refine ZE.skip rfl rfl rfl sz0 ?_
      refine ZE.callR [.pointer (some ⟨p, 0, none⟩)] (fun v W => v = .int .i64 0 ∧ Fx (fun k => k = r) W29 W) enter13 rfl rfl rfl (fun _ _ _ => .inl rfl) (fun W hW => ?_) ?_
      · obtain ⟨_, ⟨c1, t1⟩, f1⟩ := hW
        exact (tlen_any p r 2 [] c1 W t1).mono fun e w' ⟨h1, h2⟩ => ⟨_, h1, rfl, h2 ▸ f1⟩
      rintro _ ⟨_, rfl, _⟩
      first | refine ZE.bin rfl rfl rfl rfl rfl sz0 (fun W => int_eq_t rfl W _ _) ?_ | refine ZE.bin rfl rfl rfl rfl rfl sz0 (fun W => int_eq_t ‹_› W _ _) ?_ | refine ZE.bin rfl rfl rfl rfl rfl sz0 (fun W => int_eq_f ‹_› W _ _) ?_ | refine ZE.bin rfl rfl rfl rfl rfl sz0 (fun W => int_eq_d _ _ W _ _) ?_ | refine ZE.skip rfl rfl rfl sz0 ?_
      first | refine ZE.pick rfl rfl rfl rfl rfl sz0 ?_
      first | refine ZE.assign rfl rfl rfl rfl sz0 ?_
      rintro W30 f30
      refine EW.on ?_
      refine EW.ret ?_
      exact EW.returns Tryd.results4 rfl ⟨rfl, fxBe S12.be f30.2 S12.hr⟩
end Go.Proofs.YtiefgmgjlhjjhaaDoor
