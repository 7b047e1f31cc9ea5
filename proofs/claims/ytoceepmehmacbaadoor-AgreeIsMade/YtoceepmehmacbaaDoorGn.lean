import Derived.Test.YtoceepmehmacbaaDoorGm
set_option linter.unusedVariables false
set_option linter.unusedSimpArgs false
namespace Go.Proofs.YtoceepmehmacbaaDoor
open Go.RowKit

theorem or_one (n : Nat) (hn : n < 4294967296) : ∃ m : Nat, m < 4294967296 ∧ m ≠ 0 ∧ ∀ (W : World) (x y : Operand), (do eqGuard .or 26 x y (u32v n) (.int .u32 1); binOp .or 26 (u32v n) (.int .u32 1) : Sem Value).run Tryd.prog W = .ok (u32v m) W := by
  refine ⟨(BitVec.ofNat 32 n ||| 1#32).toNat, (BitVec.ofNat 32 n ||| 1#32).isLt, fun h => ?_, fun W x y => ?_⟩
  · have h0 : (BitVec.ofNat 32 n ||| 1#32) = 0#32 := BitVec.eq_of_toNat_eq (by rw [h]; rfl)
    have h1 := congrArg (fun v : BitVec 32 => v.getLsbD 0) h0
    simp at h1
  · have hw := wor (BitVec.ofNat 32 n) 1#32
    have e1 : wn (BitVec.ofNat 32 n) = (n : Int) := by
      unfold wn
      rw [BitVec.toNat_ofNat, Nat.mod_eq_of_lt hn]
    have e2 : wn 1#32 = 1 := rfl
    rw [e1, e2] at hw
    unfold u32v
    have e3 : wn (BitVec.ofNat 32 n ||| 1#32) = (((BitVec.ofNat 32 n ||| 1#32).toNat : Nat) : Int) := rfl
    rw [← e3, ← hw]
    go_simp
theorem str_eq_d (a b : List UInt8) (W : World) (x y : Operand) : (do eqGuard .eql 9 x y (.string ⟨a.toArray⟩) (.string ⟨b.toArray⟩); binOp .eql 9 (.string ⟨a.toArray⟩) (.string ⟨b.toArray⟩) : Sem Value).run Tryd.prog W = .ok (.bool (decide (a = b))) W := by
  go_simp
  rw [Bool.eq_iff_iff]; simp
theorem str_eq_t (a : List UInt8) (W : World) (x y : Operand) : (do eqGuard .eql 9 x y (.string ⟨a.toArray⟩) (.string ⟨a.toArray⟩); binOp .eql 9 (.string ⟨a.toArray⟩) (.string ⟨a.toArray⟩) : Sem Value).run Tryd.prog W = .ok (.bool true) W := by
  have := str_eq_d a a W x y
  rwa [decide_eq_true rfl] at this
theorem Own.new {w : World} {g n base : Nat} {K : List UInt8} (hb : Blk w g (K.map byt) 5) (hn : K.length = n) (hm : n ≤ 100000) (hg : base ≤ g) : Own w base (.slice (some ⟨g, 0, none⟩) n n) K := by
  subst hn
  refine ⟨by simp, .inr ⟨g, K.length, _, rfl, hg, hb, Nat.le_refl _, by unfold maxLen; omega, by simp, by simpa using List.take_of_length_le (by simp)⟩⟩
def ffK (t : Nat) : List UInt8 := List.replicate t 255 ++ List.replicate (32 - t) 0
theorem ffK_len {t : Nat} (h : t ≤ 32) : (ffK t).length = 32 := by simp [ffK]; omega
theorem ffK_succ {t : Nat} (h : t < 32) : (ffK t).set t 255 = ffK (t + 1) := by
  unfold ffK
  rw [List.set_append_right _ _ (by simp), List.length_replicate, Nat.sub_self, show 32 - t = (32 - (t + 1)) + 1 by omega, List.replicate_succ, List.set_cons_zero, List.replicate_succ', List.append_assoc]
  rfl
theorem ix40 (g m : Nat) (h : m < 32) (W : World) : (Instr.indexAt 40 (.slice (some ⟨g, 0, none⟩) 32 32) (.int .i64 (m : Int))).run Tryd.prog W = .ok (.pointer (some ⟨g, m, none⟩)) W := by
  have := idx34 ⟨g, 0, none⟩ 32 32 m h W
  rwa [add_plain] at this
theorem sl23o (q o : Nat) (W : World) : (Instr.sliceAt 23 (.pointer (some ⟨q, o, none⟩)) none none none).run Tryd.prog W = .ok (.slice (some ⟨q, o, none⟩) 32 32) W := by
  go_simp
  try simp
  try rw [Addr.add_mid]
  try simp
theorem sl30o (q o : Nat) (W : World) : (Instr.sliceAt 30 (.pointer (some ⟨q, o, none⟩)) none none none).run Tryd.prog W = .ok (.slice (some ⟨q, o, none⟩) 16 16) W := by
  go_simp
  try simp
  try rw [Addr.add_mid]
  try simp
theorem put23 {K : List UInt8} (kA : K.length = 32) (w : World) : ∃ q w1 w2, (Instr.alloc 23 true (.tuple #[])).run Tryd.prog w = .ok (.pointer (some ⟨q, 0, none⟩)) w1 ∧ (Instr.storeAt 23 (.pointer (some ⟨q, 0, none⟩)) (kv K)).run Tryd.prog w1 = .ok () w2 ∧ Blk w2 q (K.map byt) 23 ∧ Below w.heap.size w w2 ∧ w.heap.size ≤ q := putNew z23 (i23 kA) (by rw [List.length_map, List.length_map, kA]; rfl) (bytsOne K) w
def imE (q3 q4 q5 pA p8 p10 p12 g t : Nat) : List (Nat × Value) := [(3, .pointer (some ⟨q3, 0, none⟩)), (4, .pointer (some ⟨q4, 0, none⟩)), (5, .pointer (some ⟨q5, 0, none⟩)), (7, .pointer (some ⟨pA, 0, none⟩)), (8, .pointer (some ⟨p8, 0, none⟩)), (10, .pointer (some ⟨p10, 0, none⟩)), (12, .pointer (some ⟨p12, 0, none⟩)), (14, .slice (some ⟨g, 0, none⟩) 32 32), (15, .int .i64 (t : Int))]
structure ImS (w : World) (own once : Pr) (o : Of) (A : An) (x y z : List UInt8) (q3 q4 q5 pA p8 p10 p12 : Nat) (W : World) : Prop where
  a : Blk W q3 own.cs 25
  b : Blk W q4 once.cs 25
  c : Blk W q5 o.cs 28
  d : Blk W pA A.cs 35
  x : Blk W p8 (x.map byt) 23
  y : Blk W p10 (y.map byt) 23
  z : Blk W p12 (z.map byt) 23
  l : Below w.heap.size w W
theorem ImS.on {w W W' : World} {own once : Pr} {o : Of} {A : An} {x y z : List UInt8} {q3 q4 q5 pA p8 p10 p12 : Nat} (h : ImS w own once o A x y z q3 q4 q5 pA p8 p10 p12 W) (hb : Below W.heap.size W W') : ImS w own once o A x y z q3 q4 q5 pA p8 p10 p12 W' :=
  ⟨h.a.on hb, h.b.on hb, h.c.on hb, h.d.on hb, h.x.on hb, h.y.on hb, h.z.on hb, bt h.l hb⟩
theorem ImS.st {w W W' : World} {own once : Pr} {o : Of} {A : An} {x y z : List UInt8} {q3 q4 q5 pA p8 p10 p12 g : Nat} {cs : List Value} (h : ImS w own once o A x y z q3 q4 q5 pA p8 p10 p12 W) (hb : Blk W g cs 5) (f : Fx (fun k => k = g) W W') (hg : w.heap.size ≤ g) : ImS w own once o A x y z q3 q4 q5 pA p8 p10 p12 W' :=
  ⟨h.a.fx f (h.a.neT hb (by decide)), h.b.fx f (h.b.neT hb (by decide)), h.c.fx f (h.c.neT hb (by decide)), h.d.fx f (h.d.neT hb (by decide)), h.x.fx f (h.x.neT hb (by decide)), h.y.fx f (h.y.neT hb (by decide)), h.z.fx f (h.z.neT hb (by decide)), bf h.l f hg⟩
theorem ImS.fx {w W W' : World} {own once : Pr} {o : Of} {A : An} {x y z : List UInt8} {q3 q4 q5 pA p8 p10 p12 : Nat} (h : ImS w own once o A x y z q3 q4 q5 pA p8 p10 p12 W) (f : Fx (fun _ => False) W W') : ImS w own once o A x y z q3 q4 q5 pA p8 p10 p12 W' :=
  ⟨h.a.fx f id, h.b.fx f id, h.c.fx f id, h.d.fx f id, h.x.fx f id, h.y.fx f id, h.z.fx f id, h.l.trans (f.below (fun _ _ h => h) h.l.size)⟩
theorem ImS.app {w W W' : World} {own once : Pr} {o : Of} {A : An} {x y z : List UInt8} {q3 q4 q5 pA p8 p10 p12 : Nat} {v : Value} {bs : List UInt8} (h : ImS w own once o A x y z q3 q4 q5 pA p8 p10 p12 W) (ho : Own W w.heap.size v bs) (hg : W.grownBy W' v.ownBlock) : ImS w own once o A x y z q3 q4 q5 pA p8 p10 p12 W' := by
  obtain ⟨_, ⟨rfl, _⟩ | ⟨g, cp, cur, rfl, hb, hh, _⟩⟩ := ho
  · exact h.fx (Fx.grown hg (fun k hk => by cases hk))
  · exact h.st (g := g) (cs := cur.toList) (by unfold Blk; simpa using hh) (Fx.grown hg (fun k hk => by injection hk with hk; exact hk.symm)) hb
def ImI (w : World) (own once : Pr) (o : Of) (A : An) (x y z : List UInt8) (q3 q4 q5 pA p8 p10 p12 g t : Nat) (W : World) : Prop := t ≤ 32 ∧ Blk W g ((ffK t).map byt) 5 ∧ ImS w own once o A x y z q3 q4 q5 pA p8 p10 p12 W
theorem len48 (ao : Option Addr) (c : Nat) (ty : TypeId) (W : World) : (Builtin.len_ #[40] ty #[.slice ao 48 c]).run Tryd.prog W = .ok (.int .i64 48) W := by go_simp
theorem hasX {W : World} {g : Nat} {X : List UInt8} {t : TypeId} (h : Blk W g (X.map byt) t) (hX : X.length = 48) : Has W (.slice (some ⟨g, 0, none⟩) 32 48) (X.take 32) ∧ Has W (.slice (some ⟨g, 32, none⟩) 16 16) (X.drop 32) := by
  have h1 := h.hasA (a := []) (K := X.take 32) (b := (X.drop 32).map byt) (by rw [← List.map_append, List.take_append_drop]; rfl) rfl 48 (by rw [List.length_take, hX]; decide)
  have h2 := h.hasA (a := (X.take 32).map byt) (K := X.drop 32) (b := []) (o := 32) (by rw [List.append_nil, ← List.map_append, List.take_append_drop]) (by rw [List.length_map, List.length_take, hX]; decide) 16 (by rw [List.length_drop, hX]; decide)
  rw [List.length_take, hX] at h1
  rw [List.length_drop, hX] at h2
  exact ⟨h1, h2⟩
theorem hasS {W : World} {q : Nat} {A : An} {t : TypeId} {K : List UInt8} (h : Blk W q A.cs t) (kA : A.ok) (hK : K.length = 32) (e : A.s = K) : Has W (.slice (some ⟨q, 0 + 0, none⟩) 32 32) K := by
  have h1 := h.hasA (a := []) (K := A.s) (b := A.i.map byt ++ (A.b.map byt ++ (A.h.cs ++ [.int .i64 A.e]))) (o := 0 + 0) rfl rfl 32 (by rw [kA.s]; decide)
  rw [kA.s, e] at h1
  exact h1
theorem hasI {W : World} {q : Nat} {A : An} {t : TypeId} {K : List UInt8} (h : Blk W q A.cs t) (kA : A.ok) (hK : K.length = 16) (e : A.i = K) : Has W (.slice (some ⟨q, 0 + 32, none⟩) 16 16) K := by
  have h1 := h.hasA (a := A.s.map byt) (K := A.i) (b := A.b.map byt ++ (A.h.cs ++ [.int .i64 A.e])) (o := 0 + 32) rfl (by simp [kA.s]) 16 (by rw [kA.i]; decide)
  rw [kA.i, e] at h1
  exact h1
set_option maxRecDepth 100000 in
set_option maxHeartbeats 4000000 in
theorem made_any (own once : Pr) (o : Of) (k1 : own.ok) (k2 : once.ok) (ko0 : o.ok) (w : World) (hS : Kst w) :
    Calls Tryd.prog 3 #[own.v, once.v, o.v] w fun x w' => x = .returned (.bool true) ∧ Below w.heap.size w w' := by
  obtain ⟨m, hm, hm0, hor⟩ := or_one o.pre ko0.p
  have k3 : (⟨o.id, m, o.key⟩ : Of).ok := ⟨ko0.i, hm, ko0.k⟩
  obtain ⟨x, hx⟩ : ∃ x, Cv.timesL own.a o.key = x := ⟨_, rfl⟩
  obtain ⟨y, hy⟩ : ∃ x, Cv.timesL once.a o.id = x := ⟨_, rfl⟩
  obtain ⟨z, hz⟩ : ∃ x, Cv.timesL once.a o.key = x := ⟨_, rfl⟩
  have lx : x.length = 32 := by rw [← hx]; exact Cv.times_length _ _
  have ly : y.length = 32 := by rw [← hy]; exact Cv.times_length _ _
  have lz : z.length = 32 := by rw [← hz]; exact Cv.times_length _ _
  obtain ⟨X, hX⟩ : ∃ X, exOut (macOf z32 (ff32 ++ (x ++ (y ++ z)))) firstB 48 = X := ⟨_, rfl⟩
  have hXl : X.length = 48 := by rw [← hX]; exact exOut_length _ _ _
  have hXa : (X.take 32).length = 32 := by rw [List.length_take, hXl]; decide
  have hXb : (X.drop 32).length = 16 := by rw [List.length_drop, hXl]
  have hgl := agOf_len m ⟨own.a, o.key⟩ ⟨once.a, o.id⟩ ⟨once.a, o.key⟩
  obtain ⟨g, hg⟩ : ∃ g, agOf m ⟨own.a, o.key⟩ ⟨once.a, o.id⟩ ⟨once.a, o.key⟩ = g := ⟨_, rfl⟩
  rw [hg] at hgl
  obtain ⟨A, hA⟩ : ∃ A, stA g own once ⟨o.id, m, o.key⟩ = A := ⟨_, rfl⟩
  have kA : A.ok := by rw [← hA]; exact stA_ok hgl.1 hgl.2 k1 k2 k3
  have z4 : x = z32 ∨ (x ≠ z32 ∧ y = z32) ∨ (x ≠ z32 ∧ y ≠ z32 ∧ z = z32) ∨ (x ≠ z32 ∧ y ≠ z32 ∧ z ≠ z32) := by
    by_cases h1 : x = z32
    · exact .inl h1
    · by_cases h2 : y = z32
      · exact .inr (.inl ⟨h1, h2⟩)
      · by_cases h3 : z = z32
        · exact .inr (.inr (.inl ⟨h1, h2, h3⟩))
        · exact .inr (.inr (.inr ⟨h1, h2, h3⟩))
  obtain ⟨w1, q3, r1, b1, l1, hq3⟩ := box_any 25 own.cs w
  obtain ⟨w2, q4, r2, b2, l2, hq4⟩ := box_any 25 once.cs w1
  obtain ⟨w3, q5, r3, b3, l3, hq5⟩ := box_any 28 o.cs w2
  refine calls_of_args [own.v, once.v, o.v] Tryd.func3 rfl 126 Tryd.ntmps3 (by show 3 ≤ 126; decide) ?_
  refine EW.seq ?_
  refine EW.region ?_
  refine WL.box rfl rfl rfl r1 ?_
  refine WL.box rfl rfl rfl r2 ?_
  refine WL.box rfl rfl rfl r3 ?_
  first | refine WL.assign rfl rfl rfl ?_
  refine WL.done ?_
  refine EW.on ?_
  refine EW.seq ?_
  refine EW.region ?_
  refine WL.field rfl rfl rfl (f28_1 q5 0 _) ?_
  refine WL.load rfl rfl rfl (ofF b3 ko0).2.1 ?_
  refine WL.bin rfl rfl rfl rfl (hor _ _ _) ?_
  refine WL.field rfl rfl rfl (f28_1 q5 0 _) ?_
  obtain ⟨u1, s1, c5, f1⟩ := stOfP b3 ko0 m
  refine WL.store rfl rfl rfl s1 ?_
  have c3 := ((b1.on l2).on l3).fx f1 (((b1.on l2).on l3).neT b3 (by decide))
  have c4 := (b2.on l3).fx f1 ((b2.on l3).neT b3 (by decide))
  have L1 : Below w.heap.size w u1 := bf (bt (bt l1 l2) l3) f1 (by have := l1.size; have := l2.size; omega)
  refine WL.done ?_
  refine EW.on ?_
  refine EW.seq ?_
  refine EW.region ?_
  refine WL.load rfl rfl rfl (ldPr c3 k1) ?_
  refine WL.load rfl rfl rfl (ldPr c4 k2) ?_
  refine WL.load rfl rfl rfl (ldOf c5 k3) ?_
  refine WL.call [own.v, once.v, Of.v ⟨o.id, m, o.key⟩] enter7 rfl rfl rfl (start_any own once ⟨o.id, m, o.key⟩ k1 k2 k3 g hg A hA u1 (hS.on L1)) ?_
  rintro _ u2 ⟨rfl, m2⟩
  refine ⟨_, rfl, ?_⟩
  obtain ⟨pA, u3, u4, s3, s4, bA, m4, hpA⟩ := put35 kA u2
  have m24 := bt m2 m4
  refine WL.new rfl rfl s3 ?_
  refine WL.store rfl rfl rfl s4 ?_
  replace c3 := c3.on m24
  replace c4 := c4.on m24
  replace c5 := c5.on m24
  replace L1 := bt L1 m24
  refine WL.done ?_
  refine EW.on ?_
  refine EW.seq ?_
  refine EW.region ?_
  refine WL.field rfl rfl rfl (f25_0 q3 0 _) ?_
  refine WL.load rfl rfl rfl (ld66 c3 k1).1 ?_
  refine WL.field rfl rfl rfl (f28_2 q5 0 _) ?_
  refine WL.load rfl rfl rfl (ofF c5 k3).2.2 ?_
  refine WL.call [kv own.a, kv o.key] enter8 rfl rfl rfl (shr_any own.a o.key x hx k1.a ko0.k u4) ?_
  rintro _ x5a ⟨rfl, n5⟩
  refine ⟨_, rfl, ?_⟩
  obtain ⟨p8, x5b, x5c, s5, t5, bx, mm5, hq5⟩ := put23 lx x5a
  have nn5 := bt n5 mm5
  first | refine WL.move rfl rfl rfl ?_
  refine WL.extract rfl rfl rfl (ext_2 _ _ _).1 ?_
  refine WL.extract rfl rfl rfl (ext_2 _ _ _).2 ?_
  refine WL.new rfl rfl s5 ?_
  refine WL.store rfl rfl rfl t5 ?_
  replace c3 := c3.on nn5
  replace c4 := c4.on nn5
  replace c5 := c5.on nn5
  replace bA := bA.on nn5
  replace L1 := bt L1 nn5
  first | refine WL.assign rfl rfl rfl ?_
  refine WL.done ?_
  refine EW.on ?_
  refine EW.seq ?_
  refine EW.region ?_
  refine WL.field rfl rfl rfl (f25_0 q4 0 _) ?_
  refine WL.load rfl rfl rfl (ld66 c4 k2).1 ?_
  refine WL.field rfl rfl rfl (f28_0 q5 0 _) ?_
  refine WL.load rfl rfl rfl (ofF c5 k3).1 ?_
  refine WL.call [kv once.a, kv o.id] enter8 rfl rfl rfl (shr_any once.a o.id y hy k2.a ko0.i x5c) ?_
  rintro _ x8a ⟨rfl, n8⟩
  refine ⟨_, rfl, ?_⟩
  obtain ⟨p10, x8b, x8c, s8, t8, by1, mm8, hq8⟩ := put23 ly x8a
  have nn8 := bt n8 mm8
  first | refine WL.move rfl rfl rfl ?_
  refine WL.extract rfl rfl rfl (ext_2 _ _ _).1 ?_
  refine WL.extract rfl rfl rfl (ext_2 _ _ _).2 ?_
  refine WL.new rfl rfl s8 ?_
  refine WL.store rfl rfl rfl t8 ?_
  replace c3 := c3.on nn8
  replace c4 := c4.on nn8
  replace c5 := c5.on nn8
  replace bA := bA.on nn8
  replace bx := bx.on nn8
  replace L1 := bt L1 nn8
  first | refine WL.assign rfl rfl rfl ?_
  refine WL.done ?_
  refine EW.on ?_
  refine EW.seq ?_
  refine EW.region ?_
  refine WL.field rfl rfl rfl (f25_0 q4 0 _) ?_
  refine WL.load rfl rfl rfl (ld66 c4 k2).1 ?_
  refine WL.field rfl rfl rfl (f28_2 q5 0 _) ?_
  refine WL.load rfl rfl rfl (ofF c5 k3).2.2 ?_
  refine WL.call [kv once.a, kv o.key] enter8 rfl rfl rfl (shr_any once.a o.key z hz k2.a ko0.k x8c) ?_
  rintro _ x11a ⟨rfl, n11⟩
  refine ⟨_, rfl, ?_⟩
  obtain ⟨p12, x11b, x11c, s11, t11, bz, mm11, hq11⟩ := put23 lz x11a
  have nn11 := bt n11 mm11
  first | refine WL.move rfl rfl rfl ?_
  refine WL.extract rfl rfl rfl (ext_2 _ _ _).1 ?_
  refine WL.extract rfl rfl rfl (ext_2 _ _ _).2 ?_
  refine WL.new rfl rfl s11 ?_
  refine WL.store rfl rfl rfl t11 ?_
  replace c3 := c3.on nn11
  replace c4 := c4.on nn11
  replace c5 := c5.on nn11
  replace bA := bA.on nn11
  replace bx := bx.on nn11
  replace by1 := by1.on nn11
  replace L1 := bt L1 nn11
  have S6 : ImS w own once ⟨o.id, m, o.key⟩ A x y z q3 q4 q5 pA p8 p10 p12 x11c := ⟨c3, c4, c5, bA, bx, by1, bz, L1⟩
  first | refine WL.assign rfl rfl rfl ?_
  refine WL.done ?_
  refine EW.on ?_
  refine EW.seq ?_
  refine EW.seq ?_
  rcases z4 with hcx | ⟨hnx, hcy⟩ | ⟨hnx, hny, hcz⟩ | ⟨hnx, hny, hnz⟩
  · refine EW.region ?_
    first | refine WL.move rfl rfl rfl ?_
    refine WL.bin rfl rfl rfl rfl (int_ne_t (by rw [if_pos hcx]; decide) _ _ _) ?_
    first | refine WL.move rfl rfl rfl ?_
    refine WL.skip _ rfl rfl rfl ?_
    refine WL.skip _ rfl rfl rfl ?_
    first | refine WL.pick rfl rfl rfl rfl ?_
    first | refine WL.move rfl rfl rfl ?_
    refine WL.skip _ rfl rfl rfl ?_
    refine WL.skip _ rfl rfl rfl ?_
    first | refine WL.pick rfl rfl rfl rfl ?_
    refine WL.done ?_
    refine EW.on ?_
    refine EW.cond_t rfl ?_
    refine EW.seq ?_
    have hA70 : A = An.no 70 := by rw [← hA, ← hg]; unfold stA; rw [show agOf m ⟨own.a, o.key⟩ ⟨once.a, o.id⟩ ⟨once.a, o.key⟩ = ⟨z32, z16, 70⟩ from agr_no _ hm0 (by show _ ∨ _ ∨ _; rw [hx, hy, hz]; exact .inl hcx)]; rfl
    refine EW.region ?_
    refine WL.load rfl rfl rfl (ld35 S6.d kA) ?_
    refine WL.buildN [(4, .int .i64 70)] rfl rfl rfl (bdAn0 70 _) ?_
    refine WL.bin rfl rfl rfl rfl (eql35_t kA hA70 _ _ _) ?_
    first | refine WL.assign rfl rfl rfl ?_
    refine WL.done ?_
    refine EW.on ?_
    refine EW.ret ?_
    refine pr_then ?_
    exact EW.returns Tryd.results3 rfl ⟨rfl, S6.l⟩
  · refine EW.region ?_
    first | refine WL.move rfl rfl rfl ?_
    refine WL.bin rfl rfl rfl rfl (int_ne_f (if_neg hnx) _ _ _) ?_
    first | refine WL.move rfl rfl rfl ?_
    first | refine WL.move rfl rfl rfl ?_ | refine WL.skip _ rfl rfl rfl ?_
    refine WL.bin rfl rfl rfl rfl (int_ne_t (by rw [if_pos hcy]; decide) _ _ _) ?_
    first | refine WL.pick rfl rfl rfl rfl ?_
    first | refine WL.move rfl rfl rfl ?_
    refine WL.skip _ rfl rfl rfl ?_
    refine WL.skip _ rfl rfl rfl ?_
    first | refine WL.pick rfl rfl rfl rfl ?_
    refine WL.done ?_
    refine EW.on ?_
    refine EW.cond_t rfl ?_
    refine EW.seq ?_
    have hA70 : A = An.no 70 := by rw [← hA, ← hg]; unfold stA; rw [show agOf m ⟨own.a, o.key⟩ ⟨once.a, o.id⟩ ⟨once.a, o.key⟩ = ⟨z32, z16, 70⟩ from agr_no _ hm0 (by show _ ∨ _ ∨ _; rw [hx, hy, hz]; exact .inr (.inl hcy))]; rfl
    refine EW.region ?_
    refine WL.load rfl rfl rfl (ld35 S6.d kA) ?_
    refine WL.buildN [(4, .int .i64 70)] rfl rfl rfl (bdAn0 70 _) ?_
    refine WL.bin rfl rfl rfl rfl (eql35_t kA hA70 _ _ _) ?_
    first | refine WL.assign rfl rfl rfl ?_
    refine WL.done ?_
    refine EW.on ?_
    refine EW.ret ?_
    refine pr_then ?_
    exact EW.returns Tryd.results3 rfl ⟨rfl, S6.l⟩
  · refine EW.region ?_
    first | refine WL.move rfl rfl rfl ?_
    refine WL.bin rfl rfl rfl rfl (int_ne_f (if_neg hnx) _ _ _) ?_
    first | refine WL.move rfl rfl rfl ?_
    first | refine WL.move rfl rfl rfl ?_ | refine WL.skip _ rfl rfl rfl ?_
    refine WL.bin rfl rfl rfl rfl (int_ne_f (if_neg hny) _ _ _) ?_
    first | refine WL.pick rfl rfl rfl rfl ?_
    first | refine WL.move rfl rfl rfl ?_
    first | refine WL.move rfl rfl rfl ?_ | refine WL.skip _ rfl rfl rfl ?_
    refine WL.bin rfl rfl rfl rfl (int_ne_t (by rw [if_pos hcz]; decide) _ _ _) ?_
    first | refine WL.pick rfl rfl rfl rfl ?_
    refine WL.done ?_
    refine EW.on ?_
    refine EW.cond_t rfl ?_
    refine EW.seq ?_
    have hA70 : A = An.no 70 := by rw [← hA, ← hg]; unfold stA; rw [show agOf m ⟨own.a, o.key⟩ ⟨once.a, o.id⟩ ⟨once.a, o.key⟩ = ⟨z32, z16, 70⟩ from agr_no _ hm0 (by show _ ∨ _ ∨ _; rw [hx, hy, hz]; exact .inr (.inr hcz))]; rfl
    refine EW.region ?_
    refine WL.load rfl rfl rfl (ld35 S6.d kA) ?_
    refine WL.buildN [(4, .int .i64 70)] rfl rfl rfl (bdAn0 70 _) ?_
    refine WL.bin rfl rfl rfl rfl (eql35_t kA hA70 _ _ _) ?_
    first | refine WL.assign rfl rfl rfl ?_
    refine WL.done ?_
    refine EW.on ?_
    refine EW.ret ?_
    refine pr_then ?_
    exact EW.returns Tryd.results3 rfl ⟨rfl, S6.l⟩
  · refine EW.region ?_
    first | refine WL.move rfl rfl rfl ?_
    refine WL.bin rfl rfl rfl rfl (int_ne_f (if_neg hnx) _ _ _) ?_
    first | refine WL.move rfl rfl rfl ?_
    first | refine WL.move rfl rfl rfl ?_ | refine WL.skip _ rfl rfl rfl ?_
    refine WL.bin rfl rfl rfl rfl (int_ne_f (if_neg hny) _ _ _) ?_
    first | refine WL.pick rfl rfl rfl rfl ?_
    first | refine WL.move rfl rfl rfl ?_
    first | refine WL.move rfl rfl rfl ?_ | refine WL.skip _ rfl rfl rfl ?_
    refine WL.bin rfl rfl rfl rfl (int_ne_f (if_neg hnz) _ _ _) ?_
    first | refine WL.pick rfl rfl rfl rfl ?_
    refine WL.done ?_
    refine EW.on ?_
    refine EW.cond_f rfl ?_
    refine EW.skip ?_
    refine EW.on ?_
    refine EW.seq ?_
    have eG : g = ⟨X.take 32, X.drop 32, 0⟩ := by rw [← hg]; unfold agOf madeL; rw [hx, hy, hz, hX]; exact agr_ok X hm0 hnx hny hnz
    have eA : A = ⟨X.take 32, X.drop 32, own.b ++ o.id, ⟨own.b, once.b, m⟩, 0⟩ := by rw [← hA, eG]; rfl
    have hAe : A.e = 0 := by rw [eA]
    have eAs : A.s = X.take 32 := by rw [eA]
    have eAi : A.i = X.drop 32 := by rw [eA]
    have eAh : A.h = ⟨own.b, once.b, m⟩ := by rw [eA]
    clear eG eA
    refine EW.region ?_
    have mk := run_mk40 x11c 32 (by decide)
    have lm := below_new x11c (.cells ((List.replicate 32 (0 : UInt8)).map byt).toArray 5)
    have bG : Blk (x11c.alloc (.cells ((List.replicate 32 (0 : UInt8)).map byt).toArray 5)) x11c.heap.size ((ffK 0).map byt) 5 := Blk.new _ _ _
    refine WL.mks rfl rfl rfl rfl mk ?_
    obtain ⟨gI, hgI⟩ : ∃ gI, x11c.heap.size = gI := ⟨_, rfl⟩
    have hgw : w.heap.size ≤ gI := by have := S6.l.size; omega
    rw [hgI] at bG ⊢
    generalize x11c.alloc (.cells ((List.replicate 32 (0 : UInt8)).map byt).toArray 5) = v1 at lm bG
    have S7 := S6.on lm
    first | refine WL.assign rfl rfl rfl ?_
    refine WL.done ?_
    refine EW.on ?_
    refine EW.seq ?_
    refine EW.seq ?_
    refine EW.region ?_
    first | refine WL.assign rfl rfl rfl ?_
    refine WL.done ?_
    refine EW.on ?_
    refine EW.block ?_
    refine EW.loop (imE q3 q4 q5 pA p8 p10 p12 gI) (ImI w own once ⟨o.id, m, o.key⟩ A x y z q3 q4 q5 pA p8 p10 p12 gI) (fun t => 32 - t) 0 [3, 4, 5, 7, 8, 10, 12, 14, 15] rfl ⟨by decide, bG, S7⟩ ?_
    rintro t v3 ⟨hle, cG, S8⟩
    show EW _ _ _ _ [(3, .pointer (some ⟨q3, 0, none⟩)), (4, .pointer (some ⟨q4, 0, none⟩)), (5, .pointer (some ⟨q5, 0, none⟩)), (7, .pointer (some ⟨pA, 0, none⟩)), (8, .pointer (some ⟨p8, 0, none⟩)), (10, .pointer (some ⟨p10, 0, none⟩)), (12, .pointer (some ⟨p12, 0, none⟩)), (14, .slice (some ⟨gI, 0, none⟩) 32 32), (15, .int .i64 (t : Int))] _
    refine EW.seq ?_
    refine EW.seq ?_
    refine EW.region ?_
    first | refine WL.move rfl rfl rfl ?_
    refine WL.bin rfl rfl rfl rfl (int_lt_d _ _ _ _ _) ?_
    refine WL.done ?_
    refine EW.on ?_
    refine EW.cond_d rfl (fun h65 => ?_) (fun h65 => ?_)
    · refine EW.skip ?_
      refine EW.on ?_
      refine EW.seq ?_
      refine EW.block ?_
      have hlt : t < 32 := by omega
      refine EW.region ?_
      first | refine WL.move rfl rfl rfl ?_
      first | refine WL.move rfl rfl rfl ?_
      refine WL.index rfl rfl rfl rfl (ix40 gI t hlt _) ?_
      obtain ⟨v2, s2, d2, f2⟩ := stByte (j := t) 255 cG (by rw [ffK_len hle]; exact hlt)
      refine WL.store rfl rfl rfl s2 ?_
      rw [ffK_succ hlt] at d2
      refine WL.done ?_
      refine pn_block ?_
      refine EW.on ?_
      refine EW.region ?_
      first | refine WL.move rfl rfl rfl ?_
      refine WL.bin rfl rfl rfl rfl (int_add (c := ((t + 1 : Nat) : Int)) (by rw [IntKind.wrap_i64]; omega) _ _ _) ?_
      first | refine WL.assign rfl rfl rfl ?_
      refine WL.done ?_
      exact EW.again (E := imE q3 q4 q5 pA p8 p10 p12 gI) (R := ImI w own once ⟨o.id, m, o.key⟩ A x y z q3 q4 q5 pA p8 p10 p12 gI) (m := fun t => 32 - t) (x := t) (t + 1) [3, 4, 5, 7, 8, 10, 12, 14, 15] rfl ⟨by omega, d2, S8.st cG f2 hgw⟩ (by show 32 - (t + 1) < 32 - t; omega)
    · refine EW.exit ?_
      refine px_then ?_
      refine px_then ?_
      refine px_block ?_
      refine EW.on ?_
      refine EW.seq ?_
      have ht : t = 32 := by omega
      subst ht
      replace cG : Blk v3 gI (ff32.map byt) 5 := cG
      refine EW.ordB [(0, 0, 0), (1, 0, 0), (3, 0, 0), (5, 0, 0), (2, 1, 0), (4, 1, 0), (6, 1, 0), (7, 0, 0)] (by kernel_rfl) rfl (by kernel_rfl) ?_
      simp only [opsZ, List.getD_cons_zero, List.getD_cons_succ]
      refine ZE.move rfl rfl rfl rfl sz0 ?_
      refine ZE.slice0 rfl rfl rfl rfl sz0 (fun W => sl23o _ 0 W) ?_
      refine ZE.slice0 rfl rfl rfl rfl sz0 (fun W => sl23o _ 0 W) ?_
      refine ZE.slice0 rfl rfl rfl rfl sz0 (fun W => sl23o _ 0 W) ?_
      refine ZE.app (fun v W' => Own W' w.heap.size v (ff32 ++ x) ∧ ImS w own once ⟨o.id, m, o.key⟩ A x y z q3 q4 q5 pA p8 p10 p12 W') rfl rfl rfl rfl (fun _ _ _ => .inl rfl) (fun W hW => ?_) ?_
      · obtain ⟨v', w', g1, g2, g3⟩ := app40 (Own.new (cG.on hW) rfl (by decide) hgw) ((S8.on hW).x.has 32 lx) (by simp [ff32, lx, ly, lz]) (S8.on hW).l.size _
        exact ⟨v', w', g1, g2, (S8.on hW).app (Own.new (cG.on hW) rfl (by decide) hgw) g3⟩
      rintro va1 _
      refine ZE.app (fun v W' => Own W' w.heap.size v ((ff32 ++ x) ++ y) ∧ ImS w own once ⟨o.id, m, o.key⟩ A x y z q3 q4 q5 pA p8 p10 p12 W') rfl rfl rfl rfl (fun _ _ _ => .inl rfl) (fun W hW => ?_) ?_
      · obtain ⟨v', w', g1, g2, g3⟩ := app40 hW.1 (hW.2.y.has 32 ly) (by simp [ff32, lx, ly, lz]) hW.2.l.size _
        exact ⟨v', w', g1, g2, hW.2.app hW.1 g3⟩
      rintro va2 _
      refine ZE.app (fun v W' => Own W' w.heap.size v (((ff32 ++ x) ++ y) ++ z) ∧ ImS w own once ⟨o.id, m, o.key⟩ A x y z q3 q4 q5 pA p8 p10 p12 W') rfl rfl rfl rfl (fun _ _ _ => .inl rfl) (fun W hW => ?_) ?_
      · obtain ⟨v', w', g1, g2, g3⟩ := app40 hW.1 (hW.2.z.has 32 lz) (by simp [ff32, lx, ly, lz]) hW.2.l.size _
        exact ⟨v', w', g1, g2, hW.2.app hW.1 g3⟩
      rintro va3 _
      refine ZE.assign rfl rfl rfl rfl sz0 ?_
      rintro W8 ⟨hO0, S9⟩
      have hO : Has W8 va3 (ff32 ++ (x ++ (y ++ z))) := by have := hO0.has; simpa using this
      refine EW.on ?_
      refine EW.seq ?_
      refine EW.region ?_
      have mk := run_mk40 W8 32 (by decide)
      have lm2 := below_new W8 (.cells ((List.replicate 32 (0 : UInt8)).map byt).toArray 5)
      have hs2 : Has (W8.alloc (.cells ((List.replicate 32 (0 : UInt8)).map byt).toArray 5)) (.slice (some ⟨W8.heap.size, 0, none⟩) 32 32) z32 := has_news W8 z32
      refine WL.mks rfl rfl rfl rfl mk ?_
      generalize W8.alloc (.cells ((List.replicate 32 (0 : UInt8)).map byt).toArray 5) = W9 at lm2 hs2
      first | refine WL.move rfl rfl rfl ?_
      refine WL.bslN firstV rfl rfl rfl (bsl11 W9) ?_
      refine WL.conv rfl rfl rfl (conv11 W9) ?_
      have lf := below_new W9 (.cells (firstB.map byt).toArray 5 (11, 12))
      have hf : Has _ (.slice (some ⟨W9.heap.size, 0, none⟩) 11 11) firstB := has_newsM W9 firstB (11, 12) _ rfl
      generalize W9.alloc (.cells (firstB.map byt).toArray 5 (11, 12)) = W10 at lf hf
      have hd := derive_ok (.slice (some ⟨W8.heap.size, 0, none⟩) 32 32) va3 (.slice (some ⟨W9.heap.size, 0, none⟩) 11 11) z32 (ff32 ++ (x ++ (y ++ z))) firstB 48 W10 (hs2.below lf) ((hO.below lm2).below lf) hf (((hS.on S9.l).on lm2).on lf) (by decide) (by simp [ff32, lx, ly, lz]) (by decide) (by decide)
      rw [hX] at hd
      refine WL.call [.slice (some ⟨W8.heap.size, 0, none⟩) 32 32, va3, .slice (some ⟨W9.heap.size, 0, none⟩) 11 11, .int .i64 48] enter9 rfl rfl rfl hd ?_
      rintro _ W11 ⟨gD, rfl, tu⟩
      refine ⟨_, rfl, ?_⟩
      replace S9 := S9.on (bt (bt lm2 lf) tu.be)
      have d9 := tu.bl
      first | refine WL.move rfl rfl rfl ?_
      refine WL.extract rfl rfl rfl (ext_2 _ _ _).1 ?_
      refine WL.extract rfl rfl rfl (ext_2 _ _ _).2 ?_
      first | refine WL.assign rfl rfl rfl ?_
      first | refine WL.assign rfl rfl rfl ?_
      refine WL.done ?_
      refine EW.on ?_
      refine EW.seq ?_
      refine EW.seq ?_
      refine EW.region ?_
      first | refine WL.move rfl rfl rfl ?_
      refine WL.bin rfl rfl rfl rfl (int_ne_f rfl _ _ _) ?_
      first | refine WL.move rfl rfl rfl ?_
      first | refine WL.move rfl rfl rfl ?_ | refine WL.skip _ rfl rfl rfl ?_
      refine WL.len rfl rfl rfl (len48 _ _ _ _) ?_
      refine WL.bin rfl rfl rfl rfl (int_ne_f rfl _ _ _) ?_
      first | refine WL.pick rfl rfl rfl rfl ?_
      first | refine WL.move rfl rfl rfl ?_
      refine WL.field rfl rfl rfl (f35_4 pA 0 _) ?_
      refine WL.load rfl rfl rfl (anF S9.d kA).2.2.2.2 ?_
      refine WL.bin rfl rfl rfl rfl (int_ne_f hAe _ _ _) ?_
      first | refine WL.pick rfl rfl rfl rfl ?_
      refine WL.done ?_
      refine EW.on ?_
      refine EW.cond_f rfl ?_
      refine EW.skip ?_
      refine EW.on ?_
      refine EW.seq ?_
      refine EW.ordB [(0, 0, 0), (1, 0, 0), (2, 0, 1), (3, 0, 0), (4, 0, 0), (5, 0, 1), (6, 0, 0), (7, 0, 0), (8, 0, 0), (9, 0, 0), (10, 0, 1), (11, 0, 0), (12, 0, 0), (13, 0, 1), (14, 0, 0), (15, 0, 0), (16, 0, 0), (17, 0, 0), (18, 0, 1), (19, 0, 0), (20, 0, 1), (21, 0, 0), (22, 0, 1), (23, 0, 0), (24, 0, 1), (25, 0, 0), (26, 0, 0), (27, 0, 0), (28, 0, 0)] (by kernel_rfl) rfl (by kernel_rfl) ?_
      simp only [opsZ, List.getD_cons_zero, List.getD_cons_succ]
      refine ZE.field rfl rfl rfl rfl sz0 (fun W => f35_0 pA 0 W) ?_
      refine ZE.slice0 rfl rfl rfl rfl sz0 (fun W => sl23o _ _ W) ?_
      refine ZE.conv rfl rfl rfl rfl sz1 (fun W hW => (hasS (S9.on (sb_of hW)).d kA hXa eAs).convert) ?_
      first | refine ZE.move rfl rfl rfl rfl sz0 ?_
      refine ZE.sliceH rfl rfl rfl rfl rfl sz0 (fun W => cutH48 gD W) ?_
      refine ZE.conv rfl rfl rfl rfl sz1 (fun W hW => (hasX (d9.on (sb_of hW)) hXl).1.convert) ?_
      refine ZE.bin rfl rfl rfl rfl rfl sz0 (fun W => str_eq_t _ W _ _) ?_
      first | refine ZE.move rfl rfl rfl rfl sz0 ?_
      refine ZE.field rfl rfl rfl rfl sz0 (fun W => f35_1 pA 0 W) ?_
      refine ZE.slice0 rfl rfl rfl rfl sz0 (fun W => sl30o _ _ W) ?_
      refine ZE.conv rfl rfl rfl rfl sz1 (fun W hW => (hasI (S9.on (sb_of hW)).d kA hXb eAi).convert) ?_
      first | refine ZE.move rfl rfl rfl rfl sz0 ?_ | refine ZE.skip rfl rfl rfl sz0 ?_
      refine ZE.sliceL rfl rfl rfl rfl rfl sz0 (fun W => cutL48 gD W) ?_
      refine ZE.conv rfl rfl rfl rfl sz1 (fun W hW => (hasX (d9.on (sb_of hW)) hXl).2.convert) ?_
      refine ZE.bin rfl rfl rfl rfl rfl sz0 (fun W => str_eq_t _ W _ _) ?_
      first | refine ZE.pick rfl rfl rfl rfl rfl sz0 ?_
      first | refine ZE.move rfl rfl rfl rfl sz0 ?_
      refine ZE.field rfl rfl rfl rfl sz0 (fun W => f35_3 pA 0 W) ?_
      refine ZE.load rfl rfl rfl rfl sz1 (fun W hW => (anF (S9.on (sb_of hW)).d kA).2.2.2.1) ?_
      refine ZE.field rfl rfl rfl rfl sz0 (fun W => f25_1 q3 0 W) ?_
      refine ZE.load rfl rfl rfl rfl sz1 (fun W hW => (ld66 (S9.on (sb_of hW)).a k1).2) ?_
      refine ZE.field rfl rfl rfl rfl sz0 (fun W => f25_1 q4 0 W) ?_
      refine ZE.load rfl rfl rfl rfl sz1 (fun W hW => (ld66 (S9.on (sb_of hW)).b k2).2) ?_
      refine ZE.field rfl rfl rfl rfl sz0 (fun W => f28_1 q5 0 W) ?_
      refine ZE.load rfl rfl rfl rfl sz1 (fun W hW => (ofF (S9.on (sb_of hW)).c k3).2.1) ?_
      refine ZE.buildN [(0, kv own.b), (1, kv once.b), (2, u32v m)] rfl rfl rfl rfl sz0 (fun W => bdHl k1.b k2.b W) ?_
      refine ZE.bin rfl rfl rfl rfl rfl sz0 (fun W => eql33_t kA.h eAh W _ _) ?_
      first | refine ZE.pick rfl rfl rfl rfl rfl sz0 ?_
      first | refine ZE.assign rfl rfl rfl rfl sz0 ?_
      intro W12 e17
      refine EW.on ?_
      refine EW.ret ?_
      exact EW.returns Tryd.results3 rfl ⟨rfl, bt S9.l e17⟩
end Go.Proofs.YtoceepmehmacbaaDoor
