import Derived.Test.YtoceepmehmacbaaDoorGg
set_option linter.unusedVariables false
set_option linter.unusedSimpArgs false
namespace Go.Proofs.YtoceepmehmacbaaDoor
open Go.RowKit

theorem Blk.neT {w : World} {p q : Nat} {cs ds : List Value} {t s : TypeId} (h : Blk w p cs t) (k : Blk w q ds s) (hn : t ≠ s) : p ≠ q := fun e => by
  subst e
  have h : w.heap[p]? = _ := h
  have k : w.heap[p]? = _ := k
  rw [h] at k
  simp at k
  exact hn k.2
def agOf (n : Nat) (a b c : Pr) : Ag := agr n (Cv.timesL a.a a.b) (Cv.timesL b.a b.b) (Cv.timesL c.a c.b) (madeL (Cv.timesL a.a a.b) (Cv.timesL b.a b.b) (Cv.timesL c.a c.b))
theorem agOf_len (n : Nat) (a b c : Pr) : (agOf n a b c).s.length = 32 ∧ (agOf n a b c).i.length = 16 := agr_len _ _ _ _ (madeL_len _ _ _)
theorem agreed_at (n : Nat) (a b c : Pr) (ha : a.ok) (hb : b.ok) (hc : c.ok) (g : Ag) (hg : agOf n a b c = g) (w : World) (hS : Kst w) :
    Calls Tryd.prog 23 #[u32v n, .agg (thr a b c).toArray] w fun e w' => e = .returned (.tuple #[kv g.s, kv g.i, .int .i64 g.e]) ∧ Below w.heap.size w w' := by
  subst hg
  exact agreed_any n a b c ha hb hc _ _ _ _ rfl rfl rfl rfl w hS
/-- What 'Start' and 'Meet' answer. -/
def stA (g : Ag) (own once : Pr) (o : Of) : An := if g.e = 0 then ⟨g.s, g.i, own.b ++ o.id, ⟨own.b, once.b, o.pre⟩, 0⟩ else An.no g.e
def meA (g : Ag) (own : Pr) (h : Hl) : An := if g.e = 0 then ⟨g.s, g.i, h.id ++ own.b, Hl.z, 0⟩ else An.no g.e
theorem stA_ok {g : Ag} {own once : Pr} {o : Of} (hs : g.s.length = 32) (hi : g.i.length = 16) (h1 : own.ok) (h2 : once.ok) (h3 : o.ok) : (stA g own once o).ok := by
  unfold stA
  split
  · exact ⟨hs, hi, by simp [h1.b, h3.i], ⟨h1.b, h2.b, h3.p⟩⟩
  · exact An.no_ok _
theorem meA_ok {g : Ag} {own : Pr} {h : Hl} (hs : g.s.length = 32) (hi : g.i.length = 16) (h1 : own.ok) (h3 : h.ok) : (meA g own h).ok := by
  unfold meA
  split
  · exact ⟨hs, hi, by simp [h1.b, h3.i], Hl.z_ok⟩
  · exact An.no_ok _
theorem st33 {w : World} {q : Nat} {p o : Hl} {t : TypeId} (hb : Blk w q o.cs t) (ho : o.ok) (hp : p.ok) : ∃ w', (Instr.storeAt 33 (.pointer (some ⟨q, 0, none⟩)) p.v).run Tryd.prog w = .ok () w' ∧ Blk w' q p.cs t ∧ Fx (fun k => k = q) w w' :=
  ⟨_, run_storeR hb (i33 hp) (by rw [Hl.len ho, Hl.len hp]) p.one, hb.setRow _, Fx.setRow w q _ rfl⟩
theorem ld33 {w : World} {q : Nat} {p : Hl} {t : TypeId} (hb : Blk w q p.cs t) (hp : p.ok) : (Instr.loadAt 33 (.pointer (some ⟨q, 0, none⟩))).run Tryd.prog w = .ok p.v w := by
  obtain ⟨d, h1, h2⟩ := u33
  exact run_loadR hb h1 h2 (i33 hp)
theorem ldPr {w : World} {q : Nat} {p : Pr} {t : TypeId} (hb : Blk w q p.cs t) (hp : p.ok) : (Instr.loadAt 25 (.pointer (some ⟨q, 0, none⟩))).run Tryd.prog w = .ok p.v w := by
  obtain ⟨d, h1, h2⟩ := u25
  exact run_loadR hb h1 h2 (i25 hp)
theorem ldOf {w : World} {q : Nat} {p : Of} {t : TypeId} (hb : Blk w q p.cs t) (hp : p.ok) : (Instr.loadAt 28 (.pointer (some ⟨q, 0, none⟩))).run Tryd.prog w = .ok p.v w := by
  obtain ⟨d, h1, h2⟩ := u28
  exact run_loadR hb h1 h2 (i28 hp)
theorem ofF {w : World} {q : Nat} {o : Of} {t : TypeId} (hb : Blk w q o.cs t) (h : o.ok) : (Instr.loadAt 23 (.pointer (some ⟨q, 0 + 0, none⟩))).run Tryd.prog w = .ok (kv o.id) w ∧ (Instr.loadAt 26 (.pointer (some ⟨q, 0 + 32, none⟩))).run Tryd.prog w = .ok (u32v o.pre) w ∧ (Instr.loadAt 23 (.pointer (some ⟨q, 0 + 33, none⟩))).run Tryd.prog w = .ok (kv o.key) w :=
  ⟨hb.ldA (a := []) (m := o.id.map byt) (b := [u32v o.pre] ++ o.key.map byt) u23 rfl (i23 h.i) rfl rfl, hb.ldU (a := o.id.map byt) (b := o.key.map byt) rfl (by simp [h.i]), hb.ldA (a := o.id.map byt ++ [u32v o.pre]) (m := o.key.map byt) (b := []) u23 rfl (i23 h.k) (by simp [Of.cs]) (by simp [h.i])⟩
theorem hlF {w : World} {q : Nat} {o : Hl} {t : TypeId} (hb : Blk w q o.cs t) (h : o.ok) : (Instr.loadAt 23 (.pointer (some ⟨q, 0 + 0, none⟩))).run Tryd.prog w = .ok (kv o.id) w ∧ (Instr.loadAt 23 (.pointer (some ⟨q, 0 + 32, none⟩))).run Tryd.prog w = .ok (kv o.once) w ∧ (Instr.loadAt 26 (.pointer (some ⟨q, 0 + 64, none⟩))).run Tryd.prog w = .ok (u32v o.pre) w :=
  ⟨hb.ldA (a := []) (m := o.id.map byt) (b := o.once.map byt ++ [u32v o.pre]) u23 rfl (i23 h.i) rfl rfl, hb.ldA (a := o.id.map byt) (m := o.once.map byt) (b := [u32v o.pre]) u23 rfl (i23 h.o) rfl (by simp [h.i]), hb.ldU (a := o.id.map byt ++ o.once.map byt) (b := []) (by simp [Hl.cs]) (by simp [h.i, h.o])⟩
theorem bd33z (W : World) : (Instr.build 33 ([] : List (Nat × Value)).toArray).run Tryd.prog W = .ok Hl.z.v W := by kernel_rfl
structure SP (w : World) (q3 q5 p6 p7 p8 p9 : Nat) (own : Pr) (o : Of) (K I : List UInt8) (H : Hl) (B : List UInt8) (W : World) : Prop where
  a : Blk W q3 own.cs 25
  b : Blk W q5 o.cs 28
  c : Blk W p6 (K.map byt) 23
  d : Blk W p7 (I.map byt) 30
  f : Blk W p9 H.cs 33
  g : Blk W p8 (B.map byt) 31
  l : Below w.heap.size w W
section
variable {w W W' : World} {q3 q5 p6 p7 p8 p9 : Nat} {own : Pr} {o : Of} {K I B : List UInt8} {H : Hl}
theorem SP.on (h : SP w q3 q5 p6 p7 p8 p9 own o K I H B W) (hb : Below W.heap.size W W') : SP w q3 q5 p6 p7 p8 p9 own o K I H B W' :=
  ⟨h.a.on hb, h.b.on hb, h.c.on hb, h.d.on hb, h.f.on hb, h.g.on hb, bt h.l hb⟩
theorem SP.s6 (h : SP w q3 q5 p6 p7 p8 p9 own o K I H B W) {K' : List UInt8} (b : Blk W' p6 (K'.map byt) 23) (f : Fx (fun k => k = p6) W W') (hp : w.heap.size ≤ p6) : SP w q3 q5 p6 p7 p8 p9 own o K' I H B W' :=
  ⟨h.a.fx f (h.a.neT h.c (by decide)), h.b.fx f (h.b.neT h.c (by decide)), b, h.d.fx f (h.d.neT h.c (by decide)), h.f.fx f (h.f.neT h.c (by decide)), h.g.fx f (h.g.neT h.c (by decide)), bf h.l f hp⟩
theorem SP.s7 (h : SP w q3 q5 p6 p7 p8 p9 own o K I H B W) {I' : List UInt8} (b : Blk W' p7 (I'.map byt) 30) (f : Fx (fun k => k = p7) W W') (hp : w.heap.size ≤ p7) : SP w q3 q5 p6 p7 p8 p9 own o K I' H B W' :=
  ⟨h.a.fx f (h.a.neT h.d (by decide)), h.b.fx f (h.b.neT h.d (by decide)), h.c.fx f (h.c.neT h.d (by decide)), b, h.f.fx f (h.f.neT h.d (by decide)), h.g.fx f (h.g.neT h.d (by decide)), bf h.l f hp⟩
theorem SP.s8 (h : SP w q3 q5 p6 p7 p8 p9 own o K I H B W) {B' : List UInt8} (b : Blk W' p8 (B'.map byt) 31) (f : Fx (fun k => k = p8) W W') (hp : w.heap.size ≤ p8) : SP w q3 q5 p6 p7 p8 p9 own o K I H B' W' :=
  ⟨h.a.fx f (h.a.neT h.g (by decide)), h.b.fx f (h.b.neT h.g (by decide)), h.c.fx f (h.c.neT h.g (by decide)), h.d.fx f (h.d.neT h.g (by decide)), h.f.fx f (h.f.neT h.g (by decide)), b, bf h.l f hp⟩
theorem SP.s9 (h : SP w q3 q5 p6 p7 p8 p9 own o K I H B W) {H' : Hl} (b : Blk W' p9 H'.cs 33) (f : Fx (fun k => k = p9) W W') (hp : w.heap.size ≤ p9) : SP w q3 q5 p6 p7 p8 p9 own o K I H' B W' :=
  ⟨h.a.fx f (h.a.neT h.f (by decide)), h.b.fx f (h.b.neT h.f (by decide)), h.c.fx f (h.c.neT h.f (by decide)), h.d.fx f (h.d.neT h.f (by decide)), b, h.g.fx f (h.g.neT h.f (by decide)), bf h.l f hp⟩
end
set_option maxRecDepth 100000 in
set_option maxHeartbeats 4000000 in
theorem Start_any (own once : Pr) (o : Of) (ho1 : own.ok) (ho2 : once.ok) (ho3 : o.ok) (g : Ag) (hg : agOf o.pre ⟨own.a, o.key⟩ ⟨once.a, o.id⟩ ⟨once.a, o.key⟩ = g) (w : World) (hS : Kst w) :
    Calls Tryd.prog 14 #[own.v, once.v, o.v] w fun e w' => e = .returned (.tuple #[kv (stA g own once o).s, kv (stA g own once o).i, kv (stA g own once o).b, (stA g own once o).h.v, .int .i64 (stA g own once o).e]) ∧ Below w.heap.size w w' := by
  have hs : g.s.length = 32 := by rw [← hg]; exact (agOf_len _ _ _ _).1
  have hi : g.i.length = 16 := by rw [← hg]; exact (agOf_len _ _ _ _).2
  have hH : (⟨own.b, once.b, o.pre⟩ : Hl).ok := ⟨ho1.b, ho2.b, ho3.p⟩
  have hB : (own.b ++ o.id).length = 64 := by simp [ho1.b, ho3.i]
  obtain ⟨P1, hP1⟩ : ∃ P : Pr, (⟨own.a, o.key⟩ : Pr) = P := ⟨_, rfl⟩
  obtain ⟨P2, hP2⟩ : ∃ P : Pr, (⟨once.a, o.id⟩ : Pr) = P := ⟨_, rfl⟩
  obtain ⟨P3, hP3⟩ : ∃ P : Pr, (⟨once.a, o.key⟩ : Pr) = P := ⟨_, rfl⟩
  have k1 : P1.ok := by rw [← hP1]; exact ⟨ho1.a, ho3.k⟩
  have k2 : P2.ok := by rw [← hP2]; exact ⟨ho2.a, ho3.i⟩
  have k3 : P3.ok := by rw [← hP3]; exact ⟨ho2.a, ho3.k⟩
  have bp1 : ∀ W, (Instr.build 66 [(0, kv own.a), (1, kv o.key)].toArray).run Tryd.prog W = .ok P1.v W := fun W => by rw [← hP1]; exact bdPr66 ho1.a ho3.k W
  have bp2 : ∀ W, (Instr.build 66 [(0, kv once.a), (1, kv o.id)].toArray).run Tryd.prog W = .ok P2.v W := fun W => by rw [← hP2]; exact bdPr66 ho2.a ho3.i W
  have bp3 : ∀ W, (Instr.build 66 [(0, kv once.a), (1, kv o.key)].toArray).run Tryd.prog W = .ok P3.v W := fun W => by rw [← hP3]; exact bdPr66 ho2.a ho3.k W
  rw [hP1, hP2, hP3] at hg
  clear hP1 hP2 hP3
  obtain ⟨d33, eu33, er33⟩ := u33
  obtain ⟨w1, q3, r1, b1, l1, hq3⟩ := box_any 25 own.cs w
  obtain ⟨w2, q4, r2, b2, l2, hq4⟩ := box_any 25 once.cs w1
  obtain ⟨w3, q5, r3, b3, l3, hq5⟩ := box_any 28 o.cs w2
  obtain ⟨w4, p6, r4, b4, l4, hp6⟩ := new23 w3
  obtain ⟨w5, p7, r5, b5, l5, hp7⟩ := new30 w4
  obtain ⟨w6, p8, r6, b6, l6, hp8⟩ := new31 w5
  obtain ⟨w7, p9, r7, b7, l7, hp9⟩ := newA zv33 w6
  have z1 := l1.size
  have z2 := l2.size
  have z3 := l3.size
  have z4 := l4.size
  have z5 := l5.size
  have z6 := l6.size
  have y2 := b2.lt
  have S0 : SP w q3 q5 p6 p7 p8 p9 own o z32 z16 Hl.z z64k w7 := ⟨(((((b1.on l2).on l3).on l4).on l5).on l6).on l7, (((b3.on l4).on l5).on l6).on l7, ((b4.on l5).on l6).on l7, (b5.on l6).on l7, b7, b6.on l7, bt (bt (bt (bt (bt (bt l1 l2) l3) l4) l5) l6) l7⟩
  have c4 := ((((b2.on l3).on l4).on l5).on l6).on l7
  have hS7 : Kst w7 := hS.on S0.l
  have e6 : w.heap.size ≤ p6 := by omega
  have e7 : w.heap.size ≤ p7 := by omega
  have e8 : w.heap.size ≤ p8 := by omega
  have e9 : w.heap.size ≤ p9 := by omega
  refine calls_of_args [own.v, once.v, o.v] Tryd.func14 rfl 56 Tryd.ntmps14 (by show 3 ≤ 56; decide) ?_; refine EW.seq ?_; refine EW.region ?_; refine WL.box rfl rfl rfl r1 ?_; refine WL.box rfl rfl rfl r2 ?_; refine WL.box rfl rfl rfl r3 ?_; refine WL.new rfl rfl r4 ?_; refine WL.new rfl rfl r5 ?_; refine WL.new rfl rfl r6 ?_; refine WL.new rfl rfl r7 ?_; refine WL.assign rfl rfl rfl ?_; refine WL.done ?_; refine EW.on ?_; refine EW.seq ?_; refine EW.region ?_; refine WL.field rfl rfl rfl (f28_1 q5 0 _) ?_; refine WL.load rfl rfl rfl ((ofF S0.b ho3).2.1) ?_; refine WL.field rfl rfl rfl (f25_0 q3 0 _) ?_; refine WL.load rfl rfl rfl ((ld66 S0.a ho1).1) ?_; refine WL.field rfl rfl rfl (f28_2 q5 0 _) ?_; refine WL.load rfl rfl rfl ((ofF S0.b ho3).2.2) ?_; refine WL.buildN [(0, kv own.a), (1, kv o.key)] rfl rfl rfl (bp1 _) ?_; refine WL.field rfl rfl rfl (f25_0 q4 0 _) ?_; refine WL.load rfl rfl rfl ((ld66 c4 ho2).1) ?_; refine WL.field rfl rfl rfl (f28_0 q5 0 _) ?_; refine WL.load rfl rfl rfl ((ofF S0.b ho3).1) ?_; refine WL.buildN [(0, kv once.a), (1, kv o.id)] rfl rfl rfl (bp2 _) ?_; refine WL.field rfl rfl rfl (f25_0 q4 0 _) ?_; refine WL.load rfl rfl rfl ((ld66 c4 ho2).1) ?_; refine WL.field rfl rfl rfl (f28_2 q5 0 _) ?_; refine WL.load rfl rfl rfl ((ofF S0.b ho3).2.2) ?_; refine WL.buildN [(0, kv once.a), (1, kv o.key)] rfl rfl rfl (bp3 _) ?_; refine WL.buildN [(0, P1.v), (1, P2.v), (2, P3.v)] rfl rfl rfl (bd67 k1 k2 k3 _) ?_; refine WL.call [u32v o.pre, .agg (thr P1 P2 P3).toArray] enter23 rfl rfl rfl (agreed_at o.pre P1 P2 P3 k1 k2 k3 g hg w7 hS7) ?_
  rintro _ u1 ⟨rfl, m1⟩
  refine ⟨_, rfl, ?_⟩
  have S1 := S0.on m1
  have d4 := c4.on m1
  refine WL.move rfl rfl rfl ?_; refine WL.extract rfl rfl rfl (ext_3 _ _ _ _).1 ?_; refine WL.extract rfl rfl rfl (ext_3 _ _ _ _).2.1 ?_; refine WL.extract rfl rfl rfl (ext_3 _ _ _ _).2.2 ?_
  obtain ⟨x1, y1, z1, f1⟩ := st23 S1.c z32l hs
  refine WL.store rfl rfl rfl y1 ?_
  have S2 := S1.s6 z1 f1 e6
  replace d4 := d4.fx f1 (by omega)
  obtain ⟨x2, y2, z2, f2⟩ := st30 S2.d rfl hi
  refine WL.store rfl rfl rfl y2 ?_
  have S3 := S2.s7 z2 f2 e7
  replace d4 := d4.fx f2 (by omega)
  refine WL.assign rfl rfl rfl ?_; refine WL.done ?_; refine EW.on ?_; refine EW.seq ?_; refine EW.seq ?_; refine EW.region ?_; refine WL.move rfl rfl rfl ?_; refine WL.bin rfl rfl rfl rfl (int_ne_d _ _ _ _ _) ?_; refine WL.done ?_; refine EW.on ?_; refine EW.cond_d rfl (fun h35 => ?_) (fun h35 => ?_)
  · refine EW.seq ?_; refine EW.region ?_; refine WL.buildN [] rfl rfl rfl (bd23 _) ?_; refine WL.buildN [] rfl rfl rfl (bd30 _) ?_; refine WL.buildN [] rfl rfl rfl (bd31 _) ?_; refine WL.buildN [] rfl rfl rfl (bd33z _) ?_; refine WL.move rfl rfl rfl ?_
    obtain ⟨x3, y3, z3, f3⟩ := st23 S3.c hs z32l
    refine WL.store rfl rfl rfl y3 ?_
    have S4 := S3.s6 z3 f3 e6
    obtain ⟨x4, y4, z4, f4⟩ := st30 S4.d hi (rfl : z16.length = 16)
    refine WL.store rfl rfl rfl y4 ?_
    have S5 := S4.s7 z4 f4 e7
    obtain ⟨x5, y5, z5, f5⟩ := st31 S5.g rfl (rfl : z64k.length = 64)
    refine WL.store rfl rfl rfl y5 ?_
    have S6 := S5.s8 z5 f5 e8
    obtain ⟨x6, y6, z6, f6⟩ := st33 S6.f Hl.z_ok Hl.z_ok
    refine WL.store rfl rfl rfl y6 ?_
    have S7 := S6.s9 z6 f6 e9
    refine WL.assign rfl rfl rfl ?_; refine WL.done ?_; refine EW.on ?_; refine EW.ret ?_; refine pr_then ?_
    exact EW.ret_cccct Tryd.results14 rfl rfl rfl rfl rfl S7.c S7.d S7.g S7.f u23 rfl (i23 z32l) u30 rfl (i30 rfl) u31 rfl (i31 rfl) eu33 er33 (i33 Hl.z_ok) ⟨by unfold stA; rw [if_neg h35]; rfl, S7.l⟩
  · refine EW.skip ?_; refine EW.on ?_; refine EW.seq ?_
    have hge : g.e = 0 := Classical.byContradiction h35
    refine EW.region ?_; refine WL.field rfl rfl rfl (f25_1 q3 0 _) ?_; refine WL.load rfl rfl rfl ((ld66 S3.a ho1).2) ?_; refine WL.field rfl rfl rfl (f25_1 q4 0 _) ?_; refine WL.load rfl rfl rfl ((ld66 d4 ho2).2) ?_; refine WL.field rfl rfl rfl (f28_1 q5 0 _) ?_; refine WL.load rfl rfl rfl ((ofF S3.b ho3).2.1) ?_; refine WL.buildN [(0, kv own.b), (1, kv once.b), (2, u32v o.pre)] rfl rfl rfl (bdHl ho1.b ho2.b _) ?_
    obtain ⟨x3, y3, z3, f3⟩ := st33 S3.f Hl.z_ok hH
    refine WL.store rfl rfl rfl y3 ?_
    have S4 := S3.s9 z3 f3 e9
    refine WL.done ?_; refine EW.on ?_; refine EW.seq ?_; refine EW.ordZ [(0, 0, 1), (1, 0, 1), (2, 0, 0), (3, 0, 1), (4, 0, 0), (5, 0, 1), (7, 0, 1), (6, 1, 1), (8, 1, 1), (9, 1, 1), (10, 1, 1), (11, 1, 1), (12, 0, 0)] (SR fun W => ∃ B, B.length = 64 ∧ SP w q3 q5 p6 p7 p8 p9 own o g.s g.i ⟨own.b, once.b, o.pre⟩ B W) (SP w q3 q5 p6 p7 p8 p9 own o g.s g.i ⟨own.b, once.b, o.pre⟩ z64k) (by kernel_rfl) rfl (by kernel_rfl) (sr_anti _) (SP.on S4 (below_drawn _)) ?_; simp only [opsZ, List.getD_cons_zero, List.getD_cons_succ]; refine ZE.load rfl rfl rfl rfl (sr1 fun W h => ⟨z64k, rfl, h⟩) (fun W hW => by obtain ⟨B0, hB0, hP⟩ := sr_of hW; exact ld23 hP.c hs) ?_; refine ZE.load rfl rfl rfl rfl (sr1 fun W h => ⟨z64k, rfl, h⟩) (fun W hW => by obtain ⟨B0, hB0, hP⟩ := sr_of hW; exact ld30 hP.d hi) ?_; refine ZE.field rfl rfl rfl rfl sr0 (fun W => f25_1 q3 0 W) ?_; refine ZE.load rfl rfl rfl rfl (sr1 fun W h => ⟨z64k, rfl, h⟩) (fun W hW => by obtain ⟨B0, hB0, hP⟩ := sr_of hW; exact (ld66 hP.a ho1).2) ?_; refine ZE.field rfl rfl rfl rfl sr0 (fun W => f28_0 q5 0 W) ?_; refine ZE.load rfl rfl rfl rfl (sr1 fun W h => ⟨z64k, rfl, h⟩) (fun W hW => by obtain ⟨B0, hB0, hP⟩ := sr_of hW; exact (ofF hP.b ho3).1) ?_; refine ZE.load rfl rfl rfl rfl (sr1 fun W h => ⟨z64k, rfl, h⟩) (fun W hW => by obtain ⟨B0, hB0, hP⟩ := sr_of hW; exact ld33 hP.f hH) ?_; refine ZE.callR [kv own.b, kv o.id] (fun v W' => v = kv (own.b ++ o.id) ∧ SP w q3 q5 p6 p7 p8 p9 own o g.s g.i ⟨own.b, once.b, o.pre⟩ z64k W') enter24 rfl rfl rfl (fun v W' h => .inr ⟨z64k, rfl, h.2⟩) (fun W hW => (bound_any own.b o.id ho1.b ho3.i W).mono fun e w' h => ⟨_, h.1, rfl, hW.on h.2⟩) ?_
    rintro vb ⟨_, rfl, _⟩
    refine ZE.sub (SP w q3 q5 p6 p7 p8 p9 own o g.s g.i ⟨own.b, once.b, o.pre⟩ z64k) (fun W h => h.2) ?_; refine ZE.store (SP w q3 q5 p6 p7 p8 p9 own o g.s g.i ⟨own.b, once.b, o.pre⟩ z64k) rfl rfl rfl (fun _ h => .inr ⟨_, rfl, h⟩) (fun W hW => ?_) ?_
    · obtain ⟨w', r, b, f⟩ := st23 hW.c hs hs
      exact ⟨w', r, hW.s6 b f e6⟩
    refine ZE.store (SP w q3 q5 p6 p7 p8 p9 own o g.s g.i ⟨own.b, once.b, o.pre⟩ z64k) rfl rfl rfl (fun _ h => .inr ⟨_, rfl, h⟩) (fun W hW => ?_) ?_
    · obtain ⟨w', r, b, f⟩ := st30 hW.d hi hi
      exact ⟨w', r, hW.s7 b f e7⟩
    refine ZE.store (SP w q3 q5 p6 p7 p8 p9 own o g.s g.i ⟨own.b, once.b, o.pre⟩ (own.b ++ o.id)) rfl rfl rfl (fun _ h => .inr ⟨_, hB, h⟩) (fun W hW => ?_) ?_
    · obtain ⟨w', r, b, f⟩ := st31 hW.g rfl hB
      exact ⟨w', r, hW.s8 b f e8⟩
    refine ZE.store (SP w q3 q5 p6 p7 p8 p9 own o g.s g.i ⟨own.b, once.b, o.pre⟩ (own.b ++ o.id)) rfl rfl rfl (fun _ h => .inr ⟨_, hB, h⟩) (fun W hW => ?_) ?_
    · obtain ⟨w', r, b, f⟩ := st33 hW.f hH hH
      exact ⟨w', r, hW.s9 b f e9⟩
    refine ZE.assign rfl rfl rfl rfl sr0 ?_
    rintro W9 e
    refine EW.on ?_; refine EW.ret ?_
    exact EW.ret_cccct Tryd.results14 rfl rfl rfl rfl rfl e.c e.d e.g e.f u23 rfl (i23 hs) u30 rfl (i30 hi) u31 rfl (i31 hB) eu33 er33 (i33 hH) ⟨by unfold stA; rw [if_pos hge]; rfl, e.l⟩
structure SM (w : World) (q3 q5 p6 p7 p8 : Nat) (own : Pr) (o : Hl) (K I : List UInt8) (B : List UInt8) (W : World) : Prop where
  a : Blk W q3 own.cs 25
  b : Blk W q5 o.cs 33
  c : Blk W p6 (K.map byt) 23
  d : Blk W p7 (I.map byt) 30
  g : Blk W p8 (B.map byt) 31
  l : Below w.heap.size w W
section
variable {w W W' : World} {q3 q5 p6 p7 p8 : Nat} {own : Pr} {o : Hl} {K I B : List UInt8}
theorem SM.on (h : SM w q3 q5 p6 p7 p8 own o K I B W) (hb : Below W.heap.size W W') : SM w q3 q5 p6 p7 p8 own o K I B W' :=
  ⟨h.a.on hb, h.b.on hb, h.c.on hb, h.d.on hb, h.g.on hb, bt h.l hb⟩
theorem SM.s6 (h : SM w q3 q5 p6 p7 p8 own o K I B W) {K' : List UInt8} (b : Blk W' p6 (K'.map byt) 23) (f : Fx (fun k => k = p6) W W') (hp : w.heap.size ≤ p6) : SM w q3 q5 p6 p7 p8 own o K' I B W' :=
  ⟨h.a.fx f (h.a.neT h.c (by decide)), h.b.fx f (h.b.neT h.c (by decide)), b, h.d.fx f (h.d.neT h.c (by decide)), h.g.fx f (h.g.neT h.c (by decide)), bf h.l f hp⟩
theorem SM.s7 (h : SM w q3 q5 p6 p7 p8 own o K I B W) {I' : List UInt8} (b : Blk W' p7 (I'.map byt) 30) (f : Fx (fun k => k = p7) W W') (hp : w.heap.size ≤ p7) : SM w q3 q5 p6 p7 p8 own o K I' B W' :=
  ⟨h.a.fx f (h.a.neT h.d (by decide)), h.b.fx f (h.b.neT h.d (by decide)), h.c.fx f (h.c.neT h.d (by decide)), b, h.g.fx f (h.g.neT h.d (by decide)), bf h.l f hp⟩
theorem SM.s8 (h : SM w q3 q5 p6 p7 p8 own o K I B W) {B' : List UInt8} (b : Blk W' p8 (B'.map byt) 31) (f : Fx (fun k => k = p8) W W') (hp : w.heap.size ≤ p8) : SM w q3 q5 p6 p7 p8 own o K I B' W' :=
  ⟨h.a.fx f (h.a.neT h.g (by decide)), h.b.fx f (h.b.neT h.g (by decide)), h.c.fx f (h.c.neT h.g (by decide)), h.d.fx f (h.d.neT h.g (by decide)), b, bf h.l f hp⟩
end
set_option maxRecDepth 100000 in
set_option maxHeartbeats 4000000 in
theorem Meet_any (own once : Pr) (o : Hl) (ho1 : own.ok) (ho2 : once.ok) (ho3 : o.ok) (g : Ag) (hg : agOf o.pre ⟨once.a, o.id⟩ ⟨own.a, o.once⟩ ⟨once.a, o.once⟩ = g) (w : World) (hS : Kst w) :
    Calls Tryd.prog 20 #[own.v, once.v, o.v] w fun e w' => e = .returned (.tuple #[kv (meA g own o).s, kv (meA g own o).i, kv (meA g own o).b, .int .i64 (meA g own o).e]) ∧ Below w.heap.size w w' := by
  have hs : g.s.length = 32 := by rw [← hg]; exact (agOf_len _ _ _ _).1
  have hi : g.i.length = 16 := by rw [← hg]; exact (agOf_len _ _ _ _).2
  have hB : (o.id ++ own.b).length = 64 := by simp [ho1.b, ho3.i]
  obtain ⟨P1, hP1⟩ : ∃ P : Pr, (⟨once.a, o.id⟩ : Pr) = P := ⟨_, rfl⟩
  obtain ⟨P2, hP2⟩ : ∃ P : Pr, (⟨own.a, o.once⟩ : Pr) = P := ⟨_, rfl⟩
  obtain ⟨P3, hP3⟩ : ∃ P : Pr, (⟨once.a, o.once⟩ : Pr) = P := ⟨_, rfl⟩
  have k1 : P1.ok := by rw [← hP1]; exact ⟨ho2.a, ho3.i⟩
  have k2 : P2.ok := by rw [← hP2]; exact ⟨ho1.a, ho3.o⟩
  have k3 : P3.ok := by rw [← hP3]; exact ⟨ho2.a, ho3.o⟩
  have bp1 : ∀ W, (Instr.build 66 [(0, kv once.a), (1, kv o.id)].toArray).run Tryd.prog W = .ok P1.v W := fun W => by rw [← hP1]; exact bdPr66 ho2.a ho3.i W
  have bp2 : ∀ W, (Instr.build 66 [(0, kv own.a), (1, kv o.once)].toArray).run Tryd.prog W = .ok P2.v W := fun W => by rw [← hP2]; exact bdPr66 ho1.a ho3.o W
  have bp3 : ∀ W, (Instr.build 66 [(0, kv once.a), (1, kv o.once)].toArray).run Tryd.prog W = .ok P3.v W := fun W => by rw [← hP3]; exact bdPr66 ho2.a ho3.o W
  rw [hP1, hP2, hP3] at hg
  clear hP1 hP2 hP3
  obtain ⟨w1, q3, r1, b1, l1, hq3⟩ := box_any 25 own.cs w
  obtain ⟨w2, q4, r2, b2, l2, hq4⟩ := box_any 25 once.cs w1
  obtain ⟨w3, q5, r3, b3, l3, hq5⟩ := box_any 33 o.cs w2
  obtain ⟨w4, p6, r4, b4, l4, hp6⟩ := new23 w3
  obtain ⟨w5, p7, r5, b5, l5, hp7⟩ := new30 w4
  obtain ⟨w6, p8, r6, b6, l6, hp8⟩ := new31 w5
  have z1 := l1.size
  have z2 := l2.size
  have z3 := l3.size
  have z4 := l4.size
  have z5 := l5.size
  have S0 : SM w q3 q5 p6 p7 p8 own o z32 z16 z64k w6 := ⟨((((b1.on l2).on l3).on l4).on l5).on l6, ((b3.on l4).on l5).on l6, (b4.on l5).on l6, b5.on l6, b6, bt (bt (bt (bt (bt l1 l2) l3) l4) l5) l6⟩
  have c4 := (((b2.on l3).on l4).on l5).on l6
  have hS6 : Kst w6 := hS.on S0.l
  have e6 : w.heap.size ≤ p6 := by omega
  have e7 : w.heap.size ≤ p7 := by omega
  have e8 : w.heap.size ≤ p8 := by omega
  refine calls_of_args [own.v, once.v, o.v] Tryd.func20 rfl 46 Tryd.ntmps20 (by show 3 ≤ 46; decide) ?_; refine EW.seq ?_; refine EW.region ?_; refine WL.box rfl rfl rfl r1 ?_; refine WL.box rfl rfl rfl r2 ?_; refine WL.box rfl rfl rfl r3 ?_; refine WL.new rfl rfl r4 ?_; refine WL.new rfl rfl r5 ?_; refine WL.new rfl rfl r6 ?_; refine WL.assign rfl rfl rfl ?_; refine WL.done ?_; refine EW.on ?_; refine EW.seq ?_; refine EW.region ?_; refine WL.field rfl rfl rfl (f33_2 q5 0 _) ?_; refine WL.load rfl rfl rfl ((hlF S0.b ho3).2.2) ?_; refine WL.field rfl rfl rfl (f25_0 q4 0 _) ?_; refine WL.load rfl rfl rfl ((ld66 c4 ho2).1) ?_; refine WL.field rfl rfl rfl (f33_0 q5 0 _) ?_; refine WL.load rfl rfl rfl ((hlF S0.b ho3).1) ?_; refine WL.buildN [(0, kv once.a), (1, kv o.id)] rfl rfl rfl (bp1 _) ?_; refine WL.field rfl rfl rfl (f25_0 q3 0 _) ?_; refine WL.load rfl rfl rfl ((ld66 S0.a ho1).1) ?_; refine WL.field rfl rfl rfl (f33_1 q5 0 _) ?_; refine WL.load rfl rfl rfl ((hlF S0.b ho3).2.1) ?_; refine WL.buildN [(0, kv own.a), (1, kv o.once)] rfl rfl rfl (bp2 _) ?_; refine WL.field rfl rfl rfl (f25_0 q4 0 _) ?_; refine WL.load rfl rfl rfl ((ld66 c4 ho2).1) ?_; refine WL.field rfl rfl rfl (f33_1 q5 0 _) ?_; refine WL.load rfl rfl rfl ((hlF S0.b ho3).2.1) ?_; refine WL.buildN [(0, kv once.a), (1, kv o.once)] rfl rfl rfl (bp3 _) ?_; refine WL.buildN [(0, P1.v), (1, P2.v), (2, P3.v)] rfl rfl rfl (bd67 k1 k2 k3 _) ?_; refine WL.call [u32v o.pre, .agg (thr P1 P2 P3).toArray] enter23 rfl rfl rfl (agreed_at o.pre P1 P2 P3 k1 k2 k3 g hg w6 hS6) ?_
  rintro _ u1 ⟨rfl, m1⟩
  refine ⟨_, rfl, ?_⟩
  have S1 := S0.on m1
  refine WL.move rfl rfl rfl ?_; refine WL.extract rfl rfl rfl (ext_3 _ _ _ _).1 ?_; refine WL.extract rfl rfl rfl (ext_3 _ _ _ _).2.1 ?_; refine WL.extract rfl rfl rfl (ext_3 _ _ _ _).2.2 ?_
  obtain ⟨x1, y1, z1, f1⟩ := st23 S1.c z32l hs
  refine WL.store rfl rfl rfl y1 ?_
  have S2 := S1.s6 z1 f1 e6
  obtain ⟨x2, y2, z2, f2⟩ := st30 S2.d rfl hi
  refine WL.store rfl rfl rfl y2 ?_
  have S3 := S2.s7 z2 f2 e7
  refine WL.assign rfl rfl rfl ?_; refine WL.done ?_; refine EW.on ?_; refine EW.seq ?_; refine EW.seq ?_; refine EW.region ?_; refine WL.move rfl rfl rfl ?_; refine WL.bin rfl rfl rfl rfl (int_ne_d _ _ _ _ _) ?_; refine WL.done ?_; refine EW.on ?_; refine EW.cond_d rfl (fun h34 => ?_) (fun h34 => ?_)
  · refine EW.seq ?_; refine EW.region ?_; refine WL.buildN [] rfl rfl rfl (bd23 _) ?_; refine WL.buildN [] rfl rfl rfl (bd30 _) ?_; refine WL.buildN [] rfl rfl rfl (bd31 _) ?_; refine WL.move rfl rfl rfl ?_
    obtain ⟨x3, y3, z3, f3⟩ := st23 S3.c hs z32l
    refine WL.store rfl rfl rfl y3 ?_
    have S4 := S3.s6 z3 f3 e6
    obtain ⟨x4, y4, z4, f4⟩ := st30 S4.d hi (rfl : z16.length = 16)
    refine WL.store rfl rfl rfl y4 ?_
    have S5 := S4.s7 z4 f4 e7
    obtain ⟨x5, y5, z5, f5⟩ := st31 S5.g rfl (rfl : z64k.length = 64)
    refine WL.store rfl rfl rfl y5 ?_
    have S6 := S5.s8 z5 f5 e8
    refine WL.assign rfl rfl rfl ?_; refine WL.done ?_; refine EW.on ?_; refine EW.ret ?_; refine pr_then ?_
    exact EW.ret_ccct Tryd.results20 rfl rfl rfl rfl S6.c S6.d S6.g u23 rfl (i23 z32l) u30 rfl (i30 rfl) u31 rfl (i31 rfl) ⟨by unfold meA; rw [if_neg h34]; rfl, S6.l⟩
  · refine EW.skip ?_; refine EW.on ?_; refine EW.seq ?_
    have hge : g.e = 0 := Classical.byContradiction h34
    refine EW.ordZ [(0, 0, 1), (1, 0, 1), (2, 0, 0), (3, 0, 1), (4, 0, 0), (5, 0, 1), (6, 1, 1), (7, 1, 1), (8, 1, 1), (9, 1, 1), (10, 0, 0)] (SR fun W => ∃ B, B.length = 64 ∧ SM w q3 q5 p6 p7 p8 own o g.s g.i B W) (SM w q3 q5 p6 p7 p8 own o g.s g.i z64k) (by kernel_rfl) rfl (by kernel_rfl) (sr_anti _) (SM.on S3 (below_drawn _)) ?_; simp only [opsZ, List.getD_cons_zero, List.getD_cons_succ]; refine ZE.load rfl rfl rfl rfl (sr1 fun W h => ⟨z64k, rfl, h⟩) (fun W hW => by obtain ⟨B0, hB0, hP⟩ := sr_of hW; exact ld23 hP.c hs) ?_; refine ZE.load rfl rfl rfl rfl (sr1 fun W h => ⟨z64k, rfl, h⟩) (fun W hW => by obtain ⟨B0, hB0, hP⟩ := sr_of hW; exact ld30 hP.d hi) ?_; refine ZE.field rfl rfl rfl rfl sr0 (fun W => f33_0 q5 0 W) ?_; refine ZE.load rfl rfl rfl rfl (sr1 fun W h => ⟨z64k, rfl, h⟩) (fun W hW => by obtain ⟨B0, hB0, hP⟩ := sr_of hW; exact (hlF hP.b ho3).1) ?_; refine ZE.field rfl rfl rfl rfl sr0 (fun W => f25_1 q3 0 W) ?_; refine ZE.load rfl rfl rfl rfl (sr1 fun W h => ⟨z64k, rfl, h⟩) (fun W hW => by obtain ⟨B0, hB0, hP⟩ := sr_of hW; exact (ld66 hP.a ho1).2) ?_; refine ZE.callR [kv o.id, kv own.b] (fun v W' => v = kv (o.id ++ own.b) ∧ SM w q3 q5 p6 p7 p8 own o g.s g.i z64k W') enter24 rfl rfl rfl (fun v W' h => .inr ⟨z64k, rfl, h.2⟩) (fun W hW => (bound_any o.id own.b ho3.i ho1.b W).mono fun e w' h => ⟨_, h.1, rfl, hW.on h.2⟩) ?_
    rintro vb ⟨_, rfl, _⟩
    refine ZE.sub (SM w q3 q5 p6 p7 p8 own o g.s g.i z64k) (fun W h => h.2) ?_; refine ZE.store (SM w q3 q5 p6 p7 p8 own o g.s g.i z64k) rfl rfl rfl (fun _ h => .inr ⟨_, rfl, h⟩) (fun W hW => ?_) ?_
    · obtain ⟨w', r, b, f⟩ := st23 hW.c hs hs
      exact ⟨w', r, hW.s6 b f e6⟩
    refine ZE.store (SM w q3 q5 p6 p7 p8 own o g.s g.i z64k) rfl rfl rfl (fun _ h => .inr ⟨_, rfl, h⟩) (fun W hW => ?_) ?_
    · obtain ⟨w', r, b, f⟩ := st30 hW.d hi hi
      exact ⟨w', r, hW.s7 b f e7⟩
    refine ZE.store (SM w q3 q5 p6 p7 p8 own o g.s g.i (o.id ++ own.b)) rfl rfl rfl (fun _ h => .inr ⟨_, hB, h⟩) (fun W hW => ?_) ?_
    · obtain ⟨w', r, b, f⟩ := st31 hW.g rfl hB
      exact ⟨w', r, hW.s8 b f e8⟩
    refine ZE.assign rfl rfl rfl rfl sr0 ?_
    rintro W9 e
    refine EW.on ?_; refine EW.ret ?_
    exact EW.ret_ccct Tryd.results20 rfl rfl rfl rfl e.c e.d e.g u23 rfl (i23 hs) u30 rfl (i30 hi) u31 rfl (i31 hB) ⟨by unfold meA; rw [if_pos hge]; rfl, e.l⟩
theorem ext_5 (a b c d e : Value) (W : World) : (Instr.extract (.tuple #[a, b, c, d, e]) 0).run Tryd.prog W = .ok a W ∧ (Instr.extract (.tuple #[a, b, c, d, e]) 1).run Tryd.prog W = .ok b W ∧ (Instr.extract (.tuple #[a, b, c, d, e]) 2).run Tryd.prog W = .ok c W ∧ (Instr.extract (.tuple #[a, b, c, d, e]) 3).run Tryd.prog W = .ok d W ∧ (Instr.extract (.tuple #[a, b, c, d, e]) 4).run Tryd.prog W = .ok e W := by refine ⟨?_, ?_, ?_, ?_, ?_⟩ <;> go_simp
theorem ext_4 (a b c d : Value) (W : World) : (Instr.extract (.tuple #[a, b, c, d]) 0).run Tryd.prog W = .ok a W ∧ (Instr.extract (.tuple #[a, b, c, d]) 1).run Tryd.prog W = .ok b W ∧ (Instr.extract (.tuple #[a, b, c, d]) 2).run Tryd.prog W = .ok c W ∧ (Instr.extract (.tuple #[a, b, c, d]) 3).run Tryd.prog W = .ok d W := by refine ⟨?_, ?_, ?_, ?_⟩ <;> go_simp
theorem st35 {w : World} {q : Nat} {p o : An} {t : TypeId} (hb : Blk w q o.cs t) (ho : o.ok) (hp : p.ok) : ∃ w', (Instr.storeAt 35 (.pointer (some ⟨q, 0, none⟩)) p.v).run Tryd.prog w = .ok () w' ∧ Blk w' q p.cs t ∧ Fx (fun k => k = q) w w' :=
  ⟨_, run_storeR hb (i35 hp) (by rw [An.len ho, An.len hp]) p.one, hb.setRow _, Fx.setRow w q _ rfl⟩
theorem new35 (w : World) : ∃ w1 q, (Instr.alloc 35 true (.tuple #[])).run Tryd.prog w = .ok (.pointer (some ⟨q, 0, none⟩)) w1 ∧ Blk w1 q (An.no 0).cs 35 ∧ Below w.heap.size w w1 ∧ q = w.heap.size := newA zv35 w
set_option maxRecDepth 100000 in
set_option maxHeartbeats 1000000 in
theorem start_any (own once : Pr) (o : Of) (ho1 : own.ok) (ho2 : once.ok) (ho3 : o.ok) (g : Ag) (hg : agOf o.pre ⟨own.a, o.key⟩ ⟨once.a, o.id⟩ ⟨once.a, o.key⟩ = g) (A : An) (hA : stA g own once o = A) (w : World) (hS : Kst w) :
    Calls Tryd.prog 7 #[own.v, once.v, o.v] w fun e w' => e = .returned A.v ∧ Below w.heap.size w w' := by
  have hs : g.s.length = 32 := by rw [← hg]; exact (agOf_len _ _ _ _).1
  have hi : g.i.length = 16 := by rw [← hg]; exact (agOf_len _ _ _ _).2
  have kA : A.ok := by rw [← hA]; exact stA_ok hs hi ho1 ho2 ho3

  obtain ⟨w1, q3, r1, b1, l1, hq3⟩ := box_any 25 own.cs w
  obtain ⟨w2, q4, r2, b2, l2, hq4⟩ := box_any 25 once.cs w1
  obtain ⟨w3, q5, r3, b3, l3, hq5⟩ := box_any 28 o.cs w2
  obtain ⟨w4, p6, r4, b4, l4, hp6⟩ := new35 w3
  have c3 := ((b1.on l2).on l3).on l4
  have c4 := (b2.on l3).on l4
  have c5 := b3.on l4
  have L4 := bt (bt (bt l1 l2) l3) l4
  have hS4 : Kst w4 := hS.on L4
  have z1 := l1.size
  have z2 := l2.size
  have z3 := l3.size
  refine calls_of_args [own.v, once.v, o.v] Tryd.func7 rfl 28 Tryd.ntmps7 (by show 3 ≤ 28; decide) ?_; refine EW.seq ?_; refine EW.region ?_; refine WL.box rfl rfl rfl r1 ?_; refine WL.box rfl rfl rfl r2 ?_; refine WL.box rfl rfl rfl r3 ?_; refine WL.new rfl rfl r4 ?_; refine WL.done ?_; refine EW.on ?_; refine EW.seq ?_; refine EW.region ?_; refine WL.load rfl rfl rfl (ldPr c3 ho1) ?_; refine WL.load rfl rfl rfl (ldPr c4 ho2) ?_; refine WL.load rfl rfl rfl (ldOf c5 ho3) ?_; refine WL.call [own.v, once.v, o.v] enter14 rfl rfl rfl (Start_any own once o ho1 ho2 ho3 g hg w4 hS4) ?_
  rintro _ u1 ⟨rfl, m1⟩
  refine ⟨_, rfl, ?_⟩
  rw [hA]
  have zz1 := m1.size
  have yy4 := (b4.on m1).lt
  refine WL.move rfl rfl rfl ?_; refine WL.extract rfl rfl rfl (ext_5 _ _ _ _ _ _ ).1 ?_; refine WL.extract rfl rfl rfl (ext_5 _ _ _ _ _ _ ).2.1 ?_; refine WL.extract rfl rfl rfl (ext_5 _ _ _ _ _ _ ).2.2.1 ?_; refine WL.extract rfl rfl rfl (ext_5 _ _ _ _ _ _ ).2.2.2.1 ?_; refine WL.extract rfl rfl rfl (ext_5 _ _ _ _ _ _ ).2.2.2.2 ?_
  obtain ⟨v7, p7, s7, b7, m7, hp7⟩ := new23 u1
  refine WL.new rfl rfl s7 ?_
  have zz7 := m7.size
  have yy7 := b7.lt
  obtain ⟨v8, p8, s8, b8, m8, hp8⟩ := new30 v7
  refine WL.new rfl rfl s8 ?_
  have zz8 := m8.size
  have yy8 := b8.lt
  obtain ⟨v9, p9, s9, b9, m9, hp9⟩ := new31 v8
  refine WL.new rfl rfl s9 ?_
  have zz9 := m9.size
  have yy9 := b9.lt
  obtain ⟨v10, p10, s10, b10, m10, hp10⟩ := newA zv33 v9
  refine WL.new rfl rfl s10 ?_
  have zz10 := m10.size
  have yy10 := b10.lt
  obtain ⟨x7, y7, d7, f7⟩ := st23 (((b7.on m8).on m9).on m10) z32l kA.s
  refine WL.store rfl rfl rfl y7 ?_
  obtain ⟨x8, y8, d8, f8⟩ := st30 (((b8.on m9).on m10).fx f7 (fun e => by have := b7.lt; omega)) rfl kA.i
  refine WL.store rfl rfl rfl y8 ?_
  obtain ⟨x9, y9, d9, f9⟩ := st31 (((b9.on m10).fx f7 (fun e => by have := b7.lt; omega)).fx f8 (fun e => by have := b8.lt; omega)) rfl kA.b
  refine WL.store rfl rfl rfl y9 ?_
  obtain ⟨x10, y10, d10, f10⟩ := st33 (((b10.fx f7 (fun e => by have := b7.lt; omega)).fx f8 (fun e => by have := b8.lt; omega)).fx f9 (fun e => by have := b9.lt; omega)) Hl.z_ok kA.h
  refine WL.store rfl rfl rfl y10 ?_; refine WL.assign rfl rfl rfl ?_; refine WL.done ?_; refine EW.on ?_; refine EW.seq ?_; refine EW.region ?_; refine WL.load rfl rfl rfl (ld23 (((d7.fx f8 (fun e => by have := b7.lt; omega)).fx f9 (fun e => by have := b7.lt; have := m8.size; omega)).fx f10 (fun e => by have := b7.lt; have := m8.size; omega)) kA.s) ?_; refine WL.load rfl rfl rfl (ld30 ((d8.fx f9 (fun e => by have := b8.lt; omega)).fx f10 (fun e => by have := b8.lt; have := m9.size; omega)) kA.i) ?_; refine WL.load rfl rfl rfl (ld31 (d9.fx f10 (fun e => by have := b9.lt; omega)) kA.b) ?_; refine WL.load rfl rfl rfl (ld33 d10 kA.h) ?_; refine WL.move rfl rfl rfl ?_; refine WL.buildN [(0, kv A.s), (1, kv A.i), (2, kv A.b), (3, A.h.v), (4, .int .i64 A.e)] rfl rfl rfl (bdAn kA _) ?_
  obtain ⟨x, y, d, f⟩ := st35 (((((((((b4.on m1).on m7).on m8).on m9).on m10).fx f7 (fun e => by have := (b4.on m1).lt; omega)).fx f8 (fun e => by have := (b4.on m1).lt; omega)).fx f9 (fun e => by have := (b4.on m1).lt; omega)).fx f10 (fun e => by have := (b4.on m1).lt; omega)) (An.no_ok 0) kA
  refine WL.store rfl rfl rfl y ?_; refine WL.done ?_; refine EW.on ?_; refine EW.ret ?_
  exact EW.returnsC Tryd.results7 rfl d Tryd.underlying35 rfl (i35 kA) ⟨rfl, (bf (bf (bf (bf (bf (bt (bt (bt (bt (bt L4 m1) m7) m8) m9) m10) f7 (by have := m1.size; have := m7.size; have := m8.size; have := m9.size; have := m10.size; have := l4.size; omega)) f8 (by have := m1.size; have := m7.size; have := m8.size; have := m9.size; have := m10.size; have := l4.size; omega)) f9 (by have := m1.size; have := m7.size; have := m8.size; have := m9.size; have := m10.size; have := l4.size; omega)) f10 (by have := m1.size; have := m7.size; have := m8.size; have := m9.size; have := m10.size; have := l4.size; omega)) f (by have := m1.size; have := m7.size; have := m8.size; have := m9.size; have := m10.size; have := l4.size; omega))⟩
set_option maxRecDepth 100000 in
set_option maxHeartbeats 1000000 in
theorem meet_any (own once : Pr) (o : Hl) (ho1 : own.ok) (ho2 : once.ok) (ho3 : o.ok) (g : Ag) (hg : agOf o.pre ⟨once.a, o.id⟩ ⟨own.a, o.once⟩ ⟨once.a, o.once⟩ = g) (A : An) (hA : meA g own o = A) (w : World) (hS : Kst w) :
    Calls Tryd.prog 11 #[own.v, once.v, o.v] w fun e w' => e = .returned A.v ∧ Below w.heap.size w w' := by
  have hs : g.s.length = 32 := by rw [← hg]; exact (agOf_len _ _ _ _).1
  have hi : g.i.length = 16 := by rw [← hg]; exact (agOf_len _ _ _ _).2
  have kA : A.ok := by rw [← hA]; exact meA_ok hs hi ho1 ho3
  have hAh : A.h = Hl.z := by
    rw [← hA]
    unfold meA
    split <;> rfl

  obtain ⟨w1, q3, r1, b1, l1, hq3⟩ := box_any 25 own.cs w
  obtain ⟨w2, q4, r2, b2, l2, hq4⟩ := box_any 25 once.cs w1
  obtain ⟨w3, q5, r3, b3, l3, hq5⟩ := box_any 33 o.cs w2
  obtain ⟨w4, p6, r4, b4, l4, hp6⟩ := new35 w3
  have c3 := ((b1.on l2).on l3).on l4
  have c4 := (b2.on l3).on l4
  have c5 := b3.on l4
  have L4 := bt (bt (bt l1 l2) l3) l4
  have hS4 : Kst w4 := hS.on L4
  have z1 := l1.size
  have z2 := l2.size
  have z3 := l3.size
  refine calls_of_args [own.v, once.v, o.v] Tryd.func11 rfl 25 Tryd.ntmps11 (by show 3 ≤ 25; decide) ?_; refine EW.seq ?_; refine EW.region ?_; refine WL.box rfl rfl rfl r1 ?_; refine WL.box rfl rfl rfl r2 ?_; refine WL.box rfl rfl rfl r3 ?_; refine WL.new rfl rfl r4 ?_; refine WL.done ?_; refine EW.on ?_; refine EW.seq ?_; refine EW.region ?_; refine WL.load rfl rfl rfl (ldPr c3 ho1) ?_; refine WL.load rfl rfl rfl (ldPr c4 ho2) ?_; refine WL.load rfl rfl rfl (ld33 c5 ho3) ?_; refine WL.call [own.v, once.v, o.v] enter20 rfl rfl rfl (Meet_any own once o ho1 ho2 ho3 g hg w4 hS4) ?_
  rintro _ u1 ⟨rfl, m1⟩
  refine ⟨_, rfl, ?_⟩
  rw [hA]
  have zz1 := m1.size
  have yy4 := (b4.on m1).lt
  refine WL.move rfl rfl rfl ?_; refine WL.extract rfl rfl rfl (ext_4 _ _ _ _ _ ).1 ?_; refine WL.extract rfl rfl rfl (ext_4 _ _ _ _ _ ).2.1 ?_; refine WL.extract rfl rfl rfl (ext_4 _ _ _ _ _ ).2.2.1 ?_; refine WL.extract rfl rfl rfl (ext_4 _ _ _ _ _ ).2.2.2 ?_
  obtain ⟨v7, p7, s7, b7, m7, hp7⟩ := new23 u1
  refine WL.new rfl rfl s7 ?_
  have zz7 := m7.size
  have yy7 := b7.lt
  obtain ⟨v8, p8, s8, b8, m8, hp8⟩ := new30 v7
  refine WL.new rfl rfl s8 ?_
  have zz8 := m8.size
  have yy8 := b8.lt
  obtain ⟨v9, p9, s9, b9, m9, hp9⟩ := new31 v8
  refine WL.new rfl rfl s9 ?_
  have zz9 := m9.size
  have yy9 := b9.lt
  obtain ⟨x7, y7, d7, f7⟩ := st23 ((b7.on m8).on m9) z32l kA.s
  refine WL.store rfl rfl rfl y7 ?_
  obtain ⟨x8, y8, d8, f8⟩ := st30 ((b8.on m9).fx f7 (fun e => by have := b7.lt; omega)) rfl kA.i
  refine WL.store rfl rfl rfl y8 ?_
  obtain ⟨x9, y9, d9, f9⟩ := st31 ((b9.fx f7 (fun e => by have := b7.lt; omega)).fx f8 (fun e => by have := b8.lt; omega)) rfl kA.b
  refine WL.store rfl rfl rfl y9 ?_; refine WL.assign rfl rfl rfl ?_; refine WL.done ?_; refine EW.on ?_; refine EW.seq ?_; refine EW.region ?_; refine WL.load rfl rfl rfl (ld23 ((d7.fx f8 (fun e => by have := b7.lt; omega)).fx f9 (fun e => by have := b7.lt; have := m8.size; omega)) kA.s) ?_; refine WL.load rfl rfl rfl (ld30 (d8.fx f9 (fun e => by have := b8.lt; omega)) kA.i) ?_; refine WL.load rfl rfl rfl (ld31 d9 kA.b) ?_; refine WL.move rfl rfl rfl ?_; refine WL.buildN [(0, kv A.s), (1, kv A.i), (2, kv A.b), (4, .int .i64 A.e)] rfl rfl rfl (bdAn4 kA hAh _) ?_
  obtain ⟨x, y, d, f⟩ := st35 (((((((b4.on m1).on m7).on m8).on m9).fx f7 (fun e => by have := (b4.on m1).lt; omega)).fx f8 (fun e => by have := (b4.on m1).lt; omega)).fx f9 (fun e => by have := (b4.on m1).lt; omega)) (An.no_ok 0) kA
  refine WL.store rfl rfl rfl y ?_; refine WL.done ?_; refine EW.on ?_; refine EW.ret ?_
  exact EW.returnsC Tryd.results11 rfl d Tryd.underlying35 rfl (i35 kA) ⟨rfl, (bf (bf (bf (bf (bt (bt (bt (bt L4 m1) m7) m8) m9) f7 (by have := m1.size; have := m7.size; have := m8.size; have := m9.size; have := l4.size; omega)) f8 (by have := m1.size; have := m7.size; have := m8.size; have := m9.size; have := l4.size; omega)) f9 (by have := m1.size; have := m7.size; have := m8.size; have := m9.size; have := l4.size; omega)) f (by have := m1.size; have := m7.size; have := m8.size; have := m9.size; have := l4.size; omega))⟩
end Go.Proofs.YtoceepmehmacbaaDoor
