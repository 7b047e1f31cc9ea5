import Derived.Test.YtoceepmehmacbaaDoorGf
set_option linter.unusedVariables false
set_option linter.unusedSimpArgs false
namespace Go.Proofs.YtoceepmehmacbaaDoor
open Go.RowKit

section
variable {P : Program} {n : Nat} {ops : Array Oper} {Q : Exit → Act → World → Prop} {i : Nat} {ty : TypeId} {ps : String} {af : Array Edge} {gd : Option (Nat × Bool)} {r : List Oper} {e : List (Nat × Value)} {w w' : World}
theorem WL.idx {t : TypeId} {x y : Operand} {u u' v : Value} (hw : wantE ops e ⟨some i, .index t x y, ty, ps, af, gd⟩ = some true) (hi : decide (i < n) = true) (hx : evE e x = some u) (hy : evE e y = some u') (hr : (Instr.index t u u').run P w = .ok v w) (k : WL P n ops Q r ((i, v) :: e) w) : WL P n ops Q (⟨some i, .index t x y, ty, ps, af, gd⟩ :: r) e w :=
  WL.op i v hw rfl hi (fun a ha => by simp [execOp, ha.ev hx, ha.ev hy, hr, Result.andThen]) k
end
theorem sr1 {R : World → Prop} {l : Nat} {C : World → Prop} (h : ∀ W, C W → R W) : ∀ W, C W → SZ (SR R) 0 l C W := fun W hW => .inr (h W hW)
theorem ext_3 (a b c : Value) (W : World) : (Instr.extract (.tuple #[a, b, c]) 0).run Tryd.prog W = .ok a W ∧ (Instr.extract (.tuple #[a, b, c]) 1).run Tryd.prog W = .ok b W ∧ (Instr.extract (.tuple #[a, b, c]) 2).run Tryd.prog W = .ok c W := by refine ⟨?_, ?_, ?_⟩ <;> go_simp
theorem eqlU0 (n : Nat) (W : World) (x y : Operand) : (do eqGuard .eql 26 x y (u32v n) (.int .u32 0); binOp .eql 26 (u32v n) (.int .u32 0) : Sem Value).run Tryd.prog W = .ok (.bool (decide (n = 0))) W := eqlU n 0 W x y
theorem sl31H (q : Nat) (W : World) : (Instr.sliceAt 31 (.pointer (some ⟨q, 0, none⟩)) none (some (.int .i64 32)) none).run Tryd.prog W = .ok (.slice (some ⟨q, 0, none⟩) 32 64) W := by
  go_simp
  try simp
  try rw [add_plain]
theorem sl31L (q : Nat) (W : World) : (Instr.sliceAt 31 (.pointer (some ⟨q, 0, none⟩)) (some (.int .i64 32)) none none).run Tryd.prog W = .ok (.slice (some ⟨q, 32, none⟩) 32 32) W := by
  go_simp
  try simp
  try rw [add_plain]
theorem new31 (w : World) : ∃ w1 q, (Instr.alloc 31 true (.tuple #[])).run Tryd.prog w = .ok (.pointer (some ⟨q, 0, none⟩)) w1 ∧ Blk w1 q (z64k.map byt) 31 ∧ Below w.heap.size w w1 ∧ q = w.heap.size := newA zv31 w
theorem st31 {w : World} {q : Nat} {old K : List UInt8} {t : TypeId} (hb : Blk w q (old.map byt) t) (ho : old.length = 64) (hK : K.length = 64) : ∃ w', (Instr.storeAt 31 (.pointer (some ⟨q, 0, none⟩)) (kv K)).run Tryd.prog w = .ok () w' ∧ Blk w' q (K.map byt) t ∧ Fx (fun k => k = q) w w' :=
  ⟨_, run_storeR hb (i31 hK) (by rw [List.length_map, List.length_map, ho, hK]) (bytsOne K), hb.setRow _, Fx.setRow w q _ rfl⟩
theorem ld31 {w : World} {q : Nat} {K : List UInt8} {t : TypeId} (hb : Blk w q (K.map byt) t) (hK : K.length = 64) : (Instr.loadAt 31 (.pointer (some ⟨q, 0, none⟩))).run Tryd.prog w = .ok (kv K) w := run_loadR hb u31 rfl (i31 hK)
theorem ld30 {w : World} {q : Nat} {K : List UInt8} {t : TypeId} (hb : Blk w q (K.map byt) t) (hK : K.length = 16) : (Instr.loadAt 30 (.pointer (some ⟨q, 0, none⟩))).run Tryd.prog w = .ok (kv K) w := run_loadR hb u30 rfl (i30 hK)
theorem cat_one {a : List UInt8} (ha : a.length = 32) : (z64k.map byt).take 0 ++ (a.take 32).map byt ++ (z64k.map byt).drop (0 + (a.take 32).length) = (a ++ z32).map byt := by
  rw [List.take_of_length_le (l := a) (by omega), ha, List.map_append]
  rfl
theorem cat_two {a b : List UInt8} (ha : a.length = 32) (hb : b.length = 32) : ((a ++ z32).map byt).take 32 ++ (b.take 32).map byt ++ ((a ++ z32).map byt).drop (32 + (b.take 32).length) = (a ++ b).map byt := by
  rw [List.take_of_length_le (l := b) (by omega), hb, ← List.map_take, List.take_left' ha, ← List.map_drop, List.drop_of_length_le (by rw [List.length_append, ha]; decide), List.map_nil, List.append_nil, List.map_append]
set_option maxRecDepth 100000 in
set_option maxHeartbeats 1000000 in
theorem bound_any (a b : List UInt8) (ha : a.length = 32) (hb : b.length = 32) (w : World) : Calls Tryd.prog 24 #[kv a, kv b] w fun e w' => e = .returned (kv (a ++ b)) ∧ Below w.heap.size w w' := by
  obtain ⟨w1, q1, r1, b1, l1, hq1⟩ := box23 a w
  obtain ⟨w2, q2, r2, b2, l2, hq2⟩ := box23 b w1
  obtain ⟨w3, p3, r3, b3, l3, hp3⟩ := new31 w2
  obtain ⟨w4, p4, r4, b4, l4, hp4⟩ := new31 w3
  have L4 := bt (bt (bt l1 l2) l3) l4
  have hne : p3 ≠ p4 := by have := b3.lt; omega
  have hab : (a ++ b).length = 64 := by rw [List.length_append, ha, hb]
  refine calls_of_args [kv a, kv b] Tryd.func24 rfl 13 Tryd.ntmps24 (by show 2 ≤ 13; decide) ?_; refine EW.seq ?_; refine EW.region ?_; refine WL.box rfl rfl rfl r1 ?_; refine WL.box rfl rfl rfl r2 ?_; refine WL.new rfl rfl r3 ?_; refine WL.done ?_; refine EW.on ?_; refine EW.seq ?_; refine EW.region ?_; refine WL.new rfl rfl r4 ?_; refine WL.done ?_; refine EW.on ?_; refine EW.seq ?_; refine EW.ordB [(0, 0, 0), (1, 0, 0), (2, 1, 0)] (by kernel_rfl) rfl (by kernel_rfl) ?_; simp only [opsZ, List.getD_cons_zero, List.getD_cons_succ]; refine ZE.sliceH rfl rfl rfl rfl rfl (fun W h => .inl rfl) (fun W => sl31H _ W) ?_; refine ZE.slice0 rfl rfl rfl rfl (fun W h => .inl rfl) (fun W => sl23 _ W) ?_; refine ZE.copy (fun v W => Blk W p4 ((a ++ z32).map byt) 31 ∧ Blk W p3 (z64k.map byt) 31 ∧ Blk W q2 (b.map byt) 23 ∧ Below w.heap.size w W) rfl rfl rfl rfl (fun _ _ _ => .inl rfl) (fun W hW => ?_) ?_
  · obtain ⟨w', s1, s2, s3⟩ := cpA (off := 0) (n := 32) (b4.on hW) (by decide) 64 (((((b1.on l2).on l3).on l4).on hW).has 32 ha) _
    rw [cat_one ha] at s2
    exact ⟨_, w', s1, s2, ((b3.on l4).on hW).fx s3 hne, ((((b2.on l3).on l4)).on hW).fx s3 (by have := b2.lt; have := l3.size; omega), bf (bt L4 hW) s3 (by have := l1.size; have := l2.size; have := l3.size; omega)⟩
  rintro vc _
  rintro W5 ⟨c4, c3, c2, cL⟩
  refine EW.on ?_; refine EW.seq ?_; refine EW.ordB [(0, 0, 0), (1, 0, 0), (2, 1, 0)] (by kernel_rfl) rfl (by kernel_rfl) ?_; simp only [opsZ, List.getD_cons_zero, List.getD_cons_succ]; refine ZE.sliceL rfl rfl rfl rfl rfl (fun W h => .inl rfl) (fun W => sl31L _ W) ?_; refine ZE.slice0 rfl rfl rfl rfl (fun W h => .inl rfl) (fun W => sl23 _ W) ?_; refine ZE.copy (fun v W => Blk W p4 ((a ++ b).map byt) 31 ∧ Blk W p3 (z64k.map byt) 31 ∧ Below w.heap.size w W) rfl rfl rfl rfl (fun _ _ _ => .inl rfl) (fun W hW => ?_) ?_
  · obtain ⟨w', s1, s2, s3⟩ := cpA (off := 32) (n := 32) (c4.on hW) (by rw [List.length_map, List.length_append, ha]; decide) 32 (((c2.on hW)).has 32 hb) _
    rw [cat_two ha hb] at s2
    exact ⟨_, w', s1, s2, (c3.on hW).fx s3 hne, bf (bt cL hW) s3 (by have := l1.size; have := l2.size; have := l3.size; omega)⟩
  rintro vd _
  rintro W6 ⟨d4, d3, dL⟩
  refine EW.on ?_; refine EW.seq ?_; refine EW.region ?_; refine WL.load rfl rfl rfl (ld31 d4 hab) ?_
  obtain ⟨w9, s9, b9, f9⟩ := st31 d3 rfl hab
  refine WL.store rfl rfl rfl s9 ?_; refine WL.done ?_; refine EW.on ?_; refine EW.ret ?_
  exact EW.returnsC Tryd.results24 rfl b9 u31 rfl (i31 hab) ⟨rfl, bf dL f9 (by have := l1.size; have := l2.size; omega)⟩
/-- What both sides agree on: the secret, the id, the error. -/
structure Ag where
  s : List UInt8
  i : List UInt8
  e : Int
def agr (n : Nat) (x y z X : List UInt8) : Ag := if n = 0 then ⟨z32, z16, 170⟩ else if x = z32 ∨ y = z32 ∨ z = z32 then ⟨z32, z16, 70⟩ else ⟨X.take 32, X.drop 32, 0⟩
theorem agr_0 (x y z X : List UInt8) : agr 0 x y z X = ⟨z32, z16, 170⟩ := rfl
theorem agr_no {n : Nat} {x y z : List UInt8} (X : List UInt8) (h0 : n ≠ 0) (h : x = z32 ∨ y = z32 ∨ z = z32) : agr n x y z X = ⟨z32, z16, 70⟩ := by
  unfold agr
  rw [if_neg h0, if_pos h]
theorem agr_ok {n : Nat} {x y z : List UInt8} (X : List UInt8) (h0 : n ≠ 0) (hx : x ≠ z32) (hy : y ≠ z32) (hz : z ≠ z32) : agr n x y z X = ⟨X.take 32, X.drop 32, 0⟩ := by
  unfold agr
  rw [if_neg h0, if_neg (fun h => h.elim hx fun h => h.elim hy hz)]
theorem agr_len (n : Nat) (x y z : List UInt8) {X : List UInt8} (hX : X.length = 48) : (agr n x y z X).s.length = 32 ∧ (agr n x y z X).i.length = 16 := by
  unfold agr
  split
  · exact ⟨rfl, rfl⟩
  · split
    · exact ⟨rfl, rfl⟩
    · exact ⟨by show (X.take 32).length = 32; rw [List.length_take, hX]; decide, by show (X.drop 32).length = 16; rw [List.length_drop, hX]⟩
theorem ld66 {w : World} {q : Nat} {p : Pr} {t : TypeId} (hb : Blk w q p.cs t) (h : p.ok) : (Instr.loadAt 23 (.pointer (some ⟨q, 0 + 0, none⟩))).run Tryd.prog w = .ok (kv p.a) w ∧ (Instr.loadAt 23 (.pointer (some ⟨q, 0 + 32, none⟩))).run Tryd.prog w = .ok (kv p.b) w :=
  ⟨hb.ldA (a := []) (m := p.a.map byt) (b := p.b.map byt) u23 rfl (i23 h.a) rfl rfl, hb.ldA (a := p.a.map byt) (m := p.b.map byt) (b := []) u23 rfl (i23 h.b) (by simp [Pr.cs]) (by simp [h.a])⟩
theorem st66 {w : World} {q : Nat} {p o : Pr} {t : TypeId} (hb : Blk w q o.cs t) (ho : o.ok) (hp : p.ok) : ∃ w', (Instr.storeAt 66 (.pointer (some ⟨q, 0, none⟩)) p.v).run Tryd.prog w = .ok () w' ∧ Blk w' q p.cs t ∧ Fx (fun k => k = q) w w' :=
  ⟨_, run_storeR hb (i66 hp) (by rw [Pr.len ho, Pr.len hp]) p.one, hb.setRow _, Fx.setRow w q _ rfl⟩
theorem Pr.z_ok : Pr.z.ok := ⟨rfl, rfl⟩
/-- A key into its place of three. -/
theorem st80 {w : World} {q : Nat} {x y z K : List UInt8} {t : TypeId} (hb : Blk w q (thK x y z) t) (hx : x.length = 32) (hy : y.length = 32) (hz : z.length = 32) (hK : K.length = 32) :
    (∃ w', (Instr.storeAt 23 (.pointer (some ⟨q, 0, none⟩)) (kv K)).run Tryd.prog w = .ok () w' ∧ Blk w' q (thK K y z) t ∧ Fx (fun k => k = q) w w') ∧ (∃ w', (Instr.storeAt 23 (.pointer (some ⟨q, 32, none⟩)) (kv K)).run Tryd.prog w = .ok () w' ∧ Blk w' q (thK x K z) t ∧ Fx (fun k => k = q) w w') ∧ (∃ w', (Instr.storeAt 23 (.pointer (some ⟨q, 64, none⟩)) (kv K)).run Tryd.prog w = .ok () w' ∧ Blk w' q (thK x y K) t ∧ Fx (fun k => k = q) w w') := by
  refine ⟨?_, ?_, ?_⟩
  · exact hb.stA (a := []) (m := x.map byt) (b := y.map byt ++ z.map byt) (i23 hK) (bytsOne K) rfl rfl (by simp [hx, hK])
  · exact hb.stA (a := x.map byt) (m := y.map byt) (b := z.map byt) (i23 hK) (bytsOne K) rfl (by simp [hx]) (by simp [hy, hK])
  · obtain ⟨w', h1, h2, h3⟩ := hb.stA (o := 64) (a := x.map byt ++ y.map byt) (m := z.map byt) (b := []) (vs := K.map byt) (i23 hK) (bytsOne K) (by simp [thK]) (by simp [hx, hy]) (by simp [hz, hK])
    exact ⟨w', h1, by simpa [thK] using h2, h3⟩
theorem ld80 {w : World} {q : Nat} {x y z : List UInt8} {t : TypeId} (hb : Blk w q (thK x y z) t) (hx : x.length = 32) (hy : y.length = 32) (hz : z.length = 32) :
    (Instr.loadAt 23 (.pointer (some ⟨q, 0, none⟩))).run Tryd.prog w = .ok (kv x) w ∧ (Instr.loadAt 23 (.pointer (some ⟨q, 32, none⟩))).run Tryd.prog w = .ok (kv y) w ∧ (Instr.loadAt 23 (.pointer (some ⟨q, 64, none⟩))).run Tryd.prog w = .ok (kv z) w :=
  ⟨hb.ldA (a := []) (m := x.map byt) (b := y.map byt ++ z.map byt) u23 rfl (i23 hx) rfl rfl, hb.ldA (a := x.map byt) (m := y.map byt) (b := z.map byt) u23 rfl (i23 hy) rfl (by simp [hx]), hb.ldA (a := x.map byt ++ y.map byt) (m := z.map byt) (b := []) u23 rfl (i23 hz) (by simp [thK]) (by simp [hx, hy])⟩
def upK (i j : Nat) (x : List UInt8) : List UInt8 := if j < i then x else z32
theorem upK_len (i j : Nat) {x : List UInt8} (h : x.length = 32) : (upK i j x).length = 32 := by
  unfold upK
  split
  · exact h
  · rfl
def agE (vt : Value) (p4 p5 p7 i : Nat) : List (Nat × Value) := [(4, .pointer (some ⟨p4, 0, none⟩)), (5, .pointer (some ⟨p5, 0, none⟩)), (6, .int .i64 0), (7, .pointer (some ⟨p7, 0, none⟩)), (14, vt), (15, .int .i64 (i : Int))]
def AgI (w : World) (x y z : List UInt8) (p4 p5 p7 i : Nat) (W : World) : Prop := i ≤ 3 ∧ Blk W p7 (thK (upK i 0 x) (upK i 1 y) (upK i 2 z)) 80 ∧ Blk W p4 (z32.map byt) 23 ∧ Blk W p5 (z16.map byt) 30 ∧ (0 < i → x ≠ z32) ∧ (1 < i → y ≠ z32) ∧ (2 < i → z ≠ z32) ∧ Below w.heap.size w W
set_option maxRecDepth 100000 in
set_option maxHeartbeats 4000000 in
theorem agreed_any (n : Nat) (a b c : Pr) (ha : a.ok) (hb : b.ok) (hc : c.ok) (x y z X : List UInt8) (hx : Cv.timesL a.a a.b = x) (hy : Cv.timesL b.a b.b = y) (hz : Cv.timesL c.a c.b = z) (hX : exOut (macOf z32 (ff32 ++ (x ++ (y ++ z)))) firstB 48 = X) (w : World) (hS : Kst w) :
    Calls Tryd.prog 23 #[u32v n, .agg (thr a b c).toArray] w fun e w' => e = .returned (.tuple #[kv (agr n x y z X).s, kv (agr n x y z X).i, .int .i64 (agr n x y z X).e]) ∧ Below w.heap.size w w' := by
  have lx : x.length = 32 := by rw [← hx]; exact Cv.times_length _ _
  have ly : y.length = 32 := by rw [← hy]; exact Cv.times_length _ _
  have lz : z.length = 32 := by rw [← hz]; exact Cv.times_length _ _
  have hXl : X.length = 48 := by rw [← hX]; exact exOut_length _ _ _
  have hXa : (X.take 32).length = 32 := by rw [List.length_take, hXl]; decide
  have hXb : (X.drop 32).length = 16 := by rw [List.length_drop, hXl]
  obtain ⟨w1, q1, r1, b1, l1, hq1⟩ := box_any 67 (thr a b c) w
  obtain ⟨w2, p4, r2, b2, l2, hp4⟩ := new23 w1
  obtain ⟨w3, p5, r3, b3, l3, hp5⟩ := new30 w2
  obtain ⟨w4, p7, r4, b4, l4, hp7⟩ := newA zv80 w3
  have L3 := bt (bt l1 l2) l3
  have L4 := bt L3 l4
  have h45 : p4 ≠ p5 := by have := b2.lt; omega
  have h47 : p4 ≠ p7 := by have := b2.lt; have := l3.size; omega
  have h57 : p5 ≠ p7 := by have := b3.lt; omega
  refine calls_of_args [u32v n, .agg (thr a b c).toArray] Tryd.func23 rfl 47 Tryd.ntmps23 (by show 2 ≤ 47; decide) ?_; refine EW.seq ?_; refine EW.region ?_; refine WL.box rfl rfl rfl r1 ?_; refine WL.new rfl rfl r2 ?_; refine WL.new rfl rfl r3 ?_; refine WL.assign rfl rfl rfl ?_; refine WL.done ?_; refine EW.on ?_; refine EW.seq ?_; refine EW.seq ?_; refine EW.region ?_; refine WL.move rfl rfl rfl ?_; refine WL.bin rfl rfl rfl rfl (eqlU0 _ _ _ _) ?_; refine WL.done ?_; refine EW.on ?_; refine EW.cond_d rfl (fun h11 => ?_) (fun h11 => ?_)
  · refine EW.seq ?_; refine EW.region ?_; refine WL.buildN [] rfl rfl rfl (bd23 _) ?_; refine WL.buildN [] rfl rfl rfl (bd30 _) ?_
    obtain ⟨v1, s1, d1, f1⟩ := st23 ((b2.on l3)) z32l z32l
    refine WL.store rfl rfl rfl s1 ?_
    obtain ⟨v2, s2, d2, f2⟩ := st30 (b3.fx f1 (fun e => h45 e.symm)) rfl (rfl : z16.length = 16)
    refine WL.store rfl rfl rfl s2 ?_; refine WL.assign rfl rfl rfl ?_; refine WL.done ?_; refine EW.on ?_; refine EW.ret ?_; refine pr_then ?_
    exact EW.ret_cct Tryd.results23 rfl rfl rfl (d1.fx f2 h45) d2 u23 rfl (i23 z32l) u30 rfl (i30 rfl) ⟨by rw [h11, agr_0]; rfl, bf (bf L3 f1 (by have := l1.size; omega)) f2 (by have := l1.size; have := l2.size; omega)⟩
  · refine EW.skip ?_; refine EW.on ?_; refine EW.seq ?_; refine EW.region ?_; refine WL.new rfl rfl r4 ?_; refine WL.done ?_; refine EW.on ?_; refine EW.seq ?_; refine EW.seq ?_; refine EW.region ?_; refine WL.load rfl rfl rfl (run_loadR (((b1.on l2).on l3).on l4) u67 rfl (i67 ha hb hc)) ?_; refine WL.move rfl rfl rfl ?_; refine WL.done ?_; refine EW.on ?_; refine EW.block ?_; refine EW.loop (agE (.agg (thr a b c).toArray) p4 p5 p7) (AgI w x y z p4 p5 p7) (fun i => 3 - i) 0 [4, 5, 6, 7, 14, 15] rfl ⟨by decide, b4, (b2.on l3).on l4, b3.on l4, fun h => absurd h (by decide), fun h => absurd h (by decide), fun h => absurd h (by decide), L4⟩ ?_
    rintro i wi ⟨hi, hb7, hb4, hb5, hx0, hx1, hx2, hbe⟩
    show EW _ _ _ _ [(4, .pointer (some ⟨p4, 0, none⟩)), (5, .pointer (some ⟨p5, 0, none⟩)), (6, .int .i64 0), (7, .pointer (some ⟨p7, 0, none⟩)), (14, .agg (thr a b c).toArray), (15, .int .i64 (i : Int))] _
    refine EW.seq ?_; refine EW.region ?_; refine WL.bin rfl rfl rfl rfl (int_lt_d _ _ _ _ _) ?_; refine WL.done ?_; refine EW.on ?_; refine EW.seq ?_; refine EW.cond_d rfl (fun h16 => ?_) (fun h16 => ?_)
    · refine EW.skip ?_; refine EW.on ?_; refine EW.seq ?_; refine EW.block ?_; refine EW.seq ?_
      obtain rfl | rfl | rfl : i = 0 ∨ i = 1 ∨ i = 2 := by omega
      · refine EW.region ?_; refine WL.move rfl rfl rfl ?_; refine WL.idx rfl rfl rfl rfl (idx67 a b c ha hb hc _).1 ?_
        obtain ⟨w6, q9, r6, b6, l6, hq9⟩ := newA zv66 wi
        refine WL.new rfl rfl r6 ?_; refine WL.assign rfl rfl rfl ?_
        obtain ⟨w7, r7, b7, f7⟩ := st66 (p := a) b6 Pr.z_ok ha
        refine WL.store rfl rfl rfl r7 ?_
        have hq7 : wi.heap.size ≤ q9 := by omega
        have l7 := bf l6 f7 hq7
        refine WL.done ?_; refine EW.on ?_; refine EW.seq ?_; refine EW.region ?_; refine WL.move rfl rfl rfl ?_; refine WL.field rfl rfl rfl (f66_0 q9 0 _) ?_; refine WL.load rfl rfl rfl (ld66 b7 ha).1 ?_; refine WL.field rfl rfl rfl (f66_1 q9 0 _) ?_; refine WL.load rfl rfl rfl (ld66 b7 ha).2 ?_; refine WL.call [kv a.a, kv a.b] enter8 rfl rfl rfl (shr_any a.a a.b x hx ha.a ha.b w7) ?_
        rintro _ w8 ⟨rfl, l8⟩
        refine ⟨_, rfl, ?_⟩
        have l78 := bt l7 l8
        refine WL.move rfl rfl rfl ?_; refine WL.extract rfl rfl rfl (ext_2 _ _ _).1 ?_; refine WL.extract rfl rfl rfl (ext_2 _ _ _).2 ?_; refine WL.index rfl rfl rfl rfl (ix80 p7 0 (by decide) _) ?_
        obtain ⟨w9, r9, b9, f9⟩ := (st80 (hb7.on l78) (upK_len _ _ lx) (upK_len _ _ ly) (upK_len _ _ lz) lx).1
        refine WL.store rfl rfl rfl r9 ?_; refine WL.assign rfl rfl rfl ?_; refine WL.done ?_; refine EW.on ?_; refine EW.seq ?_; refine EW.region ?_; refine WL.move rfl rfl rfl ?_; refine WL.bin rfl rfl rfl rfl (int_ne_d _ _ _ _ _) ?_; refine WL.done ?_; refine EW.on ?_; refine EW.cond_d rfl (fun h30 => ?_) (fun h30 => ?_)
        · refine EW.seq ?_
          have hz : x = z32 := Classical.byContradiction fun e => by simp [e] at h30
          replace hb4 := (hb4.on l78).fx f9 h47
          replace hb5 := (hb5.on l78).fx f9 h57
          refine EW.region ?_; refine WL.buildN [] rfl rfl rfl (bd23 _) ?_; refine WL.buildN [] rfl rfl rfl (bd30 _) ?_; refine WL.move rfl rfl rfl ?_
          obtain ⟨v1, s1, d1, f1⟩ := st23 hb4 z32l z32l
          refine WL.store rfl rfl rfl s1 ?_
          obtain ⟨v2, s2, d2, f2⟩ := st30 (hb5.fx f1 (fun e => h45 e.symm)) rfl (rfl : z16.length = 16)
          refine WL.store rfl rfl rfl s2 ?_; refine WL.assign rfl rfl rfl ?_; refine WL.done ?_; refine EW.on ?_; refine EW.ret ?_; refine pr_block ?_; refine pr_then ?_; refine pr_then ?_; refine pr_block ?_; refine pr_then ?_
          exact EW.ret_cct Tryd.results23 rfl rfl rfl (d1.fx f2 h45) d2 u23 rfl (i23 z32l) u30 rfl (i30 rfl) ⟨by rw [agr_no X h11 ((.inl hz)), if_pos hz]; rfl, bf (bf (bf (bt hbe l78) f9 (by have := l1.size; have := l2.size; have := l3.size; omega)) f1 (by have := l1.size; omega)) f2 (by have := l1.size; have := l2.size; omega)⟩
        · refine EW.skip ?_; refine pn_block ?_; refine EW.on ?_; refine EW.region ?_; refine WL.bin rfl rfl rfl rfl (int_add (c := ((0 + 1 : Nat) : Int)) (by decide) _ _ _) ?_; refine WL.move rfl rfl rfl ?_; refine WL.done ?_
          have hnx : x ≠ z32 := fun e => by simp [e] at h30
          rw [if_neg hnx]
          have lN := bf (bt hbe l78) f9 (by have := l1.size; have := l2.size; have := l3.size; omega)
          exact EW.again (E := agE (.agg (thr a b c).toArray) p4 p5 p7) (R := AgI w x y z p4 p5 p7) (m := fun i => 3 - i) (x := 0) 1 [4, 5, 6, 7, 14, 15] rfl ⟨by decide, b9, (hb4.on l78).fx f9 h47, (hb5.on l78).fx f9 h57, fun _ => hnx, fun h => absurd h (by decide), fun h => absurd h (by decide), lN⟩ (by decide)
      · refine EW.region ?_; refine WL.move rfl rfl rfl ?_; refine WL.idx rfl rfl rfl rfl (idx67 a b c ha hb hc _).2.1 ?_
        obtain ⟨w6, q9, r6, b6, l6, hq9⟩ := newA zv66 wi
        refine WL.new rfl rfl r6 ?_; refine WL.assign rfl rfl rfl ?_
        obtain ⟨w7, r7, b7, f7⟩ := st66 (p := b) b6 Pr.z_ok hb
        refine WL.store rfl rfl rfl r7 ?_
        have hq7 : wi.heap.size ≤ q9 := by omega
        have l7 := bf l6 f7 hq7
        refine WL.done ?_; refine EW.on ?_; refine EW.seq ?_; refine EW.region ?_; refine WL.move rfl rfl rfl ?_; refine WL.field rfl rfl rfl (f66_0 q9 0 _) ?_; refine WL.load rfl rfl rfl (ld66 b7 hb).1 ?_; refine WL.field rfl rfl rfl (f66_1 q9 0 _) ?_; refine WL.load rfl rfl rfl (ld66 b7 hb).2 ?_; refine WL.call [kv b.a, kv b.b] enter8 rfl rfl rfl (shr_any b.a b.b y hy hb.a hb.b w7) ?_
        rintro _ w8 ⟨rfl, l8⟩
        refine ⟨_, rfl, ?_⟩
        have l78 := bt l7 l8
        refine WL.move rfl rfl rfl ?_; refine WL.extract rfl rfl rfl (ext_2 _ _ _).1 ?_; refine WL.extract rfl rfl rfl (ext_2 _ _ _).2 ?_; refine WL.index rfl rfl rfl rfl (ix80 p7 1 (by decide) _) ?_
        obtain ⟨w9, r9, b9, f9⟩ := (st80 (hb7.on l78) (upK_len _ _ lx) (upK_len _ _ ly) (upK_len _ _ lz) ly).2.1
        refine WL.store rfl rfl rfl r9 ?_; refine WL.assign rfl rfl rfl ?_; refine WL.done ?_; refine EW.on ?_; refine EW.seq ?_; refine EW.region ?_; refine WL.move rfl rfl rfl ?_; refine WL.bin rfl rfl rfl rfl (int_ne_d _ _ _ _ _) ?_; refine WL.done ?_; refine EW.on ?_; refine EW.cond_d rfl (fun h30 => ?_) (fun h30 => ?_)
        · refine EW.seq ?_
          have hz : y = z32 := Classical.byContradiction fun e => by simp [e] at h30
          replace hb4 := (hb4.on l78).fx f9 h47
          replace hb5 := (hb5.on l78).fx f9 h57
          refine EW.region ?_; refine WL.buildN [] rfl rfl rfl (bd23 _) ?_; refine WL.buildN [] rfl rfl rfl (bd30 _) ?_; refine WL.move rfl rfl rfl ?_
          obtain ⟨v1, s1, d1, f1⟩ := st23 hb4 z32l z32l
          refine WL.store rfl rfl rfl s1 ?_
          obtain ⟨v2, s2, d2, f2⟩ := st30 (hb5.fx f1 (fun e => h45 e.symm)) rfl (rfl : z16.length = 16)
          refine WL.store rfl rfl rfl s2 ?_; refine WL.assign rfl rfl rfl ?_; refine WL.done ?_; refine EW.on ?_; refine EW.ret ?_; refine pr_block ?_; refine pr_then ?_; refine pr_then ?_; refine pr_block ?_; refine pr_then ?_
          exact EW.ret_cct Tryd.results23 rfl rfl rfl (d1.fx f2 h45) d2 u23 rfl (i23 z32l) u30 rfl (i30 rfl) ⟨by rw [agr_no X h11 ((.inr (.inl hz))), if_pos hz]; rfl, bf (bf (bf (bt hbe l78) f9 (by have := l1.size; have := l2.size; have := l3.size; omega)) f1 (by have := l1.size; omega)) f2 (by have := l1.size; have := l2.size; omega)⟩
        · refine EW.skip ?_; refine pn_block ?_; refine EW.on ?_; refine EW.region ?_; refine WL.bin rfl rfl rfl rfl (int_add (c := ((1 + 1 : Nat) : Int)) (by decide) _ _ _) ?_; refine WL.move rfl rfl rfl ?_; refine WL.done ?_
          have hny : y ≠ z32 := fun e => by simp [e] at h30
          rw [if_neg hny]
          have lN := bf (bt hbe l78) f9 (by have := l1.size; have := l2.size; have := l3.size; omega)
          exact EW.again (E := agE (.agg (thr a b c).toArray) p4 p5 p7) (R := AgI w x y z p4 p5 p7) (m := fun i => 3 - i) (x := 1) 2 [4, 5, 6, 7, 14, 15] rfl ⟨by decide, b9, (hb4.on l78).fx f9 h47, (hb5.on l78).fx f9 h57, fun _ => hx0 (by decide), fun _ => hny, fun h => absurd h (by decide), lN⟩ (by decide)
      · refine EW.region ?_; refine WL.move rfl rfl rfl ?_; refine WL.idx rfl rfl rfl rfl (idx67 a b c ha hb hc _).2.2 ?_
        obtain ⟨w6, q9, r6, b6, l6, hq9⟩ := newA zv66 wi
        refine WL.new rfl rfl r6 ?_; refine WL.assign rfl rfl rfl ?_
        obtain ⟨w7, r7, b7, f7⟩ := st66 (p := c) b6 Pr.z_ok hc
        refine WL.store rfl rfl rfl r7 ?_
        have hq7 : wi.heap.size ≤ q9 := by omega
        have l7 := bf l6 f7 hq7
        refine WL.done ?_; refine EW.on ?_; refine EW.seq ?_; refine EW.region ?_; refine WL.move rfl rfl rfl ?_; refine WL.field rfl rfl rfl (f66_0 q9 0 _) ?_; refine WL.load rfl rfl rfl (ld66 b7 hc).1 ?_; refine WL.field rfl rfl rfl (f66_1 q9 0 _) ?_; refine WL.load rfl rfl rfl (ld66 b7 hc).2 ?_; refine WL.call [kv c.a, kv c.b] enter8 rfl rfl rfl (shr_any c.a c.b z hz hc.a hc.b w7) ?_
        rintro _ w8 ⟨rfl, l8⟩
        refine ⟨_, rfl, ?_⟩
        have l78 := bt l7 l8
        refine WL.move rfl rfl rfl ?_; refine WL.extract rfl rfl rfl (ext_2 _ _ _).1 ?_; refine WL.extract rfl rfl rfl (ext_2 _ _ _).2 ?_; refine WL.index rfl rfl rfl rfl (ix80 p7 2 (by decide) _) ?_
        obtain ⟨w9, r9, b9, f9⟩ := (st80 (hb7.on l78) (upK_len _ _ lx) (upK_len _ _ ly) (upK_len _ _ lz) lz).2.2
        refine WL.store rfl rfl rfl r9 ?_; refine WL.assign rfl rfl rfl ?_; refine WL.done ?_; refine EW.on ?_; refine EW.seq ?_; refine EW.region ?_; refine WL.move rfl rfl rfl ?_; refine WL.bin rfl rfl rfl rfl (int_ne_d _ _ _ _ _) ?_; refine WL.done ?_; refine EW.on ?_; refine EW.cond_d rfl (fun h30 => ?_) (fun h30 => ?_)
        · refine EW.seq ?_
          have hz : z = z32 := Classical.byContradiction fun e => by simp [e] at h30
          replace hb4 := (hb4.on l78).fx f9 h47
          replace hb5 := (hb5.on l78).fx f9 h57
          refine EW.region ?_; refine WL.buildN [] rfl rfl rfl (bd23 _) ?_; refine WL.buildN [] rfl rfl rfl (bd30 _) ?_; refine WL.move rfl rfl rfl ?_
          obtain ⟨v1, s1, d1, f1⟩ := st23 hb4 z32l z32l
          refine WL.store rfl rfl rfl s1 ?_
          obtain ⟨v2, s2, d2, f2⟩ := st30 (hb5.fx f1 (fun e => h45 e.symm)) rfl (rfl : z16.length = 16)
          refine WL.store rfl rfl rfl s2 ?_; refine WL.assign rfl rfl rfl ?_; refine WL.done ?_; refine EW.on ?_; refine EW.ret ?_; refine pr_block ?_; refine pr_then ?_; refine pr_then ?_; refine pr_block ?_; refine pr_then ?_
          exact EW.ret_cct Tryd.results23 rfl rfl rfl (d1.fx f2 h45) d2 u23 rfl (i23 z32l) u30 rfl (i30 rfl) ⟨by rw [agr_no X h11 ((.inr (.inr hz))), if_pos hz]; rfl, bf (bf (bf (bt hbe l78) f9 (by have := l1.size; have := l2.size; have := l3.size; omega)) f1 (by have := l1.size; omega)) f2 (by have := l1.size; have := l2.size; omega)⟩
        · refine EW.skip ?_; refine pn_block ?_; refine EW.on ?_; refine EW.region ?_; refine WL.bin rfl rfl rfl rfl (int_add (c := ((2 + 1 : Nat) : Int)) (by decide) _ _ _) ?_; refine WL.move rfl rfl rfl ?_; refine WL.done ?_
          have hnz : z ≠ z32 := fun e => by simp [e] at h30
          rw [if_neg hnz]
          have lN := bf (bt hbe l78) f9 (by have := l1.size; have := l2.size; have := l3.size; omega)
          exact EW.again (E := agE (.agg (thr a b c).toArray) p4 p5 p7) (R := AgI w x y z p4 p5 p7) (m := fun i => 3 - i) (x := 2) 3 [4, 5, 6, 7, 14, 15] rfl ⟨by decide, b9, (hb4.on l78).fx f9 h47, (hb5.on l78).fx f9 h57, fun _ => hx0 (by decide), fun _ => hx1 (by decide), fun _ => hnz, lN⟩ (by decide)
    · refine EW.exit ?_; refine px_then ?_; refine px_then ?_; refine px_block ?_; refine EW.on ?_; refine EW.seq ?_
      have hi3 : i = 3 := by omega
      subst hi3
      have hnx := hx0 (by decide)
      have hny := hx1 (by decide)
      have hnz := hx2 (by decide)
      replace hb7 : Blk wi p7 (thK x y z) 80 := hb7
      refine EW.region ?_; refine WL.index rfl rfl rfl rfl (ix80 p7 0 (by decide) _) ?_; refine WL.load rfl rfl rfl (ld80 hb7 lx ly lz).1 ?_; refine WL.index rfl rfl rfl rfl (ix80 p7 1 (by decide) _) ?_; refine WL.load rfl rfl rfl (ld80 hb7 lx ly lz).2.1 ?_; refine WL.index rfl rfl rfl rfl (ix80 p7 2 (by decide) _) ?_; refine WL.load rfl rfl rfl (ld80 hb7 lx ly lz).2.2 ?_; refine WL.call [kv x, kv y, kv z] enter33 rfl rfl rfl (derived_any x y z X lx ly lz hX wi (hS.on hbe)) ?_
      rintro _ w6 ⟨rfl, l6⟩
      refine ⟨_, rfl, ?_⟩; refine WL.move rfl rfl rfl ?_; refine WL.extract rfl rfl rfl (ext_2 _ _ _).1 ?_; refine WL.extract rfl rfl rfl (ext_2 _ _ _).2 ?_
      obtain ⟨v1, s1, d1, f1⟩ := st23 (hb4.on l6) z32l hXa
      refine WL.store rfl rfl rfl s1 ?_
      obtain ⟨v2, s2, d2, f2⟩ := st30 ((hb5.on l6).fx f1 (fun e => h45 e.symm)) rfl hXb
      refine WL.store rfl rfl rfl s2 ?_
      have d1' := d1.fx f2 h45
      have lv := bf (bf (bt hbe l6) f1 (by have := l1.size; omega)) f2 (by have := l1.size; have := l2.size; omega)
      refine WL.done ?_; refine EW.on ?_; refine EW.seq ?_; refine EW.ordZ [(0, 0, 1), (1, 0, 1), (2, 1, 1), (3, 1, 1), (4, 0, 0)] (SR fun W => Blk W p4 ((X.take 32).map byt) 23 ∧ Blk W p5 ((X.drop 32).map byt) 30 ∧ Below w.heap.size w W) (fun W => Blk W p4 ((X.take 32).map byt) 23 ∧ Blk W p5 ((X.drop 32).map byt) 30 ∧ Below w.heap.size w W) (by kernel_rfl) rfl (by kernel_rfl) (sr_anti _) ⟨d1'.on (below_drawn v2), d2.on (below_drawn v2), bt lv (below_drawn v2)⟩ ?_; simp only [opsZ, List.getD_cons_zero, List.getD_cons_succ]; refine ZE.load rfl rfl rfl rfl (sr1 fun W h => h) (fun W hW => ld23 (sr_of hW).1 hXa) ?_; refine ZE.load rfl rfl rfl rfl (sr1 fun W h => h) (fun W hW => ld30 (sr_of hW).2.1 hXb) ?_; refine ZE.store (fun W => Blk W p4 ((X.take 32).map byt) 23 ∧ Blk W p5 ((X.drop 32).map byt) 30 ∧ Below w.heap.size w W) rfl rfl rfl (fun _ h => .inr h) (fun W hW => ?_) ?_
      · obtain ⟨w', r, b, f⟩ := st23 hW.1 hXa hXa
        exact ⟨w', r, b, hW.2.1.fx f (fun e => h45 e.symm), bf hW.2.2 f (by have := l1.size; omega)⟩
      refine ZE.store (fun W => Blk W p4 ((X.take 32).map byt) 23 ∧ Blk W p5 ((X.drop 32).map byt) 30 ∧ Below w.heap.size w W) rfl rfl rfl (fun _ h => .inr h) (fun W hW => ?_) ?_
      · obtain ⟨w', r, b, f⟩ := st30 hW.2.1 hXb hXb
        exact ⟨w', r, hW.1.fx f h45, b, bf hW.2.2 f (by have := l1.size; have := l2.size; omega)⟩
      refine ZE.assign rfl rfl rfl rfl sr0 ?_
      rintro W13 ⟨e1, e2, e3⟩
      refine EW.on ?_; refine EW.ret ?_
      exact EW.ret_cct Tryd.results23 rfl rfl rfl e1 e2 u23 rfl (i23 hXa) u30 rfl (i30 hXb) ⟨by rw [agr_ok X h11 hnx hny hnz]; rfl, e3⟩
end Go.Proofs.YtoceepmehmacbaaDoor
