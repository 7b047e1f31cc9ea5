import Derived.Test.YtoceepmehmacbaaDoorGp
set_option linter.unusedVariables false
set_option linter.unusedSimpArgs false
namespace Go.Proofs.YtoceepmehmacbaaDoor
open Go.RowKit

section
variable {P : Program} {N : Nat} {ops : Array Oper} {S : World → Prop} {K : List (Nat × Value) → Prop} {i : Nat} {ty : TypeId} {ps : String} {af : Array Edge} {gd : Option (Nat × Bool)} {r : List Oper} {e : List (Nat × Value)}
theorem LE.build {t : TypeId} {ps' : List (Nat × Operand)} {v : Value} (vs : List (Nat × Value)) (hw : wantE ops e ⟨some i, .build t ps'.toArray, ty, ps, af, gd⟩ = some true) (hi : decide (i < N) = true) (hx : ps'.map (fun q => (q.1, evE e q.2)) = vs.map (fun q => (q.1, some q.2))) (hr : ∀ W, (Instr.build t vs.toArray).run P W = .ok v W) (k : wpLexE P N ops S K r ((i, v) :: e)) : wpLexE P N ops S K (⟨some i, .build t ps'.toArray, ty, ps, af, gd⟩ :: r) e :=
  LE.val hw hi (fun a ha W hW => by
    have hp : ps'.map (fun q => (q.1, a.eval q.2)) = vs := by
      clear hr hw k
      induction ps' generalizing vs with
      | nil => cases vs with
        | nil => rfl
        | cons _ _ => simp at hx
      | cons x xs ih => cases vs with
        | nil => simp at hx
        | cons y ys =>
          simp only [List.map_cons, List.cons.injEq, Prod.mk.injEq] at hx
          obtain ⟨⟨h1, h2⟩, h3⟩ := hx
          simp only [List.map_cons, List.cons.injEq]
          exact ⟨Prod.ext h1 (ha.ev h2), ih ys h3⟩
    simp only [execOp, List.map_toArray, hp, Sem.run_bind, hr W, Result.andThen_ok, Sem.run_pure]) k
end
theorem three_at {a b c d e f : List UInt8} (ha : a.length = 32) (hb : b.length = 32) (hc : c.length = 32) (hd : d.length = 32) (he : e.length = 32) (hf : f.length = 32) (x y z : List UInt8) (hx : Cv.timesL a d = x) (hy : Cv.timesL b e = y) (hz : Cv.timesL c f = z) (w : World) :
    Calls Tryd.prog 31 #[.agg (thK a b c).toArray, .agg (thK d e f).toArray] w fun e w' => e = .returned (.tuple #[.agg (thO x y z).1.toArray, .int .i64 (thO x y z).2]) ∧ Below w.heap.size w w' :=
  three_any ⟨a, d⟩ ⟨b, e⟩ ⟨c, f⟩ ⟨ha, hd⟩ ⟨hb, he⟩ ⟨hc, hf⟩ x y z hx hy hz w
theorem bd80 {x y z : List UInt8} (ha : x.length = 32) (hb : y.length = 32) (hc : z.length = 32) (W : World) : (Instr.build 80 [(0, kv x), (1, kv y), (2, kv z)].toArray).run Tryd.prog W = .ok (.agg (thK x y z).toArray) W := by
  refine run_build W 80 _ _ ?_
  rw [built_arr (zs := thK z32 z32 z32) (by kernel_rfl) u80 (show _ = some 32 by kernel_rfl)]
  show Instr.fill _ (thK z32 z32 z32).toArray [(0, kv x), (1, kv y), (2, kv z)] = some (thK x y z).toArray
  rw [show thK z32 z32 z32 = [] ++ (z32.map byt ++ (z32.map byt ++ z32.map byt)) from rfl, fill_one (off := 0) (n := 32) rfl (kv_cells x) (by simp [ha]) rfl rfl]
  rw [show ([] : List Value) ++ (x.map byt ++ (z32.map byt ++ z32.map byt)) = x.map byt ++ (z32.map byt ++ z32.map byt) from rfl, fill_one (off := 32) (n := 32) rfl (kv_cells y) (by simp [hb]) rfl (by simp [ha])]
  rw [show x.map byt ++ (y.map byt ++ z32.map byt) = (x.map byt ++ y.map byt) ++ (z32.map byt ++ []) from by simp, fill_one (off := 64) (n := 32) rfl (kv_cells z) (by simp [hc]) rfl (by simp [ha, hb]), fill_nil]
  simp [thK]
theorem bdAn23 {b : List UInt8} {h : Hl} (hb : b.length = 64) (hh : h.ok) (W : World) : (Instr.build 35 [(2, kv b), (3, h.v)].toArray).run Tryd.prog W = .ok (An.v ⟨z32, z16, b, h, 0⟩) W := by
  refine run_build W 35 _ _ ?_
  rw [built_of (zs := (An.no 0).cs) (by kernel_rfl) Tryd.underlying35 (show _ = some [(0, 32), (32, 16), (48, 64), (112, 65), (177, 1)] by kernel_rfl)]
  show Instr.fill _ (An.no 0).cs.toArray [(2, kv b), (3, h.v)] = some (An.cs ⟨z32, z16, b, h, 0⟩).toArray
  rw [show (An.no 0).cs = (z32.map byt ++ z16.map byt) ++ (z64k.map byt ++ (Hl.z.cs ++ [.int .i64 0])) from rfl, fill_one (off := 48) (n := 64) rfl (kv_cells _) (by simp [hb]) rfl rfl]
  rw [show (z32.map byt ++ z16.map byt) ++ (b.map byt ++ (Hl.z.cs ++ [.int .i64 0])) = (z32.map byt ++ z16.map byt ++ b.map byt) ++ (Hl.z.cs ++ [.int .i64 0]) from by simp, fill_one (vs := h.cs) (off := 112) (n := 65) rfl rfl (Hl.len hh) rfl (by simp [hb, z32, z16]), fill_nil]
  simp [An.cs]
theorem bdAn2 {b : List UInt8} (hb : b.length = 64) (W : World) : (Instr.build 35 [(2, kv b)].toArray).run Tryd.prog W = .ok (An.v ⟨z32, z16, b, Hl.z, 0⟩) W := by
  refine run_build W 35 _ _ ?_
  rw [built_of (zs := (An.no 0).cs) (by kernel_rfl) Tryd.underlying35 (show _ = some [(0, 32), (32, 16), (48, 64), (112, 65), (177, 1)] by kernel_rfl)]
  show Instr.fill _ (An.no 0).cs.toArray [(2, kv b)] = some (An.cs ⟨z32, z16, b, Hl.z, 0⟩).toArray
  rw [show (An.no 0).cs = (z32.map byt ++ z16.map byt) ++ (z64k.map byt ++ (Hl.z.cs ++ [.int .i64 0])) from rfl, fill_one (off := 48) (n := 64) rfl (kv_cells _) (by simp [hb]) rfl rfl, fill_nil]
  simp [An.cs]
theorem ix80_0 (q : Nat) (W : World) : (Instr.indexAt 80 (.pointer (some ⟨q, 0, none⟩)) (.int .i64 0)).run Tryd.prog W = .ok (.pointer (some ⟨q, 0, none⟩)) W := ix80 q 0 (by decide) W
theorem ix80_1 (q : Nat) (W : World) : (Instr.indexAt 80 (.pointer (some ⟨q, 0, none⟩)) (.int .i64 1)).run Tryd.prog W = .ok (.pointer (some ⟨q, 32, none⟩)) W := ix80 q 1 (by decide) W
theorem ix80_2 (q : Nat) (W : World) : (Instr.indexAt 80 (.pointer (some ⟨q, 0, none⟩)) (.int .i64 2)).run Tryd.prog W = .ok (.pointer (some ⟨q, 64, none⟩)) W := ix80 q 2 (by decide) W
theorem anS {w : World} {q : Nat} {A : An} {K : List UInt8} {t : TypeId} (hb : Blk w q A.cs t) (kA : A.ok) (hK : K.length = 32) : ∃ w', (Instr.storeAt 23 (.pointer (some ⟨q, 0 + 0, none⟩)) (kv K)).run Tryd.prog w = .ok () w' ∧ Blk w' q (An.cs ⟨K, A.i, A.b, A.h, A.e⟩) t ∧ Fx (fun k => k = q) w w' :=
  hb.stA (o := 0 + 0) (vs := K.map byt) (a := []) (m := A.s.map byt) (b := A.i.map byt ++ (A.b.map byt ++ (A.h.cs ++ [Value.int .i64 A.e]))) (i23 hK) (bytsOne K) rfl rfl (by simp [kA.s, hK])
theorem anI {w : World} {q : Nat} {A : An} {K : List UInt8} {t : TypeId} (hb : Blk w q A.cs t) (kA : A.ok) (hK : K.length = 16) : ∃ w', (Instr.storeAt 30 (.pointer (some ⟨q, 0 + 32, none⟩)) (kv K)).run Tryd.prog w = .ok () w' ∧ Blk w' q (An.cs ⟨A.s, K, A.b, A.h, A.e⟩) t ∧ Fx (fun k => k = q) w w' :=
  hb.stA (o := 0 + 32) (vs := K.map byt) (a := A.s.map byt) (m := A.i.map byt) (b := A.b.map byt ++ (A.h.cs ++ [Value.int .i64 A.e])) (i30 hK) (bytsOne K) rfl (by simp [kA.s]) (by simp [kA.i, hK])
theorem thO_i80 {x y z : List UInt8} (lx : x.length = 32) (ly : y.length = 32) (lz : z.length = 32) : (Tryd.prog.info? 80).map (·.size) = some (thO x y z).1.length := by
  unfold thO
  split
  · exact i80 rfl rfl rfl
  · split
    · exact i80 lx rfl rfl
    · split
      · exact i80 lx ly rfl
      · exact i80 lx ly lz
theorem thO_len {x y z : List UInt8} (lx : x.length = 32) (ly : y.length = 32) (lz : z.length = 32) : (thK z32 z32 z32).length = (thO x y z).1.length := by
  have h := thO_i80 lx ly lz
  rw [show (Tryd.prog.info? 80).map (·.size) = some (thK z32 z32 z32).length from i80 rfl rfl rfl] at h
  exact Option.some.inj h
theorem thO_one (x y z : List UInt8) : (thO x y z).1.toArray.all (·.oneCell') = true := by
  unfold thO
  split
  · exact thK_one _ _ _
  · split
    · exact thK_one _ _ _
    · split <;> exact thK_one _ _ _
theorem thO_bad {x y z : List UInt8} (h : ¬ (thO x y z).2 = 0) : (thO x y z).2 = 70 ∧ (x = z32 ∨ y = z32 ∨ z = z32) := by
  unfold thO at *
  by_cases h1 : x = z32
  · exact ⟨by rw [if_pos h1], .inl h1⟩
  · by_cases h2 : y = z32
    · exact ⟨by rw [if_neg h1, if_pos h2], .inr (.inl h2)⟩
    · by_cases h3 : z = z32
      · exact ⟨by rw [if_neg h1, if_neg h2, if_pos h3], .inr (.inr h3)⟩
      · rw [if_neg h1, if_neg h2, if_neg h3] at h
        exact absurd rfl h
theorem thO_good {x y z : List UInt8} (h : (thO x y z).2 = 0) : x ≠ z32 ∧ y ≠ z32 ∧ z ≠ z32 ∧ (thO x y z).1 = thK x y z := by
  unfold thO at *
  by_cases h1 : x = z32
  · rw [if_pos h1] at h
    exact absurd (show (70 : Int) = 0 from h) (by decide)
  · by_cases h2 : y = z32
    · rw [if_neg h1, if_pos h2] at h
      exact absurd (show (70 : Int) = 0 from h) (by decide)
    · by_cases h3 : z = z32
      · rw [if_neg h1, if_neg h2, if_pos h3] at h
        exact absurd (show (70 : Int) = 0 from h) (by decide)
      · exact ⟨h1, h2, h3, by rw [if_neg h1, if_neg h2, if_neg h3]⟩
structure RS (w : World) (own once : Pr) (oc : List Value) (oT : TypeId) (q3 q4 q5 p6 : Nat) (W : World) : Prop where
  a : Blk W q3 own.cs 25
  b : Blk W q4 once.cs 25
  c : Blk W q5 oc oT
  d : Blk W p6 (An.no 0).cs 35
  l : Below w.heap.size w W
theorem RS.on {w W W' : World} {own once : Pr} {oc : List Value} {oT : TypeId} {q3 q4 q5 p6 : Nat} (h : RS w own once oc oT q3 q4 q5 p6 W) (hb : Below W.heap.size W W') : RS w own once oc oT q3 q4 q5 p6 W' := ⟨h.a.on hb, h.b.on hb, h.c.on hb, h.d.on hb, bt h.l hb⟩
set_option maxRecDepth 100000 in
set_option maxHeartbeats 4000000 in
theorem rstart_any (own once : Pr) (o : Of) (ho1 : own.ok) (ho2 : once.ok) (ho3 : o.ok) (g : Ag) (hg : agOf o.pre ⟨own.a, o.key⟩ ⟨once.a, o.id⟩ ⟨once.a, o.key⟩ = g) (A : An) (hA : stA g own once o = A) (w : World) (hS : St3 w) :
    Calls Tryd.prog 21 #[own.v, once.v, o.v] w fun e w' => e = .returned A.v ∧ Below w.heap.size w w' := by
  have hs : g.s.length = 32 := by rw [← hg]; exact (agOf_len _ _ _ _).1
  have hi : g.i.length = 16 := by rw [← hg]; exact (agOf_len _ _ _ _).2
  have kA : A.ok := by rw [← hA]; exact stA_ok hs hi ho1 ho2 ho3
  obtain ⟨x, hx⟩ : ∃ X, Cv.timesL own.a o.key = X := ⟨_, rfl⟩
  have lx : x.length = 32 := by rw [← hx]; exact Cv.times_length _ _
  obtain ⟨y, hy⟩ : ∃ X, Cv.timesL once.a o.id = X := ⟨_, rfl⟩
  have ly : y.length = 32 := by rw [← hy]; exact Cv.times_length _ _
  obtain ⟨z, hz⟩ : ∃ X, Cv.timesL once.a o.key = X := ⟨_, rfl⟩
  have lz : z.length = 32 := by rw [← hz]; exact Cv.times_length _ _
  obtain ⟨X, hX⟩ : ∃ X, exOut (macOf z32 (ff32 ++ (x ++ (y ++ z)))) firstB 48 = X := ⟨_, rfl⟩
  have hXl : X.length = 48 := by rw [← hX]; exact exOut_length _ _ _
  have hXa : (X.take 32).length = 32 := by rw [List.length_take, hXl]; decide
  have hXb : (X.drop 32).length = 16 := by rw [List.length_drop, hXl]
  have hB : (own.b ++ o.id).length = 64 := by simp [ho1.b, ho3.i]
  have hH : (⟨own.b, once.b, o.pre⟩ : Hl).ok := ⟨ho1.b, ho2.b, ho3.p⟩
  have kA0 : (⟨z32, z16, own.b ++ o.id, ⟨own.b, once.b, o.pre⟩, 0⟩ : An).ok := ⟨rfl, rfl, hB, hH⟩
  have kA1 : (⟨X.take 32, z16, own.b ++ o.id, ⟨own.b, once.b, o.pre⟩, 0⟩ : An).ok := ⟨hXa, rfl, hB, hH⟩
  have e170 : o.pre = 0 → A = An.no 170 := fun h => by
    rw [← hA, ← hg]
    unfold agOf
    rw [h, agr_0]
    rfl
  have e70 : ¬ o.pre = 0 → ¬ (thO x y z).2 = 0 → A = An.no (thO x y z).2 := fun h h' => by
    obtain ⟨t1, t2⟩ := thO_bad h'
    rw [← hA, ← hg, t1]
    unfold agOf
    rw [hx, hy, hz, agr_no _ h t2]
    rfl
  have eG : ¬ o.pre = 0 → x ≠ z32 → y ≠ z32 → z ≠ z32 → (⟨X.take 32, X.drop 32, own.b ++ o.id, ⟨own.b, once.b, o.pre⟩, 0⟩ : An) = A := fun h h1 h2 h3 => by
    rw [← hA, ← hg]
    unfold agOf madeL
    rw [hx, hy, hz, hX, agr_ok _ h h1 h2 h3]
    rfl
  clear hA hg hs hi
  obtain ⟨w1, q3, r1, b1, l1, hq3⟩ := box_any 25 own.cs w
  obtain ⟨w2, q4, r2, b2, l2, hq4⟩ := box_any 25 once.cs w1
  obtain ⟨w3, q5, r3, b3, l3, hq5⟩ := box_any 28 o.cs w2
  obtain ⟨w4, p6, r4, b4, l4, hp6⟩ := new35 w3
  have S0 : RS w own once o.cs 28 q3 q4 q5 p6 w4 := ⟨((b1.on l2).on l3).on l4, (b2.on l3).on l4, b3.on l4, b4, bt (bt (bt l1 l2) l3) l4⟩
  have h6 : w.heap.size ≤ p6 := by have := l1.size; have := l2.size; have := l3.size; omega
  refine calls_of_args [own.v, once.v, o.v] Tryd.func21 rfl 62 Tryd.ntmps21 (by show 3 ≤ 62; decide) ?_; refine EW.seq ?_; refine EW.region ?_; refine WL.box rfl rfl rfl r1 ?_; refine WL.box rfl rfl rfl r2 ?_; refine WL.box rfl rfl rfl r3 ?_; refine WL.new rfl rfl r4 ?_; refine WL.done ?_; refine EW.on ?_; refine EW.seq ?_; refine EW.seq ?_; refine EW.region ?_; refine WL.field rfl rfl rfl (f28_1 q5 0 _) ?_; refine WL.load rfl rfl rfl ((ofF S0.c ho3).2.1) ?_; refine WL.bin rfl rfl rfl rfl (eqlU0 _ _ _ _) ?_; refine WL.done ?_; refine EW.on ?_; refine EW.cond_d rfl (fun h12 => ?_) (fun h12 => ?_)
  · refine EW.seq ?_; refine EW.region ?_; refine WL.buildN [(4, .int .i64 170)] rfl rfl rfl (bdAn0 170 _) ?_
    obtain ⟨x1, y1, d1, f1⟩ := st35 S0.d (An.no_ok 0) (An.no_ok 170)
    refine WL.store rfl rfl rfl y1 ?_; refine WL.done ?_; refine EW.on ?_; refine EW.ret ?_; refine pr_then ?_
    exact EW.returnsC Tryd.results21 rfl d1 Tryd.underlying35 rfl (i35 (An.no_ok 170)) ⟨by rw [e170 h12]; rfl, bf S0.l f1 h6⟩
  · refine EW.skip ?_; refine EW.on ?_; refine EW.seq ?_; refine EW.region ?_; refine WL.field rfl rfl rfl (f25_0 q3 0 _) ?_; refine WL.load rfl rfl rfl ((ld66 S0.a ho1).1) ?_; refine WL.field rfl rfl rfl (f25_0 q4 0 _) ?_; refine WL.load rfl rfl rfl ((ld66 S0.b ho2).1) ?_; refine WL.field rfl rfl rfl (f25_0 q4 0 _) ?_; refine WL.load rfl rfl rfl ((ld66 S0.b ho2).1) ?_; refine WL.buildN [(0, kv own.a), (1, kv once.a), (2, kv once.a)] rfl rfl rfl (bd80 ho1.a ho2.a ho2.a _) ?_; refine WL.field rfl rfl rfl (f28_2 q5 0 _) ?_; refine WL.load rfl rfl rfl ((ofF S0.c ho3).2.2) ?_; refine WL.field rfl rfl rfl (f28_0 q5 0 _) ?_; refine WL.load rfl rfl rfl ((ofF S0.c ho3).1) ?_; refine WL.field rfl rfl rfl (f28_2 q5 0 _) ?_; refine WL.load rfl rfl rfl ((ofF S0.c ho3).2.2) ?_; refine WL.buildN [(0, kv o.key), (1, kv o.id), (2, kv o.key)] rfl rfl rfl (bd80 ho3.k ho3.i ho3.k _) ?_; refine WL.call [.agg (thK own.a once.a once.a).toArray, .agg (thK o.key o.id o.key).toArray] enter31 rfl rfl rfl (three_at ho1.a ho2.a ho2.a ho3.k ho3.i ho3.k x y z hx hy hz w4) ?_
    rintro _ u1 ⟨rfl, m1⟩
    refine ⟨_, rfl, ?_⟩
    have S1 := S0.on m1
    refine WL.move rfl rfl rfl ?_; refine WL.extract rfl rfl rfl (ext_2 _ _ _).1 ?_; refine WL.extract rfl rfl rfl (ext_2 _ _ _).2 ?_
    obtain ⟨p7, v1, v2, s1, s2, c7, m2, hp7⟩ := putNew zv80 (thO_i80 lx ly lz) (thO_len lx ly lz) (thO_one x y z) u1
    refine WL.new rfl rfl s1 ?_; refine WL.store rfl rfl rfl s2 ?_
    have S2 := S1.on m2
    refine WL.assign rfl rfl rfl ?_; refine WL.done ?_; refine EW.on ?_; refine EW.seq ?_; refine EW.seq ?_; refine EW.region ?_; refine WL.move rfl rfl rfl ?_; refine WL.bin rfl rfl rfl rfl (int_ne_d _ _ _ _ _) ?_; refine WL.done ?_; refine EW.on ?_; refine EW.cond_d rfl (fun h33 => ?_) (fun h33 => ?_)
    · refine EW.seq ?_; refine EW.region ?_; refine WL.move rfl rfl rfl ?_; refine WL.buildN [(4, .int .i64 (thO x y z).2)] rfl rfl rfl (bdAn0 _ _) ?_
      obtain ⟨x1, y1, d1, f1⟩ := st35 S2.d (An.no_ok 0) (An.no_ok (thO x y z).2)
      refine WL.store rfl rfl rfl y1 ?_; refine WL.done ?_; refine EW.on ?_; refine EW.ret ?_; refine pr_then ?_
      exact EW.returnsC Tryd.results21 rfl d1 Tryd.underlying35 rfl (i35 (An.no_ok (thO x y z).2)) ⟨by rw [e70 h12 h33]; rfl, bf S2.l f1 h6⟩
    · refine EW.skip ?_; refine EW.on ?_; refine EW.seq ?_
      have h0 : (thO x y z).2 = 0 := Classical.byContradiction fun e => h33 e
      obtain ⟨nx, ny, nz, hT⟩ := thO_good h0
      rw [hT] at c7
      have eA := eG h12 nx ny nz
      refine EW.news (by kernel_rfl) 13 1 rfl (fun i => if i ≤ 13 then 22 - i else i + 100) (fun _ => .tmp 48) (by kernel_rfl) (by kernel_rfl) #[true, true, true, true, true, true, true, true, true, true, true, true, true, true, false] (by kernel_rfl) (by kernel_rfl) 35 (An.no 0).cs zv35 (i35 (An.no_ok 0)) (fun i h1 h2 => ?_) (fun i h1 h2 => ?_) (fun i j hij => by show (if i ≤ 13 then 22 - i else i + 100) ≠ (if j ≤ 13 then 22 - j else j + 100); split <;> split <;> omega) (fun i j h1 h2 h3 h4 e => by have hj : j = 13 := (by omega); subst hj; injection e with e; exact absurd e (by decide)) (fun i h1 h2 => by have hj : i = 13 := (by omega); subst hj; decide) ?_
      · obtain rfl : i = 13 := by omega
        exact ⟨_, rfl, rfl, rfl, rfl⟩
      · obtain rfl : i = 13 := by omega
        exact ⟨_, rfl, rfl, rfl, rfl⟩
      simp only [List.take_succ_cons, List.take_zero]
      refine LE.field rfl rfl rfl (fun W => f25_1 q3 0 W) ?_; refine LE.load rfl rfl rfl (fun W hW => (ld66 (S2.on hW).a ho1).2) ?_; refine LE.field rfl rfl rfl (fun W => f28_0 q5 0 W) ?_; refine LE.load rfl rfl rfl (fun W hW => (ofF (S2.on hW).c ho3).1) ?_; refine LE.call [kv own.b, kv o.id] enter12 rfl rfl rfl (fun W hW => bind_any own.b o.id ho1.b ho3.i W) ?_; refine LE.field rfl rfl rfl (fun W => f25_1 q3 0 W) ?_; refine LE.load rfl rfl rfl (fun W hW => (ld66 (S2.on hW).a ho1).2) ?_; refine LE.field rfl rfl rfl (fun W => f25_1 q4 0 W) ?_; refine LE.load rfl rfl rfl (fun W hW => (ld66 (S2.on hW).b ho2).2) ?_; refine LE.field rfl rfl rfl (fun W => f28_1 q5 0 W) ?_; refine LE.load rfl rfl rfl (fun W hW => (ofF (S2.on hW).c ho3).2.1) ?_; refine LE.build [(0, kv own.b), (1, kv once.b), (2, u32v o.pre)] rfl rfl rfl (fun W => bdHl ho1.b ho2.b W) ?_; refine LE.build [(2, kv (own.b ++ o.id)), (3, Hl.v ⟨own.b, once.b, o.pre⟩)] rfl rfl rfl (fun W => bdAn23 hB hH W) ?_; refine ⟨fun _ => An.cs ⟨z32, z16, own.b ++ o.id, ⟨own.b, once.b, o.pre⟩, 0⟩, fun i h1 h2 => ⟨rfl, by rw [An.len (An.no_ok 0)]; exact (An.len kA0).symm, An.one _⟩, fun G W1 lo ne hb4 blk => ?_⟩
      have b9 := blk 13 (by decide) (by decide)
      have hlo := lo 13 (by decide) (by decide)
      rw [show List.range' 13 1 = [13] from rfl]
      simp only [putE, Nat.le_refl, if_true, Nat.reduceSub]
      clear blk lo ne
      generalize G 13 = p9 at *
      refine EW.on ?_; refine EW.seq ?_
      have S3 := S2.on hb4
      have d7 := c7.on hb4
      have h69 : p6 ≠ p9 := by have := S2.d.lt; omega
      have h9 : w.heap.size ≤ p9 := by have := S2.l.size; omega
      refine EW.region ?_; refine WL.index rfl rfl rfl rfl (ix80_0 p7 _) ?_; refine WL.load rfl rfl rfl ((ld80 d7 lx ly lz).1) ?_; refine WL.index rfl rfl rfl rfl (ix80_1 p7 _) ?_; refine WL.load rfl rfl rfl ((ld80 d7 lx ly lz).2.1) ?_; refine WL.index rfl rfl rfl rfl (ix80_2 p7 _) ?_; refine WL.load rfl rfl rfl ((ld80 d7 lx ly lz).2.2) ?_; refine WL.call [kv x, kv y, kv z] enter32 rfl rfl rfl (rmade_any x y z X lx ly lz hX W1 (hS.on S3.l)) ?_
      rintro _ u4 ⟨rfl, m5⟩
      refine ⟨_, rfl, ?_⟩
      have S4 := S3.on m5
      refine WL.move rfl rfl rfl ?_; refine WL.extract rfl rfl rfl (ext_2 _ _ _).1 ?_; refine WL.extract rfl rfl rfl (ext_2 _ _ _).2 ?_; refine WL.field rfl rfl rfl (f35_0 p9 0 _) ?_
      obtain ⟨x2, y2, d2, f2⟩ := anS (b9.on m5) kA0 hXa
      refine WL.store rfl rfl rfl y2 ?_; refine WL.field rfl rfl rfl (f35_1 p9 0 _) ?_
      obtain ⟨x3, y3, d3, f3⟩ := anI d2 kA1 hXb
      refine WL.store rfl rfl rfl y3 ?_
      rw [eA] at d3
      refine WL.done ?_; refine EW.on ?_; refine EW.seq ?_; refine EW.region ?_; refine WL.load rfl rfl rfl (ld35 d3 kA) ?_
      obtain ⟨x4, y4, d4, f4⟩ := st35 ((S4.d.fx f2 h69).fx f3 h69) (An.no_ok 0) kA
      refine WL.store rfl rfl rfl y4 ?_; refine WL.done ?_; refine EW.on ?_; refine EW.ret ?_
      exact EW.returnsC Tryd.results21 rfl d4 Tryd.underlying35 rfl (i35 kA) ⟨rfl, bf (bf (bf S4.l f2 h9) f3 h9) f4 h6⟩
set_option maxRecDepth 100000 in
set_option maxHeartbeats 4000000 in
theorem rmeet_any (own once : Pr) (o : Hl) (ho1 : own.ok) (ho2 : once.ok) (ho3 : o.ok) (g : Ag) (hg : agOf o.pre ⟨once.a, o.id⟩ ⟨own.a, o.once⟩ ⟨once.a, o.once⟩ = g) (A : An) (hA : meA g own o = A) (w : World) (hS : St3 w) :
    Calls Tryd.prog 22 #[own.v, once.v, o.v] w fun e w' => e = .returned A.v ∧ Below w.heap.size w w' := by
  have hs : g.s.length = 32 := by rw [← hg]; exact (agOf_len _ _ _ _).1
  have hi : g.i.length = 16 := by rw [← hg]; exact (agOf_len _ _ _ _).2
  have kA : A.ok := by rw [← hA]; exact meA_ok hs hi ho1 ho3
  obtain ⟨x, hx⟩ : ∃ X, Cv.timesL once.a o.id = X := ⟨_, rfl⟩
  have lx : x.length = 32 := by rw [← hx]; exact Cv.times_length _ _
  obtain ⟨y, hy⟩ : ∃ X, Cv.timesL own.a o.once = X := ⟨_, rfl⟩
  have ly : y.length = 32 := by rw [← hy]; exact Cv.times_length _ _
  obtain ⟨z, hz⟩ : ∃ X, Cv.timesL once.a o.once = X := ⟨_, rfl⟩
  have lz : z.length = 32 := by rw [← hz]; exact Cv.times_length _ _
  obtain ⟨X, hX⟩ : ∃ X, exOut (macOf z32 (ff32 ++ (x ++ (y ++ z)))) firstB 48 = X := ⟨_, rfl⟩
  have hXl : X.length = 48 := by rw [← hX]; exact exOut_length _ _ _
  have hXa : (X.take 32).length = 32 := by rw [List.length_take, hXl]; decide
  have hXb : (X.drop 32).length = 16 := by rw [List.length_drop, hXl]
  have hB : (o.id ++ own.b).length = 64 := by simp [ho1.b, ho3.i]
  have hH : (Hl.z : Hl).ok := Hl.z_ok
  have kA0 : (⟨z32, z16, o.id ++ own.b, Hl.z, 0⟩ : An).ok := ⟨rfl, rfl, hB, hH⟩
  have kA1 : (⟨X.take 32, z16, o.id ++ own.b, Hl.z, 0⟩ : An).ok := ⟨hXa, rfl, hB, hH⟩
  have e170 : o.pre = 0 → A = An.no 170 := fun h => by
    rw [← hA, ← hg]
    unfold agOf
    rw [h, agr_0]
    rfl
  have e70 : ¬ o.pre = 0 → ¬ (thO x y z).2 = 0 → A = An.no (thO x y z).2 := fun h h' => by
    obtain ⟨t1, t2⟩ := thO_bad h'
    rw [← hA, ← hg, t1]
    unfold agOf
    rw [hx, hy, hz, agr_no _ h t2]
    rfl
  have eG : ¬ o.pre = 0 → x ≠ z32 → y ≠ z32 → z ≠ z32 → (⟨X.take 32, X.drop 32, o.id ++ own.b, Hl.z, 0⟩ : An) = A := fun h h1 h2 h3 => by
    rw [← hA, ← hg]
    unfold agOf madeL
    rw [hx, hy, hz, hX, agr_ok _ h h1 h2 h3]
    rfl
  clear hA hg hs hi
  obtain ⟨w1, q3, r1, b1, l1, hq3⟩ := box_any 25 own.cs w
  obtain ⟨w2, q4, r2, b2, l2, hq4⟩ := box_any 25 once.cs w1
  obtain ⟨w3, q5, r3, b3, l3, hq5⟩ := box_any 33 o.cs w2
  obtain ⟨w4, p6, r4, b4, l4, hp6⟩ := new35 w3
  have S0 : RS w own once o.cs 33 q3 q4 q5 p6 w4 := ⟨((b1.on l2).on l3).on l4, (b2.on l3).on l4, b3.on l4, b4, bt (bt (bt l1 l2) l3) l4⟩
  have h6 : w.heap.size ≤ p6 := by have := l1.size; have := l2.size; have := l3.size; omega
  refine calls_of_args [own.v, once.v, o.v] Tryd.func22 rfl 55 Tryd.ntmps22 (by show 3 ≤ 55; decide) ?_; refine EW.seq ?_; refine EW.region ?_; refine WL.box rfl rfl rfl r1 ?_; refine WL.box rfl rfl rfl r2 ?_; refine WL.box rfl rfl rfl r3 ?_; refine WL.new rfl rfl r4 ?_; refine WL.done ?_; refine EW.on ?_; refine EW.seq ?_; refine EW.seq ?_; refine EW.region ?_; refine WL.field rfl rfl rfl (f33_2 q5 0 _) ?_; refine WL.load rfl rfl rfl ((hlF S0.c ho3).2.2) ?_; refine WL.bin rfl rfl rfl rfl (eqlU0 _ _ _ _) ?_; refine WL.done ?_; refine EW.on ?_; refine EW.cond_d rfl (fun h12 => ?_) (fun h12 => ?_)
  · refine EW.seq ?_; refine EW.region ?_; refine WL.buildN [(4, .int .i64 170)] rfl rfl rfl (bdAn0 170 _) ?_
    obtain ⟨x1, y1, d1, f1⟩ := st35 S0.d (An.no_ok 0) (An.no_ok 170)
    refine WL.store rfl rfl rfl y1 ?_; refine WL.done ?_; refine EW.on ?_; refine EW.ret ?_; refine pr_then ?_
    exact EW.returnsC Tryd.results22 rfl d1 Tryd.underlying35 rfl (i35 (An.no_ok 170)) ⟨by rw [e170 h12]; rfl, bf S0.l f1 h6⟩
  · refine EW.skip ?_; refine EW.on ?_; refine EW.seq ?_; refine EW.region ?_; refine WL.field rfl rfl rfl (f25_0 q4 0 _) ?_; refine WL.load rfl rfl rfl ((ld66 S0.b ho2).1) ?_; refine WL.field rfl rfl rfl (f25_0 q3 0 _) ?_; refine WL.load rfl rfl rfl ((ld66 S0.a ho1).1) ?_; refine WL.field rfl rfl rfl (f25_0 q4 0 _) ?_; refine WL.load rfl rfl rfl ((ld66 S0.b ho2).1) ?_; refine WL.buildN [(0, kv once.a), (1, kv own.a), (2, kv once.a)] rfl rfl rfl (bd80 ho2.a ho1.a ho2.a _) ?_; refine WL.field rfl rfl rfl (f33_0 q5 0 _) ?_; refine WL.load rfl rfl rfl ((hlF S0.c ho3).1) ?_; refine WL.field rfl rfl rfl (f33_1 q5 0 _) ?_; refine WL.load rfl rfl rfl ((hlF S0.c ho3).2.1) ?_; refine WL.field rfl rfl rfl (f33_1 q5 0 _) ?_; refine WL.load rfl rfl rfl ((hlF S0.c ho3).2.1) ?_; refine WL.buildN [(0, kv o.id), (1, kv o.once), (2, kv o.once)] rfl rfl rfl (bd80 ho3.i ho3.o ho3.o _) ?_; refine WL.call [.agg (thK once.a own.a once.a).toArray, .agg (thK o.id o.once o.once).toArray] enter31 rfl rfl rfl (three_at ho2.a ho1.a ho2.a ho3.i ho3.o ho3.o x y z hx hy hz w4) ?_
    rintro _ u1 ⟨rfl, m1⟩
    refine ⟨_, rfl, ?_⟩
    have S1 := S0.on m1
    refine WL.move rfl rfl rfl ?_; refine WL.extract rfl rfl rfl (ext_2 _ _ _).1 ?_; refine WL.extract rfl rfl rfl (ext_2 _ _ _).2 ?_
    obtain ⟨p7, v1, v2, s1, s2, c7, m2, hp7⟩ := putNew zv80 (thO_i80 lx ly lz) (thO_len lx ly lz) (thO_one x y z) u1
    refine WL.new rfl rfl s1 ?_; refine WL.store rfl rfl rfl s2 ?_
    have S2 := S1.on m2
    refine WL.assign rfl rfl rfl ?_; refine WL.done ?_; refine EW.on ?_; refine EW.seq ?_; refine EW.seq ?_; refine EW.region ?_; refine WL.move rfl rfl rfl ?_; refine WL.bin rfl rfl rfl rfl (int_ne_d _ _ _ _ _) ?_; refine WL.done ?_; refine EW.on ?_; refine EW.cond_d rfl (fun h33 => ?_) (fun h33 => ?_)
    · refine EW.seq ?_; refine EW.region ?_; refine WL.move rfl rfl rfl ?_; refine WL.buildN [(4, .int .i64 (thO x y z).2)] rfl rfl rfl (bdAn0 _ _) ?_
      obtain ⟨x1, y1, d1, f1⟩ := st35 S2.d (An.no_ok 0) (An.no_ok (thO x y z).2)
      refine WL.store rfl rfl rfl y1 ?_; refine WL.done ?_; refine EW.on ?_; refine EW.ret ?_; refine pr_then ?_
      exact EW.returnsC Tryd.results22 rfl d1 Tryd.underlying35 rfl (i35 (An.no_ok (thO x y z).2)) ⟨by rw [e70 h12 h33]; rfl, bf S2.l f1 h6⟩
    · refine EW.skip ?_; refine EW.on ?_; refine EW.seq ?_
      have h0 : (thO x y z).2 = 0 := Classical.byContradiction fun e => h33 e
      obtain ⟨nx, ny, nz, hT⟩ := thO_good h0
      rw [hT] at c7
      have eA := eG h12 nx ny nz
      refine EW.region ?_; refine WL.field rfl rfl rfl (f33_0 q5 0 _) ?_; refine WL.load rfl rfl rfl ((hlF S2.c ho3).1) ?_; refine WL.field rfl rfl rfl (f25_1 q3 0 _) ?_; refine WL.load rfl rfl rfl ((ld66 S2.a ho1).2) ?_; refine WL.call [kv o.id, kv own.b] enter12 rfl rfl rfl (bind_any o.id own.b ho3.i ho1.b v2) ?_
      rintro _ u3 ⟨rfl, m3⟩
      refine ⟨_, rfl, ?_⟩; refine WL.buildN [(2, kv (o.id ++ own.b))] rfl rfl rfl (bdAn2 hB _) ?_
      obtain ⟨p9, v3, W1, s3, s4, b9, m4, hp9⟩ := put35 kA0 u3
      refine WL.new rfl rfl s3 ?_; refine WL.store rfl rfl rfl s4 ?_
      have hb4 := bt m3 m4
      have hlo : v2.heap.size ≤ p9 := by have := m3.size; omega
      refine WL.done ?_; refine EW.on ?_; refine EW.seq ?_
      have S3 := S2.on hb4
      have d7 := c7.on hb4
      have h69 : p6 ≠ p9 := by have := S2.d.lt; omega
      have h9 : w.heap.size ≤ p9 := by have := S2.l.size; omega
      refine EW.region ?_; refine WL.index rfl rfl rfl rfl (ix80_0 p7 _) ?_; refine WL.load rfl rfl rfl ((ld80 d7 lx ly lz).1) ?_; refine WL.index rfl rfl rfl rfl (ix80_1 p7 _) ?_; refine WL.load rfl rfl rfl ((ld80 d7 lx ly lz).2.1) ?_; refine WL.index rfl rfl rfl rfl (ix80_2 p7 _) ?_; refine WL.load rfl rfl rfl ((ld80 d7 lx ly lz).2.2) ?_; refine WL.call [kv x, kv y, kv z] enter32 rfl rfl rfl (rmade_any x y z X lx ly lz hX W1 (hS.on S3.l)) ?_
      rintro _ u4 ⟨rfl, m5⟩
      refine ⟨_, rfl, ?_⟩
      have S4 := S3.on m5
      refine WL.move rfl rfl rfl ?_; refine WL.extract rfl rfl rfl (ext_2 _ _ _).1 ?_; refine WL.extract rfl rfl rfl (ext_2 _ _ _).2 ?_; refine WL.field rfl rfl rfl (f35_0 p9 0 _) ?_
      obtain ⟨x2, y2, d2, f2⟩ := anS (b9.on m5) kA0 hXa
      refine WL.store rfl rfl rfl y2 ?_; refine WL.field rfl rfl rfl (f35_1 p9 0 _) ?_
      obtain ⟨x3, y3, d3, f3⟩ := anI d2 kA1 hXb
      refine WL.store rfl rfl rfl y3 ?_
      rw [eA] at d3
      refine WL.done ?_; refine EW.on ?_; refine EW.seq ?_; refine EW.region ?_; refine WL.load rfl rfl rfl (ld35 d3 kA) ?_
      obtain ⟨x4, y4, d4, f4⟩ := st35 ((S4.d.fx f2 h69).fx f3 h69) (An.no_ok 0) kA
      refine WL.store rfl rfl rfl y4 ?_; refine WL.done ?_; refine EW.on ?_; refine EW.ret ?_
      exact EW.returnsC Tryd.results22 rfl d4 Tryd.underlying35 rfl (i35 kA) ⟨rfl, bf (bf (bf S4.l f2 h9) f3 h9) f4 h6⟩
end Go.Proofs.YtoceepmehmacbaaDoor
