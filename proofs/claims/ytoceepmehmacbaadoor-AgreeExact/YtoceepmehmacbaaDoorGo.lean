import Derived.Test.YtoceepmehmacbaaDoorGk
import Derived.Test.YtoceepmehmacbaaDoorKXbG
import Derived.Test.YtoceepmehmacbaaDoorKXs
set_option linter.unusedVariables false
set_option linter.unusedSimpArgs false
namespace Go.Proofs.YtoceepmehmacbaaDoor
open Go.RowKit

theorem rshr_any (k u S : List UInt8) (hS : Cv.timesL k u = S) (hk : k.length = 32) (hu : u.length = 32) (w : World) : Calls Tryd.prog 46 #[kv k, kv u] w fun e w' => e = .returned (.tuple #[kv S, .int .i64 (if S = z32 then 70 else 0)]) ∧ Below w.heap.size w w' := by
  have hl : S.length = 32 := by rw [← hS]; exact Cv.times_length _ _
  exact Cv.refshared_walk k u S hk hu hl (fun W => by
    have := Cv.reftimes_any k u hk hu W
    rw [hS] at this
    exact this) w
section
variable {P : Program} {n : Nat} {ops : Array Oper} {S : Nat → World → Prop} {K : List (Nat × Value) → (World → Prop) → Prop} {i c lv : Nat} {ty : TypeId} {ps : String} {af : Array Edge} {gd : Option (Nat × Bool)} {r : List (Oper × Nat × Nat)} {e : List (Nat × Value)} {C : World → Prop}
theorem ZE.new {t : TypeId} (C' : Value → World → Prop) (hw : wantE ops e ⟨some i, .alloc t, ty, ps, af, gd⟩ = some true) (hi : decide (i < n) = true) (h1 : ∀ v w, C' v w → S lv w) (hr : ∀ w, C w → ∃ v w', (Instr.alloc t true (.tuple #[])).run P w = .ok v w' ∧ C' v w') (k : ∀ v, (∃ w, C' v w) → wpZE P n ops S K r ((i, v) :: e) (C' v)) : wpZE P n ops S K ((⟨some i, .alloc t, ty, ps, af, gd⟩, 1, lv) :: r) e C :=
  ZE.eff C' hw hi h1 (fun W hW => by
    obtain ⟨v, w', h2, h3⟩ := hr W hW
    exact ⟨v, w', fun a ha => by simp [execOp, h2, Result.andThen], h3⟩) k
end
theorem res_ctg {P : Program} {fn : Func} {p0 x : Tmp} {t0 : TypeId} (h : fn.results = #[.cell p0 t0, .tmp x]) (tmps : Array Value) (w : World) (g0 : Nat) (s0 : TypeId) (c0 : List Value) (d0 : TypeDesc) (v : Value) (hp0 : tmps.getD p0 undef = .pointer (some ⟨g0, 0, none⟩)) (hg0 : Blk w g0 c0 s0) (hu0 : P.underlying t0 = some d0) (hd0 : d0.isRow = true) (hi0 : (P.info? t0).map (·.size) = some c0.length) (hv : tmps.getD x undef = v) : (results fn tmps).run P w = .ok (.tuple #[.agg c0.toArray, v]) w := by
  have e0 : tmps[p0]?.getD undef = .pointer (some ⟨g0, 0, none⟩) := by simpa using hp0
  have r0 := run_loadVar_row w g0 s0 t0 c0.toArray (0, 0) d0 hg0 hu0 (by cases d0 <;> simp [TypeDesc.isRow] at hd0 ⊢) (by simpa using hi0)
  have ex : tmps[x]?.getD undef = v := by simpa using hv
  simp [results, h, e0, ex, asAddr, r0]
theorem EW.ret_ct {n : Nat} {e : List (Nat × Value)} {w : World} {fn : Func} {R : Ending → World → Prop} {p0 x : Nat} {t0 s0 : TypeId} {g0 : Nat} {c0 : List Value} {d0 : TypeDesc} {v : Value} (hres : fn.results = #[.cell p0 t0, .tmp x]) (hv0 : e.lookup p0 = some (.pointer (some ⟨g0, 0, none⟩))) (hx : e.lookup x = some v) (hg0 : Blk w g0 c0 s0) (hu0 : Tryd.prog.underlying t0 = some d0) (hd0 : d0.isRow = true) (hi0 : (Tryd.prog.info? t0).map (·.size) = some c0.length) (h : R (.returned (.tuple #[.agg c0.toArray, v])) w) : ∀ a, Env n a e → bodyPost Tryd.prog fn R .ret a w := fun a ha =>
  bodyPost_ret (res_ctg hres a.tmps w g0 s0 c0 d0 v (ha.kn p0 _ hv0) hg0 hu0 hd0 hi0 (ha.kn x _ hx)) ha.df h
/-- What the document's 'three' answers: the keys as far as it came, and the error. -/
def thO (x y z : List UInt8) : List Value × Int := if x = z32 then (thK z32 z32 z32, 70) else if y = z32 then (thK x z32 z32, 70) else if z = z32 then (thK x y z32, 70) else (thK x y z, 0)
structure ThS (w : World) (a b c : Pr) (A B C : List UInt8) (q2 q3 p4 p6 : Nat) (W : World) : Prop where
  fa : Blk W q2 (thK a.a b.a c.a) 80
  fb : Blk W q3 (thK a.b b.b c.b) 80
  fc : Blk W p4 (thK z32 z32 z32) 80
  fd : Blk W p6 (thK A B C) 80
  l : Below w.heap.size w W
theorem ThS.on {w W W' : World} {a b c : Pr} {A B C : List UInt8} {q2 q3 p4 p6 : Nat} (h : ThS w a b c A B C q2 q3 p4 p6 W) (hb : Below W.heap.size W W') : ThS w a b c A B C q2 q3 p4 p6 W' := ⟨h.fa.on hb, h.fb.on hb, h.fc.on hb, h.fd.on hb, bt h.l hb⟩
theorem ThS.st {w W W' : World} {a b c : Pr} {A B C : List UInt8} {q2 q3 p4 p6 p8 : Nat} {cs : List Value} (h : ThS w a b c A B C q2 q3 p4 p6 W) (hb : Blk W p8 cs 23) (f : Fx (fun k => k = p8) W W') (hp : w.heap.size ≤ p8) : ThS w a b c A B C q2 q3 p4 p6 W' := ⟨h.fa.fx f (h.fa.neT hb (by decide)), h.fb.fx f (h.fb.neT hb (by decide)), h.fc.fx f (h.fc.neT hb (by decide)), h.fd.fx f (h.fd.neT hb (by decide)), bf h.l f hp⟩
def thE (q2 q3 p4 p6 i : Nat) : List (Nat × Value) := [(2, .pointer (some ⟨q2, 0, none⟩)), (3, .pointer (some ⟨q3, 0, none⟩)), (4, .pointer (some ⟨p4, 0, none⟩)), (6, .pointer (some ⟨p6, 0, none⟩)), (7, .int .i64 (i : Int))]
def ThI (w : World) (a b c : Pr) (x y z : List UInt8) (q2 q3 p4 p6 i : Nat) (W : World) : Prop := i ≤ 3 ∧ ThS w a b c (upK i 0 x) (upK i 1 y) (upK i 2 z) q2 q3 p4 p6 W ∧ (0 < i → x ≠ z32) ∧ (1 < i → y ≠ z32) ∧ (2 < i → z ≠ z32)
theorem thK_one (x y z : List UInt8) : (thK x y z).toArray.all (·.oneCell') = true := all_oneCell_toArray (fun v hv => by
  simp only [thK, List.mem_append] at hv
  rcases hv with hv | hv | hv <;> exact one_byts _ v hv)
set_option maxRecDepth 100000 in
set_option maxHeartbeats 4000000 in
theorem three_any (a b c : Pr) (ha : a.ok) (hb : b.ok) (hc : c.ok) (x y z : List UInt8) (hx : Cv.timesL a.a a.b = x) (hy : Cv.timesL b.a b.b = y) (hz : Cv.timesL c.a c.b = z) (w : World) :
    Calls Tryd.prog 31 #[.agg (thK a.a b.a c.a).toArray, .agg (thK a.b b.b c.b).toArray] w fun e w' => e = .returned (.tuple #[.agg (thO x y z).1.toArray, .int .i64 (thO x y z).2]) ∧ Below w.heap.size w w' := by
  have lx : x.length = 32 := by rw [← hx]; exact Cv.times_length _ _
  have ly : y.length = 32 := by rw [← hy]; exact Cv.times_length _ _
  have lz : z.length = 32 := by rw [← hz]; exact Cv.times_length _ _
  obtain ⟨w1, q2, r1, b1, l1, hq2⟩ := box_any 80 (thK a.a b.a c.a) w
  obtain ⟨w2, q3, r2, b2, l2, hq3⟩ := box_any 80 (thK a.b b.b c.b) w1
  obtain ⟨w3, p4, r3, b3, l3, hp4⟩ := newA zv80 w2
  obtain ⟨w4, p6, r4, b4, l4, hp6⟩ := newA zv80 w3
  have h26 : q2 ≠ p6 := by have := b1.lt; have := l2.size; have := l3.size; omega
  have h36 : q3 ≠ p6 := by have := b2.lt; have := l3.size; omega
  have h46 : p4 ≠ p6 := by have := b3.lt; omega
  have h4 : w.heap.size ≤ p4 := by have := l1.size; have := l2.size; omega
  have h6 : w.heap.size ≤ p6 := by have := l1.size; have := l2.size; have := l3.size; omega
  refine calls_of_args [.agg (thK a.a b.a c.a).toArray, .agg (thK a.b b.b c.b).toArray] Tryd.func31 rfl 32 Tryd.ntmps31 (by show 2 ≤ 32; decide) ?_; refine EW.seq ?_; refine EW.region ?_; refine WL.box rfl rfl rfl r1 ?_; refine WL.box rfl rfl rfl r2 ?_; refine WL.new rfl rfl r3 ?_; refine WL.assign rfl rfl rfl ?_; refine WL.done ?_; refine EW.on ?_; refine EW.seq ?_; refine EW.region ?_; refine WL.new rfl rfl r4 ?_; refine WL.done ?_; refine EW.on ?_; refine EW.seq ?_; refine EW.seq ?_; refine EW.region ?_; refine WL.assign rfl rfl rfl ?_; refine WL.done ?_; refine EW.on ?_; refine EW.block ?_; refine EW.loop (thE q2 q3 p4 p6) (ThI w a b c x y z q2 q3 p4 p6) (fun i => 3 - i) 0 [2, 3, 4, 6, 7] rfl ⟨by decide, ⟨((b1.on l2).on l3).on l4, (b2.on l3).on l4, b3.on l4, b4, bt (bt (bt l1 l2) l3) l4⟩, fun h => absurd h (by decide), fun h => absurd h (by decide), fun h => absurd h (by decide)⟩ ?_
  rintro i wi ⟨hi, S3, hx0, hx1, hx2⟩
  show EW _ _ _ _ [(2, .pointer (some ⟨q2, 0, none⟩)), (3, .pointer (some ⟨q3, 0, none⟩)), (4, .pointer (some ⟨p4, 0, none⟩)), (6, .pointer (some ⟨p6, 0, none⟩)), (7, .int .i64 (i : Int))] _
  refine EW.seq ?_; refine EW.seq ?_; refine EW.region ?_; refine WL.move rfl rfl rfl ?_; refine WL.bin rfl rfl rfl rfl (int_lt_d _ _ _ _ _) ?_; refine WL.done ?_; refine EW.on ?_; refine EW.cond_d rfl (fun h11 => ?_) (fun h11 => ?_)
  · refine EW.skip ?_; refine EW.on ?_; refine EW.seq ?_; refine EW.block ?_; refine EW.seq ?_
    obtain rfl | rfl | rfl : i = 0 ∨ i = 1 ∨ i = 2 := by omega
    · refine EW.az (SR (ThS w a b c (upK 0 0 x) (upK 0 1 y) (upK 0 2 z) q2 q3 p4 p6)) (levZ [(6, 1, 1), (10, 1, 1), (11, 1, 1)]) (ThS w a b c (upK 0 0 x) (upK 0 1 y) (upK 0 2 z) q2 q3 p4 p6) 13 (by kernel_rfl) rfl (ThS.on S3 (below_drawn wi)) ?_; refine AZ.seg [(0, 0, 0), (1, 0, 0), (2, 0, 1), (3, 0, 0), (4, 0, 0), (5, 0, 1)] 7 rfl (by kernel_rfl) (sr_anti _) (by kernel_rfl) ?_; simp only [opsZ, List.getD_cons_zero, List.getD_cons_succ]; refine ZE.move rfl rfl rfl rfl sr0 ?_; refine ZE.index rfl rfl rfl rfl rfl sr0 (fun W => ix80 q2 0 (by decide) W) ?_; refine ZE.load rfl rfl rfl rfl (sr1 fun W h => h) (fun W hW => (ld80 (sr_of hW).fa ha.a hb.a hc.a).1) ?_; refine ZE.move rfl rfl rfl rfl sr0 ?_; refine ZE.index rfl rfl rfl rfl rfl sr0 (fun W => ix80 q3 0 (by decide) W) ?_; refine ZE.load rfl rfl rfl rfl (sr1 fun W h => h) (fun W hW => (ld80 (sr_of hW).fb ha.b hb.b hc.b).1) ?_; refine AZ.two 6 6 1 10 1 rfl (by kernel_rfl) ?_ ?_
      · simp only [List.getD_cons_zero, List.getD_cons_succ]
        refine ZE.callV [kv a.a, kv a.b] (.tuple #[kv x, .int .i64 (if x = z32 then 70 else 0)]) (ThS w a b c (upK 0 0 x) (upK 0 1 y) (upK 0 2 z) q2 q3 p4 p6) enter46 rfl rfl rfl (fun W h => .inr h) (fun W hW => (rshr_any a.a a.b x hx ha.a ha.b W).mono fun x w' h => ⟨h.1, hW.on h.2⟩) ?_; refine AZ.seg [(7, 0, 0), (8, 0, 0), (9, 0, 0), (10, 1, 1), (11, 1, 1), (12, 0, 0)] 0 rfl (by kernel_rfl) (sr_anti _) (by kernel_rfl) ?_; simp only [opsZ, List.getD_cons_zero, List.getD_cons_succ]; refine ZE.move rfl rfl rfl rfl sr0 ?_; refine ZE.extract rfl rfl rfl rfl sr0 (fun W => (ext_2 _ _ W).1) ?_; refine ZE.extract rfl rfl rfl rfl sr0 (fun W => (ext_2 _ _ W).2) ?_; refine ZE.new (fun v W => ∃ p, v = .pointer (some ⟨p, 0, none⟩) ∧ Blk W p (z32.map byt) 23 ∧ w.heap.size ≤ p ∧ ThS w a b c (upK 0 0 x) (upK 0 1 y) (upK 0 2 z) q2 q3 p4 p6 W) rfl rfl (fun v W h => .inr (by obtain ⟨p, _, _, _, h4⟩ := h; exact h4)) (fun W hW => ?_) ?_
        · obtain ⟨w8, p8, s8, b8, m8, hp8⟩ := new23 W
          exact ⟨_, w8, s8, p8, rfl, b8, by have := hW.l.size; omega, hW.on m8⟩
        rintro v8 ⟨_, p8, rfl, _⟩
        refine ZE.store (fun W => Blk W p8 (x.map byt) 23 ∧ w.heap.size ≤ p8 ∧ ThS w a b c (upK 0 0 x) (upK 0 1 y) (upK 0 2 z) q2 q3 p4 p6 W) rfl rfl rfl (fun W h => .inr h.2.2) (fun W hW => ?_) ?_
        · obtain ⟨p, e, g1, g2, g3⟩ := hW
          simp at e
          subst e
          obtain ⟨w', s1, s2, s3⟩ := st23 g1 z32l lx
          exact ⟨w', s1, s2, g2, g3.st g1 s3 g2⟩
        refine ZE.assign rfl rfl rfl rfl sr0 ?_; refine AZ.done (by kernel_rfl) ?_
        rintro W5 ⟨b8, hp8, S5⟩
        refine EW.on ?_; refine EW.seq ?_; refine EW.seq ?_; refine EW.region ?_; refine WL.move rfl rfl rfl ?_; refine WL.bin rfl rfl rfl rfl (int_ne_d _ _ _ _ _) ?_; refine WL.done ?_; refine EW.on ?_; refine EW.cond_d rfl (fun h25 => ?_) (fun h25 => ?_)
        · refine EW.seq ?_
          have hz : x = z32 := Classical.byContradiction fun e => by simp [e] at h25
          refine EW.region ?_; refine WL.load rfl rfl rfl (run_loadR S5.fd u80 rfl (i80 (upK_len _ _ lx) (upK_len _ _ ly) (upK_len _ _ lz))) ?_; refine WL.move rfl rfl rfl ?_
          have s7 := run_storeR (cs := thK (upK 0 0 x) (upK 0 1 y) (upK 0 2 z)) S5.fc (i80 (upK_len _ _ lx) (upK_len _ _ ly) (upK_len _ _ lz)) (by rw [thK_len rfl rfl rfl, thK_len (upK_len _ _ lx) (upK_len _ _ ly) (upK_len _ _ lz)]) (thK_one _ _ _)
          refine WL.store rfl rfl rfl s7 ?_; refine WL.assign rfl rfl rfl ?_; refine WL.done ?_; refine EW.on ?_; refine EW.ret ?_; refine pr_then ?_; refine pr_block ?_; refine pr_then ?_; refine pr_then ?_; refine pr_block ?_; refine pr_then ?_
          exact EW.ret_ct Tryd.results31 rfl rfl (S5.fc.setRow _) u80 rfl (i80 (upK_len _ _ lx) (upK_len _ _ ly) (upK_len _ _ lz)) ⟨by rw [show thO x y z = (thK z32 z32 z32, 70) from by unfold thO; rw [if_pos hz], if_pos hz]; rfl, bf S5.l (Fx.setRow W5 p4 _ rfl) h4⟩
        · refine EW.skip ?_; refine EW.on ?_; refine EW.region ?_; refine WL.move rfl rfl rfl ?_; refine WL.load rfl rfl rfl (ld23 b8 lx) ?_; refine WL.index rfl rfl rfl rfl (ix80 p6 0 (by decide) _) ?_
          obtain ⟨w9, s9, b9, f9⟩ := (st80 S5.fd (upK_len _ _ lx) (upK_len _ _ ly) (upK_len _ _ lz) lx).1
          refine WL.store rfl rfl rfl s9 ?_; refine WL.done ?_; refine pn_block ?_; refine EW.on ?_; refine EW.region ?_; refine WL.move rfl rfl rfl ?_; refine WL.bin rfl rfl rfl rfl (int_add (c := ((0 + 1 : Nat) : Int)) (by decide) _ _ _) ?_; refine WL.assign rfl rfl rfl ?_; refine WL.done ?_
          have hnx : x ≠ z32 := fun e => by simp [e] at h25
          have L9 := bf S5.l f9 h6
          exact EW.again (E := thE q2 q3 p4 p6) (R := ThI w a b c x y z q2 q3 p4 p6) (m := fun i => 3 - i) (x := 0) 1 [2, 3, 4, 6, 7] rfl ⟨by decide, ⟨S5.fa.fx f9 h26, S5.fb.fx f9 h36, S5.fc.fx f9 h46, b9, L9⟩, fun _ => hnx, fun h => absurd h (by decide), fun h => absurd h (by decide)⟩ (by decide)
      · simp only [List.getD_cons_zero, List.getD_cons_succ]
        refine ZE.new (fun v W => ∃ p, v = .pointer (some ⟨p, 0, none⟩) ∧ Blk W p (z32.map byt) 23 ∧ w.heap.size ≤ p ∧ ThS w a b c (upK 0 0 x) (upK 0 1 y) (upK 0 2 z) q2 q3 p4 p6 W) rfl rfl (fun v W h => .inr (by obtain ⟨p, _, _, _, h4⟩ := h; exact h4)) (fun W hW => ?_) ?_
        · obtain ⟨w8, p8, s8, b8, m8, hp8⟩ := new23 W
          exact ⟨_, w8, s8, p8, rfl, b8, by have := hW.l.size; omega, hW.on m8⟩
        rintro v8 ⟨_, p8, rfl, _⟩
        refine AZ.seg [(6, 1, 1), (7, 0, 0), (8, 0, 0), (9, 0, 0), (11, 1, 1), (12, 0, 0)] 0 rfl (by kernel_rfl) (sr_anti _) (by kernel_rfl) ?_; simp only [opsZ, List.getD_cons_zero, List.getD_cons_succ]
        refine ZE.callV [kv a.a, kv a.b] (.tuple #[kv x, .int .i64 (if x = z32 then 70 else 0)]) (fun W => Blk W p8 (z32.map byt) 23 ∧ w.heap.size ≤ p8 ∧ ThS w a b c (upK 0 0 x) (upK 0 1 y) (upK 0 2 z) q2 q3 p4 p6 W) enter46 rfl rfl rfl (fun W h => .inr h.2.2) (fun W hW => (rshr_any a.a a.b x hx ha.a ha.b W).mono fun x w' h => by
          obtain ⟨p, e, g1, g2, g3⟩ := hW
          simp at e
          subst e
          exact ⟨h.1, g1.on h.2, g2, g3.on h.2⟩) ?_
        refine ZE.move rfl rfl rfl rfl sr0 ?_; refine ZE.extract rfl rfl rfl rfl sr0 (fun W => (ext_2 _ _ W).1) ?_; refine ZE.extract rfl rfl rfl rfl sr0 (fun W => (ext_2 _ _ W).2) ?_; refine ZE.store (fun W => Blk W p8 (x.map byt) 23 ∧ w.heap.size ≤ p8 ∧ ThS w a b c (upK 0 0 x) (upK 0 1 y) (upK 0 2 z) q2 q3 p4 p6 W) rfl rfl rfl (fun W h => .inr h.2.2) (fun W hW => ?_) ?_
        · obtain ⟨g1, g2, g3⟩ := hW
          obtain ⟨w', s1, s2, s3⟩ := st23 g1 z32l lx
          exact ⟨w', s1, s2, g2, g3.st g1 s3 g2⟩
        refine ZE.assign rfl rfl rfl rfl sr0 ?_; refine AZ.done (by kernel_rfl) ?_
        rintro W5 ⟨b8, hp8, S5⟩
        refine EW.on ?_; refine EW.seq ?_; refine EW.seq ?_; refine EW.region ?_; refine WL.move rfl rfl rfl ?_; refine WL.bin rfl rfl rfl rfl (int_ne_d _ _ _ _ _) ?_; refine WL.done ?_; refine EW.on ?_; refine EW.cond_d rfl (fun h25 => ?_) (fun h25 => ?_)
        · refine EW.seq ?_
          have hz : x = z32 := Classical.byContradiction fun e => by simp [e] at h25
          refine EW.region ?_; refine WL.load rfl rfl rfl (run_loadR S5.fd u80 rfl (i80 (upK_len _ _ lx) (upK_len _ _ ly) (upK_len _ _ lz))) ?_; refine WL.move rfl rfl rfl ?_
          have s7 := run_storeR (cs := thK (upK 0 0 x) (upK 0 1 y) (upK 0 2 z)) S5.fc (i80 (upK_len _ _ lx) (upK_len _ _ ly) (upK_len _ _ lz)) (by rw [thK_len rfl rfl rfl, thK_len (upK_len _ _ lx) (upK_len _ _ ly) (upK_len _ _ lz)]) (thK_one _ _ _)
          refine WL.store rfl rfl rfl s7 ?_; refine WL.assign rfl rfl rfl ?_; refine WL.done ?_; refine EW.on ?_; refine EW.ret ?_; refine pr_then ?_; refine pr_block ?_; refine pr_then ?_; refine pr_then ?_; refine pr_block ?_; refine pr_then ?_
          exact EW.ret_ct Tryd.results31 rfl rfl (S5.fc.setRow _) u80 rfl (i80 (upK_len _ _ lx) (upK_len _ _ ly) (upK_len _ _ lz)) ⟨by rw [show thO x y z = (thK z32 z32 z32, 70) from by unfold thO; rw [if_pos hz], if_pos hz]; rfl, bf S5.l (Fx.setRow W5 p4 _ rfl) h4⟩
        · refine EW.skip ?_; refine EW.on ?_; refine EW.region ?_; refine WL.move rfl rfl rfl ?_; refine WL.load rfl rfl rfl (ld23 b8 lx) ?_; refine WL.index rfl rfl rfl rfl (ix80 p6 0 (by decide) _) ?_
          obtain ⟨w9, s9, b9, f9⟩ := (st80 S5.fd (upK_len _ _ lx) (upK_len _ _ ly) (upK_len _ _ lz) lx).1
          refine WL.store rfl rfl rfl s9 ?_; refine WL.done ?_; refine pn_block ?_; refine EW.on ?_; refine EW.region ?_; refine WL.move rfl rfl rfl ?_; refine WL.bin rfl rfl rfl rfl (int_add (c := ((0 + 1 : Nat) : Int)) (by decide) _ _ _) ?_; refine WL.assign rfl rfl rfl ?_; refine WL.done ?_
          have hnx : x ≠ z32 := fun e => by simp [e] at h25
          have L9 := bf S5.l f9 h6
          exact EW.again (E := thE q2 q3 p4 p6) (R := ThI w a b c x y z q2 q3 p4 p6) (m := fun i => 3 - i) (x := 0) 1 [2, 3, 4, 6, 7] rfl ⟨by decide, ⟨S5.fa.fx f9 h26, S5.fb.fx f9 h36, S5.fc.fx f9 h46, b9, L9⟩, fun _ => hnx, fun h => absurd h (by decide), fun h => absurd h (by decide)⟩ (by decide)
    · refine EW.az (SR (ThS w a b c (upK 1 0 x) (upK 1 1 y) (upK 1 2 z) q2 q3 p4 p6)) (levZ [(6, 1, 1), (10, 1, 1), (11, 1, 1)]) (ThS w a b c (upK 1 0 x) (upK 1 1 y) (upK 1 2 z) q2 q3 p4 p6) 13 (by kernel_rfl) rfl (ThS.on S3 (below_drawn wi)) ?_; refine AZ.seg [(0, 0, 0), (1, 0, 0), (2, 0, 1), (3, 0, 0), (4, 0, 0), (5, 0, 1)] 7 rfl (by kernel_rfl) (sr_anti _) (by kernel_rfl) ?_; simp only [opsZ, List.getD_cons_zero, List.getD_cons_succ]; refine ZE.move rfl rfl rfl rfl sr0 ?_; refine ZE.index rfl rfl rfl rfl rfl sr0 (fun W => ix80 q2 1 (by decide) W) ?_; refine ZE.load rfl rfl rfl rfl (sr1 fun W h => h) (fun W hW => (ld80 (sr_of hW).fa ha.a hb.a hc.a).2.1) ?_; refine ZE.move rfl rfl rfl rfl sr0 ?_; refine ZE.index rfl rfl rfl rfl rfl sr0 (fun W => ix80 q3 1 (by decide) W) ?_; refine ZE.load rfl rfl rfl rfl (sr1 fun W h => h) (fun W hW => (ld80 (sr_of hW).fb ha.b hb.b hc.b).2.1) ?_; refine AZ.two 6 6 1 10 1 rfl (by kernel_rfl) ?_ ?_
      · simp only [List.getD_cons_zero, List.getD_cons_succ]
        refine ZE.callV [kv b.a, kv b.b] (.tuple #[kv y, .int .i64 (if y = z32 then 70 else 0)]) (ThS w a b c (upK 1 0 x) (upK 1 1 y) (upK 1 2 z) q2 q3 p4 p6) enter46 rfl rfl rfl (fun W h => .inr h) (fun W hW => (rshr_any b.a b.b y hy hb.a hb.b W).mono fun x w' h => ⟨h.1, hW.on h.2⟩) ?_; refine AZ.seg [(7, 0, 0), (8, 0, 0), (9, 0, 0), (10, 1, 1), (11, 1, 1), (12, 0, 0)] 0 rfl (by kernel_rfl) (sr_anti _) (by kernel_rfl) ?_; simp only [opsZ, List.getD_cons_zero, List.getD_cons_succ]; refine ZE.move rfl rfl rfl rfl sr0 ?_; refine ZE.extract rfl rfl rfl rfl sr0 (fun W => (ext_2 _ _ W).1) ?_; refine ZE.extract rfl rfl rfl rfl sr0 (fun W => (ext_2 _ _ W).2) ?_; refine ZE.new (fun v W => ∃ p, v = .pointer (some ⟨p, 0, none⟩) ∧ Blk W p (z32.map byt) 23 ∧ w.heap.size ≤ p ∧ ThS w a b c (upK 1 0 x) (upK 1 1 y) (upK 1 2 z) q2 q3 p4 p6 W) rfl rfl (fun v W h => .inr (by obtain ⟨p, _, _, _, h4⟩ := h; exact h4)) (fun W hW => ?_) ?_
        · obtain ⟨w8, p8, s8, b8, m8, hp8⟩ := new23 W
          exact ⟨_, w8, s8, p8, rfl, b8, by have := hW.l.size; omega, hW.on m8⟩
        rintro v8 ⟨_, p8, rfl, _⟩
        refine ZE.store (fun W => Blk W p8 (y.map byt) 23 ∧ w.heap.size ≤ p8 ∧ ThS w a b c (upK 1 0 x) (upK 1 1 y) (upK 1 2 z) q2 q3 p4 p6 W) rfl rfl rfl (fun W h => .inr h.2.2) (fun W hW => ?_) ?_
        · obtain ⟨p, e, g1, g2, g3⟩ := hW
          simp at e
          subst e
          obtain ⟨w', s1, s2, s3⟩ := st23 g1 z32l ly
          exact ⟨w', s1, s2, g2, g3.st g1 s3 g2⟩
        refine ZE.assign rfl rfl rfl rfl sr0 ?_; refine AZ.done (by kernel_rfl) ?_
        rintro W5 ⟨b8, hp8, S5⟩
        refine EW.on ?_; refine EW.seq ?_; refine EW.seq ?_; refine EW.region ?_; refine WL.move rfl rfl rfl ?_; refine WL.bin rfl rfl rfl rfl (int_ne_d _ _ _ _ _) ?_; refine WL.done ?_; refine EW.on ?_; refine EW.cond_d rfl (fun h25 => ?_) (fun h25 => ?_)
        · refine EW.seq ?_
          have hz : y = z32 := Classical.byContradiction fun e => by simp [e] at h25
          refine EW.region ?_; refine WL.load rfl rfl rfl (run_loadR S5.fd u80 rfl (i80 (upK_len _ _ lx) (upK_len _ _ ly) (upK_len _ _ lz))) ?_; refine WL.move rfl rfl rfl ?_
          have s7 := run_storeR (cs := thK (upK 1 0 x) (upK 1 1 y) (upK 1 2 z)) S5.fc (i80 (upK_len _ _ lx) (upK_len _ _ ly) (upK_len _ _ lz)) (by rw [thK_len rfl rfl rfl, thK_len (upK_len _ _ lx) (upK_len _ _ ly) (upK_len _ _ lz)]) (thK_one _ _ _)
          refine WL.store rfl rfl rfl s7 ?_; refine WL.assign rfl rfl rfl ?_; refine WL.done ?_; refine EW.on ?_; refine EW.ret ?_; refine pr_then ?_; refine pr_block ?_; refine pr_then ?_; refine pr_then ?_; refine pr_block ?_; refine pr_then ?_
          exact EW.ret_ct Tryd.results31 rfl rfl (S5.fc.setRow _) u80 rfl (i80 (upK_len _ _ lx) (upK_len _ _ ly) (upK_len _ _ lz)) ⟨by rw [show thO x y z = (thK x z32 z32, 70) from by unfold thO; rw [if_neg (hx0 (by decide)), if_pos hz], if_pos hz]; rfl, bf S5.l (Fx.setRow W5 p4 _ rfl) h4⟩
        · refine EW.skip ?_; refine EW.on ?_; refine EW.region ?_; refine WL.move rfl rfl rfl ?_; refine WL.load rfl rfl rfl (ld23 b8 ly) ?_; refine WL.index rfl rfl rfl rfl (ix80 p6 1 (by decide) _) ?_
          obtain ⟨w9, s9, b9, f9⟩ := (st80 S5.fd (upK_len _ _ lx) (upK_len _ _ ly) (upK_len _ _ lz) ly).2.1
          refine WL.store rfl rfl rfl s9 ?_; refine WL.done ?_; refine pn_block ?_; refine EW.on ?_; refine EW.region ?_; refine WL.move rfl rfl rfl ?_; refine WL.bin rfl rfl rfl rfl (int_add (c := ((1 + 1 : Nat) : Int)) (by decide) _ _ _) ?_; refine WL.assign rfl rfl rfl ?_; refine WL.done ?_
          have hny : y ≠ z32 := fun e => by simp [e] at h25
          have L9 := bf S5.l f9 h6
          exact EW.again (E := thE q2 q3 p4 p6) (R := ThI w a b c x y z q2 q3 p4 p6) (m := fun i => 3 - i) (x := 1) 2 [2, 3, 4, 6, 7] rfl ⟨by decide, ⟨S5.fa.fx f9 h26, S5.fb.fx f9 h36, S5.fc.fx f9 h46, b9, L9⟩, fun _ => hx0 (by decide), fun _ => hny, fun h => absurd h (by decide)⟩ (by decide)
      · simp only [List.getD_cons_zero, List.getD_cons_succ]
        refine ZE.new (fun v W => ∃ p, v = .pointer (some ⟨p, 0, none⟩) ∧ Blk W p (z32.map byt) 23 ∧ w.heap.size ≤ p ∧ ThS w a b c (upK 1 0 x) (upK 1 1 y) (upK 1 2 z) q2 q3 p4 p6 W) rfl rfl (fun v W h => .inr (by obtain ⟨p, _, _, _, h4⟩ := h; exact h4)) (fun W hW => ?_) ?_
        · obtain ⟨w8, p8, s8, b8, m8, hp8⟩ := new23 W
          exact ⟨_, w8, s8, p8, rfl, b8, by have := hW.l.size; omega, hW.on m8⟩
        rintro v8 ⟨_, p8, rfl, _⟩
        refine AZ.seg [(6, 1, 1), (7, 0, 0), (8, 0, 0), (9, 0, 0), (11, 1, 1), (12, 0, 0)] 0 rfl (by kernel_rfl) (sr_anti _) (by kernel_rfl) ?_; simp only [opsZ, List.getD_cons_zero, List.getD_cons_succ]
        refine ZE.callV [kv b.a, kv b.b] (.tuple #[kv y, .int .i64 (if y = z32 then 70 else 0)]) (fun W => Blk W p8 (z32.map byt) 23 ∧ w.heap.size ≤ p8 ∧ ThS w a b c (upK 1 0 x) (upK 1 1 y) (upK 1 2 z) q2 q3 p4 p6 W) enter46 rfl rfl rfl (fun W h => .inr h.2.2) (fun W hW => (rshr_any b.a b.b y hy hb.a hb.b W).mono fun x w' h => by
          obtain ⟨p, e, g1, g2, g3⟩ := hW
          simp at e
          subst e
          exact ⟨h.1, g1.on h.2, g2, g3.on h.2⟩) ?_
        refine ZE.move rfl rfl rfl rfl sr0 ?_; refine ZE.extract rfl rfl rfl rfl sr0 (fun W => (ext_2 _ _ W).1) ?_; refine ZE.extract rfl rfl rfl rfl sr0 (fun W => (ext_2 _ _ W).2) ?_; refine ZE.store (fun W => Blk W p8 (y.map byt) 23 ∧ w.heap.size ≤ p8 ∧ ThS w a b c (upK 1 0 x) (upK 1 1 y) (upK 1 2 z) q2 q3 p4 p6 W) rfl rfl rfl (fun W h => .inr h.2.2) (fun W hW => ?_) ?_
        · obtain ⟨g1, g2, g3⟩ := hW
          obtain ⟨w', s1, s2, s3⟩ := st23 g1 z32l ly
          exact ⟨w', s1, s2, g2, g3.st g1 s3 g2⟩
        refine ZE.assign rfl rfl rfl rfl sr0 ?_; refine AZ.done (by kernel_rfl) ?_
        rintro W5 ⟨b8, hp8, S5⟩
        refine EW.on ?_; refine EW.seq ?_; refine EW.seq ?_; refine EW.region ?_; refine WL.move rfl rfl rfl ?_; refine WL.bin rfl rfl rfl rfl (int_ne_d _ _ _ _ _) ?_; refine WL.done ?_; refine EW.on ?_; refine EW.cond_d rfl (fun h25 => ?_) (fun h25 => ?_)
        · refine EW.seq ?_
          have hz : y = z32 := Classical.byContradiction fun e => by simp [e] at h25
          refine EW.region ?_; refine WL.load rfl rfl rfl (run_loadR S5.fd u80 rfl (i80 (upK_len _ _ lx) (upK_len _ _ ly) (upK_len _ _ lz))) ?_; refine WL.move rfl rfl rfl ?_
          have s7 := run_storeR (cs := thK (upK 1 0 x) (upK 1 1 y) (upK 1 2 z)) S5.fc (i80 (upK_len _ _ lx) (upK_len _ _ ly) (upK_len _ _ lz)) (by rw [thK_len rfl rfl rfl, thK_len (upK_len _ _ lx) (upK_len _ _ ly) (upK_len _ _ lz)]) (thK_one _ _ _)
          refine WL.store rfl rfl rfl s7 ?_; refine WL.assign rfl rfl rfl ?_; refine WL.done ?_; refine EW.on ?_; refine EW.ret ?_; refine pr_then ?_; refine pr_block ?_; refine pr_then ?_; refine pr_then ?_; refine pr_block ?_; refine pr_then ?_
          exact EW.ret_ct Tryd.results31 rfl rfl (S5.fc.setRow _) u80 rfl (i80 (upK_len _ _ lx) (upK_len _ _ ly) (upK_len _ _ lz)) ⟨by rw [show thO x y z = (thK x z32 z32, 70) from by unfold thO; rw [if_neg (hx0 (by decide)), if_pos hz], if_pos hz]; rfl, bf S5.l (Fx.setRow W5 p4 _ rfl) h4⟩
        · refine EW.skip ?_; refine EW.on ?_; refine EW.region ?_; refine WL.move rfl rfl rfl ?_; refine WL.load rfl rfl rfl (ld23 b8 ly) ?_; refine WL.index rfl rfl rfl rfl (ix80 p6 1 (by decide) _) ?_
          obtain ⟨w9, s9, b9, f9⟩ := (st80 S5.fd (upK_len _ _ lx) (upK_len _ _ ly) (upK_len _ _ lz) ly).2.1
          refine WL.store rfl rfl rfl s9 ?_; refine WL.done ?_; refine pn_block ?_; refine EW.on ?_; refine EW.region ?_; refine WL.move rfl rfl rfl ?_; refine WL.bin rfl rfl rfl rfl (int_add (c := ((1 + 1 : Nat) : Int)) (by decide) _ _ _) ?_; refine WL.assign rfl rfl rfl ?_; refine WL.done ?_
          have hny : y ≠ z32 := fun e => by simp [e] at h25
          have L9 := bf S5.l f9 h6
          exact EW.again (E := thE q2 q3 p4 p6) (R := ThI w a b c x y z q2 q3 p4 p6) (m := fun i => 3 - i) (x := 1) 2 [2, 3, 4, 6, 7] rfl ⟨by decide, ⟨S5.fa.fx f9 h26, S5.fb.fx f9 h36, S5.fc.fx f9 h46, b9, L9⟩, fun _ => hx0 (by decide), fun _ => hny, fun h => absurd h (by decide)⟩ (by decide)
    · refine EW.az (SR (ThS w a b c (upK 2 0 x) (upK 2 1 y) (upK 2 2 z) q2 q3 p4 p6)) (levZ [(6, 1, 1), (10, 1, 1), (11, 1, 1)]) (ThS w a b c (upK 2 0 x) (upK 2 1 y) (upK 2 2 z) q2 q3 p4 p6) 13 (by kernel_rfl) rfl (ThS.on S3 (below_drawn wi)) ?_; refine AZ.seg [(0, 0, 0), (1, 0, 0), (2, 0, 1), (3, 0, 0), (4, 0, 0), (5, 0, 1)] 7 rfl (by kernel_rfl) (sr_anti _) (by kernel_rfl) ?_; simp only [opsZ, List.getD_cons_zero, List.getD_cons_succ]; refine ZE.move rfl rfl rfl rfl sr0 ?_; refine ZE.index rfl rfl rfl rfl rfl sr0 (fun W => ix80 q2 2 (by decide) W) ?_; refine ZE.load rfl rfl rfl rfl (sr1 fun W h => h) (fun W hW => (ld80 (sr_of hW).fa ha.a hb.a hc.a).2.2) ?_; refine ZE.move rfl rfl rfl rfl sr0 ?_; refine ZE.index rfl rfl rfl rfl rfl sr0 (fun W => ix80 q3 2 (by decide) W) ?_; refine ZE.load rfl rfl rfl rfl (sr1 fun W h => h) (fun W hW => (ld80 (sr_of hW).fb ha.b hb.b hc.b).2.2) ?_; refine AZ.two 6 6 1 10 1 rfl (by kernel_rfl) ?_ ?_
      · simp only [List.getD_cons_zero, List.getD_cons_succ]
        refine ZE.callV [kv c.a, kv c.b] (.tuple #[kv z, .int .i64 (if z = z32 then 70 else 0)]) (ThS w a b c (upK 2 0 x) (upK 2 1 y) (upK 2 2 z) q2 q3 p4 p6) enter46 rfl rfl rfl (fun W h => .inr h) (fun W hW => (rshr_any c.a c.b z hz hc.a hc.b W).mono fun x w' h => ⟨h.1, hW.on h.2⟩) ?_; refine AZ.seg [(7, 0, 0), (8, 0, 0), (9, 0, 0), (10, 1, 1), (11, 1, 1), (12, 0, 0)] 0 rfl (by kernel_rfl) (sr_anti _) (by kernel_rfl) ?_; simp only [opsZ, List.getD_cons_zero, List.getD_cons_succ]; refine ZE.move rfl rfl rfl rfl sr0 ?_; refine ZE.extract rfl rfl rfl rfl sr0 (fun W => (ext_2 _ _ W).1) ?_; refine ZE.extract rfl rfl rfl rfl sr0 (fun W => (ext_2 _ _ W).2) ?_; refine ZE.new (fun v W => ∃ p, v = .pointer (some ⟨p, 0, none⟩) ∧ Blk W p (z32.map byt) 23 ∧ w.heap.size ≤ p ∧ ThS w a b c (upK 2 0 x) (upK 2 1 y) (upK 2 2 z) q2 q3 p4 p6 W) rfl rfl (fun v W h => .inr (by obtain ⟨p, _, _, _, h4⟩ := h; exact h4)) (fun W hW => ?_) ?_
        · obtain ⟨w8, p8, s8, b8, m8, hp8⟩ := new23 W
          exact ⟨_, w8, s8, p8, rfl, b8, by have := hW.l.size; omega, hW.on m8⟩
        rintro v8 ⟨_, p8, rfl, _⟩
        refine ZE.store (fun W => Blk W p8 (z.map byt) 23 ∧ w.heap.size ≤ p8 ∧ ThS w a b c (upK 2 0 x) (upK 2 1 y) (upK 2 2 z) q2 q3 p4 p6 W) rfl rfl rfl (fun W h => .inr h.2.2) (fun W hW => ?_) ?_
        · obtain ⟨p, e, g1, g2, g3⟩ := hW
          simp at e
          subst e
          obtain ⟨w', s1, s2, s3⟩ := st23 g1 z32l lz
          exact ⟨w', s1, s2, g2, g3.st g1 s3 g2⟩
        refine ZE.assign rfl rfl rfl rfl sr0 ?_; refine AZ.done (by kernel_rfl) ?_
        rintro W5 ⟨b8, hp8, S5⟩
        refine EW.on ?_; refine EW.seq ?_; refine EW.seq ?_; refine EW.region ?_; refine WL.move rfl rfl rfl ?_; refine WL.bin rfl rfl rfl rfl (int_ne_d _ _ _ _ _) ?_; refine WL.done ?_; refine EW.on ?_; refine EW.cond_d rfl (fun h25 => ?_) (fun h25 => ?_)
        · refine EW.seq ?_
          have hz : z = z32 := Classical.byContradiction fun e => by simp [e] at h25
          refine EW.region ?_; refine WL.load rfl rfl rfl (run_loadR S5.fd u80 rfl (i80 (upK_len _ _ lx) (upK_len _ _ ly) (upK_len _ _ lz))) ?_; refine WL.move rfl rfl rfl ?_
          have s7 := run_storeR (cs := thK (upK 2 0 x) (upK 2 1 y) (upK 2 2 z)) S5.fc (i80 (upK_len _ _ lx) (upK_len _ _ ly) (upK_len _ _ lz)) (by rw [thK_len rfl rfl rfl, thK_len (upK_len _ _ lx) (upK_len _ _ ly) (upK_len _ _ lz)]) (thK_one _ _ _)
          refine WL.store rfl rfl rfl s7 ?_; refine WL.assign rfl rfl rfl ?_; refine WL.done ?_; refine EW.on ?_; refine EW.ret ?_; refine pr_then ?_; refine pr_block ?_; refine pr_then ?_; refine pr_then ?_; refine pr_block ?_; refine pr_then ?_
          exact EW.ret_ct Tryd.results31 rfl rfl (S5.fc.setRow _) u80 rfl (i80 (upK_len _ _ lx) (upK_len _ _ ly) (upK_len _ _ lz)) ⟨by rw [show thO x y z = (thK x y z32, 70) from by unfold thO; rw [if_neg (hx0 (by decide)), if_neg (hx1 (by decide)), if_pos hz], if_pos hz]; rfl, bf S5.l (Fx.setRow W5 p4 _ rfl) h4⟩
        · refine EW.skip ?_; refine EW.on ?_; refine EW.region ?_; refine WL.move rfl rfl rfl ?_; refine WL.load rfl rfl rfl (ld23 b8 lz) ?_; refine WL.index rfl rfl rfl rfl (ix80 p6 2 (by decide) _) ?_
          obtain ⟨w9, s9, b9, f9⟩ := (st80 S5.fd (upK_len _ _ lx) (upK_len _ _ ly) (upK_len _ _ lz) lz).2.2
          refine WL.store rfl rfl rfl s9 ?_; refine WL.done ?_; refine pn_block ?_; refine EW.on ?_; refine EW.region ?_; refine WL.move rfl rfl rfl ?_; refine WL.bin rfl rfl rfl rfl (int_add (c := ((2 + 1 : Nat) : Int)) (by decide) _ _ _) ?_; refine WL.assign rfl rfl rfl ?_; refine WL.done ?_
          have hnz : z ≠ z32 := fun e => by simp [e] at h25
          have L9 := bf S5.l f9 h6
          exact EW.again (E := thE q2 q3 p4 p6) (R := ThI w a b c x y z q2 q3 p4 p6) (m := fun i => 3 - i) (x := 2) 3 [2, 3, 4, 6, 7] rfl ⟨by decide, ⟨S5.fa.fx f9 h26, S5.fb.fx f9 h36, S5.fc.fx f9 h46, b9, L9⟩, fun _ => hx0 (by decide), fun _ => hx1 (by decide), fun _ => hnz⟩ (by decide)
      · simp only [List.getD_cons_zero, List.getD_cons_succ]
        refine ZE.new (fun v W => ∃ p, v = .pointer (some ⟨p, 0, none⟩) ∧ Blk W p (z32.map byt) 23 ∧ w.heap.size ≤ p ∧ ThS w a b c (upK 2 0 x) (upK 2 1 y) (upK 2 2 z) q2 q3 p4 p6 W) rfl rfl (fun v W h => .inr (by obtain ⟨p, _, _, _, h4⟩ := h; exact h4)) (fun W hW => ?_) ?_
        · obtain ⟨w8, p8, s8, b8, m8, hp8⟩ := new23 W
          exact ⟨_, w8, s8, p8, rfl, b8, by have := hW.l.size; omega, hW.on m8⟩
        rintro v8 ⟨_, p8, rfl, _⟩
        refine AZ.seg [(6, 1, 1), (7, 0, 0), (8, 0, 0), (9, 0, 0), (11, 1, 1), (12, 0, 0)] 0 rfl (by kernel_rfl) (sr_anti _) (by kernel_rfl) ?_; simp only [opsZ, List.getD_cons_zero, List.getD_cons_succ]
        refine ZE.callV [kv c.a, kv c.b] (.tuple #[kv z, .int .i64 (if z = z32 then 70 else 0)]) (fun W => Blk W p8 (z32.map byt) 23 ∧ w.heap.size ≤ p8 ∧ ThS w a b c (upK 2 0 x) (upK 2 1 y) (upK 2 2 z) q2 q3 p4 p6 W) enter46 rfl rfl rfl (fun W h => .inr h.2.2) (fun W hW => (rshr_any c.a c.b z hz hc.a hc.b W).mono fun x w' h => by
          obtain ⟨p, e, g1, g2, g3⟩ := hW
          simp at e
          subst e
          exact ⟨h.1, g1.on h.2, g2, g3.on h.2⟩) ?_
        refine ZE.move rfl rfl rfl rfl sr0 ?_; refine ZE.extract rfl rfl rfl rfl sr0 (fun W => (ext_2 _ _ W).1) ?_; refine ZE.extract rfl rfl rfl rfl sr0 (fun W => (ext_2 _ _ W).2) ?_; refine ZE.store (fun W => Blk W p8 (z.map byt) 23 ∧ w.heap.size ≤ p8 ∧ ThS w a b c (upK 2 0 x) (upK 2 1 y) (upK 2 2 z) q2 q3 p4 p6 W) rfl rfl rfl (fun W h => .inr h.2.2) (fun W hW => ?_) ?_
        · obtain ⟨g1, g2, g3⟩ := hW
          obtain ⟨w', s1, s2, s3⟩ := st23 g1 z32l lz
          exact ⟨w', s1, s2, g2, g3.st g1 s3 g2⟩
        refine ZE.assign rfl rfl rfl rfl sr0 ?_; refine AZ.done (by kernel_rfl) ?_
        rintro W5 ⟨b8, hp8, S5⟩
        refine EW.on ?_; refine EW.seq ?_; refine EW.seq ?_; refine EW.region ?_; refine WL.move rfl rfl rfl ?_; refine WL.bin rfl rfl rfl rfl (int_ne_d _ _ _ _ _) ?_; refine WL.done ?_; refine EW.on ?_; refine EW.cond_d rfl (fun h25 => ?_) (fun h25 => ?_)
        · refine EW.seq ?_
          have hz : z = z32 := Classical.byContradiction fun e => by simp [e] at h25
          refine EW.region ?_; refine WL.load rfl rfl rfl (run_loadR S5.fd u80 rfl (i80 (upK_len _ _ lx) (upK_len _ _ ly) (upK_len _ _ lz))) ?_; refine WL.move rfl rfl rfl ?_
          have s7 := run_storeR (cs := thK (upK 2 0 x) (upK 2 1 y) (upK 2 2 z)) S5.fc (i80 (upK_len _ _ lx) (upK_len _ _ ly) (upK_len _ _ lz)) (by rw [thK_len rfl rfl rfl, thK_len (upK_len _ _ lx) (upK_len _ _ ly) (upK_len _ _ lz)]) (thK_one _ _ _)
          refine WL.store rfl rfl rfl s7 ?_; refine WL.assign rfl rfl rfl ?_; refine WL.done ?_; refine EW.on ?_; refine EW.ret ?_; refine pr_then ?_; refine pr_block ?_; refine pr_then ?_; refine pr_then ?_; refine pr_block ?_; refine pr_then ?_
          exact EW.ret_ct Tryd.results31 rfl rfl (S5.fc.setRow _) u80 rfl (i80 (upK_len _ _ lx) (upK_len _ _ ly) (upK_len _ _ lz)) ⟨by rw [show thO x y z = (thK x y z32, 70) from by unfold thO; rw [if_neg (hx0 (by decide)), if_neg (hx1 (by decide)), if_pos hz], if_pos hz]; rfl, bf S5.l (Fx.setRow W5 p4 _ rfl) h4⟩
        · refine EW.skip ?_; refine EW.on ?_; refine EW.region ?_; refine WL.move rfl rfl rfl ?_; refine WL.load rfl rfl rfl (ld23 b8 lz) ?_; refine WL.index rfl rfl rfl rfl (ix80 p6 2 (by decide) _) ?_
          obtain ⟨w9, s9, b9, f9⟩ := (st80 S5.fd (upK_len _ _ lx) (upK_len _ _ ly) (upK_len _ _ lz) lz).2.2
          refine WL.store rfl rfl rfl s9 ?_; refine WL.done ?_; refine pn_block ?_; refine EW.on ?_; refine EW.region ?_; refine WL.move rfl rfl rfl ?_; refine WL.bin rfl rfl rfl rfl (int_add (c := ((2 + 1 : Nat) : Int)) (by decide) _ _ _) ?_; refine WL.assign rfl rfl rfl ?_; refine WL.done ?_
          have hnz : z ≠ z32 := fun e => by simp [e] at h25
          have L9 := bf S5.l f9 h6
          exact EW.again (E := thE q2 q3 p4 p6) (R := ThI w a b c x y z q2 q3 p4 p6) (m := fun i => 3 - i) (x := 2) 3 [2, 3, 4, 6, 7] rfl ⟨by decide, ⟨S5.fa.fx f9 h26, S5.fb.fx f9 h36, S5.fc.fx f9 h46, b9, L9⟩, fun _ => hx0 (by decide), fun _ => hx1 (by decide), fun _ => hnz⟩ (by decide)
  · refine EW.exit ?_; refine px_then ?_; refine px_then ?_; refine px_block ?_; refine EW.on ?_; refine EW.seq ?_
    have hi3 : i = 3 := by omega
    subst hi3
    have hnx := hx0 (by decide)
    have hny := hx1 (by decide)
    have hnz := hx2 (by decide)
    have S9 : ThS w a b c x y z q2 q3 p4 p6 wi := S3
    refine EW.region ?_; refine WL.load rfl rfl rfl (run_loadR S9.fd u80 rfl (i80 lx ly lz)) ?_
    have s7 := run_storeR (cs := thK x y z) S9.fc (i80 lx ly lz) (by rw [thK_len rfl rfl rfl, thK_len lx ly lz]) (thK_one _ _ _)
    refine WL.store rfl rfl rfl s7 ?_; refine WL.assign rfl rfl rfl ?_; refine WL.done ?_; refine EW.on ?_; refine EW.ret ?_
    exact EW.ret_ct Tryd.results31 rfl rfl (S9.fc.setRow _) u80 rfl (i80 lx ly lz) ⟨by unfold thO; rw [if_neg hnx, if_neg hny, if_neg hnz], bf S9.l (Fx.setRow wi p4 _ rfl) h4⟩
end Go.Proofs.YtoceepmehmacbaaDoor
