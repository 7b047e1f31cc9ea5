import Derived.Test.YtiefgmgjlhjjhaaDoorPh
set_option linter.unusedVariables false
set_option linter.unusedSimpArgs false
namespace Go.Proofs.YtiefgmgjlhjjhaaDoor
open Go.RowKit

section
variable {P : Program} {n : Nat} {ops : Array Oper} {S : Nat → World → Prop} {K : List (Nat × Value) → (World → Prop) → Prop} {i c lv : Nat} {ty : TypeId} {ps : String} {af : Array Edge} {gd : Option (Nat × Bool)} {r : List (Oper × Nat × Nat)} {e : List (Nat × Value)} {C : World → Prop}
theorem ZE.newR {t : TypeId} (C' : Value → World → Prop) (hw : wantE ops e ⟨some i, .alloc t, ty, ps, af, gd⟩ = some true) (hi : decide (i < n) = true) (h1 : ∀ v w, C' v w → S lv w) (hr : ∀ w, C w → ∃ v w', (Instr.alloc t true (.tuple #[])).run P w = .ok v w' ∧ C' v w') (k : ∀ v, (∃ w, C' v w) → wpZE P n ops S K r ((i, v) :: e) (C' v)) : wpZE P n ops S K ((⟨some i, .alloc t, ty, ps, af, gd⟩, 1, lv) :: r) e C :=
  ZE.eff C' hw hi h1 (fun W hW => by
    obtain ⟨v, w', h2, h3⟩ := hr W hW
    exact ⟨v, w', fun a ha => by simp [execOp, h2, Result.andThen], h3⟩) k

end
theorem bd71s (n : Nat) (s : List UInt8) (hs : s.length = 8) (W : World) : (Instr.build 71 [(0, .int .i64 (n : Int)), (1, kv s)].toArray).run Tryd.prog W = .ok (Pc.mk0 n s).val W := by
  obtain ⟨a, b, c, d, e, f, g, h, rfl⟩ : ∃ a b c d e f g h, s = [a, b, c, d, e, f, g, h] := by
    match s, hs with
    | [a, b, c, d, e, f, g, h], _ => exact ⟨a, b, c, d, e, f, g, h, rfl⟩
  kernel_rfl
theorem Pc.z_sh : Pc.z.sh := Pc.sh0 (by decide) rfl
/-- The parcel to which a part belongs, as it is ahead of it. -/
def ahR (E : List Me) (most : Nat) (a : List UInt8) (x : Pi) : Pc × Int :=
  match lkE E a x.id with
  | none => if most ≤ E.length then (Pc.z, 120) else (Pc.mk0 x.n x.s, 0)
  | some c => if ¬ (c.n = x.n ∧ c.s = x.s) then (Pc.z, 260) else if c.h.getD x.i false then (Pc.z, 151) else (c, 0)
theorem lk_mem {E : List Me} {a : List UInt8} {n : Nat} {c : Pc} (h : lkE E a n = some c) : ∃ m ∈ E, m.c = c ∧ m.p = a ∧ m.id = n := by
  unfold lkE at h
  cases hf : E.find? (fun m => decide (a = m.p ∧ n = m.id)) with
  | none => rw [hf] at h; cases h
  | some m =>
    rw [hf] at h
    have h1 := List.mem_of_find?_eq_some hf
    have h2 := List.find?_some hf
    simp only [decide_eq_true_eq] at h2
    simp only [Option.map_some, Option.some.injEq] at h
    exact ⟨m, h1, h, h2.1.symm, h2.2.symm⟩
set_option maxRecDepth 100000 in
set_option maxHeartbeats 4000000 in
theorem ahead_none (p r most : Nat) (E : List Me) (c0 : Nat) (a : List UInt8) (x : Pi) (hx : x.sh) (hn : x.n ≤ 64) (w : World) (ht : Tr w p r most E c0) (hk : lkE E a x.id = none) : Calls Tryd.prog 24 #[.pointer (some ⟨p, 0, none⟩), plV a x.id, x.val] w fun e w' => e = .returned (.tuple #[(ahR E most a x).1.val, .int .i64 (ahR E most a x).2]) ∧ Below w.heap.size w w' := by
  have hc := Pc.z_sh
  refine calls_of_args [.pointer (some ⟨p, 0, none⟩), plV a x.id, x.val] Tryd.func24 rfl 65 Tryd.ntmps24 (by show 3 ≤ 65; decide) ?_
  refine EW.seq ?_
  refine EW.region ?_
  obtain ⟨w1, q4, rb4, b4, l1, hq4⟩ := box_any 67 [sv a, u32v x.id] w
  refine WL.box rfl rfl rfl rb4 ?_
  obtain ⟨w2, q5, rb5, b5, l2, hq5⟩ := box_any 58 x.cs w1
  refine WL.box rfl rfl rfl rb5 ?_
  obtain ⟨w3, q6, rn6, b6, l3, hq6⟩ := newB (cs := Pc.z.cs) zv71 w2
  refine WL.new rfl rfl rn6 ?_
  have L3 := bt (bt l1 l2) l3
  have T3 := ht.on L3
  have B4 := (b4.on l2).on l3
  have B5 := b5.on l3
  have i6 : w.heap.size ≤ q6 := by have := (bt l1 l2).size; omega
  first | refine WL.assign rfl rfl rfl ?_
  refine WL.done ?_
  refine EW.on ?_
  refine EW.seq ?_
  refine EW.ordB [(0, 0, 0), (1, 0, 0), (2, 0, 0), (3, 0, 1), (4, 0, 1), (5, 0, 1), (6, 0, 0), (7, 0, 0), (8, 0, 0), (9, 1, 1), (10, 1, 0), (11, 0, 0)] (by kernel_rfl) rfl (by kernel_rfl) ?_
  simp only [opsZ, List.getD_cons_zero, List.getD_cons_succ]
  first | refine ZE.move rfl rfl rfl rfl sz0 ?_
  first | refine ZE.nilc rfl rfl rfl rfl sz0 ?_
  refine ZE.field rfl rfl rfl rfl sz0 (fun W => f61_1 _ W) ?_
  refine ZE.load rfl rfl rfl rfl sz1 (fun W hW => ldM (T3.on (hW.resolve_left (by decide))).bl rfl) ?_
  refine ZE.load rfl rfl rfl rfl sz1 (fun W hW => ld67 (B4.on (hW.resolve_left (by decide)))) ?_
  refine ZE.lk rfl rfl rfl rfl rfl sz1 (fun W hW => show _ = Result.ok (Value.tuple #[Pc.z.val, .bool false]) W by rw [run_lk (T3.on (hW.resolve_left (by decide))).mp a x.id, hk]; rfl) ?_
  first | refine ZE.move rfl rfl rfl rfl sz0 ?_
  first | refine ZE.extract rfl rfl rfl rfl sz0 (fun W => (ext_2 _ _ W).1) ?_
  first | refine ZE.extract rfl rfl rfl rfl sz0 (fun W => (ext_2 _ _ W).2) ?_
  refine ZE.newR (fun v W => ∃ q8, v = .pointer (some ⟨q8, 0, none⟩) ∧ Blk W q8 Pc.z.cs 71 ∧ w3.heap.size ≤ q8 ∧ Below w3.heap.size w3 W) rfl rfl (fun _ _ ⟨_, _, _, _, h⟩ => .inr h) (fun W hW => ?_) ?_
  · obtain ⟨W2, q, r, b, l, hq⟩ := newB (cs := Pc.z.cs) zv71 W
    exact ⟨_, W2, r, q, rfl, b, by have := hW.size; omega, hW.trans (l.mono hW.size)⟩
  rintro _ ⟨_, q8, rfl, _, hq8, _⟩
  refine ZE.store (fun W => Blk W q8 Pc.z.cs 71 ∧ Below w3.heap.size w3 W) rfl rfl rfl (fun _ _ => .inl rfl) (fun W hW => ?_) ?_
  · obtain ⟨q, e, b, _, l⟩ := hW
    cases e
    obtain ⟨W2, s1, s2, s3⟩ := st71 hc Pc.z_sh b
    exact ⟨W2, s1, s2, l.trans (s3.below (fun k hk e => by have e' : k = q8 := e; omega) l.size)⟩
  first | refine ZE.assign rfl rfl rfl rfl sz0 ?_
  rintro w4 ⟨D8, L4⟩
  have T4 := T3.on L4
  have D5 := B5.on L4
  have D6 := b6.on L4
  have LL := bt L3 L4
  refine EW.on ?_
  refine EW.seq ?_
  refine EW.block ?_
  refine EW.seq ?_
  refine EW.ordB [(0, 0, 0), (1, 0, 0), (2, 0, 0), (3, 0, 0), (4, 0, 0), (5, 0, 0), (6, 0, 1), (7, 0, 1), (8, 0, 0), (9, 0, 0), (10, 0, 0), (11, 0, 1), (12, 0, 0), (13, 0, 0), (14, 0, 0)] (by kernel_rfl) rfl (by kernel_rfl) ?_
  simp only [opsZ, List.getD_cons_zero, List.getD_cons_succ]
  first | refine ZE.move rfl rfl rfl rfl sz0 ?_
  first | refine ZE.un rfl rfl rfl rfl sz0 (fun W => not_t _ W) ?_
  first | refine ZE.move rfl rfl rfl rfl sz0 ?_
  first | refine ZE.move rfl rfl rfl rfl sz0 ?_ | refine ZE.skip rfl rfl rfl sz0 ?_
  first | refine ZE.nilc rfl rfl rfl rfl sz0 ?_ | refine ZE.skip rfl rfl rfl sz0 ?_
  first | refine ZE.field rfl rfl rfl rfl sz0 (fun W => f61_1 _ W) ?_ | refine ZE.skip rfl rfl rfl sz0 ?_
  first | refine ZE.load rfl rfl rfl rfl sz1 (fun W hW => ldM (T4.on (hW.resolve_left (by decide))).bl rfl) ?_ | refine ZE.skip rfl rfl rfl sz1 ?_
  first | refine ZE.lenW rfl rfl rfl rfl sz1 (fun W hW => len59 (T4.on (hW.resolve_left (by decide))).mp _) ?_ | refine ZE.skip rfl rfl rfl sz1 ?_
  first | refine ZE.move rfl rfl rfl rfl sz0 ?_ | refine ZE.skip rfl rfl rfl sz0 ?_
  first | refine ZE.nilc rfl rfl rfl rfl sz0 ?_ | refine ZE.skip rfl rfl rfl sz0 ?_
  first | refine ZE.field rfl rfl rfl rfl sz0 (fun W => f61_0 _ W) ?_ | refine ZE.skip rfl rfl rfl sz0 ?_
  first | refine ZE.load rfl rfl rfl rfl sz1 (fun W hW => ldI (T4.on (hW.resolve_left (by decide))).bl rfl) ?_ | refine ZE.skip rfl rfl rfl sz1 ?_
  first | refine ZE.bin rfl rfl rfl rfl rfl sz0 (fun W => int_ge_d _ _ W _ _) ?_ | refine ZE.skip rfl rfl rfl sz0 ?_
  first | refine ZE.pick rfl rfl rfl rfl rfl sz0 ?_
  first | refine ZE.assign rfl rfl rfl rfl sz0 ?_
  rintro w5 L5
  replace D5 := D5.on L5
  replace D6 := D6.on L5
  replace D8 := D8.on L5
  replace LL := bt LL L5
  refine EW.on ?_
  refine EW.cond_d rfl (fun h19 => ?_) (fun h19 => ?_)
  · have hm : most ≤ E.length := by omega
    refine EW.seq ?_
    refine EW.region ?_
    refine WL.build0 rfl rfl (bd71 _) ?_
    obtain ⟨w9, s9, b9, f9⟩ := st71 Pc.z_sh Pc.z_sh D6
    refine WL.store rfl rfl rfl s9 ?_
    first | refine WL.assign rfl rfl rfl ?_
    refine WL.done ?_
    refine EW.on ?_
    refine EW.ret ?_
    refine pr_block ?_
    refine pr_then ?_
    exact EW.returnsCT Tryd.results24 rfl rfl b9 Tryd.underlying71 rfl (i71 Pc.z_sh) ⟨by unfold ahR; rw [hk]; simp only [if_pos hm]; rfl, LL.trans (f9.below (fun k hk e => by have e' : k = q6 := e; omega) LL.size)⟩
  · have hm : ¬ most ≤ E.length := by omega
    refine EW.seq ?_
    refine EW.region ?_
    first | refine WL.move rfl rfl rfl ?_
    first | refine WL.un rfl rfl rfl (not_t _ _) ?_
    first | refine WL.assign rfl rfl rfl ?_
    refine WL.done ?_
    refine EW.on ?_
    refine EW.cond_t rfl ?_
    refine EW.seq ?_
    refine EW.region ?_
    first | refine WL.field rfl rfl rfl (f58_1 _ _) ?_ | refine WL.skip _ rfl rfl rfl ?_
    first | refine WL.load rfl rfl rfl (ldI D5 x.c1) ?_ | refine WL.skip _ rfl rfl rfl ?_
    first | refine WL.field rfl rfl rfl (f58_3 _ _) ?_ | refine WL.skip _ rfl rfl rfl ?_
    first | refine WL.load rfl rfl rfl (ld54p hx D5) ?_ | refine WL.skip _ rfl rfl rfl ?_
    refine WL.buildN [(0, .int .i64 (x.n : Int)), (1, kv x.s)] rfl rfl rfl (bd71s _ _ hx.s _) ?_
    obtain ⟨w9, s9, b9, f9⟩ := st71 (Pc.sh0 hn hx.s) Pc.z_sh D6
    refine WL.store rfl rfl rfl s9 ?_
    first | refine WL.assign rfl rfl rfl ?_
    refine WL.done ?_
    refine EW.on ?_
    refine EW.ret ?_
    refine pr_block ?_
    refine pr_then ?_
    exact EW.returnsCT Tryd.results24 rfl rfl b9 Tryd.underlying71 rfl (i71 (Pc.sh0 hn hx.s)) ⟨by unfold ahR; rw [hk]; simp only [if_neg hm]; rfl, LL.trans (f9.below (fun k hk e => by have e' : k = q6 := e; omega) LL.size)⟩
set_option maxRecDepth 100000 in
set_option maxHeartbeats 4000000 in
theorem ahead_some (p r most : Nat) (E : List Me) (c0 : Nat) (a : List UInt8) (x : Pi) (hx : x.sh) (hi : x.i < 64) (c : Pc) (w : World) (ht : Tr w p r most E c0) (hk : lkE E a x.id = some c) : Calls Tryd.prog 24 #[.pointer (some ⟨p, 0, none⟩), plV a x.id, x.val] w fun e w' => e = .returned (.tuple #[(ahR E most a x).1.val, .int .i64 (ahR E most a x).2]) ∧ Below w.heap.size w w' := by
  obtain ⟨m, hm, hmc, _, _⟩ := lk_mem hk
  have hc : c.sh := hmc ▸ ht.mp.ok m hm
  refine calls_of_args [.pointer (some ⟨p, 0, none⟩), plV a x.id, x.val] Tryd.func24 rfl 65 Tryd.ntmps24 (by show 3 ≤ 65; decide) ?_
  refine EW.seq ?_
  refine EW.region ?_
  obtain ⟨w1, q4, rb4, b4, l1, hq4⟩ := box_any 67 [sv a, u32v x.id] w
  refine WL.box rfl rfl rfl rb4 ?_
  obtain ⟨w2, q5, rb5, b5, l2, hq5⟩ := box_any 58 x.cs w1
  refine WL.box rfl rfl rfl rb5 ?_
  obtain ⟨w3, q6, rn6, b6, l3, hq6⟩ := newB (cs := Pc.z.cs) zv71 w2
  refine WL.new rfl rfl rn6 ?_
  have L3 := bt (bt l1 l2) l3
  have T3 := ht.on L3
  have B4 := (b4.on l2).on l3
  have B5 := b5.on l3
  have i6 : w.heap.size ≤ q6 := by have := (bt l1 l2).size; omega
  first | refine WL.assign rfl rfl rfl ?_
  refine WL.done ?_
  refine EW.on ?_
  refine EW.seq ?_
  refine EW.ordB [(0, 0, 0), (1, 0, 0), (2, 0, 0), (3, 0, 1), (4, 0, 1), (5, 0, 1), (6, 0, 0), (7, 0, 0), (8, 0, 0), (9, 1, 1), (10, 1, 0), (11, 0, 0)] (by kernel_rfl) rfl (by kernel_rfl) ?_
  simp only [opsZ, List.getD_cons_zero, List.getD_cons_succ]
  first | refine ZE.move rfl rfl rfl rfl sz0 ?_
  first | refine ZE.nilc rfl rfl rfl rfl sz0 ?_
  refine ZE.field rfl rfl rfl rfl sz0 (fun W => f61_1 _ W) ?_
  refine ZE.load rfl rfl rfl rfl sz1 (fun W hW => ldM (T3.on (hW.resolve_left (by decide))).bl rfl) ?_
  refine ZE.load rfl rfl rfl rfl sz1 (fun W hW => ld67 (B4.on (hW.resolve_left (by decide)))) ?_
  refine ZE.lk rfl rfl rfl rfl rfl sz1 (fun W hW => show _ = Result.ok (Value.tuple #[c.val, .bool true]) W by rw [run_lk (T3.on (hW.resolve_left (by decide))).mp a x.id, hk]; rfl) ?_
  first | refine ZE.move rfl rfl rfl rfl sz0 ?_
  first | refine ZE.extract rfl rfl rfl rfl sz0 (fun W => (ext_2 _ _ W).1) ?_
  first | refine ZE.extract rfl rfl rfl rfl sz0 (fun W => (ext_2 _ _ W).2) ?_
  refine ZE.newR (fun v W => ∃ q8, v = .pointer (some ⟨q8, 0, none⟩) ∧ Blk W q8 Pc.z.cs 71 ∧ w3.heap.size ≤ q8 ∧ Below w3.heap.size w3 W) rfl rfl (fun _ _ ⟨_, _, _, _, h⟩ => .inr h) (fun W hW => ?_) ?_
  · obtain ⟨W2, q, r, b, l, hq⟩ := newB (cs := Pc.z.cs) zv71 W
    exact ⟨_, W2, r, q, rfl, b, by have := hW.size; omega, hW.trans (l.mono hW.size)⟩
  rintro _ ⟨_, q8, rfl, _, hq8, _⟩
  refine ZE.store (fun W => Blk W q8 c.cs 71 ∧ Below w3.heap.size w3 W) rfl rfl rfl (fun _ _ => .inl rfl) (fun W hW => ?_) ?_
  · obtain ⟨q, e, b, _, l⟩ := hW
    cases e
    obtain ⟨W2, s1, s2, s3⟩ := st71 hc Pc.z_sh b
    exact ⟨W2, s1, s2, l.trans (s3.below (fun k hk e => by have e' : k = q8 := e; omega) l.size)⟩
  first | refine ZE.assign rfl rfl rfl rfl sz0 ?_
  rintro w4 ⟨D8, L4⟩
  have T4 := T3.on L4
  have D5 := B5.on L4
  have D6 := b6.on L4
  have LL := bt L3 L4
  refine EW.on ?_
  refine EW.seq ?_
  refine EW.block ?_
  refine EW.seq ?_
  refine EW.ordB [(0, 0, 0), (1, 0, 0), (2, 0, 0), (3, 0, 0), (4, 0, 0), (5, 0, 0), (6, 0, 1), (7, 0, 1), (8, 0, 0), (9, 0, 0), (10, 0, 0), (11, 0, 1), (12, 0, 0), (13, 0, 0), (14, 0, 0)] (by kernel_rfl) rfl (by kernel_rfl) ?_
  simp only [opsZ, List.getD_cons_zero, List.getD_cons_succ]
  first | refine ZE.move rfl rfl rfl rfl sz0 ?_
  first | refine ZE.un rfl rfl rfl rfl sz0 (fun W => not_t _ W) ?_
  first | refine ZE.move rfl rfl rfl rfl sz0 ?_
  first | refine ZE.move rfl rfl rfl rfl sz0 ?_ | refine ZE.skip rfl rfl rfl sz0 ?_
  first | refine ZE.nilc rfl rfl rfl rfl sz0 ?_ | refine ZE.skip rfl rfl rfl sz0 ?_
  first | refine ZE.field rfl rfl rfl rfl sz0 (fun W => f61_1 _ W) ?_ | refine ZE.skip rfl rfl rfl sz0 ?_
  first | refine ZE.load rfl rfl rfl rfl sz1 (fun W hW => ldM (T4.on (hW.resolve_left (by decide))).bl rfl) ?_ | refine ZE.skip rfl rfl rfl sz1 ?_
  first | refine ZE.lenW rfl rfl rfl rfl sz1 (fun W hW => len59 (T4.on (hW.resolve_left (by decide))).mp _) ?_ | refine ZE.skip rfl rfl rfl sz1 ?_
  first | refine ZE.move rfl rfl rfl rfl sz0 ?_ | refine ZE.skip rfl rfl rfl sz0 ?_
  first | refine ZE.nilc rfl rfl rfl rfl sz0 ?_ | refine ZE.skip rfl rfl rfl sz0 ?_
  first | refine ZE.field rfl rfl rfl rfl sz0 (fun W => f61_0 _ W) ?_ | refine ZE.skip rfl rfl rfl sz0 ?_
  first | refine ZE.load rfl rfl rfl rfl sz1 (fun W hW => ldI (T4.on (hW.resolve_left (by decide))).bl rfl) ?_ | refine ZE.skip rfl rfl rfl sz1 ?_
  first | refine ZE.bin rfl rfl rfl rfl rfl sz0 (fun W => int_ge_d _ _ W _ _) ?_ | refine ZE.skip rfl rfl rfl sz0 ?_
  first | refine ZE.pick rfl rfl rfl rfl rfl sz0 ?_
  first | refine ZE.assign rfl rfl rfl rfl sz0 ?_
  rintro w5 L5
  replace D5 := D5.on L5
  replace D6 := D6.on L5
  replace D8 := D8.on L5
  replace LL := bt LL L5
  refine EW.on ?_
  refine EW.cond_f rfl ?_
  refine EW.seq ?_
  refine EW.region ?_
  first | refine WL.move rfl rfl rfl ?_
  first | refine WL.un rfl rfl rfl (not_t _ _) ?_
  first | refine WL.assign rfl rfl rfl ?_
  refine WL.done ?_
  refine EW.on ?_
  refine EW.cond_f rfl ?_
  refine EW.seq ?_
  by_cases hA : c.n = x.n
  · have xa : (c.n : Int) = (x.n : Int) := by omega
    refine EW.region ?_
    first | refine WL.field rfl rfl rfl (f71_0 _ _) ?_ | refine WL.skip _ rfl rfl rfl ?_
    first | refine WL.load rfl rfl rfl (ldI D8 c.c0) ?_ | refine WL.skip _ rfl rfl rfl ?_
    first | refine WL.field rfl rfl rfl (f58_1 _ _) ?_ | refine WL.skip _ rfl rfl rfl ?_
    first | refine WL.load rfl rfl rfl (ldI D5 x.c1) ?_ | refine WL.skip _ rfl rfl rfl ?_
    first | refine WL.bin rfl rfl rfl rfl (int_ne_f rfl _ _ _) ?_ | refine WL.bin rfl rfl rfl rfl (int_ne_t ‹_› _ _ _) ?_ | refine WL.bin rfl rfl rfl rfl (int_ne_f ‹_› _ _ _) ?_ | refine WL.bin rfl rfl rfl rfl (int_ne_t (by decide) _ _ _) ?_ | refine WL.bin rfl rfl rfl rfl (int_ne_d _ _ _ _ _) ?_
    first | refine WL.move rfl rfl rfl ?_
    first | refine WL.field rfl rfl rfl (f71_1 _ _) ?_ | refine WL.skip _ rfl rfl rfl ?_
    first | refine WL.load rfl rfl rfl (ld54 hc D8) ?_ | refine WL.skip _ rfl rfl rfl ?_
    first | refine WL.field rfl rfl rfl (f58_3 _ _) ?_ | refine WL.skip _ rfl rfl rfl ?_
    first | refine WL.load rfl rfl rfl (ld54p hx D5) ?_ | refine WL.skip _ rfl rfl rfl ?_
    first | refine WL.bin rfl rfl rfl rfl (neq54 _ _ hc.s hx.s _ _ _) ?_ | refine WL.skip _ rfl rfl rfl ?_
    first | refine WL.pick rfl rfl rfl rfl ?_
    first | refine WL.assign rfl rfl rfl ?_
    refine WL.done ?_
    refine EW.on ?_
    refine EW.cond_d rfl (fun h43 => ?_) (fun h43 => ?_)
    · skip
      refine EW.seq ?_
      refine EW.region ?_
      refine WL.build0 rfl rfl (bd71 _) ?_
      obtain ⟨w9, s9, b9, f9⟩ := st71 Pc.z_sh Pc.z_sh D6
      refine WL.store rfl rfl rfl s9 ?_
      first | refine WL.assign rfl rfl rfl ?_
      refine WL.done ?_
      refine EW.on ?_
      refine EW.ret ?_
      refine pr_block ?_
      refine pr_then ?_
      exact EW.returnsCT Tryd.results24 rfl rfl b9 Tryd.underlying71 rfl (i71 Pc.z_sh) ⟨by unfold ahR; rw [hk]; dsimp only; rw [if_pos (fun h => absurd h.2 h43)]; rfl, LL.trans (f9.below (fun k hk e => by have e' : k = q6 := e; omega) LL.size)⟩
    · have hB : c.s = x.s := by simpa using h43
      obtain ⟨b, hh⟩ : ∃ b, c.h[x.i]? = some b := ⟨_, List.getElem?_eq_getElem (by rw [hc.h]; omega)⟩
      have hg : c.h.getD x.i false = b := by rw [List.getD_eq_getElem?_getD, hh]; rfl
      refine EW.seq ?_
      refine EW.region ?_
      first | refine WL.field rfl rfl rfl (f58_2 _ _) ?_ | refine WL.skip _ rfl rfl rfl ?_
      first | refine WL.load rfl rfl rfl (ldI D5 x.c2) ?_ | refine WL.skip _ rfl rfl rfl ?_
      first | refine WL.field rfl rfl rfl (f71_2 _ _) ?_ | refine WL.skip _ rfl rfl rfl ?_
      refine WL.index rfl rfl rfl rfl (x68 _ _ hi _) ?_
      first | refine WL.load rfl rfl rfl (ldB D8 (Pc.c2 hc hh)) ?_ | refine WL.skip _ rfl rfl rfl ?_
      first | refine WL.assign rfl rfl rfl ?_
      refine WL.done ?_
      refine EW.on ?_
      refine EW.cond_b rfl (fun h57 => ?_) (fun h57 => ?_)
      · skip
        refine EW.seq ?_
        refine EW.region ?_
        refine WL.build0 rfl rfl (bd71 _) ?_
        obtain ⟨w9, s9, b9, f9⟩ := st71 Pc.z_sh Pc.z_sh D6
        refine WL.store rfl rfl rfl s9 ?_
        first | refine WL.assign rfl rfl rfl ?_
        refine WL.done ?_
        refine EW.on ?_
        refine EW.ret ?_
        refine pr_block ?_
        refine pr_then ?_
        exact EW.returnsCT Tryd.results24 rfl rfl b9 Tryd.underlying71 rfl (i71 Pc.z_sh) ⟨by unfold ahR; rw [hk]; dsimp only; rw [if_neg (fun h => h ⟨hA, hB⟩), hg, h57]; rfl, LL.trans (f9.below (fun k hk e => by have e' : k = q6 := e; omega) LL.size)⟩
      · skip
        refine EW.skip ?_
        refine pn_block ?_
        refine EW.on ?_
        refine EW.seq ?_
        refine EW.region ?_
        first | refine WL.load rfl rfl rfl (ld71 hc D8) ?_ | refine WL.skip _ rfl rfl rfl ?_
        obtain ⟨w9, s9, b9, f9⟩ := st71 hc Pc.z_sh D6
        refine WL.store rfl rfl rfl s9 ?_
        first | refine WL.assign rfl rfl rfl ?_
        refine WL.done ?_
        refine EW.on ?_
        refine EW.ret ?_
        exact EW.returnsCT Tryd.results24 rfl rfl b9 Tryd.underlying71 rfl (i71 hc) ⟨by unfold ahR; rw [hk]; dsimp only; rw [if_neg (fun h => h ⟨hA, hB⟩), hg, h57]; rfl, LL.trans (f9.below (fun k hk e => by have e' : k = q6 := e; omega) LL.size)⟩
  · have xa : ¬ (c.n : Int) = (x.n : Int) := by omega
    refine EW.region ?_
    first | refine WL.field rfl rfl rfl (f71_0 _ _) ?_ | refine WL.skip _ rfl rfl rfl ?_
    first | refine WL.load rfl rfl rfl (ldI D8 c.c0) ?_ | refine WL.skip _ rfl rfl rfl ?_
    first | refine WL.field rfl rfl rfl (f58_1 _ _) ?_ | refine WL.skip _ rfl rfl rfl ?_
    first | refine WL.load rfl rfl rfl (ldI D5 x.c1) ?_ | refine WL.skip _ rfl rfl rfl ?_
    first | refine WL.bin rfl rfl rfl rfl (int_ne_f rfl _ _ _) ?_ | refine WL.bin rfl rfl rfl rfl (int_ne_t ‹_› _ _ _) ?_ | refine WL.bin rfl rfl rfl rfl (int_ne_f ‹_› _ _ _) ?_ | refine WL.bin rfl rfl rfl rfl (int_ne_t (by decide) _ _ _) ?_ | refine WL.bin rfl rfl rfl rfl (int_ne_d _ _ _ _ _) ?_
    first | refine WL.move rfl rfl rfl ?_
    first | refine WL.field rfl rfl rfl (f71_1 _ _) ?_ | refine WL.skip _ rfl rfl rfl ?_
    first | refine WL.load rfl rfl rfl (ld54 hc D8) ?_ | refine WL.skip _ rfl rfl rfl ?_
    first | refine WL.field rfl rfl rfl (f58_3 _ _) ?_ | refine WL.skip _ rfl rfl rfl ?_
    first | refine WL.load rfl rfl rfl (ld54p hx D5) ?_ | refine WL.skip _ rfl rfl rfl ?_
    first | refine WL.bin rfl rfl rfl rfl (neq54 _ _ hc.s hx.s _ _ _) ?_ | refine WL.skip _ rfl rfl rfl ?_
    first | refine WL.pick rfl rfl rfl rfl ?_
    first | refine WL.assign rfl rfl rfl ?_
    refine WL.done ?_
    refine EW.on ?_
    refine EW.cond_t rfl ?_
    refine EW.seq ?_
    refine EW.region ?_
    refine WL.build0 rfl rfl (bd71 _) ?_
    obtain ⟨w9, s9, b9, f9⟩ := st71 Pc.z_sh Pc.z_sh D6
    refine WL.store rfl rfl rfl s9 ?_
    first | refine WL.assign rfl rfl rfl ?_
    refine WL.done ?_
    refine EW.on ?_
    refine EW.ret ?_
    refine pr_block ?_
    refine pr_then ?_
    exact EW.returnsCT Tryd.results24 rfl rfl b9 Tryd.underlying71 rfl (i71 Pc.z_sh) ⟨by unfold ahR; rw [hk]; dsimp only; rw [if_pos (fun h => hA h.1)]; rfl, LL.trans (f9.below (fun k hk e => by have e' : k = q6 := e; omega) LL.size)⟩
theorem ahead_any (p r most : Nat) (E : List Me) (c0 : Nat) (a : List UInt8) (x : Pi) (hx : x.sh) (hi : x.i < 64) (hn : x.n ≤ 64) (w : World) (ht : Tr w p r most E c0) : Calls Tryd.prog 24 #[.pointer (some ⟨p, 0, none⟩), plV a x.id, x.val] w fun e w' => e = .returned (.tuple #[(ahR E most a x).1.val, .int .i64 (ahR E most a x).2]) ∧ Below w.heap.size w w' := by
  cases hk : lkE E a x.id with
  | none => exact ahead_none p r most E c0 a x hx hn w ht hk
  | some c => exact ahead_some p r most E c0 a x hx hi c w ht hk
end Go.Proofs.YtiefgmgjlhjjhaaDoor
