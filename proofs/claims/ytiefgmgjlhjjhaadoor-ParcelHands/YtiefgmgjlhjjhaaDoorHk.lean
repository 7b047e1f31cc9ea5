import Derived.Test.YtiefgmgjlhjjhaaDoorHd
set_option linter.unusedVariables false
set_option linter.unusedSimpArgs false
namespace Go.Proofs.YtiefgmgjlhjjhaaDoor
open Go.RowKit

/-- A reader of bytes. -/
structure Rd (w : World) (q : Nat) (v : Value) (c : List UInt8) (at_ : Nat) (f : Int) : Prop where
  bl : Blk w q [v, .int .i64 (at_ : Int), .int .i64 f] 128
  hs : Has w v c
  le : at_ ≤ c.length
theorem Rd.below {w w' : World} {q : Nat} {v : Value} {c : List UInt8} {at_ : Nat} {f : Int} (h : Rd w q v c at_ f) (hb : Below w.heap.size w w') : Rd w' q v c at_ f := ⟨h.bl.on hb, h.hs.below hb, h.le⟩
theorem nob99 (a c : Int) (v : Value) (h : ∃ ao n c, v = .slice ao n c) : NoB [v, .int .i64 a, .int .i64 c] := by
  obtain ⟨_, _, _, rfl⟩ := h
  intro x hx b
  simp only [List.mem_cons, List.not_mem_nil, or_false] at hx
  rcases hx with rfl | rfl | rfl
  · intro e; cases e
  · intro e; cases e
  · intro e; cases e
theorem Rd.move {w : World} {q : Nat} {v : Value} {c : List UInt8} {at_ : Nat} {f : Int} (h : Rd w q v c at_ f) (a : Nat) (ha : a ≤ c.length) : ∃ w', (Instr.storeAt 3 (.pointer (some ⟨q, 1, none⟩)) (.int .i64 (a : Int))).run Tryd.prog w = .ok () w' ∧ Rd w' q v c a f ∧ Fx (fun k => k = q) w w' := by
  obtain ⟨w', s1, s2, s3⟩ := stI h.bl (show 1 < 3 by decide) (a : Int)
  exact ⟨w', s1, ⟨s2, h.hs.fxo s3 (fun k hk => by have e : k = q := hk; rw [e]; exact h.hs.offB h.bl (nob99 _ _ _ h.hs.sl)), ha⟩, s3⟩
theorem stE35 {w : World} {q j : Nat} {cs : List Value} {t : TypeId} (hb : Blk w q cs t) (hj : j < cs.length) (v : Int) : ∃ w', (Instr.storeAt 27 (.pointer (some ⟨q, j, none⟩)) (.int .i64 v)).run Tryd.prog w = .ok () w' ∧ Blk w' q (cs.set j (.int .i64 v)) t ∧ Fx (fun k => k = q) w w' := by
  have hc : w.cell? ⟨q, j, none⟩ = some cs[j] := (hb.cell j).trans (List.getElem?_eq_getElem hj)
  have hf := hb.frozen j
  refine ⟨w.setCell ⟨q, j, none⟩ (.int .i64 v), by go_simp, hb.set j _, Fx.setCell (S := fun k => k = q) _ _ _ _ rfl⟩
theorem Rd.fail {w : World} {q : Nat} {v : Value} {c : List UInt8} {at_ : Nat} {f : Int} (h : Rd w q v c at_ f) (f' : Int) : ∃ w', (Instr.storeAt 27 (.pointer (some ⟨q, 2, none⟩)) (.int .i64 f')).run Tryd.prog w = .ok () w' ∧ Rd w' q v c at_ f' ∧ Fx (fun k => k = q) w w' := by
  obtain ⟨w', s1, s2, s3⟩ := stE35 h.bl (show 2 < 3 by decide) f'
  exact ⟨w', s1, ⟨s2, h.hs.fxo s3 (fun k hk => by have e : k = q := hk; rw [e]; exact h.hs.offB h.bl (nob99 _ _ _ h.hs.sl)), h.le⟩, s3⟩
set_option maxRecDepth 100000 in
set_option maxHeartbeats 1000000 in
theorem left_any (q : Nat) (v : Value) (c : List UInt8) (at_ : Nat) (f : Int) (w : World) (hr : Rd w q v c at_ f) (hl : c.length ≤ 140737488355328) : Calls Tryd.prog 46 #[.pointer (some ⟨q, 0, none⟩)] w fun e w' => e = .returned (.int .i64 ((c.length - at_ : Nat) : Int)) ∧ Below w.heap.size w w' := by
  have h0 := hr.le
  have s0 : IntKind.i64.wrap ((c.length : Int) - (at_ : Int)) = ((c.length - at_ : Nat) : Int) := by rw [IntKind.wrap_i64]; omega
  refine calls_of_args [.pointer (some ⟨q, 0, none⟩)] Tryd.func46 rfl 13 Tryd.ntmps46 (by show 1 ≤ 13; decide) ?_
  refine EW.seq ?_
  refine EW.region ?_
  first | refine WL.assign rfl rfl rfl ?_
  refine WL.done ?_
  refine EW.on ?_
  refine EW.seq ?_
  refine EW.ordB [(0, 0, 0), (1, 0, 0), (2, 0, 0), (3, 0, 1), (4, 0, 0), (5, 0, 0), (6, 0, 0), (7, 0, 0), (8, 0, 1), (9, 0, 0), (10, 0, 0)] (by kernel_rfl) rfl (by kernel_rfl) ?_
  simp only [opsZ, List.getD_cons_zero, List.getD_cons_succ]
  first | refine ZE.move rfl rfl rfl rfl sz0 ?_
  first | refine ZE.nilc rfl rfl rfl rfl sz0 ?_
  refine ZE.field rfl rfl rfl rfl sz0 (fun W => f128_0 q W) ?_
  refine ZE.load rfl rfl rfl rfl sz1 (fun W hW => ldS (hr.bl.on (sb_of hW)) rfl) ?_
  refine ZE.len rfl rfl rfl rfl sz0 (fun W => hr.hs.len W _) ?_
  first | refine ZE.move rfl rfl rfl rfl sz0 ?_
  first | refine ZE.nilc rfl rfl rfl rfl sz0 ?_
  refine ZE.field rfl rfl rfl rfl sz0 (fun W => f128_1 q W) ?_
  refine ZE.load rfl rfl rfl rfl sz1 (fun W hW => ldI (hr.bl.on (sb_of hW)) rfl) ?_
  refine ZE.bin rfl rfl rfl rfl rfl sz0 (fun W => int_sub s0 W _ _) ?_
  first | refine ZE.assign rfl rfl rfl rfl sz0 ?_
  intro w1 h1
  refine EW.on ?_
  refine EW.ret ?_
  exact EW.returns Tryd.results46 rfl ⟨rfl, h1⟩
set_option maxRecDepth 100000 in
set_option maxHeartbeats 1000000 in
theorem rfix_ok (q m : Nat) (v : Value) (c : List UInt8) (at_ : Nat) (w : World) (hr : Rd w q v c at_ 0) (hl : c.length ≤ 140737488355328) (hm : at_ + m ≤ c.length) : Calls Tryd.prog 45 #[.pointer (some ⟨q, 0, none⟩), .int .i64 (m : Int)] w fun e w' => ∃ u, e = .returned u ∧ Ob w' w.heap.size u ((c.drop at_).take m) ∧ Rd w' q v c (at_ + m) 0 ∧ Fx (fun k => k = q) w w' := by
  have z1 : ¬ (m : Int) < 0 := by omega
  have z2 : ¬ ((c.length - at_ : Nat) : Int) < (m : Int) := by omega
  have a8 : IntKind.i64.wrap ((at_ : Int) + (m : Int)) = ((at_ + m : Nat) : Int) := by rw [IntKind.wrap_i64]; omega
  have s9 : IntKind.i64.wrap (((at_ + m : Nat) : Int) - (m : Int)) = (at_ : Int) := by rw [IntKind.wrap_i64]; omega
  refine calls_of_args [.pointer (some ⟨q, 0, none⟩), .int .i64 (m : Int)] Tryd.func45 rfl 45 Tryd.ntmps45 (by show 2 ≤ 45; decide) ?_
  refine EW.seq ?_
  refine EW.region ?_
  first | refine WL.assign rfl rfl rfl ?_
  refine WL.done ?_
  refine EW.on ?_
  refine EW.scopeS ?_
  refine EW.seq ?_
  refine EW.region ?_
  first | refine WL.assign rfl rfl rfl ?_
  refine WL.done ?_
  refine EW.on ?_
  refine EW.seq ?_
  refine EW.seq ?_
  refine EW.region ?_
  first | refine WL.move rfl rfl rfl ?_
  first | refine WL.nilc rfl rfl rfl ?_
  refine WL.field rfl rfl rfl (f128_2 q _) ?_
  refine WL.load rfl rfl rfl (ldE hr.bl rfl) ?_
  first | refine WL.bin rfl rfl rfl rfl (int_ne_f rfl _ _ _) ?_ | refine WL.bin rfl rfl rfl rfl (int_ne_t ‹_› _ _ _) ?_ | refine WL.bin rfl rfl rfl rfl (int_ne_f ‹_› _ _ _) ?_ | refine WL.bin rfl rfl rfl rfl (int_ne_t (by decide) _ _ _) ?_ | refine WL.bin rfl rfl rfl rfl (int_ne_d _ _ _ _ _) ?_
  refine WL.done ?_
  refine EW.on ?_
  refine EW.cond_f rfl ?_
  refine EW.skip ?_
  refine EW.on ?_
  refine EW.seq ?_
  refine EW.seq ?_
  refine EW.region ?_
  first | refine WL.move rfl rfl rfl ?_
  first | refine WL.bin rfl rfl rfl rfl (int_lt_t ‹_› _ _ _) ?_ | refine WL.bin rfl rfl rfl rfl (int_lt_f ‹_› _ _ _) ?_ | refine WL.bin rfl rfl rfl rfl (int_lt_d _ _ _ _ _) ?_
  refine WL.done ?_
  refine EW.on ?_
  refine EW.cond_f rfl ?_
  refine EW.skip ?_
  refine EW.on ?_
  refine EW.seq ?_
  refine EW.seq ?_
  refine EW.region ?_
  first | refine WL.move rfl rfl rfl ?_
  first | refine WL.move rfl rfl rfl ?_
  refine WL.call [.pointer (some ⟨q, 0, none⟩)] enter46 rfl rfl rfl (left_any q v c at_ 0 _ hr hl) ?_
  rintro _ w1 ⟨rfl, be1⟩
  have r1 := hr.below be1
  refine ⟨_, rfl, ?_⟩
  first | refine WL.bin rfl rfl rfl rfl (int_gt_t ‹_› _ _ _) ?_ | refine WL.bin rfl rfl rfl rfl (int_gt_f ‹_› _ _ _) ?_ | refine WL.bin rfl rfl rfl rfl (int_gt_d _ _ _ _ _) ?_
  refine WL.done ?_
  refine EW.on ?_
  refine EW.cond_f rfl ?_
  refine EW.skip ?_
  refine EW.on ?_
  refine EW.seq ?_
  refine EW.region ?_
  first | refine WL.move rfl rfl rfl ?_
  first | refine WL.nilc rfl rfl rfl ?_
  refine WL.field rfl rfl rfl (f128_1 q _) ?_
  refine WL.load rfl rfl rfl (ldI r1.bl rfl) ?_
  first | refine WL.move rfl rfl rfl ?_
  first | refine WL.bin rfl rfl rfl rfl (int_add ‹_› _ _ _) ?_
  first | refine WL.nilc rfl rfl rfl ?_
  refine WL.field rfl rfl rfl (f128_1 q _) ?_
  obtain ⟨w8, s8, r8, x8⟩ := r1.move (at_ + m) hm
  refine WL.store rfl rfl rfl s8 ?_
  refine WL.done ?_
  refine EW.on ?_
  refine EW.seq ?_
  refine EW.seq ?_
  refine EW.ordB [(0, 0, 0), (1, 0, 0), (2, 0, 0), (3, 0, 1), (4, 0, 0), (5, 0, 0), (6, 0, 0), (7, 0, 1), (8, 0, 0), (9, 0, 0), (10, 0, 0), (11, 0, 0), (12, 0, 0), (13, 0, 1), (14, 0, 0), (15, 1, 1), (16, 0, 0)] (by kernel_rfl) rfl (by kernel_rfl) ?_
  simp only [opsZ, List.getD_cons_zero, List.getD_cons_succ]
  first | refine ZE.move rfl rfl rfl rfl sz0 ?_
  first | refine ZE.nilc rfl rfl rfl rfl sz0 ?_
  refine ZE.field rfl rfl rfl rfl sz0 (fun W => f128_0 q W) ?_
  refine ZE.load rfl rfl rfl rfl sz1 (fun W hW => ldS (r8.bl.on (sb_of hW)) rfl) ?_
  first | refine ZE.move rfl rfl rfl rfl sz0 ?_
  first | refine ZE.nilc rfl rfl rfl rfl sz0 ?_
  refine ZE.field rfl rfl rfl rfl sz0 (fun W => f128_1 q W) ?_
  refine ZE.load rfl rfl rfl rfl sz1 (fun W hW => ldI (r8.bl.on (sb_of hW)) rfl) ?_
  first | refine ZE.move rfl rfl rfl rfl sz0 ?_
  refine ZE.bin rfl rfl rfl rfl rfl sz0 (fun W => int_sub s9 W _ _) ?_
  first | refine ZE.move rfl rfl rfl rfl sz0 ?_
  first | refine ZE.nilc rfl rfl rfl rfl sz0 ?_
  refine ZE.field rfl rfl rfl rfl sz0 (fun W => f128_1 q W) ?_
  refine ZE.load rfl rfl rfl rfl sz1 (fun W hW => ldI (r8.bl.on (sb_of hW)) rfl) ?_
  refine ZE.slice2 rfl rfl rfl rfl rfl rfl sz0 (fun W => by rw [sl22]; exact r8.hs.cutLH at_ (at_ + m) (by omega) hm W) ?_
  refine ZE.callR [cutV v at_ (at_ + m)] (fun u W => Ob W w8.heap.size u ((c.drop at_).take m) ∧ Below w8.heap.size w8 W) enter61 rfl rfl rfl (fun _ _ h => .inr h.2) (fun W hW => (clone_ob _ _ W (by have := (r8.hs.below hW).cut at_ (at_ + m) (by omega) hm; rw [show at_ + m - at_ = m by omega] at this; exact this) (by simp; omega)).mono fun e w' ⟨u, g1, g2, g4⟩ => ⟨u, g1, g2.lower hW.size, hW.trans (g4.mono hW.size)⟩) ?_
  rintro vr ⟨_, gr1, _⟩
  first | refine ZE.assign rfl rfl rfl rfl sz0 ?_
  rintro w9 ⟨g1, g3⟩
  refine EW.on ?_
  refine EW.ret ?_
  refine pr_then ?_
  refine pr_ng ?_
  exact EW.returns Tryd.results45 rfl ⟨vr, rfl, g1.lower (by have := x8.size; have := be1.size; omega), r8.below g3, ((Fx.of_below be1).and x8).then_below g3⟩
set_option maxRecDepth 100000 in
set_option maxHeartbeats 1000000 in
theorem rfix_short (q m : Nat) (v : Value) (c : List UInt8) (at_ : Nat) (w : World) (hr : Rd w q v c at_ 0) (hl : c.length ≤ 140737488355328) (hm : c.length < at_ + m) (hmm : m ≤ 1000000) : Calls Tryd.prog 45 #[.pointer (some ⟨q, 0, none⟩), .int .i64 (m : Int)] w fun e w' => e = .returned (.slice none 0 0) ∧ Rd w' q v c at_ 10 ∧ Fx (fun k => k = q) w w' := by
  have z1 : ¬ (m : Int) < 0 := by omega
  have z2 : ((c.length - at_ : Nat) : Int) < (m : Int) := by have := hr.le; omega
  refine calls_of_args [.pointer (some ⟨q, 0, none⟩), .int .i64 (m : Int)] Tryd.func45 rfl 45 Tryd.ntmps45 (by show 2 ≤ 45; decide) ?_
  refine EW.seq ?_
  refine EW.region ?_
  first | refine WL.assign rfl rfl rfl ?_
  refine WL.done ?_
  refine EW.on ?_
  refine EW.scope 0 [(0, .pointer (some ⟨q, 0, none⟩)), (5, .int .i64 10)] (fun W => Below w.heap.size w W) rfl ?_ ?_
  · refine EW.seq ?_
    refine EW.region ?_
    first | refine WL.assign rfl rfl rfl ?_
    refine WL.done ?_
    refine EW.on ?_
    refine EW.seq ?_
    refine EW.seq ?_
    refine EW.region ?_
    first | refine WL.move rfl rfl rfl ?_
    first | refine WL.nilc rfl rfl rfl ?_
    refine WL.field rfl rfl rfl (f128_2 q _) ?_
    refine WL.load rfl rfl rfl (ldE hr.bl rfl) ?_
    first | refine WL.bin rfl rfl rfl rfl (int_ne_f rfl _ _ _) ?_ | refine WL.bin rfl rfl rfl rfl (int_ne_t ‹_› _ _ _) ?_ | refine WL.bin rfl rfl rfl rfl (int_ne_f ‹_› _ _ _) ?_ | refine WL.bin rfl rfl rfl rfl (int_ne_t (by decide) _ _ _) ?_ | refine WL.bin rfl rfl rfl rfl (int_ne_d _ _ _ _ _) ?_
    refine WL.done ?_
    refine EW.on ?_
    refine EW.cond_f rfl ?_
    refine EW.skip ?_
    refine EW.on ?_
    refine EW.seq ?_
    refine EW.seq ?_
    refine EW.region ?_
    first | refine WL.move rfl rfl rfl ?_
    first | refine WL.bin rfl rfl rfl rfl (int_lt_t ‹_› _ _ _) ?_ | refine WL.bin rfl rfl rfl rfl (int_lt_f ‹_› _ _ _) ?_ | refine WL.bin rfl rfl rfl rfl (int_lt_d _ _ _ _ _) ?_
    refine WL.done ?_
    refine EW.on ?_
    refine EW.cond_f rfl ?_
    refine EW.skip ?_
    refine EW.on ?_
    refine EW.seq ?_
    refine EW.seq ?_
    refine EW.region ?_
    first | refine WL.move rfl rfl rfl ?_
    first | refine WL.move rfl rfl rfl ?_
    refine WL.call [.pointer (some ⟨q, 0, none⟩)] enter46 rfl rfl rfl (left_any q v c at_ 0 _ hr hl) ?_
    rintro _ w1 ⟨rfl, be1⟩
    have r1 := hr.below be1
    refine ⟨_, rfl, ?_⟩
    first | refine WL.bin rfl rfl rfl rfl (int_gt_t ‹_› _ _ _) ?_ | refine WL.bin rfl rfl rfl rfl (int_gt_f ‹_› _ _ _) ?_ | refine WL.bin rfl rfl rfl rfl (int_gt_d _ _ _ _ _) ?_
    refine WL.done ?_
    refine EW.on ?_
    refine EW.cond_t rfl ?_
    refine EW.seq ?_
    refine EW.region ?_
    first | refine WL.assign rfl rfl rfl ?_
    refine WL.done ?_
    refine EW.on ?_
    refine EW.goto ?_
    refine pg_then ?_
    exact EW.jumps [0, 5] rfl be1
  · intro wj hj
    have rj := hr.below hj
    show EW _ _ _ _ [(0, .pointer (some ⟨q, 0, none⟩)), (5, .int .i64 10)] _
    refine EW.seq ?_
    refine EW.skip ?_
    refine EW.on ?_
    refine EW.seq ?_
    refine EW.region ?_
    first | refine WL.move rfl rfl rfl ?_
    first | refine WL.move rfl rfl rfl ?_
    first | refine WL.nilc rfl rfl rfl ?_
    refine WL.field rfl rfl rfl (f128_2 q _) ?_
    obtain ⟨w8, s8, r8, x8⟩ := rj.fail 10
    refine WL.store rfl rfl rfl s8 ?_
    refine WL.done ?_
    refine EW.on ?_
    refine EW.seq ?_
    refine EW.region ?_
    first | refine WL.assign rfl rfl rfl ?_
    refine WL.done ?_
    refine EW.on ?_
    refine EW.ret ?_
    refine pr_jump ?_
    exact EW.returns Tryd.results45 rfl ⟨rfl, r8, (Fx.of_below hj).and x8⟩
set_option maxRecDepth 100000 in
set_option maxHeartbeats 1000000 in
theorem rfix_bad (q : Nat) (m : Int) (v : Value) (c : List UInt8) (at_ : Nat) (f : Int) (hf : ¬ f = 0) (w : World) (hr : Rd w q v c at_ f) : Calls Tryd.prog 45 #[.pointer (some ⟨q, 0, none⟩), .int .i64 m] w fun e w' => e = .returned (.slice none 0 0) ∧ w' = w := by
  refine calls_of_args [.pointer (some ⟨q, 0, none⟩), .int .i64 m] Tryd.func45 rfl 45 Tryd.ntmps45 (by show 2 ≤ 45; decide) ?_
  refine EW.seq ?_
  refine EW.region ?_
  first | refine WL.assign rfl rfl rfl ?_
  refine WL.done ?_
  refine EW.on ?_
  refine EW.scopeS ?_
  refine EW.seq ?_
  refine EW.region ?_
  first | refine WL.assign rfl rfl rfl ?_
  refine WL.done ?_
  refine EW.on ?_
  refine EW.seq ?_
  refine EW.seq ?_
  refine EW.region ?_
  first | refine WL.move rfl rfl rfl ?_
  first | refine WL.nilc rfl rfl rfl ?_
  refine WL.field rfl rfl rfl (f128_2 q _) ?_
  refine WL.load rfl rfl rfl (ldE hr.bl rfl) ?_
  first | refine WL.bin rfl rfl rfl rfl (int_ne_f rfl _ _ _) ?_ | refine WL.bin rfl rfl rfl rfl (int_ne_t ‹_› _ _ _) ?_ | refine WL.bin rfl rfl rfl rfl (int_ne_f ‹_› _ _ _) ?_ | refine WL.bin rfl rfl rfl rfl (int_ne_t (by decide) _ _ _) ?_ | refine WL.bin rfl rfl rfl rfl (int_ne_d _ _ _ _ _) ?_
  refine WL.done ?_
  refine EW.on ?_
  refine EW.cond_t rfl ?_
  refine EW.seq ?_
  refine EW.region ?_
  first | refine WL.assign rfl rfl rfl ?_
  refine WL.done ?_
  refine EW.on ?_
  refine EW.ret ?_
  refine pr_then ?_
  refine pr_ng ?_
  exact EW.returns Tryd.results45 rfl ⟨rfl, rfl⟩
def numB (bs : List UInt8) : Nat := bs.foldl (fun a b => a * 256 + b.toNat) 0
theorem numB_snoc (bs : List UInt8) (b : UInt8) : numB (bs ++ [b]) = numB bs * 256 + b.toNat := by unfold numB; rw [List.foldl_append]; rfl
theorem numB_lt4 : ∀ bs : List UInt8, numB bs < 256 ^ bs.length := fun bs => by
  suffices h : ∀ (l : List UInt8) (a : Nat), l.foldl (fun a b => a * 256 + b.toNat) a < (a + 1) * 256 ^ l.length by
    have := h bs 0
    simpa [numB] using this
  intro l
  induction l with
  | nil => intro a; simp
  | cons x l ih =>
    intro a
    have h1 := ih (a * 256 + x.toNat)
    have h2 := x.toNat_lt
    rw [List.foldl_cons, List.length_cons, Nat.pow_succ]
    refine Nat.lt_of_lt_of_le h1 ?_
    rw [Nat.mul_comm (256 ^ l.length) 256, ← Nat.mul_assoc]
    exact Nat.mul_le_mul_right _ (by omega)
theorem numB_lt (bs : List UInt8) (h : bs.length ≤ 2) : numB bs < 65536 := by
  have h1 := numB_lt4 bs
  have h2 : 256 ^ bs.length ≤ 256 ^ 2 := Nat.pow_le_pow_right (by decide) h
  omega
theorem idx24 (ad : Addr) (n cap m : Nat) (h : m < n) (W : World) : (Instr.indexAt 24 (.slice (some ad) n cap) (.int .i64 (m : Int))).run Tryd.prog W = .ok (.pointer (some (ad.add m))) W := by
  have hm : (m : Int) < (n : Int) := by omega
  go_simp
theorem Has.item {w : World} {v : Value} {bs : List UInt8} (h : Has w v bs) {i : Nat} {u : UInt8} (hi : bs[i]? = some u) : ∃ ad, (∀ W, (Instr.indexAt 24 v (.int .i64 (i : Int))).run Tryd.prog W = .ok (.pointer (some ad)) W) ∧ (Instr.loadAt 5 (.pointer (some ad))).run Tryd.prog w = .ok (byt u) w := by
  rcases h with ⟨rfl, rfl⟩ | ⟨ad, cap, rfl, h2, h3⟩
  · simp at hi
  · refine ⟨_, fun W => idx24 ad _ cap i (List.getElem?_eq_some_iff.1 hi).1 W, ?_⟩
    have hc := h3 i u hi
    obtain ⟨a2, ha2⟩ : ∃ a2, ad.add i = a2 := ⟨_, rfl⟩
    rw [ha2] at hc ⊢
    unfold byt at *
    go_simp
def nuE (v : Value) (bs : List UInt8) (t : Nat) : List (Nat × Value) := [(3, .int .u32 (numB (bs.take t) : Int)), (6, v), (7, .int .i64 (bs.length : Int)), (8, .int .i64 (t : Int))]
def NuR (w : World) (n t : Nat) (W : World) : Prop := W = w ∧ t ≤ n
theorem shl8 {x : Nat} (h : x < 16777216) (W : World) (a b : Operand) : (do eqGuard .shl 22 a b (.int .u32 (x : Int)) (.int .u64 8); binOp .shl 22 (.int .u32 (x : Int)) (.int .u64 8) : Sem Value).run Tryd.prog W = .ok (.int .u32 ((x * 256 : Nat) : Int)) W := by
  have e : IntKind.u32.wrap ((x : Int) * 256) = ((x * 256 : Nat) : Int) := by rw [IntKind.wrap_u32]; omega
  go_simp
theorem conv57 (u : UInt8) (W : World) : (Go.convert 5 22 (byt u)).run Tryd.prog W = .ok (.int .u32 (u.toNat : Int)) W := by
  have := u.toNat_lt
  have e : IntKind.u32.wrap (u.toNat : Int) = (u.toNat : Int) := by rw [IntKind.wrap_u32]; omega
  unfold byt
  go_simp
theorem or32 {x : Nat} (u : UInt8) (h : x < 16777216) (W : World) (a b : Operand) : (do eqGuard .or 22 a b (.int .u32 ((x * 256 : Nat) : Int)) (.int .u32 (u.toNat : Int)); binOp .or 22 (.int .u32 ((x * 256 : Nat) : Int)) (.int .u32 (u.toNat : Int)) : Sem Value).run Tryd.prog W = .ok (.int .u32 ((x * 256 + u.toNat : Nat) : Int)) W := by
  have hu := u.toNat_lt
  have e0 : x * 256 ||| u.toNat = x * 256 + u.toNat := by
    have := Nat.shiftLeft_add_eq_or_of_lt (i := 8) (b := u.toNat) (by omega) x
    rw [Nat.shiftLeft_eq] at this
    exact this.symm
  have e : bits .or .u32 ((x : Int) * 256) (u.toNat : Int) = (x : Int) * 256 + (u.toNat : Int) := by
    have := u32_or_nat (x * 256) u.toNat (by omega) (by omega)
    rw [e0] at this
    simpa using this
  go_simp
set_option maxRecDepth 100000 in
set_option maxHeartbeats 1000000 in
theorem number_any (v : Value) (bs : List UInt8) (w : World) (hb : Has w v bs) (hl : bs.length ≤ 4) : Calls Tryd.prog 62 #[v] w fun e w' => e = .returned (.int .u32 (numB bs : Int)) ∧ w' = w := by
  refine calls_of_args [v] Tryd.func62 rfl 19 Tryd.ntmps62 (by show 1 ≤ 19; decide) ?_
  refine EW.seq ?_
  refine EW.region ?_
  first | refine WL.assign rfl rfl rfl ?_
  refine WL.done ?_
  refine EW.on ?_
  refine EW.seq ?_
  refine EW.region ?_
  first | refine WL.assign rfl rfl rfl ?_
  refine WL.done ?_
  refine EW.on ?_
  refine EW.seq ?_
  refine EW.seq ?_
  refine EW.region ?_
  first | refine WL.move rfl rfl rfl ?_
  refine WL.len rfl rfl rfl (hb.len _ _) ?_
  first | refine WL.move rfl rfl rfl ?_
  refine WL.done ?_
  refine EW.on ?_
  refine EW.block ?_
  refine EW.loop (nuE v bs) (NuR w bs.length) (fun t => bs.length - t) 0 [3, 6, 7, 8] rfl ⟨rfl, Nat.zero_le _⟩ ?_
  rintro t wi ⟨hwi, htl⟩
  subst hwi
  show EW _ _ _ _ [(3, .int .u32 (numB (bs.take t) : Int)), (6, v), (7, .int .i64 (bs.length : Int)), (8, .int .i64 (t : Int))] _
  refine EW.seq ?_
  refine EW.region ?_
  first | refine WL.bin rfl rfl rfl rfl (int_lt_t ‹_› _ _ _) ?_ | refine WL.bin rfl rfl rfl rfl (int_lt_f ‹_› _ _ _) ?_ | refine WL.bin rfl rfl rfl rfl (int_lt_d _ _ _ _ _) ?_
  refine WL.done ?_
  refine EW.on ?_
  refine EW.seq ?_
  refine EW.cond_d rfl (fun h9 => ?_) (fun h9 => ?_)
  · refine EW.skip ?_
    refine EW.on ?_
    refine EW.seq ?_
    refine EW.block ?_
    refine EW.seq ?_
    have ht : t < bs.length := by omega
    have tn : IntKind.i64.wrap ((t : Int) + 1) = ((t + 1 : Nat) : Int) := by rw [IntKind.wrap_i64]; omega
    obtain ⟨u, hu⟩ : ∃ u, bs[t]? = some u := ⟨_, List.getElem?_eq_getElem ht⟩
    obtain ⟨ad, iu, lu⟩ := hb.item hu
    have hst : numB (bs.take (t + 1)) = numB (bs.take t) * 256 + u.toNat := by rw [List.take_add_one, hu]; exact numB_snoc _ _
    have hx : numB (bs.take t) < 16777216 := by
      have h1 := numB_lt4 (bs.take t)
      have h2 : 256 ^ (bs.take t).length ≤ 256 ^ 3 := Nat.pow_le_pow_right (by decide) (by rw [List.length_take]; omega)
      omega
    refine EW.region ?_
    refine WL.index rfl rfl rfl rfl (iu _) ?_
    refine WL.load rfl rfl rfl lu ?_
    first | refine WL.assign rfl rfl rfl ?_
    refine WL.done ?_
    refine EW.on ?_
    refine EW.region ?_
    first | refine WL.move rfl rfl rfl ?_
    refine WL.bin rfl rfl rfl rfl (shl8 hx _ _ _) ?_
    first | refine WL.move rfl rfl rfl ?_
    refine WL.conv rfl rfl rfl (conv57 u _) ?_
    refine WL.bin rfl rfl rfl rfl (or32 u hx _ _ _) ?_
    first | refine WL.assign rfl rfl rfl ?_
    refine WL.done ?_
    refine pn_block ?_
    refine EW.on ?_
    refine EW.region ?_
    first | refine WL.bin rfl rfl rfl rfl (int_add ‹_› _ _ _) ?_
    first | refine WL.move rfl rfl rfl ?_
    refine WL.done ?_
    refine EW.again (E := nuE v bs) (R := NuR wi bs.length) (m := fun t => bs.length - t) (x := t) (t + 1) [3, 6, 7, 8] (by rw [nuE, hst]; rfl) ⟨rfl, by omega⟩ (by show bs.length - (t + 1) < bs.length - t; omega)
  · refine EW.exit ?_
    refine px_then ?_
    refine px_then ?_
    refine px_block ?_
    refine EW.on ?_
    refine EW.seq ?_
    have hte : bs.take t = bs := List.take_of_length_le (by omega)
    rw [hte]
    refine EW.region ?_
    first | refine WL.move rfl rfl rfl ?_
    first | refine WL.assign rfl rfl rfl ?_
    refine WL.done ?_
    refine EW.on ?_
    refine EW.ret ?_
    exact EW.returns Tryd.results62 rfl ⟨rfl, rfl⟩
theorem conv_ui3 {x : Nat} (W : World) : (Go.convert 22 3 (.int .u32 (x : Int))).run Tryd.prog W = .ok (.int .i64 (IntKind.i64.wrap (x : Int))) W := by go_simp
theorem wrapN {x : Nat} (h : x < 65536) : IntKind.i64.wrap (x : Int) = (x : Int) := by rw [IntKind.wrap_i64]; omega
theorem conv_n {x : Nat} (h : x < 65536) (W : World) : (Go.convert 22 3 (.int .u32 (x : Int))).run Tryd.prog W = .ok (.int .i64 (x : Int)) W := by
  rw [conv_ui3, wrapN h]
end Go.Proofs.YtiefgmgjlhjjhaaDoor
