import Derived.Test.YtmbgeojjklboeaaGreatDoorZn
import Derived.Test.YtmbgeojjklboeaaGreatDoorYfG
set_option linter.unusedVariables false
set_option linter.unusedSimpArgs false
namespace Go.Proofs.YtmbgeojjklboeaaGreatDoor
open Go.RowKit

set_option maxRecDepth 100000 in
set_option maxHeartbeats 1000000 in
theorem entered_at (a m : Int) (v : Value) (w : World) (p : Nat) (hp : 1 + pickN a 20 = p) : Calls Tryz.prog 4 #[.agg (lfC a m v).toArray] w fun e w' => ∃ q ql vp L, e = .returned (.tuple #[.pointer (some ⟨q, 0, none⟩), .bool true]) ∧ w.heap.size ≤ q ∧ w.heap.size ≤ ql ∧ Blk w' q (rmC (some ⟨Lay.p L, 0, none⟩) (some ⟨ql, 0, none⟩) p (pickN m 4) vp) 40 ∧ Blk w' ql (lgC L.p p .nilIface) 88 ∧ Dk w' L (4 * p + 1 + pickN m 4) (fun _ => zS) 0 0 ∧ Os w' w.heap.size vp (List.replicate p (zerL 1024)) ∧ ¬ L.F q ∧ ¬ L.F ql ∧ (∀ k, vp.ownBlock = some k → ¬ L.F k ∧ k ≠ q ∧ k ≠ ql) ∧ (∀ k, L.F k → w.heap.size ≤ k) ∧ Below w.heap.size w w' := by
  have p20 := pickN_lt a 20 (by decide)
  have p4 := pickN_lt m 4 (by decide)
  obtain ⟨N, hN⟩ : ∃ N, 4 * p + 1 + pickN m 4 = N := ⟨_, rfl⟩
  have hneed : needD (p : Int) = ((4 * p + 1 : Nat) : Int) := by unfold needD; rw [if_neg (by omega), if_neg (by omega)]; omega
  have hroom : roomD (N : Int) = (p : Int) := by
    unfold roomD
    rw [if_neg (by omega), Int.tdiv_eq_ediv_of_nonneg (by omega), Int.min_eq_left (by omega)]
    omega
  refine calls_of_args [.agg (lfC a m v).toArray] Tryz.func4 rfl 98 Tryz.ntmps4 (by show 1 ≤ 98; decide) ?_; refine EW.seq ?_; refine EW.region ?_
  have r1 := run_boxR (P := Tryz.prog) 24 (lfC a m v) w _ rfl
  have e1 := below_new w (.cells (lfC a m v).toArray 24)
  have b1 := Blk.new w (lfC a m v) 24
  obtain ⟨q1, hq1⟩ : ∃ q, w.heap.size = q := ⟨_, rfl⟩
  obtain ⟨w1, hw1⟩ : ∃ w1, w.alloc (.cells (lfC a m v).toArray 24) = w1 := ⟨_, rfl⟩
  rw [hw1] at r1 e1 b1
  rw [hq1] at r1 b1
  refine WL.box rfl rfl rfl r1 ?_; refine WL.assign rfl rfl rfl ?_; refine WL.assign rfl rfl rfl ?_; refine WL.done ?_; refine EW.on ?_; refine EW.seq ?_; refine EW.ordB [(0, 0, 0), (1, 0, 1), (4, 0, 0), (5, 0, 1), (2, 1, 1), (3, 0, 0), (6, 1, 1), (7, 0, 0), (8, 1, 1), (9, 0, 0)] (by kernel_rfl) rfl (by kernel_rfl) ?_; simp only [opsZ, List.getD_cons_zero, List.getD_cons_succ]; refine ZE.field rfl rfl rfl rfl sz0 (fun W => fld36 q1 0 (by decide) W) ?_; refine ZE.load rfl rfl rfl rfl sz1 (fun W hW => ldc3 (b1.on (sb_of hW)) rfl) ?_; refine ZE.field rfl rfl rfl rfl sz0 (fun W => fld36 q1 1 (by decide) W) ?_; refine ZE.load rfl rfl rfl rfl sz1 (fun W hW => ldc3 (b1.on (sb_of hW)) rfl) ?_; refine ZE.callR [.int .i64 a, .int .i64 ((20 : Nat) : Int)] (fun v W => v = .int .i64 (pickN a 20 : Int) ∧ Below w1.heap.size w1 W) enter8 rfl rfl rfl (fun _ _ h => .inr h.2) (fun W hW => (pick_any a 20 (by decide) (by decide) W).mono fun e w' ⟨g1, g2⟩ => ⟨_, g1, rfl, by rw [g2]; exact hW⟩) ?_
  rintro _ ⟨_, rfl, _⟩
  refine ZE.bin rfl rfl rfl rfl rfl sz0 (fun W => int_add (c := (p : Int)) (by rw [← hp, IntKind.wrap_i64]; omega) W _ _) ?_; refine ZE.callR [.int .i64 m, .int .i64 ((4 : Nat) : Int)] (fun v W => v = .int .i64 (pickN m 4 : Int) ∧ Below w1.heap.size w1 W) enter8 rfl rfl rfl (fun _ _ h => .inr h.2) (fun W hW => (pick_any m 4 (by decide) (by decide) W).mono fun e w' ⟨g1, g2⟩ => ⟨_, g1, rfl, by rw [g2]; exact hW.2⟩) ?_
  rintro _ ⟨_, rfl, _⟩
  refine ZE.buildN [(2, .int .i64 (p : Int)), (3, .int .i64 (pickN m 4 : Int))] rfl rfl rfl rfl sz0 (fun W => bld44 p (pickN m 4) W) ?_; refine ZE.box (fun v W => (∃ q, v = .pointer (some ⟨q, 0, none⟩) ∧ w1.heap.size ≤ q ∧ Blk W q (rmC none none p (pickN m 4) (.slice none 0 0)) 40) ∧ Below w1.heap.size w1 W) rfl rfl rfl (fun _ _ h => .inr h.2) (fun W hW => ⟨_, _, run_boxR 40 _ W _ rfl, ⟨_, rfl, hW.2.size, Blk.new _ _ _⟩, hW.2.trans ((below_new W _).mono hW.2.size)⟩) ?_
  rintro vq ⟨_, ⟨q, hvq, _, _⟩, _⟩
  subst hvq
  refine ZE.assign rfl rfl rfl rfl sz0 ?_
  rintro w2 ⟨⟨q', hq', hqb, b2⟩, e2⟩
  injection hq' with hv1
  injection hv1 with hv2
  injection hv2 with hv3 _ _
  subst hv3
  have k2 := e1.trans (e2.mono e1.size)
  refine EW.on ?_; refine EW.seq ?_; refine EW.ordB [(0, 0, 0), (1, 0, 0), (2, 0, 0), (3, 0, 1), (5, 0, 0), (6, 0, 0), (7, 0, 0), (8, 0, 1), (4, 1, 1), (9, 0, 0), (10, 1, 1), (11, 0, 0), (12, 0, 0), (13, 0, 0), (14, 0, 0), (15, 0, 0)] (by kernel_rfl) rfl (by kernel_rfl) ?_; simp only [opsZ, List.getD_cons_zero, List.getD_cons_succ]; refine ZE.move rfl rfl rfl rfl sz0 ?_; refine ZE.nilc rfl rfl rfl rfl sz0 ?_; refine ZE.field rfl rfl rfl rfl sz0 (fun W => fld44 q 2 (by decide) W) ?_; refine ZE.load rfl rfl rfl rfl sz1 (fun W hW => ldc3 (b2.on (sb_of hW)) rfl) ?_; refine ZE.move rfl rfl rfl rfl sz0 ?_; refine ZE.nilc rfl rfl rfl rfl sz0 ?_; refine ZE.field rfl rfl rfl rfl sz0 (fun W => fld44 q 3 (by decide) W) ?_; refine ZE.load rfl rfl rfl rfl sz1 (fun W hW => ldc3 (b2.on (sb_of hW)) rfl) ?_; refine ZE.callR [.int .i64 (p : Int)] (fun v W => v = .int .i64 ((4 * p + 1 : Nat) : Int) ∧ Below w2.heap.size w2 W) enter10 rfl rfl rfl (fun _ _ h => .inr h.2) (fun W hW => (need_any (p : Int) W).mono fun e w' ⟨g1, g2⟩ => ⟨_, g1, by rw [hneed], by rw [g2]; exact hW⟩) ?_
  rintro _ ⟨_, rfl, _⟩
  refine ZE.bin rfl rfl rfl rfl rfl sz0 (fun W => int_add (c := (N : Int)) (by rw [← hN, IntKind.wrap_i64]; omega) W _ _) ?_
  refine ZE.callR [.int .i64 (N : Int)] (fun v W => (∃ L, v = .tuple #[.pointer (some ⟨L.p, 0, none⟩), .int .i64 0] ∧ (∀ k, L.F k → w2.heap.size ≤ k) ∧ Dk W L N (fun _ => zS) 0 0) ∧ Below w2.heap.size w2 W) enter9 rfl rfl rfl (fun _ _ h => .inr h.2) (fun W hW => (new_any N (by omega) (by omega) W).mono fun e w' ⟨g1, g2⟩ => by
      obtain ⟨L, hLp, hLF, dk0⟩ := Dk.new W N (zer N) (by omega) (by omega) (zer_length N)
      refine ⟨_, g1, ⟨L, by rw [hLp], fun k hk => Nat.le_trans hW.2.size (hLF k hk), ?_⟩, hW.2.trans (Below.mono ?_ hW.2.size)⟩
      · rw [g2]; exact dk0.congr (fun i hi => secB_zer N i hi)
      · rw [g2]; exact newW_below _ _ _) ?_
  rintro vd ⟨_, ⟨L0, hvd, _, _⟩, _⟩
  subst hvd
  refine ZE.move rfl rfl rfl rfl sz0 ?_; refine ZE.extract rfl rfl rfl rfl sz0 (fun W => (ext_2 _ _ W).1) ?_; refine ZE.extract rfl rfl rfl rfl sz0 (fun W => (ext_2 _ _ W).2) ?_; refine ZE.assign rfl rfl rfl rfl sz0 ?_; refine ZE.assign rfl rfl rfl rfl sz0 ?_
  rintro w3 ⟨⟨L', hL', hLF', d3'⟩, e3⟩
  obtain ⟨L, hL3p, hLF, d3⟩ : ∃ L3 : Lay, L3.p = L0.p ∧ (∀ k, L3.F k → w2.heap.size ≤ k) ∧ Dk w3 L3 N (fun _ => zS) 0 0 := by
        injection hL' with h1
        injection h1 with h1
        injection h1 with h1 _
        injection h1 with h1
        injection h1 with h1
        injection h1 with h1 _ _
        exact ⟨L', h1.symm, hLF', d3'⟩
  have k3 := k2.trans (e3.mono k2.size)
  rw [← hL3p]
  clear hLF' d3' hL'
  refine EW.on ?_; refine EW.seq ?_; refine EW.seq ?_; refine EW.region ?_; refine WL.move rfl rfl rfl ?_; refine WL.bin rfl rfl rfl rfl (int_ne_f rfl _ _ _) ?_; refine WL.move rfl rfl rfl ?_
  first | refine WL.move rfl rfl rfl ?_ | refine WL.skip _ rfl rfl rfl ?_
  refine WL.bin rfl rfl rfl rfl (eq41s _ _ _ _) ?_; refine WL.pick rfl rfl rfl rfl ?_; refine WL.done ?_; refine EW.on ?_; refine EW.cond_f rfl ?_; refine EW.skip ?_; refine EW.on ?_; refine EW.seq ?_; refine EW.region ?_; refine WL.move rfl rfl rfl ?_; refine WL.call [.pointer (some ⟨L.p, 0, none⟩)] enter11 rfl rfl rfl (open_zero d3 p (by omega) hroom (by omega) (by omega) (by omega) (zS_at 511)) ?_
  rintro _ w4 ⟨vg, L4, c4, rfl, ⟨ql, hvg, hqb, lg4⟩, hgF, t4, dk4, _, hc4⟩
  have hc40 : c4 = 0 := hc4 (fun _ _ _ => zB_zS)
  subst hc40
  have hl4 : ¬ L4.F ql := hgF ql hqb ⟨ql, hvg, rfl⟩
  have hqlw : w.heap.size ≤ ql := by have := k3.size; omega
  have d4 : Dk w4 L4 N (fun _ => zS) 0 0 := dk4.congr (fun i hi => by unfold wipS; split <;> rfl)
  have k4 : Below w.heap.size w w4 := k3.trans (t4.fx.below (fun k hk hF => by have := hLF k hF; have := k2.size; omega) k3.size)
  have hqL : ¬ L.F q := fun hF => by have := hLF q hF; have := b2.lt; omega
  have r4 := (b2.on e3).fx t4.fx hqL
  have hqL4 : ¬ L4.F q := fun hF => (t4.own q hF).elim hqL (fun h2 => by have := (b2.on e3).lt; omega)
  subst hvg
  refine ⟨_, rfl, ?_⟩; refine WL.move rfl rfl rfl ?_; refine WL.extract rfl rfl rfl (ext_3 _ _ _ _).1 ?_; refine WL.extract rfl rfl rfl (ext_3 _ _ _ _).2.1 ?_; refine WL.extract rfl rfl rfl (ext_3 _ _ _ _).2.2 ?_; refine WL.assign rfl rfl rfl ?_; refine WL.assign rfl rfl rfl ?_; refine WL.assign rfl rfl rfl ?_; refine WL.done ?_; refine EW.on ?_; refine EW.seq ?_; refine EW.region ?_; refine WL.move rfl rfl rfl ?_; refine WL.move rfl rfl rfl ?_; refine WL.move rfl rfl rfl ?_; refine WL.move rfl rfl rfl ?_; refine WL.nilc rfl rfl rfl ?_; refine WL.field rfl rfl rfl (fld44 q 0 (by decide) _) ?_
  obtain ⟨w5, s5, b5, x5⟩ := stcp (T := 36) (o := some ⟨L.p, 0, none⟩) (j := 0) (.inl rfl) r4 rfl
  refine WL.store rfl rfl rfl s5 ?_; refine WL.nilc rfl rfl rfl ?_; refine WL.field rfl rfl rfl (fld44 q 1 (by decide) _) ?_
  obtain ⟨w6, s6, b6, x6⟩ := stcp (T := 37) (o := some ⟨ql, 0, none⟩) (j := 1) (.inr rfl) b5 rfl
  have hqw : w.heap.size ≤ q := by have := e1.size; omega
  have k6 : Below w.heap.size w w6 := below_of_new (below_of_new k4 x5 (fun k hk => by omega)) x6 (fun k hk => by omega)
  have x46 := x5.and x6
  have d6 : Dk w6 L4 N (fun _ => zS) 0 0 := by
      obtain ⟨D, y1, y2⟩ := d4.ex
      exact ⟨D, y1.fx x46 (fun k hk e => hqL4 (e ▸ hk)), y2⟩
  have lg6 := lg4.fx x46 (fun e => by rw [e] at lg4; have h1 := lg4; have h2 := r4; unfold Blk at h1 h2; rw [h1] at h2; injection h2 with h2; injection h2 with h2 h3; cases h3)
  refine WL.store rfl rfl rfl s6 ?_; refine WL.done ?_; refine EW.on ?_; refine EW.seq ?_; refine EW.seq ?_; refine EW.region ?_; refine WL.assign rfl rfl rfl ?_; refine WL.done ?_; refine EW.on ?_; refine EW.block ?_; refine EW.loop (fun x => enE q (.pointer (some ⟨L.p, 0, none⟩)) (.pointer (some ⟨ql, 0, none⟩)) x.1) (EnR w w6 q p (pickN m 4) (some ⟨L.p, 0, none⟩) (some ⟨ql, 0, none⟩)) (fun x => p - x.1) (0, .slice none 0 0) [4, 7, 8, 9, 10] rfl ⟨k6, Fx.refl _ _, b6, Os.nil _ _, Nat.zero_le _⟩ ?_
  rintro ⟨t, vp⟩ wi ⟨bi, fi, ri, oi, hle⟩
  simp only at ri oi hle
  show EW _ _ _ _ [(4, .pointer (some ⟨q, 0, none⟩)), (7, .pointer (some ⟨ql, 0, none⟩)), (8, .bool false), (9, .nilIface), (10, .int .i64 (t : Int))] _
  refine EW.seq ?_; refine EW.seq ?_; refine EW.region ?_; refine WL.move rfl rfl rfl ?_; refine WL.move rfl rfl rfl ?_; refine WL.nilc rfl rfl rfl ?_; refine WL.field rfl rfl rfl (fld44 q 2 (by decide) _) ?_; refine WL.load rfl rfl rfl (ldc3 ri rfl) ?_
  first | refine WL.bin rfl rfl rfl rfl (int_lt_t ‹_› _ _ _) ?_ | refine WL.bin rfl rfl rfl rfl (int_lt_f ‹_› _ _ _) ?_ | refine WL.bin rfl rfl rfl rfl (int_lt_d _ _ _ _ _) ?_
  refine WL.done ?_; refine EW.on ?_; refine EW.cond_d rfl (fun h60 => ?_) (fun h60 => ?_)
  · refine EW.skip ?_; refine EW.on ?_; refine EW.seq ?_; refine EW.block ?_
    have ht : t < p := by omega
    have tn : IntKind.i64.wrap ((t : Int) + 1) = ((t + 1 : Nat) : Int) := by rw [IntKind.wrap_i64]; omega
    refine EW.ordB [(0, 0, 0), (1, 0, 0), (2, 0, 0), (3, 0, 0), (4, 0, 1), (5, 1, 1), (6, 2, 0), (7, 1, 1), (8, 1, 0), (9, 0, 0), (10, 0, 0), (11, 1, 0)] (by kernel_rfl) rfl (by kernel_rfl) ?_; simp only [opsZ, List.getD_cons_zero, List.getD_cons_succ]; refine ZE.move rfl rfl rfl rfl sz0 ?_; refine ZE.move rfl rfl rfl rfl sz0 ?_; refine ZE.nilc rfl rfl rfl rfl sz0 ?_; refine ZE.field rfl rfl rfl rfl sz0 (fun W => fld44 q 4 (by decide) W) ?_; refine ZE.load rfl rfl rfl rfl sz1 (fun W hW => ldc42 (ri.on (sb_of hW)) rfl) ?_
    refine ZE.mks (fun v W => Has W v (zerL 1024) ∧ Below wi.heap.size wi W) rfl rfl rfl rfl (fun _ _ h => .inr h.2) (fun W hW => by
      obtain ⟨u, w', g1, g2, g3⟩ := mk37z W 1024 (by decide)
      exact ⟨u, w', g1, g2.has, hW.trans (g3.mono hW.size)⟩) ?_
    rintro um ⟨_, _, _⟩
    refine ZE.conv rfl rfl rfl rfl szC (fun W hW => (szc_of hW).1.convert) ?_; refine ZE.bsl [(0, strV (zerL 1024))] (fun v W => (∃ g, v = .slice (some ⟨g, 0, none⟩) 1 1 ∧ Blk W g [strV (zerL 1024)] 9) ∧ Below wi.heap.size wi W) rfl rfl rfl (fun _ _ h => .inr h.2) (fun W hW => ⟨_, _, bsl42 _ W, ⟨_, rfl, Blk.new _ _ _⟩, hW.2.trans ((below_new W _).mono hW.2.size)⟩) ?_
    rintro vb ⟨_, ⟨gb, hvb, _⟩, _⟩
    subst hvb
    refine ZE.app (fun v W => Os W w6.heap.size v (List.replicate (t + 1) (zerL 1024)) ∧ Fx (fun k => vp.ownBlock = some k) wi W) rfl rfl rfl rfl (fun _ _ h => .inl rfl) (fun W hW => by
      obtain ⟨⟨g', hv', bg'⟩, eW⟩ := hW
      injection hv' with hv1 _ _
      injection hv1 with hv2
      injection hv2 with hv3 _ _
      subst hv3
      obtain ⟨v', w', g1, g2, g3, g4⟩ := (oi.below eW).push (Nat.le_trans fi.size eW.size) (by rw [List.length_replicate]; omega) (zerL 1024) gb 1 bg' 38
      refine ⟨v', w', g1, ?_, (Fx.of_below eW).trans g3 (fun _ _ h => h)⟩
      rw [← List.replicate_succ' (n := t)] at g2
      exact g2) ?_
    rintro vn ⟨_, ⟨on, _⟩⟩
    refine ZE.nilc rfl rfl rfl rfl sz0 ?_; refine ZE.field rfl rfl rfl rfl sz0 (fun W => fld44 q 4 (by decide) W) ?_
    refine ZE.store (fun W => EnR w w6 q p (pickN m 4) (some ⟨L.p, 0, none⟩) (some ⟨ql, 0, none⟩) (t + 1, vn) W) rfl rfl rfl (fun _ _ => .inl rfl) (fun W hW => by
      have rW := ri.fx hW.2 (fun e => by have := oi.base _ e; have := b6.lt; omega)
      obtain ⟨w', g1, g2, g3⟩ := stc42 hW.1.shape (j := 4) rW rfl
      refine ⟨w', g1, below_of_new (below_of_new bi hW.2 (fun k hk => Nat.le_trans k6.size (oi.base k hk))) g3 (fun k hk => by omega), ?_, g2, hW.1.fx g3 (fun k hk e => by have := hW.1.base k hk; have := b6.lt; omega), by show t + 1 ≤ p; omega⟩
      exact (fi.trans hW.2 (fun k hk h => .inr (oi.base k h))).trans g3 (fun k hk h => .inl h)) ?_
    rintro w9 en
    refine pn_block ?_; refine EW.on ?_; refine EW.region ?_; refine WL.move rfl rfl rfl ?_; refine WL.bin rfl rfl rfl rfl (int_add ‹_› _ _ _) ?_; refine WL.assign rfl rfl rfl ?_; refine WL.done ?_; refine EW.again (E := fun x => enE q (.pointer (some ⟨L.p, 0, none⟩)) (.pointer (some ⟨ql, 0, none⟩)) x.1) (R := EnR w w6 q p (pickN m 4) (some ⟨L.p, 0, none⟩) (some ⟨ql, 0, none⟩)) (m := fun x => p - x.1) (x := (t, vp)) (t + 1, vn) [4, 7, 8, 9, 10] rfl en (by show p - (t + 1) < p - t; omega)
  · refine EW.exit ?_; refine px_then ?_; refine px_then ?_; refine px_block ?_; refine EW.on ?_; refine EW.seq ?_
    have hte : t = p := by omega
    rw [hte] at oi
    have lgi := lg6.fx fi (fun h => h.elim (fun e => by rw [e] at lg6; have h1 := lg6; have h2 := b6; unfold Blk at h1 h2; rw [h1] at h2; injection h2 with h2; injection h2 with h2 h3; cases h3) (fun h => by have := lg6.lt; omega))
    have di : Dk wi L4 N (fun _ => zS) 0 0 := by
          obtain ⟨D, y1, y2⟩ := d6.ex
          exact ⟨D, y1.fx fi (fun k hk e => e.elim (fun e => hqL4 (e ▸ hk)) (fun e => by have := d6.lt k hk; omega)), y2⟩
    refine EW.ordB [(0, 0, 0), (1, 0, 0), (2, 0, 0), (3, 0, 0), (4, 0, 0), (5, 0, 0), (6, 0, 0), (7, 0, 0), (8, 0, 0), (9, 0, 0), (10, 0, 0), (11, 0, 0), (12, 0, 0), (14, 0, 0), (15, 0, 0), (16, 0, 0), (17, 0, 1), (13, 1, 1), (18, 0, 0), (19, 0, 0), (20, 0, 0), (21, 0, 0), (22, 1, 1), (23, 0, 0), (24, 0, 0), (25, 0, 0)] (by kernel_rfl) rfl (by kernel_rfl) ?_; simp only [opsZ, List.getD_cons_zero, List.getD_cons_succ]; refine ZE.move rfl rfl rfl rfl sz0 ?_; refine ZE.move rfl rfl rfl rfl sz0 ?_; refine ZE.bin rfl rfl rfl rfl rfl sz0 (fun W => eq24n W _) ?_; refine ZE.move rfl rfl rfl rfl sz0 ?_
    first | refine ZE.move rfl rfl rfl rfl sz0 ?_ | refine ZE.skip rfl rfl rfl sz0 ?_
    refine ZE.bin rfl rfl rfl rfl rfl sz0 (fun W => ne22s ql W _ _) ?_; refine ZE.pick rfl rfl rfl rfl rfl sz0 ?_; refine ZE.move rfl rfl rfl rfl sz0 ?_
    first | refine ZE.move rfl rfl rfl rfl sz0 ?_ | refine ZE.skip rfl rfl rfl sz0 ?_
    first | refine ZE.un rfl rfl rfl rfl sz0 (fun W => not_t _ W) ?_ | refine ZE.skip rfl rfl rfl sz0 ?_
    refine ZE.pick rfl rfl rfl rfl rfl sz0 ?_; refine ZE.move rfl rfl rfl rfl sz0 ?_
    first | refine ZE.move rfl rfl rfl rfl sz0 ?_ | refine ZE.skip rfl rfl rfl sz0 ?_
    first | refine ZE.move rfl rfl rfl rfl sz0 ?_ | refine ZE.skip rfl rfl rfl sz0 ?_
    refine ZE.nilc rfl rfl rfl rfl sz0 ?_; refine ZE.field rfl rfl rfl rfl sz0 (fun W => fld44 q 2 (by decide) W) ?_; refine ZE.load rfl rfl rfl rfl sz1 (fun W hW => ldc3 (ri.on (sb_of hW)) rfl) ?_; refine ZE.callR [.pointer (some ⟨ql, 0, none⟩)] (fun v W => v = .int .i64 (p : Int) ∧ Below wi.heap.size wi W) enter12 rfl rfl rfl (fun _ _ h => .inr h.2) (fun W hW => (pages_any (lgi.on hW)).mono fun e w' ⟨g1, g2⟩ => ⟨_, g1, rfl, by rw [g2]; exact hW⟩) ?_
    rintro _ ⟨_, rfl, _⟩
    refine ZE.bin rfl rfl rfl rfl rfl sz0 (fun W => int_eq_t rfl W _ _) ?_; refine ZE.pick rfl rfl rfl rfl rfl sz0 ?_; refine ZE.move rfl rfl rfl rfl sz0 ?_
    first | refine ZE.move rfl rfl rfl rfl sz0 ?_ | refine ZE.skip rfl rfl rfl sz0 ?_
    refine ZE.callR [.pointer (some ⟨q, 0, none⟩)] (fun v W => v = .bool true ∧ Below wi.heap.size wi W) enter13 rfl rfl rfl (fun _ _ h => .inr h.2) (fun W hW => (clean_ok (di.below hW.2) (by rw [t4.p]; exact ri.on hW.2) (oi.below hW.2) (by rw [List.length_replicate]) (by omega) (by omega) (fun x hx => by rw [List.eq_of_mem_replicate hx]; exact List.length_replicate) (img_zero N p (pickN m 4) hN.symm)).mono fun e w' ⟨g1, g2⟩ => ⟨_, g1, rfl, hW.2.trans (g2.mono hW.2.size)⟩) ?_
    rintro _ ⟨_, rfl, _⟩
    refine ZE.pick rfl rfl rfl rfl rfl sz0 ?_; refine ZE.assign rfl rfl rfl rfl sz0 ?_; refine ZE.assign rfl rfl rfl rfl sz0 ?_
    rintro w9 ⟨_, e9⟩
    refine EW.on ?_; refine EW.ret ?_
    exact EW.returns2 Tryz.results4 rfl rfl ⟨q, ql, vp, L4, rfl, hqw, hqlw, by rw [t4.p]; exact ri.on e9, by rw [t4.p]; exact lgi.on e9, by rw [hN]; exact di.below e9, (⟨(oi.below e9).row, fun k hk => Nat.le_trans k6.size (oi.base k hk)⟩), hqL4, hl4, (fun k hk => ⟨fun hF => by have := d6.lt k hF; have := oi.base k hk; omega, fun e => by have := oi.base k hk; have := b6.lt; omega, fun e => by have := oi.base k hk; have := lg6.lt; omega⟩), (fun k hF => (t4.own k hF).elim (fun h => by have := hLF k h; have := k2.size; omega) (fun h => by have := k3.size; omega)), bi.trans (e9.mono bi.size)⟩
end Go.Proofs.YtmbgeojjklboeaaGreatDoor
