import Derived.Test.YtmbgeojjklboeaaGreatDoorZd
set_option linter.unusedVariables false
set_option linter.unusedSimpArgs false
namespace Go.Proofs.YtmbgeojjklboeaaGreatDoor
open Go.RowKit

set_option maxRecDepth 100000 in
set_option maxHeartbeats 1000000 in
theorem parteq_any {w : World} {v : Value} {l : List Pw} (h : Pws w v l) (hs : Apt v l) (hl : l.length ≤ 1000) (a b pv : Nat) (hab : a + 2 ≤ b) (hb : b ≤ l.length) (hp : a ≤ pv) (hp2 : pv < b) : Calls Tryz.prog 96 #[v, .int .i64 (a : Int), .int .i64 (b : Int), .int .i64 (pv : Int), fnV] w fun e w' => ∃ x, e = .returned (.int .i64 ((x : Nat) : Int)) ∧ a < x ∧ x ≤ b ∧ ∃ l', Prm w v l w' l' := by
  refine calls_of_args [v, .int .i64 (a : Int), .int .i64 (b : Int), .int .i64 (pv : Int), fnV] Tryz.func96 rfl 90 Tryz.ntmps96 (by show 5 ≤ 90; decide) ?_; refine EW.seq ?_; refine EW.region ?_; refine WL.assign rfl rfl rfl ?_; refine WL.done ?_; refine EW.on ?_; refine EW.seq ?_
  obtain ⟨li, pi⟩ : ∃ li, Prm w v l w li := ⟨l, Prm.refl h⟩
  refine EW.ordB [(0, 0, 0), (1, 0, 0), (2, 0, 0), (3, 0, 0), (4, 0, 0), (5, 0, 0), (6, 0, 0), (7, 0, 1), (8, 0, 0), (9, 0, 0), (10, 0, 0), (11, 0, 1), (12, 0, 0), (13, 1, 0), (14, 0, 0), (15, 1, 0)] (by kernel_rfl) rfl (by kernel_rfl) ?_; simp only [opsZ, List.getD_cons_zero, List.getD_cons_succ]; refine ZE.move rfl rfl rfl rfl sz0 ?_; refine ZE.move rfl rfl rfl rfl sz0 ?_; refine ZE.move rfl rfl rfl rfl sz0 ?_; refine ZE.move rfl rfl rfl rfl sz0 ?_; refine ZE.move rfl rfl rfl rfl sz0 ?_; refine ZE.move rfl rfl rfl rfl sz0 ?_
  obtain ⟨x1, ad1, hx1, hm1, ix1, lx1⟩ := pi.r.at' (t := pv) (by rw [pi.len]; omega)
  refine ZE.index rfl rfl rfl rfl rfl sz0 (fun W => ix1 W) ?_; refine ZE.load rfl rfl rfl rfl sz1 (fun W hW => lx1 W (sb_of hW)) ?_; refine ZE.move rfl rfl rfl rfl sz0 ?_; refine ZE.move rfl rfl rfl rfl sz0 ?_
  obtain ⟨x2, ad2, hx2, hm2, ix2, lx2⟩ := pi.r.at' (t := a) (by rw [pi.len]; omega)
  refine ZE.index rfl rfl rfl rfl rfl sz0 (fun W => ix2 W) ?_; refine ZE.load rfl rfl rfl rfl sz1 (fun W hW => lx2 W (sb_of hW)) ?_; refine ZE.index rfl rfl rfl rfl rfl sz0 (fun W => ix2 W) ?_
  refine ZE.store (fun W => Pws W v (li.set (a) x1) ∧ Fx (fun k => v.ownBlock = some k) w W) rfl rfl rfl (fun _ _ => .inl rfl) (fun W hW => by
      obtain ⟨w', g1, g2, g3⟩ := pi.r.swap1 (pi.apt hs) (I := a) (by rw [pi.len]; omega) hm1 ix2 W hW
      exact ⟨w', g1, g2, g3⟩) ?_
  refine ZE.index rfl rfl rfl rfl rfl sz0 (fun W => ix1 W) ?_; refine ZE.store (fun W => Prm w v li W ((li.set (a) x1).set (pv) x2)) rfl rfl rfl (fun _ _ => .inl rfl) (fun W hW => pi.r.swap2 (pi.apt hs) hx2 hx1 ix1 W hW.1 hW.2) ?_
  rintro ws ps_
  replace pi := pi.trans ps_
  refine EW.on ?_; refine EW.seq ?_; refine EW.region ?_; refine WL.move rfl rfl rfl ?_; refine WL.bin rfl rfl rfl rfl (int_add (c := ((a + 1 : Nat) : Int)) (by rw [IntKind.wrap_i64]; omega) _ _ _) ?_; refine WL.move rfl rfl rfl ?_; refine WL.bin rfl rfl rfl rfl (int_sub (c := ((b - 1 : Nat) : Int)) (by rw [IntKind.wrap_i64]; omega) _ _ _) ?_; refine WL.assign rfl rfl rfl ?_; refine WL.assign rfl rfl rfl ?_; refine WL.done ?_; refine EW.on ?_; refine EW.seq ?_; refine EW.block ?_; refine EW.loop (ptE v a 11 12) (PtR w v l a b (a + 1) (b - 1)) (fun x => x.2.1 + 1 - x.1) (a + 1, b - 1, _) [0, 1, 4, 11, 12] rfl ⟨pi, by simp only; omega, by simp only; omega, by simp only; omega, by simp only; omega, by simp only; omega, by simp only; omega⟩ ?_
  clear pi
  rintro ⟨i1, j1, l1⟩ wi ⟨pi, hi0, hj0, hlo, hhi, haj, hib⟩
  simp only at pi hi0 hj0 hlo hhi haj hib
  show EW _ _ _ _ [(0, v), (1, .int .i64 (a : Int)), (4, fnV), (11, .int .i64 (i1 : Int)), (12, .int .i64 (j1 : Int))] _
  refine EW.block ?_; refine EW.seq ?_; refine EW.block ?_; refine EW.loop (ptE v a 11 12) (PtR w v l a b (i1) (j1)) (fun x => x.2.1 + 1 - x.1) (i1, j1, _) [0, 1, 4, 11, 12] rfl ⟨pi, by simp only; omega, by simp only; omega, by simp only; omega, by simp only; omega, by simp only; omega, by simp only; omega⟩ ?_
  clear pi
  rintro ⟨i, j, li⟩ wi ⟨pi, hi0, hj0, hlo, hhi, haj, hib⟩
  simp only at pi hi0 hj0 hlo hhi haj hib
  show EW _ _ _ _ [(0, v), (1, .int .i64 (a : Int)), (4, fnV), (11, .int .i64 (i : Int)), (12, .int .i64 (j : Int))] _
  refine EW.seq ?_; refine EW.seq ?_
  by_cases hij : i ≤ j
  · refine EW.ordB [(0, 0, 0), (1, 0, 0), (2, 0, 0), (3, 0, 0), (4, 0, 0), (5, 0, 0), (6, 0, 0), (7, 0, 0), (8, 0, 1), (9, 0, 0), (10, 0, 0), (11, 0, 0), (12, 0, 1), (13, 1, 1), (14, 0, 0), (15, 0, 0), (16, 0, 0)] (by kernel_rfl) rfl (by kernel_rfl) ?_; simp only [opsZ, List.getD_cons_zero, List.getD_cons_succ]; refine ZE.move rfl rfl rfl rfl sz0 ?_; refine ZE.move rfl rfl rfl rfl sz0 ?_; refine ZE.bin rfl rfl rfl rfl rfl sz0 (fun W => int_le_t (by omega) W _ _) ?_; refine ZE.move rfl rfl rfl rfl sz0 ?_
    first | refine ZE.move rfl rfl rfl rfl sz0 ?_ | refine ZE.skip rfl rfl rfl sz0 ?_
    first | refine ZE.move rfl rfl rfl rfl sz0 ?_ | refine ZE.skip rfl rfl rfl sz0 ?_
    first | refine ZE.move rfl rfl rfl rfl sz0 ?_ | refine ZE.skip rfl rfl rfl sz0 ?_
    obtain ⟨x1, ad1, hx1, hm1, ix1, lx1⟩ := pi.r.at' (t := a) (by rw [pi.len]; omega)
    refine ZE.index rfl rfl rfl rfl rfl sz0 (fun W => ix1 W) ?_; refine ZE.load rfl rfl rfl rfl sz1 (fun W hW => lx1 W (sb_of hW)) ?_
    first | refine ZE.move rfl rfl rfl rfl sz0 ?_ | refine ZE.skip rfl rfl rfl sz0 ?_
    first | refine ZE.move rfl rfl rfl rfl sz0 ?_ | refine ZE.skip rfl rfl rfl sz0 ?_
    obtain ⟨x2, ad2, hx2, hm2, ix2, lx2⟩ := pi.r.at' (t := i) (by rw [pi.len]; omega)
    refine ZE.index rfl rfl rfl rfl rfl sz0 (fun W => ix2 W) ?_; refine ZE.load rfl rfl rfl rfl sz1 (fun W hW => lx2 W (sb_of hW)) ?_; refine ZE.callFR [.agg (pgC x1).toArray, .agg (pgC x2).toArray] (fun v W => (∃ r, v = .int .i64 r) ∧ Below wi.heap.size wi W) enter70 rfl rfl rfl rfl (fun _ _ h => .inr h.2) (fun W hW => (cmpf_any x1 x2 W).mono fun e w' ⟨⟨r, g1⟩, g2⟩ => ⟨_, g1, ⟨r, rfl⟩, hW.trans (g2.mono hW.size)⟩) ?_
    rintro _ ⟨_, ⟨rc, rfl⟩, _⟩
    refine ZE.bin rfl rfl rfl rfl rfl sz0 (fun W => int_lt_d _ _ W _ _) ?_
    first | refine ZE.un rfl rfl rfl rfl sz0 (fun W => not_t _ W) ?_ | refine ZE.skip rfl rfl rfl sz0 ?_
    refine ZE.pick rfl rfl rfl rfl rfl sz0 ?_
    rintro wc ⟨_, ec⟩
    replace pi := pi.below ec
    refine EW.on ?_; refine EW.cond_b rfl (fun h47 => ?_) (fun h47 => ?_)
    · refine EW.skip ?_; refine EW.on ?_; refine EW.block ?_; refine EW.region ?_; refine WL.move rfl rfl rfl ?_; refine WL.bin rfl rfl rfl rfl (int_add (c := ((i + 1 : Nat) : Int)) (by rw [IntKind.wrap_i64]; omega) _ _ _) ?_; refine WL.assign rfl rfl rfl ?_; refine WL.done ?_; refine pn_block ?_; refine EW.again (E := ptE v a 11 12) (R := PtR w v l a b (i1) (j1)) (m := fun x => x.2.1 + 1 - x.1) (x := (i, j, li)) (i + 1, j, li) [0, 1, 4, 11, 12] rfl ⟨pi, by simp only; omega, by simp only; omega, by simp only; omega, by simp only; omega, by simp only; omega, by simp only; omega⟩ (by simp only; omega)
    · refine EW.exit ?_; refine px_then ?_; refine px_then ?_; refine px_block ?_; refine EW.on ?_; refine EW.seq ?_; refine EW.block ?_; refine EW.loop (ptE v a 11 12) (PtR w v l a b (i1) (j1)) (fun x => x.2.1 + 1 - x.1) (i, j, _) [0, 1, 4, 11, 12] rfl ⟨pi, by simp only; omega, by simp only; omega, by simp only; omega, by simp only; omega, by simp only; omega, by simp only; omega⟩ ?_
      clear pi
      rintro ⟨i, j, li⟩ wi ⟨pi, hi0, hj0, hlo, hhi, haj, hib⟩
      simp only at pi hi0 hj0 hlo hhi haj hib
      show EW _ _ _ _ [(0, v), (1, .int .i64 (a : Int)), (4, fnV), (11, .int .i64 (i : Int)), (12, .int .i64 (j : Int))] _
      refine EW.seq ?_; refine EW.seq ?_
      by_cases hij : i ≤ j
      · refine EW.ordB [(0, 0, 0), (1, 0, 0), (2, 0, 0), (3, 0, 0), (4, 0, 0), (5, 0, 0), (6, 0, 0), (7, 0, 0), (8, 0, 1), (9, 0, 0), (10, 0, 0), (11, 0, 0), (12, 0, 1), (13, 1, 1), (14, 0, 0), (15, 0, 0)] (by kernel_rfl) rfl (by kernel_rfl) ?_; simp only [opsZ, List.getD_cons_zero, List.getD_cons_succ]; refine ZE.move rfl rfl rfl rfl sz0 ?_; refine ZE.move rfl rfl rfl rfl sz0 ?_; refine ZE.bin rfl rfl rfl rfl rfl sz0 (fun W => int_le_t (by omega) W _ _) ?_; refine ZE.move rfl rfl rfl rfl sz0 ?_
        first | refine ZE.move rfl rfl rfl rfl sz0 ?_ | refine ZE.skip rfl rfl rfl sz0 ?_
        first | refine ZE.move rfl rfl rfl rfl sz0 ?_ | refine ZE.skip rfl rfl rfl sz0 ?_
        first | refine ZE.move rfl rfl rfl rfl sz0 ?_ | refine ZE.skip rfl rfl rfl sz0 ?_
        obtain ⟨x1, ad1, hx1, hm1, ix1, lx1⟩ := pi.r.at' (t := a) (by rw [pi.len]; omega)
        refine ZE.index rfl rfl rfl rfl rfl sz0 (fun W => ix1 W) ?_; refine ZE.load rfl rfl rfl rfl sz1 (fun W hW => lx1 W (sb_of hW)) ?_
        first | refine ZE.move rfl rfl rfl rfl sz0 ?_ | refine ZE.skip rfl rfl rfl sz0 ?_
        first | refine ZE.move rfl rfl rfl rfl sz0 ?_ | refine ZE.skip rfl rfl rfl sz0 ?_
        obtain ⟨x2, ad2, hx2, hm2, ix2, lx2⟩ := pi.r.at' (t := j) (by rw [pi.len]; omega)
        refine ZE.index rfl rfl rfl rfl rfl sz0 (fun W => ix2 W) ?_; refine ZE.load rfl rfl rfl rfl sz1 (fun W hW => lx2 W (sb_of hW)) ?_; refine ZE.callFR [.agg (pgC x1).toArray, .agg (pgC x2).toArray] (fun v W => (∃ r, v = .int .i64 r) ∧ Below wi.heap.size wi W) enter70 rfl rfl rfl rfl (fun _ _ h => .inr h.2) (fun W hW => (cmpf_any x1 x2 W).mono fun e w' ⟨⟨r, g1⟩, g2⟩ => ⟨_, g1, ⟨r, rfl⟩, hW.trans (g2.mono hW.size)⟩) ?_
        rintro _ ⟨_, ⟨rc, rfl⟩, _⟩
        refine ZE.bin rfl rfl rfl rfl rfl sz0 (fun W => int_lt_d _ _ W _ _) ?_; refine ZE.pick rfl rfl rfl rfl rfl sz0 ?_
        rintro wc ⟨_, ec⟩
        replace pi := pi.below ec
        refine EW.on ?_; refine EW.cond_d rfl (fun h65 => ?_) (fun h65 => ?_)
        · refine EW.skip ?_; refine EW.on ?_; refine EW.block ?_; refine EW.region ?_; refine WL.move rfl rfl rfl ?_; refine WL.bin rfl rfl rfl rfl (int_sub (c := ((j - 1 : Nat) : Int)) (by rw [IntKind.wrap_i64]; omega) _ _ _) ?_; refine WL.assign rfl rfl rfl ?_; refine WL.done ?_; refine pn_block ?_; refine EW.again (E := ptE v a 11 12) (R := PtR w v l a b (i1) (j1)) (m := fun x => x.2.1 + 1 - x.1) (x := (i, j, li)) (i, j - 1, li) [0, 1, 4, 11, 12] rfl ⟨pi, by simp only; omega, by simp only; omega, by simp only; omega, by simp only; omega, by simp only; omega, by simp only; omega⟩ (by simp only; omega)
        · refine EW.exit ?_; refine px_then ?_; refine px_then ?_; refine px_block ?_; refine EW.on ?_; refine EW.seq ?_; refine EW.seq ?_; refine EW.region ?_; refine WL.move rfl rfl rfl ?_; refine WL.move rfl rfl rfl ?_; refine WL.bin rfl rfl rfl rfl (int_gt_d _ _ _ _ _) ?_; refine WL.done ?_; refine EW.on ?_; refine EW.cond_d rfl (fun h70 => ?_) (fun h70 => ?_)
          · refine EW.exit ?_; refine px_then ?_; refine px_other (by decide) ?_; refine px_then ?_; refine px_block ?_; refine EW.on ?_; refine EW.seq ?_; refine EW.region ?_; refine WL.move rfl rfl rfl ?_; refine WL.assign rfl rfl rfl ?_; refine WL.done ?_; refine EW.on ?_; refine EW.ret ?_
            exact EW.returns Tryz.results96 rfl ⟨i, rfl, by omega, by omega, _, pi⟩
          · refine EW.skip ?_; refine EW.on ?_; refine EW.seq ?_; refine EW.ordB [(0, 0, 0), (1, 0, 0), (2, 0, 0), (3, 0, 0), (4, 0, 0), (5, 0, 0), (6, 0, 0), (7, 0, 1), (8, 0, 0), (9, 0, 0), (10, 0, 0), (11, 0, 1), (12, 0, 0), (13, 1, 0), (14, 0, 0), (15, 1, 0)] (by kernel_rfl) rfl (by kernel_rfl) ?_; simp only [opsZ, List.getD_cons_zero, List.getD_cons_succ]; refine ZE.move rfl rfl rfl rfl sz0 ?_; refine ZE.move rfl rfl rfl rfl sz0 ?_; refine ZE.move rfl rfl rfl rfl sz0 ?_; refine ZE.move rfl rfl rfl rfl sz0 ?_; refine ZE.move rfl rfl rfl rfl sz0 ?_; refine ZE.move rfl rfl rfl rfl sz0 ?_
            obtain ⟨x1, ad1, hx1, hm1, ix1, lx1⟩ := pi.r.at' (t := j) (by rw [pi.len]; omega)
            refine ZE.index rfl rfl rfl rfl rfl sz0 (fun W => ix1 W) ?_; refine ZE.load rfl rfl rfl rfl sz1 (fun W hW => lx1 W (sb_of hW)) ?_; refine ZE.move rfl rfl rfl rfl sz0 ?_; refine ZE.move rfl rfl rfl rfl sz0 ?_
            obtain ⟨x2, ad2, hx2, hm2, ix2, lx2⟩ := pi.r.at' (t := i) (by rw [pi.len]; omega)
            refine ZE.index rfl rfl rfl rfl rfl sz0 (fun W => ix2 W) ?_; refine ZE.load rfl rfl rfl rfl sz1 (fun W hW => lx2 W (sb_of hW)) ?_; refine ZE.index rfl rfl rfl rfl rfl sz0 (fun W => ix2 W) ?_
            refine ZE.store (fun W => Pws W v (li.set (i) x1) ∧ Fx (fun k => v.ownBlock = some k) wc W) rfl rfl rfl (fun _ _ => .inl rfl) (fun W hW => by
      obtain ⟨w', g1, g2, g3⟩ := pi.r.swap1 (pi.apt hs) (I := i) (by rw [pi.len]; omega) hm1 ix2 W hW
      exact ⟨w', g1, g2, g3⟩) ?_
            refine ZE.index rfl rfl rfl rfl rfl sz0 (fun W => ix1 W) ?_; refine ZE.store (fun W => Prm wc v li W ((li.set (i) x1).set (j) x2)) rfl rfl rfl (fun _ _ => .inl rfl) (fun W hW => pi.r.swap2 (pi.apt hs) hx2 hx1 ix1 W hW.1 hW.2) ?_
            rintro ws ps_
            replace pi := pi.trans ps_
            refine EW.on ?_; refine EW.seq ?_; refine EW.region ?_; refine WL.move rfl rfl rfl ?_; refine WL.bin rfl rfl rfl rfl (int_add (c := ((i + 1 : Nat) : Int)) (by rw [IntKind.wrap_i64]; omega) _ _ _) ?_; refine WL.assign rfl rfl rfl ?_; refine WL.done ?_; refine EW.on ?_; refine EW.region ?_; refine WL.move rfl rfl rfl ?_; refine WL.bin rfl rfl rfl rfl (int_sub (c := ((j - 1 : Nat) : Int)) (by rw [IntKind.wrap_i64]; omega) _ _ _) ?_; refine WL.assign rfl rfl rfl ?_; refine WL.done ?_; refine pn_block ?_; refine EW.again (E := ptE v a 11 12) (R := PtR w v l a b (a + 1) (b - 1)) (m := fun x => x.2.1 + 1 - x.1) (x := (i1, j1, l1)) (i + 1, j - 1, _) [0, 1, 4, 11, 12] rfl ⟨pi, by simp only; omega, by simp only; omega, by simp only; omega, by simp only; omega, by simp only; omega, by simp only; omega⟩ (by simp only; omega)
      · refine EW.ordB [(0, 0, 0), (1, 0, 0), (2, 0, 0), (3, 0, 0), (4, 0, 0), (5, 0, 0), (6, 0, 0), (7, 0, 0), (8, 0, 1), (9, 0, 0), (10, 0, 0), (11, 0, 0), (12, 0, 1), (13, 0, 0), (14, 0, 0), (15, 0, 0)] (by kernel_rfl) rfl (by kernel_rfl) ?_; simp only [opsZ, List.getD_cons_zero, List.getD_cons_succ]; refine ZE.move rfl rfl rfl rfl sz0 ?_; refine ZE.move rfl rfl rfl rfl sz0 ?_; refine ZE.bin rfl rfl rfl rfl rfl sz0 (fun W => int_le_f (by omega) W _ _) ?_; refine ZE.move rfl rfl rfl rfl sz0 ?_
        first | refine ZE.move rfl rfl rfl rfl sz0 ?_ | refine ZE.skip rfl rfl rfl sz0 ?_
        first | refine ZE.move rfl rfl rfl rfl sz0 ?_ | refine ZE.skip rfl rfl rfl sz0 ?_
        first | refine ZE.move rfl rfl rfl rfl sz0 ?_ | refine ZE.skip rfl rfl rfl sz0 ?_
        refine ZE.skip rfl rfl rfl sz0 ?_; refine ZE.skip rfl rfl rfl sz1 ?_
        first | refine ZE.move rfl rfl rfl rfl sz0 ?_ | refine ZE.skip rfl rfl rfl sz0 ?_
        first | refine ZE.move rfl rfl rfl rfl sz0 ?_ | refine ZE.skip rfl rfl rfl sz0 ?_
        refine ZE.skip rfl rfl rfl sz0 ?_; refine ZE.skip rfl rfl rfl sz1 ?_; refine ZE.skip rfl rfl rfl sz0 ?_; refine ZE.skip rfl rfl rfl sz0 ?_; refine ZE.pick rfl rfl rfl rfl rfl sz0 ?_
        rintro wc ec
        replace pi := pi.below ec
        refine EW.on ?_; refine EW.cond_f rfl ?_; refine EW.exit ?_; refine px_then ?_; refine px_then ?_; refine px_block ?_; refine EW.on ?_; refine EW.seq ?_; refine EW.seq ?_; refine EW.region ?_; refine WL.move rfl rfl rfl ?_; refine WL.move rfl rfl rfl ?_; refine WL.bin rfl rfl rfl rfl (int_gt_d _ _ _ _ _) ?_; refine WL.done ?_; refine EW.on ?_; refine EW.cond_d rfl (fun h70 => ?_) (fun h70 => ?_)
        · refine EW.exit ?_; refine px_then ?_; refine px_other (by decide) ?_; refine px_then ?_; refine px_block ?_; refine EW.on ?_; refine EW.seq ?_; refine EW.region ?_; refine WL.move rfl rfl rfl ?_; refine WL.assign rfl rfl rfl ?_; refine WL.done ?_; refine EW.on ?_; refine EW.ret ?_
          exact EW.returns Tryz.results96 rfl ⟨i, rfl, by omega, by omega, _, pi⟩
        · refine EW.skip ?_; refine EW.on ?_; refine EW.seq ?_; refine EW.ordB [(0, 0, 0), (1, 0, 0), (2, 0, 0), (3, 0, 0), (4, 0, 0), (5, 0, 0), (6, 0, 0), (7, 0, 1), (8, 0, 0), (9, 0, 0), (10, 0, 0), (11, 0, 1), (12, 0, 0), (13, 1, 0), (14, 0, 0), (15, 1, 0)] (by kernel_rfl) rfl (by kernel_rfl) ?_; simp only [opsZ, List.getD_cons_zero, List.getD_cons_succ]; refine ZE.move rfl rfl rfl rfl sz0 ?_; refine ZE.move rfl rfl rfl rfl sz0 ?_; refine ZE.move rfl rfl rfl rfl sz0 ?_; refine ZE.move rfl rfl rfl rfl sz0 ?_; refine ZE.move rfl rfl rfl rfl sz0 ?_; refine ZE.move rfl rfl rfl rfl sz0 ?_
          obtain ⟨x1, ad1, hx1, hm1, ix1, lx1⟩ := pi.r.at' (t := j) (by rw [pi.len]; omega)
          refine ZE.index rfl rfl rfl rfl rfl sz0 (fun W => ix1 W) ?_; refine ZE.load rfl rfl rfl rfl sz1 (fun W hW => lx1 W (sb_of hW)) ?_; refine ZE.move rfl rfl rfl rfl sz0 ?_; refine ZE.move rfl rfl rfl rfl sz0 ?_
          obtain ⟨x2, ad2, hx2, hm2, ix2, lx2⟩ := pi.r.at' (t := i) (by rw [pi.len]; omega)
          refine ZE.index rfl rfl rfl rfl rfl sz0 (fun W => ix2 W) ?_; refine ZE.load rfl rfl rfl rfl sz1 (fun W hW => lx2 W (sb_of hW)) ?_; refine ZE.index rfl rfl rfl rfl rfl sz0 (fun W => ix2 W) ?_
          refine ZE.store (fun W => Pws W v (li.set (i) x1) ∧ Fx (fun k => v.ownBlock = some k) wc W) rfl rfl rfl (fun _ _ => .inl rfl) (fun W hW => by
      obtain ⟨w', g1, g2, g3⟩ := pi.r.swap1 (pi.apt hs) (I := i) (by rw [pi.len]; omega) hm1 ix2 W hW
      exact ⟨w', g1, g2, g3⟩) ?_
          refine ZE.index rfl rfl rfl rfl rfl sz0 (fun W => ix1 W) ?_; refine ZE.store (fun W => Prm wc v li W ((li.set (i) x1).set (j) x2)) rfl rfl rfl (fun _ _ => .inl rfl) (fun W hW => pi.r.swap2 (pi.apt hs) hx2 hx1 ix1 W hW.1 hW.2) ?_
          rintro ws ps_
          replace pi := pi.trans ps_
          refine EW.on ?_; refine EW.seq ?_; refine EW.region ?_; refine WL.move rfl rfl rfl ?_; refine WL.bin rfl rfl rfl rfl (int_add (c := ((i + 1 : Nat) : Int)) (by rw [IntKind.wrap_i64]; omega) _ _ _) ?_; refine WL.assign rfl rfl rfl ?_; refine WL.done ?_; refine EW.on ?_; refine EW.region ?_; refine WL.move rfl rfl rfl ?_; refine WL.bin rfl rfl rfl rfl (int_sub (c := ((j - 1 : Nat) : Int)) (by rw [IntKind.wrap_i64]; omega) _ _ _) ?_; refine WL.assign rfl rfl rfl ?_; refine WL.done ?_; refine pn_block ?_; refine EW.again (E := ptE v a 11 12) (R := PtR w v l a b (a + 1) (b - 1)) (m := fun x => x.2.1 + 1 - x.1) (x := (i1, j1, l1)) (i + 1, j - 1, _) [0, 1, 4, 11, 12] rfl ⟨pi, by simp only; omega, by simp only; omega, by simp only; omega, by simp only; omega, by simp only; omega, by simp only; omega⟩ (by simp only; omega)
  · refine EW.ordB [(0, 0, 0), (1, 0, 0), (2, 0, 0), (3, 0, 0), (4, 0, 0), (5, 0, 0), (6, 0, 0), (7, 0, 0), (8, 0, 1), (9, 0, 0), (10, 0, 0), (11, 0, 0), (12, 0, 1), (13, 0, 0), (14, 0, 0), (15, 0, 0), (16, 0, 0)] (by kernel_rfl) rfl (by kernel_rfl) ?_; simp only [opsZ, List.getD_cons_zero, List.getD_cons_succ]; refine ZE.move rfl rfl rfl rfl sz0 ?_; refine ZE.move rfl rfl rfl rfl sz0 ?_; refine ZE.bin rfl rfl rfl rfl rfl sz0 (fun W => int_le_f (by omega) W _ _) ?_; refine ZE.move rfl rfl rfl rfl sz0 ?_
    first | refine ZE.move rfl rfl rfl rfl sz0 ?_ | refine ZE.skip rfl rfl rfl sz0 ?_
    first | refine ZE.move rfl rfl rfl rfl sz0 ?_ | refine ZE.skip rfl rfl rfl sz0 ?_
    first | refine ZE.move rfl rfl rfl rfl sz0 ?_ | refine ZE.skip rfl rfl rfl sz0 ?_
    refine ZE.skip rfl rfl rfl sz0 ?_; refine ZE.skip rfl rfl rfl sz1 ?_
    first | refine ZE.move rfl rfl rfl rfl sz0 ?_ | refine ZE.skip rfl rfl rfl sz0 ?_
    first | refine ZE.move rfl rfl rfl rfl sz0 ?_ | refine ZE.skip rfl rfl rfl sz0 ?_
    refine ZE.skip rfl rfl rfl sz0 ?_; refine ZE.skip rfl rfl rfl sz1 ?_; refine ZE.skip rfl rfl rfl sz0 ?_; refine ZE.skip rfl rfl rfl sz0 ?_; refine ZE.skip rfl rfl rfl sz0 ?_; refine ZE.pick rfl rfl rfl rfl rfl sz0 ?_
    rintro wc ec
    replace pi := pi.below ec
    refine EW.on ?_; refine EW.cond_f rfl ?_; refine EW.exit ?_; refine px_then ?_; refine px_then ?_; refine px_block ?_; refine EW.on ?_; refine EW.seq ?_; refine EW.block ?_; refine EW.loop (ptE v a 11 12) (PtR w v l a b (i1) (j1)) (fun x => x.2.1 + 1 - x.1) (i, j, _) [0, 1, 4, 11, 12] rfl ⟨pi, by simp only; omega, by simp only; omega, by simp only; omega, by simp only; omega, by simp only; omega, by simp only; omega⟩ ?_
    clear pi
    rintro ⟨i, j, li⟩ wi ⟨pi, hi0, hj0, hlo, hhi, haj, hib⟩
    simp only at pi hi0 hj0 hlo hhi haj hib
    show EW _ _ _ _ [(0, v), (1, .int .i64 (a : Int)), (4, fnV), (11, .int .i64 (i : Int)), (12, .int .i64 (j : Int))] _
    refine EW.seq ?_; refine EW.seq ?_
    by_cases hij : i ≤ j
    · refine EW.ordB [(0, 0, 0), (1, 0, 0), (2, 0, 0), (3, 0, 0), (4, 0, 0), (5, 0, 0), (6, 0, 0), (7, 0, 0), (8, 0, 1), (9, 0, 0), (10, 0, 0), (11, 0, 0), (12, 0, 1), (13, 1, 1), (14, 0, 0), (15, 0, 0)] (by kernel_rfl) rfl (by kernel_rfl) ?_; simp only [opsZ, List.getD_cons_zero, List.getD_cons_succ]; refine ZE.move rfl rfl rfl rfl sz0 ?_; refine ZE.move rfl rfl rfl rfl sz0 ?_; refine ZE.bin rfl rfl rfl rfl rfl sz0 (fun W => int_le_t (by omega) W _ _) ?_; refine ZE.move rfl rfl rfl rfl sz0 ?_
      first | refine ZE.move rfl rfl rfl rfl sz0 ?_ | refine ZE.skip rfl rfl rfl sz0 ?_
      first | refine ZE.move rfl rfl rfl rfl sz0 ?_ | refine ZE.skip rfl rfl rfl sz0 ?_
      first | refine ZE.move rfl rfl rfl rfl sz0 ?_ | refine ZE.skip rfl rfl rfl sz0 ?_
      obtain ⟨x1, ad1, hx1, hm1, ix1, lx1⟩ := pi.r.at' (t := a) (by rw [pi.len]; omega)
      refine ZE.index rfl rfl rfl rfl rfl sz0 (fun W => ix1 W) ?_; refine ZE.load rfl rfl rfl rfl sz1 (fun W hW => lx1 W (sb_of hW)) ?_
      first | refine ZE.move rfl rfl rfl rfl sz0 ?_ | refine ZE.skip rfl rfl rfl sz0 ?_
      first | refine ZE.move rfl rfl rfl rfl sz0 ?_ | refine ZE.skip rfl rfl rfl sz0 ?_
      obtain ⟨x2, ad2, hx2, hm2, ix2, lx2⟩ := pi.r.at' (t := j) (by rw [pi.len]; omega)
      refine ZE.index rfl rfl rfl rfl rfl sz0 (fun W => ix2 W) ?_; refine ZE.load rfl rfl rfl rfl sz1 (fun W hW => lx2 W (sb_of hW)) ?_; refine ZE.callFR [.agg (pgC x1).toArray, .agg (pgC x2).toArray] (fun v W => (∃ r, v = .int .i64 r) ∧ Below wi.heap.size wi W) enter70 rfl rfl rfl rfl (fun _ _ h => .inr h.2) (fun W hW => (cmpf_any x1 x2 W).mono fun e w' ⟨⟨r, g1⟩, g2⟩ => ⟨_, g1, ⟨r, rfl⟩, hW.trans (g2.mono hW.size)⟩) ?_
      rintro _ ⟨_, ⟨rc, rfl⟩, _⟩
      refine ZE.bin rfl rfl rfl rfl rfl sz0 (fun W => int_lt_d _ _ W _ _) ?_; refine ZE.pick rfl rfl rfl rfl rfl sz0 ?_
      rintro wc ⟨_, ec⟩
      replace pi := pi.below ec
      refine EW.on ?_; refine EW.cond_d rfl (fun h65 => ?_) (fun h65 => ?_)
      · refine EW.skip ?_; refine EW.on ?_; refine EW.block ?_; refine EW.region ?_; refine WL.move rfl rfl rfl ?_; refine WL.bin rfl rfl rfl rfl (int_sub (c := ((j - 1 : Nat) : Int)) (by rw [IntKind.wrap_i64]; omega) _ _ _) ?_; refine WL.assign rfl rfl rfl ?_; refine WL.done ?_; refine pn_block ?_; refine EW.again (E := ptE v a 11 12) (R := PtR w v l a b (i1) (j1)) (m := fun x => x.2.1 + 1 - x.1) (x := (i, j, li)) (i, j - 1, li) [0, 1, 4, 11, 12] rfl ⟨pi, by simp only; omega, by simp only; omega, by simp only; omega, by simp only; omega, by simp only; omega, by simp only; omega⟩ (by simp only; omega)
      · refine EW.exit ?_; refine px_then ?_; refine px_then ?_; refine px_block ?_; refine EW.on ?_; refine EW.seq ?_; refine EW.seq ?_; refine EW.region ?_; refine WL.move rfl rfl rfl ?_; refine WL.move rfl rfl rfl ?_; refine WL.bin rfl rfl rfl rfl (int_gt_d _ _ _ _ _) ?_; refine WL.done ?_; refine EW.on ?_; refine EW.cond_d rfl (fun h70 => ?_) (fun h70 => ?_)
        · refine EW.exit ?_; refine px_then ?_; refine px_other (by decide) ?_; refine px_then ?_; refine px_block ?_; refine EW.on ?_; refine EW.seq ?_; refine EW.region ?_; refine WL.move rfl rfl rfl ?_; refine WL.assign rfl rfl rfl ?_; refine WL.done ?_; refine EW.on ?_; refine EW.ret ?_
          exact EW.returns Tryz.results96 rfl ⟨i, rfl, by omega, by omega, _, pi⟩
        · refine EW.skip ?_; refine EW.on ?_; refine EW.seq ?_; refine EW.ordB [(0, 0, 0), (1, 0, 0), (2, 0, 0), (3, 0, 0), (4, 0, 0), (5, 0, 0), (6, 0, 0), (7, 0, 1), (8, 0, 0), (9, 0, 0), (10, 0, 0), (11, 0, 1), (12, 0, 0), (13, 1, 0), (14, 0, 0), (15, 1, 0)] (by kernel_rfl) rfl (by kernel_rfl) ?_; simp only [opsZ, List.getD_cons_zero, List.getD_cons_succ]; refine ZE.move rfl rfl rfl rfl sz0 ?_; refine ZE.move rfl rfl rfl rfl sz0 ?_; refine ZE.move rfl rfl rfl rfl sz0 ?_; refine ZE.move rfl rfl rfl rfl sz0 ?_; refine ZE.move rfl rfl rfl rfl sz0 ?_; refine ZE.move rfl rfl rfl rfl sz0 ?_
          obtain ⟨x1, ad1, hx1, hm1, ix1, lx1⟩ := pi.r.at' (t := j) (by rw [pi.len]; omega)
          refine ZE.index rfl rfl rfl rfl rfl sz0 (fun W => ix1 W) ?_; refine ZE.load rfl rfl rfl rfl sz1 (fun W hW => lx1 W (sb_of hW)) ?_; refine ZE.move rfl rfl rfl rfl sz0 ?_; refine ZE.move rfl rfl rfl rfl sz0 ?_
          obtain ⟨x2, ad2, hx2, hm2, ix2, lx2⟩ := pi.r.at' (t := i) (by rw [pi.len]; omega)
          refine ZE.index rfl rfl rfl rfl rfl sz0 (fun W => ix2 W) ?_; refine ZE.load rfl rfl rfl rfl sz1 (fun W hW => lx2 W (sb_of hW)) ?_; refine ZE.index rfl rfl rfl rfl rfl sz0 (fun W => ix2 W) ?_
          refine ZE.store (fun W => Pws W v (li.set (i) x1) ∧ Fx (fun k => v.ownBlock = some k) wc W) rfl rfl rfl (fun _ _ => .inl rfl) (fun W hW => by
      obtain ⟨w', g1, g2, g3⟩ := pi.r.swap1 (pi.apt hs) (I := i) (by rw [pi.len]; omega) hm1 ix2 W hW
      exact ⟨w', g1, g2, g3⟩) ?_
          refine ZE.index rfl rfl rfl rfl rfl sz0 (fun W => ix1 W) ?_; refine ZE.store (fun W => Prm wc v li W ((li.set (i) x1).set (j) x2)) rfl rfl rfl (fun _ _ => .inl rfl) (fun W hW => pi.r.swap2 (pi.apt hs) hx2 hx1 ix1 W hW.1 hW.2) ?_
          rintro ws ps_
          replace pi := pi.trans ps_
          refine EW.on ?_; refine EW.seq ?_; refine EW.region ?_; refine WL.move rfl rfl rfl ?_; refine WL.bin rfl rfl rfl rfl (int_add (c := ((i + 1 : Nat) : Int)) (by rw [IntKind.wrap_i64]; omega) _ _ _) ?_; refine WL.assign rfl rfl rfl ?_; refine WL.done ?_; refine EW.on ?_; refine EW.region ?_; refine WL.move rfl rfl rfl ?_; refine WL.bin rfl rfl rfl rfl (int_sub (c := ((j - 1 : Nat) : Int)) (by rw [IntKind.wrap_i64]; omega) _ _ _) ?_; refine WL.assign rfl rfl rfl ?_; refine WL.done ?_; refine pn_block ?_; refine EW.again (E := ptE v a 11 12) (R := PtR w v l a b (a + 1) (b - 1)) (m := fun x => x.2.1 + 1 - x.1) (x := (i1, j1, l1)) (i + 1, j - 1, _) [0, 1, 4, 11, 12] rfl ⟨pi, by simp only; omega, by simp only; omega, by simp only; omega, by simp only; omega, by simp only; omega, by simp only; omega⟩ (by simp only; omega)
    · refine EW.ordB [(0, 0, 0), (1, 0, 0), (2, 0, 0), (3, 0, 0), (4, 0, 0), (5, 0, 0), (6, 0, 0), (7, 0, 0), (8, 0, 1), (9, 0, 0), (10, 0, 0), (11, 0, 0), (12, 0, 1), (13, 0, 0), (14, 0, 0), (15, 0, 0)] (by kernel_rfl) rfl (by kernel_rfl) ?_; simp only [opsZ, List.getD_cons_zero, List.getD_cons_succ]; refine ZE.move rfl rfl rfl rfl sz0 ?_; refine ZE.move rfl rfl rfl rfl sz0 ?_; refine ZE.bin rfl rfl rfl rfl rfl sz0 (fun W => int_le_f (by omega) W _ _) ?_; refine ZE.move rfl rfl rfl rfl sz0 ?_
      first | refine ZE.move rfl rfl rfl rfl sz0 ?_ | refine ZE.skip rfl rfl rfl sz0 ?_
      first | refine ZE.move rfl rfl rfl rfl sz0 ?_ | refine ZE.skip rfl rfl rfl sz0 ?_
      first | refine ZE.move rfl rfl rfl rfl sz0 ?_ | refine ZE.skip rfl rfl rfl sz0 ?_
      refine ZE.skip rfl rfl rfl sz0 ?_; refine ZE.skip rfl rfl rfl sz1 ?_
      first | refine ZE.move rfl rfl rfl rfl sz0 ?_ | refine ZE.skip rfl rfl rfl sz0 ?_
      first | refine ZE.move rfl rfl rfl rfl sz0 ?_ | refine ZE.skip rfl rfl rfl sz0 ?_
      refine ZE.skip rfl rfl rfl sz0 ?_; refine ZE.skip rfl rfl rfl sz1 ?_; refine ZE.skip rfl rfl rfl sz0 ?_; refine ZE.skip rfl rfl rfl sz0 ?_; refine ZE.pick rfl rfl rfl rfl rfl sz0 ?_
      rintro wc ec
      replace pi := pi.below ec
      refine EW.on ?_; refine EW.cond_f rfl ?_; refine EW.exit ?_; refine px_then ?_; refine px_then ?_; refine px_block ?_; refine EW.on ?_; refine EW.seq ?_; refine EW.seq ?_; refine EW.region ?_; refine WL.move rfl rfl rfl ?_; refine WL.move rfl rfl rfl ?_; refine WL.bin rfl rfl rfl rfl (int_gt_d _ _ _ _ _) ?_; refine WL.done ?_; refine EW.on ?_; refine EW.cond_d rfl (fun h70 => ?_) (fun h70 => ?_)
      · refine EW.exit ?_; refine px_then ?_; refine px_other (by decide) ?_; refine px_then ?_; refine px_block ?_; refine EW.on ?_; refine EW.seq ?_; refine EW.region ?_; refine WL.move rfl rfl rfl ?_; refine WL.assign rfl rfl rfl ?_; refine WL.done ?_; refine EW.on ?_; refine EW.ret ?_
        exact EW.returns Tryz.results96 rfl ⟨i, rfl, by omega, by omega, _, pi⟩
      · refine EW.skip ?_; refine EW.on ?_; refine EW.seq ?_; refine EW.ordB [(0, 0, 0), (1, 0, 0), (2, 0, 0), (3, 0, 0), (4, 0, 0), (5, 0, 0), (6, 0, 0), (7, 0, 1), (8, 0, 0), (9, 0, 0), (10, 0, 0), (11, 0, 1), (12, 0, 0), (13, 1, 0), (14, 0, 0), (15, 1, 0)] (by kernel_rfl) rfl (by kernel_rfl) ?_; simp only [opsZ, List.getD_cons_zero, List.getD_cons_succ]; refine ZE.move rfl rfl rfl rfl sz0 ?_; refine ZE.move rfl rfl rfl rfl sz0 ?_; refine ZE.move rfl rfl rfl rfl sz0 ?_; refine ZE.move rfl rfl rfl rfl sz0 ?_; refine ZE.move rfl rfl rfl rfl sz0 ?_; refine ZE.move rfl rfl rfl rfl sz0 ?_
        obtain ⟨x1, ad1, hx1, hm1, ix1, lx1⟩ := pi.r.at' (t := j) (by rw [pi.len]; omega)
        refine ZE.index rfl rfl rfl rfl rfl sz0 (fun W => ix1 W) ?_; refine ZE.load rfl rfl rfl rfl sz1 (fun W hW => lx1 W (sb_of hW)) ?_; refine ZE.move rfl rfl rfl rfl sz0 ?_; refine ZE.move rfl rfl rfl rfl sz0 ?_
        obtain ⟨x2, ad2, hx2, hm2, ix2, lx2⟩ := pi.r.at' (t := i) (by rw [pi.len]; omega)
        refine ZE.index rfl rfl rfl rfl rfl sz0 (fun W => ix2 W) ?_; refine ZE.load rfl rfl rfl rfl sz1 (fun W hW => lx2 W (sb_of hW)) ?_; refine ZE.index rfl rfl rfl rfl rfl sz0 (fun W => ix2 W) ?_
        refine ZE.store (fun W => Pws W v (li.set (i) x1) ∧ Fx (fun k => v.ownBlock = some k) wc W) rfl rfl rfl (fun _ _ => .inl rfl) (fun W hW => by
      obtain ⟨w', g1, g2, g3⟩ := pi.r.swap1 (pi.apt hs) (I := i) (by rw [pi.len]; omega) hm1 ix2 W hW
      exact ⟨w', g1, g2, g3⟩) ?_
        refine ZE.index rfl rfl rfl rfl rfl sz0 (fun W => ix1 W) ?_; refine ZE.store (fun W => Prm wc v li W ((li.set (i) x1).set (j) x2)) rfl rfl rfl (fun _ _ => .inl rfl) (fun W hW => pi.r.swap2 (pi.apt hs) hx2 hx1 ix1 W hW.1 hW.2) ?_
        rintro ws ps_
        replace pi := pi.trans ps_
        refine EW.on ?_; refine EW.seq ?_; refine EW.region ?_; refine WL.move rfl rfl rfl ?_; refine WL.bin rfl rfl rfl rfl (int_add (c := ((i + 1 : Nat) : Int)) (by rw [IntKind.wrap_i64]; omega) _ _ _) ?_; refine WL.assign rfl rfl rfl ?_; refine WL.done ?_; refine EW.on ?_; refine EW.region ?_; refine WL.move rfl rfl rfl ?_; refine WL.bin rfl rfl rfl rfl (int_sub (c := ((j - 1 : Nat) : Int)) (by rw [IntKind.wrap_i64]; omega) _ _ _) ?_; refine WL.assign rfl rfl rfl ?_; refine WL.done ?_; refine pn_block ?_; refine EW.again (E := ptE v a 11 12) (R := PtR w v l a b (a + 1) (b - 1)) (m := fun x => x.2.1 + 1 - x.1) (x := (i1, j1, l1)) (i + 1, j - 1, _) [0, 1, 4, 11, 12] rfl ⟨pi, by simp only; omega, by simp only; omega, by simp only; omega, by simp only; omega, by simp only; omega, by simp only; omega⟩ (by simp only; omega)
def piE (v : Value) (a b : Nat) (x : Unit) : List (Nat × Value) := [(0, v), (1, .int .i64 (a : Int)), (2, .int .i64 (b : Int)), (3, fnV), (9, .int .i64 ((a + 1 : Nat) : Int)), (10, .int .i64 0)]
def pkE (v : Value) (a b : Nat) (i : Nat) : List (Nat × Value) := [(0, v), (1, .int .i64 (a : Int)), (2, .int .i64 (b : Int)), (3, fnV), (9, .int .i64 (i : Int)), (10, .int .i64 0)]
structure PiR (w : World) (a b : Nat) (i : Nat) (W : World) : Prop where
  e : Below w.heap.size w W
  lo : a + 1 ≤ i
  hi : i ≤ b
set_option maxRecDepth 100000 in
set_option maxHeartbeats 1000000 in
theorem partial_any {w : World} {v : Value} {l : List Pw} (h : Pws w v l) (hl : l.length ≤ 1000) (a b : Nat) (hab : a < b) (h50 : b < a + 50) (hb : b ≤ l.length) : Calls Tryz.prog 95 #[v, .int .i64 (a : Int), .int .i64 (b : Int), fnV] w fun e w' => ∃ t, e = .returned (.bool t) ∧ Below w.heap.size w w' := by
  refine calls_of_args [v, .int .i64 (a : Int), .int .i64 (b : Int), fnV] Tryz.func95 rfl 141 Tryz.ntmps95 (by show 4 ≤ 141; decide) ?_; refine EW.seq ?_; refine EW.region ?_; refine WL.assign rfl rfl rfl ?_; refine WL.done ?_; refine EW.on ?_; refine EW.seq ?_; refine EW.region ?_; refine WL.move rfl rfl rfl ?_; refine WL.bin rfl rfl rfl rfl (int_add (c := ((a + 1 : Nat) : Int)) (by rw [IntKind.wrap_i64]; omega) _ _ _) ?_; refine WL.assign rfl rfl rfl ?_; refine WL.done ?_; refine EW.on ?_; refine EW.seq ?_; refine EW.seq ?_; refine EW.region ?_; refine WL.assign rfl rfl rfl ?_; refine WL.done ?_; refine EW.on ?_; refine EW.block ?_; refine EW.loop (piE v a b) (fun _ W => W = w) (fun _ => 0) () [0, 1, 2, 3, 9, 10] rfl rfl ?_
  rintro _ w0 hw0
  subst hw0
  show EW _ _ _ _ [(0, v), (1, .int .i64 (a : Int)), (2, .int .i64 (b : Int)), (3, fnV), (9, .int .i64 ((a + 1 : Nat) : Int)), (10, .int .i64 0)] _
  refine EW.seq ?_; refine EW.seq ?_; refine EW.region ?_; refine WL.move rfl rfl rfl ?_; refine WL.bin rfl rfl rfl rfl (int_lt_t (by decide) _ _ _) ?_; refine WL.done ?_; refine EW.on ?_; refine EW.cond_t rfl ?_; refine EW.skip ?_; refine EW.on ?_; refine EW.seq ?_; refine EW.block ?_; refine EW.seq ?_; refine EW.block ?_; refine EW.loop (pkE v a b) (PiR w0 a b) (fun i => b - i) (a + 1) [0, 1, 2, 3, 9, 10] rfl ⟨Below.refl _ _, Nat.le_refl _, by omega⟩ ?_
  rintro i wi ⟨ei, hlo, hhi⟩
  have pi := (Prm.refl h).below ei
  obtain ⟨li, hli⟩ : ∃ x, l = x := ⟨_, rfl⟩
  show EW _ _ _ _ [(0, v), (1, .int .i64 (a : Int)), (2, .int .i64 (b : Int)), (3, fnV), (9, .int .i64 (i : Int)), (10, .int .i64 0)] _
  refine EW.seq ?_; refine EW.seq ?_
  by_cases hib : i < b
  · refine EW.ordB [(0, 0, 0), (1, 0, 0), (2, 0, 0), (3, 0, 0), (4, 0, 0), (5, 0, 0), (6, 0, 0), (7, 0, 0), (8, 0, 1), (9, 0, 0), (10, 0, 0), (11, 0, 0), (12, 0, 0), (13, 0, 1), (14, 1, 1), (15, 0, 0), (16, 0, 0), (17, 0, 0)] (by kernel_rfl) rfl (by kernel_rfl) ?_; simp only [opsZ, List.getD_cons_zero, List.getD_cons_succ]; refine ZE.move rfl rfl rfl rfl sz0 ?_; refine ZE.move rfl rfl rfl rfl sz0 ?_; refine ZE.bin rfl rfl rfl rfl rfl sz0 (fun W => int_lt_t (by omega) W _ _) ?_; refine ZE.move rfl rfl rfl rfl sz0 ?_
    first | refine ZE.move rfl rfl rfl rfl sz0 ?_ | refine ZE.skip rfl rfl rfl sz0 ?_
    first | refine ZE.move rfl rfl rfl rfl sz0 ?_ | refine ZE.skip rfl rfl rfl sz0 ?_
    first | refine ZE.move rfl rfl rfl rfl sz0 ?_ | refine ZE.skip rfl rfl rfl sz0 ?_
    obtain ⟨x1, ad1, hx1, hm1, ix1, lx1⟩ := pi.r.at' (t := i) (by rw [pi.len]; omega)
    refine ZE.index rfl rfl rfl rfl rfl sz0 (fun W => ix1 W) ?_; refine ZE.load rfl rfl rfl rfl sz1 (fun W hW => lx1 W (sb_of hW)) ?_
    first | refine ZE.move rfl rfl rfl rfl sz0 ?_ | refine ZE.skip rfl rfl rfl sz0 ?_
    first | refine ZE.move rfl rfl rfl rfl sz0 ?_ | refine ZE.skip rfl rfl rfl sz0 ?_
    refine ZE.bin rfl rfl rfl rfl rfl sz0 (fun W => int_sub (c := ((i - 1 : Nat) : Int)) (by rw [IntKind.wrap_i64]; omega) W _ _) ?_
    obtain ⟨x2, ad2, hx2, hm2, ix2, lx2⟩ := pi.r.at' (t := i - 1) (by rw [pi.len]; omega)
    refine ZE.index rfl rfl rfl rfl rfl sz0 (fun W => ix2 W) ?_; refine ZE.load rfl rfl rfl rfl sz1 (fun W hW => lx2 W (sb_of hW)) ?_; refine ZE.callFR [.agg (pgC x1).toArray, .agg (pgC x2).toArray] (fun v W => (∃ r, v = .int .i64 r) ∧ Below wi.heap.size wi W) enter70 rfl rfl rfl rfl (fun _ _ h => .inr h.2) (fun W hW => (cmpf_any x1 x2 W).mono fun e w' ⟨⟨r, g1⟩, g2⟩ => ⟨_, g1, ⟨r, rfl⟩, hW.trans (g2.mono hW.size)⟩) ?_
    rintro _ ⟨_, ⟨rc, rfl⟩, _⟩
    refine ZE.bin rfl rfl rfl rfl rfl sz0 (fun W => int_lt_d _ _ W _ _) ?_
    first | refine ZE.un rfl rfl rfl rfl sz0 (fun W => not_t _ W) ?_ | refine ZE.skip rfl rfl rfl sz0 ?_
    refine ZE.pick rfl rfl rfl rfl rfl sz0 ?_
    rintro wc ⟨_, ec⟩
    refine EW.on ?_; refine EW.cond_b rfl (fun h36 => ?_) (fun h36 => ?_)
    · refine EW.skip ?_; refine EW.on ?_; refine EW.block ?_; refine EW.region ?_; refine WL.move rfl rfl rfl ?_; refine WL.bin rfl rfl rfl rfl (int_add (c := ((i + 1 : Nat) : Int)) (by rw [IntKind.wrap_i64]; omega) _ _ _) ?_; refine WL.assign rfl rfl rfl ?_; refine WL.done ?_; refine pn_block ?_; refine EW.again (E := pkE v a b) (R := PiR w0 a b) (m := fun i => b - i) (x := i) (i + 1) [0, 1, 2, 3, 9, 10] rfl ⟨ei.trans (ec.mono ei.size), by omega, by omega⟩ (by show b - (i + 1) < b - i; omega)
    · refine EW.exit ?_; refine px_then ?_; refine px_then ?_; refine px_block ?_; refine EW.on ?_; refine EW.seq ?_; refine EW.seq ?_; refine EW.region ?_; refine WL.move rfl rfl rfl ?_; refine WL.move rfl rfl rfl ?_; refine WL.bin rfl rfl rfl rfl (int_eq_d _ _ _ _ _) ?_; refine WL.done ?_; refine EW.on ?_; refine EW.cond_d rfl (fun h41 => ?_) (fun h41 => ?_)
      · refine EW.seq ?_; refine EW.region ?_; refine WL.assign rfl rfl rfl ?_; refine WL.done ?_; refine EW.on ?_; refine EW.ret ?_; refine pr_then ?_; refine pr_block ?_; refine pr_then ?_; refine pr_then ?_; refine pr_block ?_; refine pr_then ?_
        exact EW.returns Tryz.results95 rfl ⟨_, rfl, ei.trans (ec.mono ei.size)⟩
      · refine EW.skip ?_; refine EW.on ?_; refine EW.seq ?_; refine EW.seq ?_; refine EW.region ?_; refine WL.move rfl rfl rfl ?_; refine WL.move rfl rfl rfl ?_; refine WL.bin rfl rfl rfl rfl (int_sub (c := ((b - a : Nat) : Int)) (by rw [IntKind.wrap_i64]; omega) _ _ _) ?_; refine WL.bin rfl rfl rfl rfl (int_lt_t (by omega) _ _ _) ?_; refine WL.done ?_; refine EW.on ?_; refine EW.cond_t rfl ?_; refine EW.seq ?_; refine EW.region ?_; refine WL.assign rfl rfl rfl ?_; refine WL.done ?_; refine EW.on ?_; refine EW.ret ?_; refine pr_then ?_; refine pr_block ?_; refine pr_then ?_; refine pr_then ?_; refine pr_block ?_; refine pr_then ?_
        exact EW.returns Tryz.results95 rfl ⟨_, rfl, ei.trans (ec.mono ei.size)⟩
  · refine EW.ordB [(0, 0, 0), (1, 0, 0), (2, 0, 0), (3, 0, 0), (4, 0, 0), (5, 0, 0), (6, 0, 0), (7, 0, 0), (8, 0, 1), (9, 0, 0), (10, 0, 0), (11, 0, 0), (12, 0, 0), (13, 0, 1), (14, 0, 0), (15, 0, 0), (16, 0, 0), (17, 0, 0)] (by kernel_rfl) rfl (by kernel_rfl) ?_; simp only [opsZ, List.getD_cons_zero, List.getD_cons_succ]; refine ZE.move rfl rfl rfl rfl sz0 ?_; refine ZE.move rfl rfl rfl rfl sz0 ?_; refine ZE.bin rfl rfl rfl rfl rfl sz0 (fun W => int_lt_f (by omega) W _ _) ?_; refine ZE.move rfl rfl rfl rfl sz0 ?_
    first | refine ZE.move rfl rfl rfl rfl sz0 ?_ | refine ZE.skip rfl rfl rfl sz0 ?_
    first | refine ZE.move rfl rfl rfl rfl sz0 ?_ | refine ZE.skip rfl rfl rfl sz0 ?_
    first | refine ZE.move rfl rfl rfl rfl sz0 ?_ | refine ZE.skip rfl rfl rfl sz0 ?_
    refine ZE.skip rfl rfl rfl sz0 ?_; refine ZE.skip rfl rfl rfl sz1 ?_
    first | refine ZE.move rfl rfl rfl rfl sz0 ?_ | refine ZE.skip rfl rfl rfl sz0 ?_
    first | refine ZE.move rfl rfl rfl rfl sz0 ?_ | refine ZE.skip rfl rfl rfl sz0 ?_
    refine ZE.skip rfl rfl rfl sz0 ?_; refine ZE.skip rfl rfl rfl sz0 ?_; refine ZE.skip rfl rfl rfl sz1 ?_; refine ZE.skip rfl rfl rfl sz0 ?_; refine ZE.skip rfl rfl rfl sz0 ?_; refine ZE.skip rfl rfl rfl sz0 ?_; refine ZE.pick rfl rfl rfl rfl rfl sz0 ?_
    rintro wc ec
    refine EW.on ?_; refine EW.cond_f rfl ?_; refine EW.exit ?_; refine px_then ?_; refine px_then ?_; refine px_block ?_; refine EW.on ?_; refine EW.seq ?_; refine EW.seq ?_; refine EW.region ?_; refine WL.move rfl rfl rfl ?_; refine WL.move rfl rfl rfl ?_; refine WL.bin rfl rfl rfl rfl (int_eq_d _ _ _ _ _) ?_; refine WL.done ?_; refine EW.on ?_; refine EW.cond_d rfl (fun h41 => ?_) (fun h41 => ?_)
    · refine EW.seq ?_; refine EW.region ?_; refine WL.assign rfl rfl rfl ?_; refine WL.done ?_; refine EW.on ?_; refine EW.ret ?_; refine pr_then ?_; refine pr_block ?_; refine pr_then ?_; refine pr_then ?_; refine pr_block ?_; refine pr_then ?_
      exact EW.returns Tryz.results95 rfl ⟨_, rfl, ei.trans (ec.mono ei.size)⟩
    · refine EW.skip ?_; refine EW.on ?_; refine EW.seq ?_; refine EW.seq ?_; refine EW.region ?_; refine WL.move rfl rfl rfl ?_; refine WL.move rfl rfl rfl ?_; refine WL.bin rfl rfl rfl rfl (int_sub (c := ((b - a : Nat) : Int)) (by rw [IntKind.wrap_i64]; omega) _ _ _) ?_; refine WL.bin rfl rfl rfl rfl (int_lt_t (by omega) _ _ _) ?_; refine WL.done ?_; refine EW.on ?_; refine EW.cond_t rfl ?_; refine EW.seq ?_; refine EW.region ?_; refine WL.assign rfl rfl rfl ?_; refine WL.done ?_; refine EW.on ?_; refine EW.ret ?_; refine pr_then ?_; refine pr_block ?_; refine pr_then ?_; refine pr_then ?_; refine pr_block ?_; refine pr_then ?_
      exact EW.returns Tryz.results95 rfl ⟨_, rfl, ei.trans (ec.mono ei.size)⟩
end Go.Proofs.YtmbgeojjklboeaaGreatDoor
