import Derived.Test.YtmbgeojjklboeaaGreatDoorZc
set_option linter.unusedVariables false
set_option linter.unusedSimpArgs false
namespace Go.Proofs.YtmbgeojjklboeaaGreatDoor
open Go.RowKit

def ptE (v : Value) (a : Nat) (p q : Nat) (x : Nat × Nat × List Pw) : List (Nat × Value) := [(0, v), (1, .int .i64 (a : Int)), (4, fnV), (p, .int .i64 (x.1 : Int)), (q, .int .i64 (x.2.1 : Int))]
structure PtR (w : World) (v : Value) (l : List Pw) (a b i0 j0 : Nat) (x : Nat × Nat × List Pw) (W : World) : Prop where
  p : Prm w v l W x.2.2
  i0 : i0 ≤ x.1
  j0 : x.2.1 ≤ j0
  lo : a + 1 ≤ x.1
  hi : x.2.1 < b
  aj : a ≤ x.2.1
  ib : x.1 ≤ b
set_option maxRecDepth 100000 in
set_option maxHeartbeats 1000000 in
theorem part_any {w : World} {v : Value} {l : List Pw} (h : Pws w v l) (hs : Apt v l) (hl : l.length ≤ 1000) (a b pv : Nat) (hab : a + 2 ≤ b) (hb : b ≤ l.length) (hp : a ≤ pv) (hp2 : pv < b) : Calls Tryz.prog 97 #[v, .int .i64 (a : Int), .int .i64 (b : Int), .int .i64 (pv : Int), fnV] w fun e w' => ∃ x t, e = .returned (.tuple #[.int .i64 ((x : Nat) : Int), .bool t]) ∧ a ≤ x ∧ x < b ∧ ∃ l', Prm w v l w' l' := by
  refine calls_of_args [v, .int .i64 (a : Int), .int .i64 (b : Int), .int .i64 (pv : Int), fnV] Tryz.func97 rfl 178 Tryz.ntmps97 (by show 5 ≤ 178; decide) ?_; refine EW.seq ?_; refine EW.region ?_; refine WL.assign rfl rfl rfl ?_; refine WL.assign rfl rfl rfl ?_; refine WL.done ?_; refine EW.on ?_; refine EW.seq ?_
  obtain ⟨li, pi⟩ : ∃ li, Prm w v l w li := ⟨l, Prm.refl h⟩
  refine EW.ordB [(0, 0, 0), (1, 0, 0), (2, 0, 0), (3, 0, 0), (4, 0, 0), (5, 0, 0), (6, 0, 0), (7, 0, 1), (8, 0, 0), (9, 0, 0), (10, 0, 0), (11, 0, 1), (12, 0, 0), (13, 1, 0), (14, 0, 0), (15, 1, 0)] (by kernel_rfl) rfl (by kernel_rfl) ?_; simp only [opsZ, List.getD_cons_zero, List.getD_cons_succ]; refine ZE.move rfl rfl rfl rfl sz0 ?_; refine ZE.move rfl rfl rfl rfl sz0 ?_; refine ZE.move rfl rfl rfl rfl sz0 ?_; refine ZE.move rfl rfl rfl rfl sz0 ?_; refine ZE.move rfl rfl rfl rfl sz0 ?_; refine ZE.move rfl rfl rfl rfl sz0 ?_
  obtain ⟨x1, ad1, hx1, hm1, ix1, lx1⟩ := pi.r.at' (t := pv) (by rw [pi.len]; omega)
  refine ZE.index rfl rfl rfl rfl rfl sz0 (fun W => ix1 W) ?_; refine ZE.load rfl rfl rfl rfl sz1 (fun W hW => lx1 W (sb_of hW)) ?_; refine ZE.move rfl rfl rfl rfl sz0 ?_; refine ZE.move rfl rfl rfl rfl sz0 ?_
  obtain ⟨x2, ad2, hx2, hm2, ix2, lx2⟩ := pi.r.at' (t := a) (by rw [pi.len]; omega)
  refine ZE.index rfl rfl rfl rfl rfl sz0 (fun W => ix2 W) ?_; refine ZE.load rfl rfl rfl rfl sz1 (fun W hW => lx2 W (sb_of hW)) ?_; refine ZE.index rfl rfl rfl rfl rfl sz0 (fun W => ix2 W) ?_
  refine ZE.store (fun W => Pws W v (li.set (a) x1) ∧ Fx (fun k => v.ownBlock = some k) w W) rfl rfl rfl (fun _ _ => .inl rfl) (fun W hW => by
      obtain ⟨w', g1, g2, g3⟩ := pi.r.swap1 (pi.apt hs) (I := a) (by rw [pi.len]; omega) hm1 ix2 W hW
      exact ⟨w', g1, g2, g3⟩) ?_
  refine ZE.index rfl rfl rfl rfl rfl sz0 (fun W => ix1 W) ?_; refine ZE.store (fun W => Prm w v li W ((li.set (a) x1).set (pv) x2)) rfl rfl rfl (fun _ _ => .inl rfl) (fun W hW => pi.r.swap2 (pi.apt hs) hx2 hx1 ix1 W hW.1 hW.2) ?_
  rintro ws ps_
  replace pi := pi.trans ps_
  refine EW.on ?_; refine EW.seq ?_; refine EW.region ?_; refine WL.move rfl rfl rfl ?_; refine WL.bin rfl rfl rfl rfl (int_add (c := ((a + 1 : Nat) : Int)) (by rw [IntKind.wrap_i64]; omega) _ _ _) ?_; refine WL.move rfl rfl rfl ?_; refine WL.bin rfl rfl rfl rfl (int_sub (c := ((b - 1 : Nat) : Int)) (by rw [IntKind.wrap_i64]; omega) _ _ _) ?_; refine WL.assign rfl rfl rfl ?_; refine WL.assign rfl rfl rfl ?_; refine WL.done ?_; refine EW.on ?_; refine EW.seq ?_; refine EW.block ?_; refine EW.loop (ptE v a 12 13) (PtR w v l a b (a + 1) (b - 1)) (fun x => x.2.1 + 1 - x.1) (a + 1, b - 1, _) [0, 1, 4, 12, 13] rfl ⟨pi, by simp only; omega, by simp only; omega, by simp only; omega, by simp only; omega, by simp only; omega, by simp only; omega⟩ ?_
  clear pi
  rintro ⟨i, j, li⟩ wi ⟨pi, hi0, hj0, hlo, hhi, haj, hib⟩
  simp only at pi hi0 hj0 hlo hhi haj hib
  show EW _ _ _ _ [(0, v), (1, .int .i64 (a : Int)), (4, fnV), (12, .int .i64 (i : Int)), (13, .int .i64 (j : Int))] _
  refine EW.seq ?_; refine EW.seq ?_
  by_cases hij : i ≤ j
  · refine EW.ordB [(0, 0, 0), (1, 0, 0), (2, 0, 0), (3, 0, 0), (4, 0, 0), (5, 0, 0), (6, 0, 0), (7, 0, 0), (8, 0, 1), (9, 0, 0), (10, 0, 0), (11, 0, 0), (12, 0, 1), (13, 1, 1), (14, 0, 0), (15, 0, 0)] (by kernel_rfl) rfl (by kernel_rfl) ?_; simp only [opsZ, List.getD_cons_zero, List.getD_cons_succ]; refine ZE.move rfl rfl rfl rfl sz0 ?_; refine ZE.move rfl rfl rfl rfl sz0 ?_; refine ZE.bin rfl rfl rfl rfl rfl sz0 (fun W => int_le_t (by omega) W _ _) ?_; refine ZE.move rfl rfl rfl rfl sz0 ?_
    first | refine ZE.move rfl rfl rfl rfl sz0 ?_ | refine ZE.skip rfl rfl rfl sz0 ?_
    first | refine ZE.move rfl rfl rfl rfl sz0 ?_ | refine ZE.skip rfl rfl rfl sz0 ?_
    first | refine ZE.move rfl rfl rfl rfl sz0 ?_ | refine ZE.skip rfl rfl rfl sz0 ?_
    obtain ⟨x1, ad1, hx1, hm1, ix1, lx1⟩ := pi.r.at' (t := i) (by rw [pi.len]; omega)
    refine ZE.index rfl rfl rfl rfl rfl sz0 (fun W => ix1 W) ?_; refine ZE.load rfl rfl rfl rfl sz1 (fun W hW => lx1 W (sb_of hW)) ?_
    first | refine ZE.move rfl rfl rfl rfl sz0 ?_ | refine ZE.skip rfl rfl rfl sz0 ?_
    first | refine ZE.move rfl rfl rfl rfl sz0 ?_ | refine ZE.skip rfl rfl rfl sz0 ?_
    obtain ⟨x2, ad2, hx2, hm2, ix2, lx2⟩ := pi.r.at' (t := a) (by rw [pi.len]; omega)
    refine ZE.index rfl rfl rfl rfl rfl sz0 (fun W => ix2 W) ?_; refine ZE.load rfl rfl rfl rfl sz1 (fun W hW => lx2 W (sb_of hW)) ?_; refine ZE.callFR [.agg (pgC x1).toArray, .agg (pgC x2).toArray] (fun v W => (∃ r, v = .int .i64 r) ∧ Below wi.heap.size wi W) enter70 rfl rfl rfl rfl (fun _ _ h => .inr h.2) (fun W hW => (cmpf_any x1 x2 W).mono fun e w' ⟨⟨r, g1⟩, g2⟩ => ⟨_, g1, ⟨r, rfl⟩, hW.trans (g2.mono hW.size)⟩) ?_
    rintro _ ⟨_, ⟨rc, rfl⟩, _⟩
    refine ZE.bin rfl rfl rfl rfl rfl sz0 (fun W => int_lt_d _ _ W _ _) ?_; refine ZE.pick rfl rfl rfl rfl rfl sz0 ?_
    rintro wc ⟨_, ec⟩
    replace pi := pi.below ec
    refine EW.on ?_; refine EW.cond_d rfl (fun h47 => ?_) (fun h47 => ?_)
    · refine EW.skip ?_; refine EW.on ?_; refine EW.block ?_; refine EW.region ?_; refine WL.move rfl rfl rfl ?_; refine WL.bin rfl rfl rfl rfl (int_add (c := ((i + 1 : Nat) : Int)) (by rw [IntKind.wrap_i64]; omega) _ _ _) ?_; refine WL.assign rfl rfl rfl ?_; refine WL.done ?_; refine pn_block ?_; refine EW.again (E := ptE v a 12 13) (R := PtR w v l a b (a + 1) (b - 1)) (m := fun x => x.2.1 + 1 - x.1) (x := (i, j, li)) (i + 1, j, li) [0, 1, 4, 12, 13] rfl ⟨pi, by simp only; omega, by simp only; omega, by simp only; omega, by simp only; omega, by simp only; omega, by simp only; omega⟩ (by simp only; omega)
    · refine EW.exit ?_; refine px_then ?_; refine px_then ?_; refine px_block ?_; refine EW.on ?_; refine EW.seq ?_; refine EW.block ?_; refine EW.loop (ptE v a 12 13) (PtR w v l a b (a + 1) (b - 1)) (fun x => x.2.1 + 1 - x.1) (i, j, _) [0, 1, 4, 12, 13] rfl ⟨pi, by simp only; omega, by simp only; omega, by simp only; omega, by simp only; omega, by simp only; omega, by simp only; omega⟩ ?_
      clear pi
      rintro ⟨i, j, li⟩ wi ⟨pi, hi0, hj0, hlo, hhi, haj, hib⟩
      simp only at pi hi0 hj0 hlo hhi haj hib
      show EW _ _ _ _ [(0, v), (1, .int .i64 (a : Int)), (4, fnV), (12, .int .i64 (i : Int)), (13, .int .i64 (j : Int))] _
      refine EW.seq ?_; refine EW.seq ?_
      by_cases hij : i ≤ j
      · refine EW.ordB [(0, 0, 0), (1, 0, 0), (2, 0, 0), (3, 0, 0), (4, 0, 0), (5, 0, 0), (6, 0, 0), (7, 0, 0), (8, 0, 1), (9, 0, 0), (10, 0, 0), (11, 0, 0), (12, 0, 1), (13, 1, 1), (14, 0, 0), (15, 0, 0), (16, 0, 0)] (by kernel_rfl) rfl (by kernel_rfl) ?_; simp only [opsZ, List.getD_cons_zero, List.getD_cons_succ]; refine ZE.move rfl rfl rfl rfl sz0 ?_; refine ZE.move rfl rfl rfl rfl sz0 ?_; refine ZE.bin rfl rfl rfl rfl rfl sz0 (fun W => int_le_t (by omega) W _ _) ?_; refine ZE.move rfl rfl rfl rfl sz0 ?_
        first | refine ZE.move rfl rfl rfl rfl sz0 ?_ | refine ZE.skip rfl rfl rfl sz0 ?_
        first | refine ZE.move rfl rfl rfl rfl sz0 ?_ | refine ZE.skip rfl rfl rfl sz0 ?_
        first | refine ZE.move rfl rfl rfl rfl sz0 ?_ | refine ZE.skip rfl rfl rfl sz0 ?_
        obtain ⟨x1, ad1, hx1, hm1, ix1, lx1⟩ := pi.r.at' (t := j) (by rw [pi.len]; omega)
        refine ZE.index rfl rfl rfl rfl rfl sz0 (fun W => ix1 W) ?_; refine ZE.load rfl rfl rfl rfl sz1 (fun W hW => lx1 W (sb_of hW)) ?_
        first | refine ZE.move rfl rfl rfl rfl sz0 ?_ | refine ZE.skip rfl rfl rfl sz0 ?_
        first | refine ZE.move rfl rfl rfl rfl sz0 ?_ | refine ZE.skip rfl rfl rfl sz0 ?_
        obtain ⟨x2, ad2, hx2, hm2, ix2, lx2⟩ := pi.r.at' (t := a) (by rw [pi.len]; omega)
        refine ZE.index rfl rfl rfl rfl rfl sz0 (fun W => ix2 W) ?_; refine ZE.load rfl rfl rfl rfl sz1 (fun W hW => lx2 W (sb_of hW)) ?_; refine ZE.callFR [.agg (pgC x1).toArray, .agg (pgC x2).toArray] (fun v W => (∃ r, v = .int .i64 r) ∧ Below wi.heap.size wi W) enter70 rfl rfl rfl rfl (fun _ _ h => .inr h.2) (fun W hW => (cmpf_any x1 x2 W).mono fun e w' ⟨⟨r, g1⟩, g2⟩ => ⟨_, g1, ⟨r, rfl⟩, hW.trans (g2.mono hW.size)⟩) ?_
        rintro _ ⟨_, ⟨rc, rfl⟩, _⟩
        refine ZE.bin rfl rfl rfl rfl rfl sz0 (fun W => int_lt_d _ _ W _ _) ?_
        first | refine ZE.un rfl rfl rfl rfl sz0 (fun W => not_t _ W) ?_ | refine ZE.skip rfl rfl rfl sz0 ?_
        refine ZE.pick rfl rfl rfl rfl rfl sz0 ?_
        rintro wc ⟨_, ec⟩
        replace pi := pi.below ec
        refine EW.on ?_; refine EW.cond_b rfl (fun h66 => ?_) (fun h66 => ?_)
        · refine EW.skip ?_; refine EW.on ?_; refine EW.block ?_; refine EW.region ?_; refine WL.move rfl rfl rfl ?_; refine WL.bin rfl rfl rfl rfl (int_sub (c := ((j - 1 : Nat) : Int)) (by rw [IntKind.wrap_i64]; omega) _ _ _) ?_; refine WL.assign rfl rfl rfl ?_; refine WL.done ?_; refine pn_block ?_; refine EW.again (E := ptE v a 12 13) (R := PtR w v l a b (a + 1) (b - 1)) (m := fun x => x.2.1 + 1 - x.1) (x := (i, j, li)) (i, j - 1, li) [0, 1, 4, 12, 13] rfl ⟨pi, by simp only; omega, by simp only; omega, by simp only; omega, by simp only; omega, by simp only; omega, by simp only; omega⟩ (by simp only; omega)
        · refine EW.exit ?_; refine px_then ?_; refine px_then ?_; refine px_block ?_; refine EW.on ?_; refine EW.seq ?_; refine EW.seq ?_; refine EW.region ?_; refine WL.move rfl rfl rfl ?_; refine WL.move rfl rfl rfl ?_; refine WL.bin rfl rfl rfl rfl (int_gt_d _ _ _ _ _) ?_; refine WL.done ?_; refine EW.on ?_; refine EW.cond_d rfl (fun h71 => ?_) (fun h71 => ?_)
          · refine EW.seq ?_; refine EW.ordB [(0, 0, 0), (1, 0, 0), (2, 0, 0), (3, 0, 0), (4, 0, 0), (5, 0, 0), (6, 0, 0), (7, 0, 1), (8, 0, 0), (9, 0, 0), (10, 0, 0), (11, 0, 1), (12, 0, 0), (13, 1, 0), (14, 0, 0), (15, 1, 0)] (by kernel_rfl) rfl (by kernel_rfl) ?_; simp only [opsZ, List.getD_cons_zero, List.getD_cons_succ]; refine ZE.move rfl rfl rfl rfl sz0 ?_; refine ZE.move rfl rfl rfl rfl sz0 ?_; refine ZE.move rfl rfl rfl rfl sz0 ?_; refine ZE.move rfl rfl rfl rfl sz0 ?_; refine ZE.move rfl rfl rfl rfl sz0 ?_; refine ZE.move rfl rfl rfl rfl sz0 ?_
            obtain ⟨x1, ad1, hx1, hm1, ix1, lx1⟩ := pi.r.at' (t := a) (by rw [pi.len]; omega)
            refine ZE.index rfl rfl rfl rfl rfl sz0 (fun W => ix1 W) ?_; refine ZE.load rfl rfl rfl rfl sz1 (fun W hW => lx1 W (sb_of hW)) ?_; refine ZE.move rfl rfl rfl rfl sz0 ?_; refine ZE.move rfl rfl rfl rfl sz0 ?_
            obtain ⟨x2, ad2, hx2, hm2, ix2, lx2⟩ := pi.r.at' (t := j) (by rw [pi.len]; omega)
            refine ZE.index rfl rfl rfl rfl rfl sz0 (fun W => ix2 W) ?_; refine ZE.load rfl rfl rfl rfl sz1 (fun W hW => lx2 W (sb_of hW)) ?_; refine ZE.index rfl rfl rfl rfl rfl sz0 (fun W => ix2 W) ?_
            refine ZE.store (fun W => Pws W v (li.set (j) x1) ∧ Fx (fun k => v.ownBlock = some k) wc W) rfl rfl rfl (fun _ _ => .inl rfl) (fun W hW => by
      obtain ⟨w', g1, g2, g3⟩ := pi.r.swap1 (pi.apt hs) (I := j) (by rw [pi.len]; omega) hm1 ix2 W hW
      exact ⟨w', g1, g2, g3⟩) ?_
            refine ZE.index rfl rfl rfl rfl rfl sz0 (fun W => ix1 W) ?_; refine ZE.store (fun W => Prm wc v li W ((li.set (j) x1).set (a) x2)) rfl rfl rfl (fun _ _ => .inl rfl) (fun W hW => pi.r.swap2 (pi.apt hs) hx2 hx1 ix1 W hW.1 hW.2) ?_
            rintro ws ps_
            replace pi := pi.trans ps_
            refine EW.on ?_; refine EW.seq ?_; refine EW.region ?_; refine WL.move rfl rfl rfl ?_; refine WL.assign rfl rfl rfl ?_; refine WL.assign rfl rfl rfl ?_; refine WL.done ?_; refine EW.on ?_; refine EW.ret ?_; refine pr_then ?_
            exact EW.returns2 Tryz.results97 rfl rfl ⟨j, _, rfl, by omega, by omega, _, pi⟩
          · refine EW.skip ?_; refine EW.on ?_; refine EW.seq ?_; refine EW.ordB [(0, 0, 0), (1, 0, 0), (2, 0, 0), (3, 0, 0), (4, 0, 0), (5, 0, 0), (6, 0, 0), (7, 0, 1), (8, 0, 0), (9, 0, 0), (10, 0, 0), (11, 0, 1), (12, 0, 0), (13, 1, 0), (14, 0, 0), (15, 1, 0)] (by kernel_rfl) rfl (by kernel_rfl) ?_; simp only [opsZ, List.getD_cons_zero, List.getD_cons_succ]; refine ZE.move rfl rfl rfl rfl sz0 ?_; refine ZE.move rfl rfl rfl rfl sz0 ?_; refine ZE.move rfl rfl rfl rfl sz0 ?_; refine ZE.move rfl rfl rfl rfl sz0 ?_; refine ZE.move rfl rfl rfl rfl sz0 ?_; refine ZE.move rfl rfl rfl rfl sz0 ?_
            obtain ⟨x1, ad1, hx1, hm1, ix1, lx1⟩ := pi.r.at' (t := j) (by rw [pi.len]; omega)
            refine ZE.index rfl rfl rfl rfl rfl sz0 (fun W => ix1 W) ?_; refine ZE.load rfl rfl rfl rfl sz1 (fun W hW => lx1 W (sb_of hW)) ?_; refine ZE.move rfl rfl rfl rfl sz0 ?_; refine ZE.move rfl rfl rfl rfl sz0 ?_
            obtain ⟨x2, ad2, hx2, hm2, ix2, lx2⟩ := pi.r.at' (t := i) (by rw [pi.len]; omega)
            refine ZE.index rfl rfl rfl rfl rfl sz0 (fun W => ix2 W) ?_; refine ZE.load rfl rfl rfl rfl sz1 (fun W hW => lx2 W (sb_of hW)) ?_; refine ZE.index rfl rfl rfl rfl rfl sz0 (fun W => ix2 W) ?_
            refine ZE.store (fun W => Pws W v (li.set (i) x1) ∧ Fx (fun k => v.ownBlock = some k) wc W) rfl rfl rfl (fun _ _ => .inl rfl) (fun W hW => by
      obtain ⟨w', g1, g2, g3⟩ := pi.r.swap1 (pi.apt hs) (I := i) (by rw [pi.len]; omega) hm1 ix2 W hW
      exact ⟨w', g1, g2, g3⟩) ?_
            refine ZE.index rfl rfl rfl rfl rfl sz0 (fun W => ix1 W) ?_; refine ZE.store (fun W => Prm wc v li W ((li.set (i) x1).set (j) x2)) rfl rfl rfl (fun _ _ => .inl rfl) (fun W hW => pi.r.swap2 (pi.apt hs) hx2 hx1 ix1 W hW.1 hW.2) ?_
            rintro ws ps_
            replace pi := pi.trans ps_
            refine EW.on ?_; refine EW.seq ?_; refine EW.region ?_; refine WL.move rfl rfl rfl ?_; refine WL.bin rfl rfl rfl rfl (int_add (c := ((i + 1 : Nat) : Int)) (by rw [IntKind.wrap_i64]; omega) _ _ _) ?_; refine WL.assign rfl rfl rfl ?_; refine WL.done ?_; refine EW.on ?_; refine EW.seq ?_; refine EW.region ?_; refine WL.move rfl rfl rfl ?_; refine WL.bin rfl rfl rfl rfl (int_sub (c := ((j - 1 : Nat) : Int)) (by rw [IntKind.wrap_i64]; omega) _ _ _) ?_; refine WL.assign rfl rfl rfl ?_; refine WL.done ?_; refine EW.on ?_; refine EW.seq ?_; refine EW.block ?_; refine EW.loop (ptE v a 12 13) (PtR w v l a b (a + 1) (b - 1)) (fun x => x.2.1 + 1 - x.1) (i + 1, j - 1, _) [0, 1, 4, 12, 13] rfl ⟨pi, by simp only; omega, by simp only; omega, by simp only; omega, by simp only; omega, by simp only; omega, by simp only; omega⟩ ?_
            clear pi
            rintro ⟨i1, j1, l1⟩ wi ⟨pi, hi0, hj0, hlo, hhi, haj, hib⟩
            simp only at pi hi0 hj0 hlo hhi haj hib
            show EW _ _ _ _ [(0, v), (1, .int .i64 (a : Int)), (4, fnV), (12, .int .i64 (i1 : Int)), (13, .int .i64 (j1 : Int))] _
            refine EW.block ?_; refine EW.seq ?_; refine EW.block ?_; refine EW.loop (ptE v a 12 13) (PtR w v l a b (i1) (j1)) (fun x => x.2.1 + 1 - x.1) (i1, j1, _) [0, 1, 4, 12, 13] rfl ⟨pi, by simp only; omega, by simp only; omega, by simp only; omega, by simp only; omega, by simp only; omega, by simp only; omega⟩ ?_
            clear pi
            rintro ⟨i, j, li⟩ wi ⟨pi, hi0, hj0, hlo, hhi, haj, hib⟩
            simp only at pi hi0 hj0 hlo hhi haj hib
            show EW _ _ _ _ [(0, v), (1, .int .i64 (a : Int)), (4, fnV), (12, .int .i64 (i : Int)), (13, .int .i64 (j : Int))] _
            refine EW.seq ?_; refine EW.seq ?_
            by_cases hij : i ≤ j
            · refine EW.ordB [(0, 0, 0), (1, 0, 0), (2, 0, 0), (3, 0, 0), (4, 0, 0), (5, 0, 0), (6, 0, 0), (7, 0, 0), (8, 0, 1), (9, 0, 0), (10, 0, 0), (11, 0, 0), (12, 0, 1), (13, 1, 1), (14, 0, 0), (15, 0, 0)] (by kernel_rfl) rfl (by kernel_rfl) ?_; simp only [opsZ, List.getD_cons_zero, List.getD_cons_succ]; refine ZE.move rfl rfl rfl rfl sz0 ?_; refine ZE.move rfl rfl rfl rfl sz0 ?_; refine ZE.bin rfl rfl rfl rfl rfl sz0 (fun W => int_le_t (by omega) W _ _) ?_; refine ZE.move rfl rfl rfl rfl sz0 ?_
              first | refine ZE.move rfl rfl rfl rfl sz0 ?_ | refine ZE.skip rfl rfl rfl sz0 ?_
              first | refine ZE.move rfl rfl rfl rfl sz0 ?_ | refine ZE.skip rfl rfl rfl sz0 ?_
              first | refine ZE.move rfl rfl rfl rfl sz0 ?_ | refine ZE.skip rfl rfl rfl sz0 ?_
              obtain ⟨x1, ad1, hx1, hm1, ix1, lx1⟩ := pi.r.at' (t := i) (by rw [pi.len]; omega)
              refine ZE.index rfl rfl rfl rfl rfl sz0 (fun W => ix1 W) ?_; refine ZE.load rfl rfl rfl rfl sz1 (fun W hW => lx1 W (sb_of hW)) ?_
              first | refine ZE.move rfl rfl rfl rfl sz0 ?_ | refine ZE.skip rfl rfl rfl sz0 ?_
              first | refine ZE.move rfl rfl rfl rfl sz0 ?_ | refine ZE.skip rfl rfl rfl sz0 ?_
              obtain ⟨x2, ad2, hx2, hm2, ix2, lx2⟩ := pi.r.at' (t := a) (by rw [pi.len]; omega)
              refine ZE.index rfl rfl rfl rfl rfl sz0 (fun W => ix2 W) ?_; refine ZE.load rfl rfl rfl rfl sz1 (fun W hW => lx2 W (sb_of hW)) ?_; refine ZE.callFR [.agg (pgC x1).toArray, .agg (pgC x2).toArray] (fun v W => (∃ r, v = .int .i64 r) ∧ Below wi.heap.size wi W) enter70 rfl rfl rfl rfl (fun _ _ h => .inr h.2) (fun W hW => (cmpf_any x1 x2 W).mono fun e w' ⟨⟨r, g1⟩, g2⟩ => ⟨_, g1, ⟨r, rfl⟩, hW.trans (g2.mono hW.size)⟩) ?_
              rintro _ ⟨_, ⟨rc, rfl⟩, _⟩
              refine ZE.bin rfl rfl rfl rfl rfl sz0 (fun W => int_lt_d _ _ W _ _) ?_; refine ZE.pick rfl rfl rfl rfl rfl sz0 ?_
              rintro wc ⟨_, ec⟩
              replace pi := pi.below ec
              refine EW.on ?_; refine EW.cond_d rfl (fun h120 => ?_) (fun h120 => ?_)
              · refine EW.skip ?_; refine EW.on ?_; refine EW.block ?_; refine EW.region ?_; refine WL.move rfl rfl rfl ?_; refine WL.bin rfl rfl rfl rfl (int_add (c := ((i + 1 : Nat) : Int)) (by rw [IntKind.wrap_i64]; omega) _ _ _) ?_; refine WL.assign rfl rfl rfl ?_; refine WL.done ?_; refine pn_block ?_; refine EW.again (E := ptE v a 12 13) (R := PtR w v l a b (i1) (j1)) (m := fun x => x.2.1 + 1 - x.1) (x := (i, j, li)) (i + 1, j, li) [0, 1, 4, 12, 13] rfl ⟨pi, by simp only; omega, by simp only; omega, by simp only; omega, by simp only; omega, by simp only; omega, by simp only; omega⟩ (by simp only; omega)
              · refine EW.exit ?_; refine px_then ?_; refine px_then ?_; refine px_block ?_; refine EW.on ?_; refine EW.seq ?_; refine EW.block ?_; refine EW.loop (ptE v a 12 13) (PtR w v l a b (i1) (j1)) (fun x => x.2.1 + 1 - x.1) (i, j, _) [0, 1, 4, 12, 13] rfl ⟨pi, by simp only; omega, by simp only; omega, by simp only; omega, by simp only; omega, by simp only; omega, by simp only; omega⟩ ?_
                clear pi
                rintro ⟨i, j, li⟩ wi ⟨pi, hi0, hj0, hlo, hhi, haj, hib⟩
                simp only at pi hi0 hj0 hlo hhi haj hib
                show EW _ _ _ _ [(0, v), (1, .int .i64 (a : Int)), (4, fnV), (12, .int .i64 (i : Int)), (13, .int .i64 (j : Int))] _
                refine EW.seq ?_; refine EW.seq ?_
                by_cases hij : i ≤ j
                · refine EW.ordB [(0, 0, 0), (1, 0, 0), (2, 0, 0), (3, 0, 0), (4, 0, 0), (5, 0, 0), (6, 0, 0), (7, 0, 0), (8, 0, 1), (9, 0, 0), (10, 0, 0), (11, 0, 0), (12, 0, 1), (13, 1, 1), (14, 0, 0), (15, 0, 0), (16, 0, 0)] (by kernel_rfl) rfl (by kernel_rfl) ?_; simp only [opsZ, List.getD_cons_zero, List.getD_cons_succ]; refine ZE.move rfl rfl rfl rfl sz0 ?_; refine ZE.move rfl rfl rfl rfl sz0 ?_; refine ZE.bin rfl rfl rfl rfl rfl sz0 (fun W => int_le_t (by omega) W _ _) ?_; refine ZE.move rfl rfl rfl rfl sz0 ?_
                  first | refine ZE.move rfl rfl rfl rfl sz0 ?_ | refine ZE.skip rfl rfl rfl sz0 ?_
                  first | refine ZE.move rfl rfl rfl rfl sz0 ?_ | refine ZE.skip rfl rfl rfl sz0 ?_
                  first | refine ZE.move rfl rfl rfl rfl sz0 ?_ | refine ZE.skip rfl rfl rfl sz0 ?_
                  obtain ⟨x1, ad1, hx1, hm1, ix1, lx1⟩ := pi.r.at' (t := j) (by rw [pi.len]; omega)
                  refine ZE.index rfl rfl rfl rfl rfl sz0 (fun W => ix1 W) ?_; refine ZE.load rfl rfl rfl rfl sz1 (fun W hW => lx1 W (sb_of hW)) ?_
                  first | refine ZE.move rfl rfl rfl rfl sz0 ?_ | refine ZE.skip rfl rfl rfl sz0 ?_
                  first | refine ZE.move rfl rfl rfl rfl sz0 ?_ | refine ZE.skip rfl rfl rfl sz0 ?_
                  obtain ⟨x2, ad2, hx2, hm2, ix2, lx2⟩ := pi.r.at' (t := a) (by rw [pi.len]; omega)
                  refine ZE.index rfl rfl rfl rfl rfl sz0 (fun W => ix2 W) ?_; refine ZE.load rfl rfl rfl rfl sz1 (fun W hW => lx2 W (sb_of hW)) ?_; refine ZE.callFR [.agg (pgC x1).toArray, .agg (pgC x2).toArray] (fun v W => (∃ r, v = .int .i64 r) ∧ Below wi.heap.size wi W) enter70 rfl rfl rfl rfl (fun _ _ h => .inr h.2) (fun W hW => (cmpf_any x1 x2 W).mono fun e w' ⟨⟨r, g1⟩, g2⟩ => ⟨_, g1, ⟨r, rfl⟩, hW.trans (g2.mono hW.size)⟩) ?_
                  rintro _ ⟨_, ⟨rc, rfl⟩, _⟩
                  refine ZE.bin rfl rfl rfl rfl rfl sz0 (fun W => int_lt_d _ _ W _ _) ?_
                  first | refine ZE.un rfl rfl rfl rfl sz0 (fun W => not_t _ W) ?_ | refine ZE.skip rfl rfl rfl sz0 ?_
                  refine ZE.pick rfl rfl rfl rfl rfl sz0 ?_
                  rintro wc ⟨_, ec⟩
                  replace pi := pi.below ec
                  refine EW.on ?_; refine EW.cond_b rfl (fun h139 => ?_) (fun h139 => ?_)
                  · refine EW.skip ?_; refine EW.on ?_; refine EW.block ?_; refine EW.region ?_; refine WL.move rfl rfl rfl ?_; refine WL.bin rfl rfl rfl rfl (int_sub (c := ((j - 1 : Nat) : Int)) (by rw [IntKind.wrap_i64]; omega) _ _ _) ?_; refine WL.assign rfl rfl rfl ?_; refine WL.done ?_; refine pn_block ?_; refine EW.again (E := ptE v a 12 13) (R := PtR w v l a b (i1) (j1)) (m := fun x => x.2.1 + 1 - x.1) (x := (i, j, li)) (i, j - 1, li) [0, 1, 4, 12, 13] rfl ⟨pi, by simp only; omega, by simp only; omega, by simp only; omega, by simp only; omega, by simp only; omega, by simp only; omega⟩ (by simp only; omega)
                  · refine EW.exit ?_; refine px_then ?_; refine px_then ?_; refine px_block ?_; refine EW.on ?_; refine EW.seq ?_; refine EW.seq ?_; refine EW.region ?_; refine WL.move rfl rfl rfl ?_; refine WL.move rfl rfl rfl ?_; refine WL.bin rfl rfl rfl rfl (int_gt_d _ _ _ _ _) ?_; refine WL.done ?_; refine EW.on ?_; refine EW.cond_d rfl (fun h144 => ?_) (fun h144 => ?_)
                    · refine EW.exit ?_; refine px_then ?_; refine px_other (by decide) ?_; refine px_then ?_; refine px_block ?_; refine EW.on ?_; refine EW.seq ?_; refine EW.ordB [(0, 0, 0), (1, 0, 0), (2, 0, 0), (3, 0, 0), (4, 0, 0), (5, 0, 0), (6, 0, 0), (7, 0, 1), (8, 0, 0), (9, 0, 0), (10, 0, 0), (11, 0, 1), (12, 0, 0), (13, 1, 0), (14, 0, 0), (15, 1, 0)] (by kernel_rfl) rfl (by kernel_rfl) ?_; simp only [opsZ, List.getD_cons_zero, List.getD_cons_succ]; refine ZE.move rfl rfl rfl rfl sz0 ?_; refine ZE.move rfl rfl rfl rfl sz0 ?_; refine ZE.move rfl rfl rfl rfl sz0 ?_; refine ZE.move rfl rfl rfl rfl sz0 ?_; refine ZE.move rfl rfl rfl rfl sz0 ?_; refine ZE.move rfl rfl rfl rfl sz0 ?_
                      obtain ⟨x1, ad1, hx1, hm1, ix1, lx1⟩ := pi.r.at' (t := a) (by rw [pi.len]; omega)
                      refine ZE.index rfl rfl rfl rfl rfl sz0 (fun W => ix1 W) ?_; refine ZE.load rfl rfl rfl rfl sz1 (fun W hW => lx1 W (sb_of hW)) ?_; refine ZE.move rfl rfl rfl rfl sz0 ?_; refine ZE.move rfl rfl rfl rfl sz0 ?_
                      obtain ⟨x2, ad2, hx2, hm2, ix2, lx2⟩ := pi.r.at' (t := j) (by rw [pi.len]; omega)
                      refine ZE.index rfl rfl rfl rfl rfl sz0 (fun W => ix2 W) ?_; refine ZE.load rfl rfl rfl rfl sz1 (fun W hW => lx2 W (sb_of hW)) ?_; refine ZE.index rfl rfl rfl rfl rfl sz0 (fun W => ix2 W) ?_
                      refine ZE.store (fun W => Pws W v (li.set (j) x1) ∧ Fx (fun k => v.ownBlock = some k) wc W) rfl rfl rfl (fun _ _ => .inl rfl) (fun W hW => by
      obtain ⟨w', g1, g2, g3⟩ := pi.r.swap1 (pi.apt hs) (I := j) (by rw [pi.len]; omega) hm1 ix2 W hW
      exact ⟨w', g1, g2, g3⟩) ?_
                      refine ZE.index rfl rfl rfl rfl rfl sz0 (fun W => ix1 W) ?_; refine ZE.store (fun W => Prm wc v li W ((li.set (j) x1).set (a) x2)) rfl rfl rfl (fun _ _ => .inl rfl) (fun W hW => pi.r.swap2 (pi.apt hs) hx2 hx1 ix1 W hW.1 hW.2) ?_
                      rintro ws ps_
                      replace pi := pi.trans ps_
                      refine EW.on ?_; refine EW.seq ?_; refine EW.region ?_; refine WL.move rfl rfl rfl ?_; refine WL.assign rfl rfl rfl ?_; refine WL.assign rfl rfl rfl ?_; refine WL.done ?_; refine EW.on ?_; refine EW.ret ?_
                      exact EW.returns2 Tryz.results97 rfl rfl ⟨j, _, rfl, by omega, by omega, _, pi⟩
                    · refine EW.skip ?_; refine EW.on ?_; refine EW.seq ?_; refine EW.ordB [(0, 0, 0), (1, 0, 0), (2, 0, 0), (3, 0, 0), (4, 0, 0), (5, 0, 0), (6, 0, 0), (7, 0, 1), (8, 0, 0), (9, 0, 0), (10, 0, 0), (11, 0, 1), (12, 0, 0), (13, 1, 0), (14, 0, 0), (15, 1, 0)] (by kernel_rfl) rfl (by kernel_rfl) ?_; simp only [opsZ, List.getD_cons_zero, List.getD_cons_succ]; refine ZE.move rfl rfl rfl rfl sz0 ?_; refine ZE.move rfl rfl rfl rfl sz0 ?_; refine ZE.move rfl rfl rfl rfl sz0 ?_; refine ZE.move rfl rfl rfl rfl sz0 ?_; refine ZE.move rfl rfl rfl rfl sz0 ?_; refine ZE.move rfl rfl rfl rfl sz0 ?_
                      obtain ⟨x1, ad1, hx1, hm1, ix1, lx1⟩ := pi.r.at' (t := j) (by rw [pi.len]; omega)
                      refine ZE.index rfl rfl rfl rfl rfl sz0 (fun W => ix1 W) ?_; refine ZE.load rfl rfl rfl rfl sz1 (fun W hW => lx1 W (sb_of hW)) ?_; refine ZE.move rfl rfl rfl rfl sz0 ?_; refine ZE.move rfl rfl rfl rfl sz0 ?_
                      obtain ⟨x2, ad2, hx2, hm2, ix2, lx2⟩ := pi.r.at' (t := i) (by rw [pi.len]; omega)
                      refine ZE.index rfl rfl rfl rfl rfl sz0 (fun W => ix2 W) ?_; refine ZE.load rfl rfl rfl rfl sz1 (fun W hW => lx2 W (sb_of hW)) ?_; refine ZE.index rfl rfl rfl rfl rfl sz0 (fun W => ix2 W) ?_
                      refine ZE.store (fun W => Pws W v (li.set (i) x1) ∧ Fx (fun k => v.ownBlock = some k) wc W) rfl rfl rfl (fun _ _ => .inl rfl) (fun W hW => by
      obtain ⟨w', g1, g2, g3⟩ := pi.r.swap1 (pi.apt hs) (I := i) (by rw [pi.len]; omega) hm1 ix2 W hW
      exact ⟨w', g1, g2, g3⟩) ?_
                      refine ZE.index rfl rfl rfl rfl rfl sz0 (fun W => ix1 W) ?_; refine ZE.store (fun W => Prm wc v li W ((li.set (i) x1).set (j) x2)) rfl rfl rfl (fun _ _ => .inl rfl) (fun W hW => pi.r.swap2 (pi.apt hs) hx2 hx1 ix1 W hW.1 hW.2) ?_
                      rintro ws ps_
                      replace pi := pi.trans ps_
                      refine EW.on ?_; refine EW.seq ?_; refine EW.region ?_; refine WL.move rfl rfl rfl ?_; refine WL.bin rfl rfl rfl rfl (int_add (c := ((i + 1 : Nat) : Int)) (by rw [IntKind.wrap_i64]; omega) _ _ _) ?_; refine WL.assign rfl rfl rfl ?_; refine WL.done ?_; refine EW.on ?_; refine EW.region ?_; refine WL.move rfl rfl rfl ?_; refine WL.bin rfl rfl rfl rfl (int_sub (c := ((j - 1 : Nat) : Int)) (by rw [IntKind.wrap_i64]; omega) _ _ _) ?_; refine WL.assign rfl rfl rfl ?_; refine WL.done ?_; refine pn_block ?_; refine EW.again (E := ptE v a 12 13) (R := PtR w v l a b (a + 1) (b - 1)) (m := fun x => x.2.1 + 1 - x.1) (x := (i1, j1, l1)) (i + 1, j - 1, _) [0, 1, 4, 12, 13] rfl ⟨pi, by simp only; omega, by simp only; omega, by simp only; omega, by simp only; omega, by simp only; omega, by simp only; omega⟩ (by simp only; omega)
                · refine EW.ordB [(0, 0, 0), (1, 0, 0), (2, 0, 0), (3, 0, 0), (4, 0, 0), (5, 0, 0), (6, 0, 0), (7, 0, 0), (8, 0, 1), (9, 0, 0), (10, 0, 0), (11, 0, 0), (12, 0, 1), (13, 0, 0), (14, 0, 0), (15, 0, 0), (16, 0, 0)] (by kernel_rfl) rfl (by kernel_rfl) ?_; simp only [opsZ, List.getD_cons_zero, List.getD_cons_succ]; refine ZE.move rfl rfl rfl rfl sz0 ?_; refine ZE.move rfl rfl rfl rfl sz0 ?_; refine ZE.bin rfl rfl rfl rfl rfl sz0 (fun W => int_le_f (by omega) W _ _) ?_; refine ZE.move rfl rfl rfl rfl sz0 ?_
                  first | refine ZE.move rfl rfl rfl rfl sz0 ?_ | refine ZE.skip rfl rfl rfl sz0 ?_
                  first | refine ZE.move rfl rfl rfl rfl sz0 ?_ | refine ZE.skip rfl rfl rfl sz0 ?_
                  first | refine ZE.move rfl rfl rfl rfl sz0 ?_ | refine ZE.skip rfl rfl rfl sz0 ?_
                  refine ZE.skip rfl rfl rfl sz0 ?_; refine ZE.skip rfl rfl rfl sz1 ?_
                  first | refine ZE.move rfl rfl rfl rfl sz0 ?_ | refine ZE.skip rfl rfl rfl sz0 ?_
                  first | refine ZE.move rfl rfl rfl rfl sz0 ?_ | refine ZE.skip rfl rfl rfl sz0 ?_
                  refine ZE.skip rfl rfl rfl sz0 ?_; refine ZE.skip rfl rfl rfl sz1 ?_; refine ZE.skip rfl rfl rfl sz0 ?_; refine ZE.skip rfl rfl rfl sz0 ?_; refine ZE.skip rfl rfl rfl sz0 ?_; refine ZE.pick rfl rfl rfl rfl rfl sz0 ?_
                  rintro wc ec
                  replace pi := pi.below ec
                  refine EW.on ?_; refine EW.cond_f rfl ?_; refine EW.exit ?_; refine px_then ?_; refine px_then ?_; refine px_block ?_; refine EW.on ?_; refine EW.seq ?_; refine EW.seq ?_; refine EW.region ?_; refine WL.move rfl rfl rfl ?_; refine WL.move rfl rfl rfl ?_; refine WL.bin rfl rfl rfl rfl (int_gt_d _ _ _ _ _) ?_; refine WL.done ?_; refine EW.on ?_; refine EW.cond_d rfl (fun h144 => ?_) (fun h144 => ?_)
                  · refine EW.exit ?_; refine px_then ?_; refine px_other (by decide) ?_; refine px_then ?_; refine px_block ?_; refine EW.on ?_; refine EW.seq ?_; refine EW.ordB [(0, 0, 0), (1, 0, 0), (2, 0, 0), (3, 0, 0), (4, 0, 0), (5, 0, 0), (6, 0, 0), (7, 0, 1), (8, 0, 0), (9, 0, 0), (10, 0, 0), (11, 0, 1), (12, 0, 0), (13, 1, 0), (14, 0, 0), (15, 1, 0)] (by kernel_rfl) rfl (by kernel_rfl) ?_; simp only [opsZ, List.getD_cons_zero, List.getD_cons_succ]; refine ZE.move rfl rfl rfl rfl sz0 ?_; refine ZE.move rfl rfl rfl rfl sz0 ?_; refine ZE.move rfl rfl rfl rfl sz0 ?_; refine ZE.move rfl rfl rfl rfl sz0 ?_; refine ZE.move rfl rfl rfl rfl sz0 ?_; refine ZE.move rfl rfl rfl rfl sz0 ?_
                    obtain ⟨x1, ad1, hx1, hm1, ix1, lx1⟩ := pi.r.at' (t := a) (by rw [pi.len]; omega)
                    refine ZE.index rfl rfl rfl rfl rfl sz0 (fun W => ix1 W) ?_; refine ZE.load rfl rfl rfl rfl sz1 (fun W hW => lx1 W (sb_of hW)) ?_; refine ZE.move rfl rfl rfl rfl sz0 ?_; refine ZE.move rfl rfl rfl rfl sz0 ?_
                    obtain ⟨x2, ad2, hx2, hm2, ix2, lx2⟩ := pi.r.at' (t := j) (by rw [pi.len]; omega)
                    refine ZE.index rfl rfl rfl rfl rfl sz0 (fun W => ix2 W) ?_; refine ZE.load rfl rfl rfl rfl sz1 (fun W hW => lx2 W (sb_of hW)) ?_; refine ZE.index rfl rfl rfl rfl rfl sz0 (fun W => ix2 W) ?_
                    refine ZE.store (fun W => Pws W v (li.set (j) x1) ∧ Fx (fun k => v.ownBlock = some k) wc W) rfl rfl rfl (fun _ _ => .inl rfl) (fun W hW => by
      obtain ⟨w', g1, g2, g3⟩ := pi.r.swap1 (pi.apt hs) (I := j) (by rw [pi.len]; omega) hm1 ix2 W hW
      exact ⟨w', g1, g2, g3⟩) ?_
                    refine ZE.index rfl rfl rfl rfl rfl sz0 (fun W => ix1 W) ?_; refine ZE.store (fun W => Prm wc v li W ((li.set (j) x1).set (a) x2)) rfl rfl rfl (fun _ _ => .inl rfl) (fun W hW => pi.r.swap2 (pi.apt hs) hx2 hx1 ix1 W hW.1 hW.2) ?_
                    rintro ws ps_
                    replace pi := pi.trans ps_
                    refine EW.on ?_; refine EW.seq ?_; refine EW.region ?_; refine WL.move rfl rfl rfl ?_; refine WL.assign rfl rfl rfl ?_; refine WL.assign rfl rfl rfl ?_; refine WL.done ?_; refine EW.on ?_; refine EW.ret ?_
                    exact EW.returns2 Tryz.results97 rfl rfl ⟨j, _, rfl, by omega, by omega, _, pi⟩
                  · refine EW.skip ?_; refine EW.on ?_; refine EW.seq ?_; refine EW.ordB [(0, 0, 0), (1, 0, 0), (2, 0, 0), (3, 0, 0), (4, 0, 0), (5, 0, 0), (6, 0, 0), (7, 0, 1), (8, 0, 0), (9, 0, 0), (10, 0, 0), (11, 0, 1), (12, 0, 0), (13, 1, 0), (14, 0, 0), (15, 1, 0)] (by kernel_rfl) rfl (by kernel_rfl) ?_; simp only [opsZ, List.getD_cons_zero, List.getD_cons_succ]; refine ZE.move rfl rfl rfl rfl sz0 ?_; refine ZE.move rfl rfl rfl rfl sz0 ?_; refine ZE.move rfl rfl rfl rfl sz0 ?_; refine ZE.move rfl rfl rfl rfl sz0 ?_; refine ZE.move rfl rfl rfl rfl sz0 ?_; refine ZE.move rfl rfl rfl rfl sz0 ?_
                    obtain ⟨x1, ad1, hx1, hm1, ix1, lx1⟩ := pi.r.at' (t := j) (by rw [pi.len]; omega)
                    refine ZE.index rfl rfl rfl rfl rfl sz0 (fun W => ix1 W) ?_; refine ZE.load rfl rfl rfl rfl sz1 (fun W hW => lx1 W (sb_of hW)) ?_; refine ZE.move rfl rfl rfl rfl sz0 ?_; refine ZE.move rfl rfl rfl rfl sz0 ?_
                    obtain ⟨x2, ad2, hx2, hm2, ix2, lx2⟩ := pi.r.at' (t := i) (by rw [pi.len]; omega)
                    refine ZE.index rfl rfl rfl rfl rfl sz0 (fun W => ix2 W) ?_; refine ZE.load rfl rfl rfl rfl sz1 (fun W hW => lx2 W (sb_of hW)) ?_; refine ZE.index rfl rfl rfl rfl rfl sz0 (fun W => ix2 W) ?_
                    refine ZE.store (fun W => Pws W v (li.set (i) x1) ∧ Fx (fun k => v.ownBlock = some k) wc W) rfl rfl rfl (fun _ _ => .inl rfl) (fun W hW => by
      obtain ⟨w', g1, g2, g3⟩ := pi.r.swap1 (pi.apt hs) (I := i) (by rw [pi.len]; omega) hm1 ix2 W hW
      exact ⟨w', g1, g2, g3⟩) ?_
                    refine ZE.index rfl rfl rfl rfl rfl sz0 (fun W => ix1 W) ?_; refine ZE.store (fun W => Prm wc v li W ((li.set (i) x1).set (j) x2)) rfl rfl rfl (fun _ _ => .inl rfl) (fun W hW => pi.r.swap2 (pi.apt hs) hx2 hx1 ix1 W hW.1 hW.2) ?_
                    rintro ws ps_
                    replace pi := pi.trans ps_
                    refine EW.on ?_; refine EW.seq ?_; refine EW.region ?_; refine WL.move rfl rfl rfl ?_; refine WL.bin rfl rfl rfl rfl (int_add (c := ((i + 1 : Nat) : Int)) (by rw [IntKind.wrap_i64]; omega) _ _ _) ?_; refine WL.assign rfl rfl rfl ?_; refine WL.done ?_; refine EW.on ?_; refine EW.region ?_; refine WL.move rfl rfl rfl ?_; refine WL.bin rfl rfl rfl rfl (int_sub (c := ((j - 1 : Nat) : Int)) (by rw [IntKind.wrap_i64]; omega) _ _ _) ?_; refine WL.assign rfl rfl rfl ?_; refine WL.done ?_; refine pn_block ?_; refine EW.again (E := ptE v a 12 13) (R := PtR w v l a b (a + 1) (b - 1)) (m := fun x => x.2.1 + 1 - x.1) (x := (i1, j1, l1)) (i + 1, j - 1, _) [0, 1, 4, 12, 13] rfl ⟨pi, by simp only; omega, by simp only; omega, by simp only; omega, by simp only; omega, by simp only; omega, by simp only; omega⟩ (by simp only; omega)
            · refine EW.ordB [(0, 0, 0), (1, 0, 0), (2, 0, 0), (3, 0, 0), (4, 0, 0), (5, 0, 0), (6, 0, 0), (7, 0, 0), (8, 0, 1), (9, 0, 0), (10, 0, 0), (11, 0, 0), (12, 0, 1), (13, 0, 0), (14, 0, 0), (15, 0, 0)] (by kernel_rfl) rfl (by kernel_rfl) ?_; simp only [opsZ, List.getD_cons_zero, List.getD_cons_succ]; refine ZE.move rfl rfl rfl rfl sz0 ?_; refine ZE.move rfl rfl rfl rfl sz0 ?_; refine ZE.bin rfl rfl rfl rfl rfl sz0 (fun W => int_le_f (by omega) W _ _) ?_; refine ZE.move rfl rfl rfl rfl sz0 ?_
              first | refine ZE.move rfl rfl rfl rfl sz0 ?_ | refine ZE.skip rfl rfl rfl sz0 ?_
              first | refine ZE.move rfl rfl rfl rfl sz0 ?_ | refine ZE.skip rfl rfl rfl sz0 ?_
              first | refine ZE.move rfl rfl rfl rfl sz0 ?_ | refine ZE.skip rfl rfl rfl sz0 ?_
              refine ZE.skip rfl rfl rfl sz0 ?_; refine ZE.skip rfl rfl rfl sz1 ?_
              first | refine ZE.move rfl rfl rfl rfl sz0 ?_ | refine ZE.skip rfl rfl rfl sz0 ?_
              first | refine ZE.move rfl rfl rfl rfl sz0 ?_ | refine ZE.skip rfl rfl rfl sz0 ?_
              refine ZE.skip rfl rfl rfl sz0 ?_; refine ZE.skip rfl rfl rfl sz1 ?_; refine ZE.skip rfl rfl rfl sz0 ?_; refine ZE.skip rfl rfl rfl sz0 ?_; refine ZE.pick rfl rfl rfl rfl rfl sz0 ?_
              rintro wc ec
              replace pi := pi.below ec
              refine EW.on ?_; refine EW.cond_f rfl ?_; refine EW.exit ?_; refine px_then ?_; refine px_then ?_; refine px_block ?_; refine EW.on ?_; refine EW.seq ?_; refine EW.block ?_; refine EW.loop (ptE v a 12 13) (PtR w v l a b (i1) (j1)) (fun x => x.2.1 + 1 - x.1) (i, j, _) [0, 1, 4, 12, 13] rfl ⟨pi, by simp only; omega, by simp only; omega, by simp only; omega, by simp only; omega, by simp only; omega, by simp only; omega⟩ ?_
              clear pi
              rintro ⟨i, j, li⟩ wi ⟨pi, hi0, hj0, hlo, hhi, haj, hib⟩
              simp only at pi hi0 hj0 hlo hhi haj hib
              show EW _ _ _ _ [(0, v), (1, .int .i64 (a : Int)), (4, fnV), (12, .int .i64 (i : Int)), (13, .int .i64 (j : Int))] _
              refine EW.seq ?_; refine EW.seq ?_
              by_cases hij : i ≤ j
              · refine EW.ordB [(0, 0, 0), (1, 0, 0), (2, 0, 0), (3, 0, 0), (4, 0, 0), (5, 0, 0), (6, 0, 0), (7, 0, 0), (8, 0, 1), (9, 0, 0), (10, 0, 0), (11, 0, 0), (12, 0, 1), (13, 1, 1), (14, 0, 0), (15, 0, 0), (16, 0, 0)] (by kernel_rfl) rfl (by kernel_rfl) ?_; simp only [opsZ, List.getD_cons_zero, List.getD_cons_succ]; refine ZE.move rfl rfl rfl rfl sz0 ?_; refine ZE.move rfl rfl rfl rfl sz0 ?_; refine ZE.bin rfl rfl rfl rfl rfl sz0 (fun W => int_le_t (by omega) W _ _) ?_; refine ZE.move rfl rfl rfl rfl sz0 ?_
                first | refine ZE.move rfl rfl rfl rfl sz0 ?_ | refine ZE.skip rfl rfl rfl sz0 ?_
                first | refine ZE.move rfl rfl rfl rfl sz0 ?_ | refine ZE.skip rfl rfl rfl sz0 ?_
                first | refine ZE.move rfl rfl rfl rfl sz0 ?_ | refine ZE.skip rfl rfl rfl sz0 ?_
                obtain ⟨x1, ad1, hx1, hm1, ix1, lx1⟩ := pi.r.at' (t := j) (by rw [pi.len]; omega)
                refine ZE.index rfl rfl rfl rfl rfl sz0 (fun W => ix1 W) ?_; refine ZE.load rfl rfl rfl rfl sz1 (fun W hW => lx1 W (sb_of hW)) ?_
                first | refine ZE.move rfl rfl rfl rfl sz0 ?_ | refine ZE.skip rfl rfl rfl sz0 ?_
                first | refine ZE.move rfl rfl rfl rfl sz0 ?_ | refine ZE.skip rfl rfl rfl sz0 ?_
                obtain ⟨x2, ad2, hx2, hm2, ix2, lx2⟩ := pi.r.at' (t := a) (by rw [pi.len]; omega)
                refine ZE.index rfl rfl rfl rfl rfl sz0 (fun W => ix2 W) ?_; refine ZE.load rfl rfl rfl rfl sz1 (fun W hW => lx2 W (sb_of hW)) ?_; refine ZE.callFR [.agg (pgC x1).toArray, .agg (pgC x2).toArray] (fun v W => (∃ r, v = .int .i64 r) ∧ Below wi.heap.size wi W) enter70 rfl rfl rfl rfl (fun _ _ h => .inr h.2) (fun W hW => (cmpf_any x1 x2 W).mono fun e w' ⟨⟨r, g1⟩, g2⟩ => ⟨_, g1, ⟨r, rfl⟩, hW.trans (g2.mono hW.size)⟩) ?_
                rintro _ ⟨_, ⟨rc, rfl⟩, _⟩
                refine ZE.bin rfl rfl rfl rfl rfl sz0 (fun W => int_lt_d _ _ W _ _) ?_
                first | refine ZE.un rfl rfl rfl rfl sz0 (fun W => not_t _ W) ?_ | refine ZE.skip rfl rfl rfl sz0 ?_
                refine ZE.pick rfl rfl rfl rfl rfl sz0 ?_
                rintro wc ⟨_, ec⟩
                replace pi := pi.below ec
                refine EW.on ?_; refine EW.cond_b rfl (fun h139 => ?_) (fun h139 => ?_)
                · refine EW.skip ?_; refine EW.on ?_; refine EW.block ?_; refine EW.region ?_; refine WL.move rfl rfl rfl ?_; refine WL.bin rfl rfl rfl rfl (int_sub (c := ((j - 1 : Nat) : Int)) (by rw [IntKind.wrap_i64]; omega) _ _ _) ?_; refine WL.assign rfl rfl rfl ?_; refine WL.done ?_; refine pn_block ?_; refine EW.again (E := ptE v a 12 13) (R := PtR w v l a b (i1) (j1)) (m := fun x => x.2.1 + 1 - x.1) (x := (i, j, li)) (i, j - 1, li) [0, 1, 4, 12, 13] rfl ⟨pi, by simp only; omega, by simp only; omega, by simp only; omega, by simp only; omega, by simp only; omega, by simp only; omega⟩ (by simp only; omega)
                · refine EW.exit ?_; refine px_then ?_; refine px_then ?_; refine px_block ?_; refine EW.on ?_; refine EW.seq ?_; refine EW.seq ?_; refine EW.region ?_; refine WL.move rfl rfl rfl ?_; refine WL.move rfl rfl rfl ?_; refine WL.bin rfl rfl rfl rfl (int_gt_d _ _ _ _ _) ?_; refine WL.done ?_; refine EW.on ?_; refine EW.cond_d rfl (fun h144 => ?_) (fun h144 => ?_)
                  · refine EW.exit ?_; refine px_then ?_; refine px_other (by decide) ?_; refine px_then ?_; refine px_block ?_; refine EW.on ?_; refine EW.seq ?_; refine EW.ordB [(0, 0, 0), (1, 0, 0), (2, 0, 0), (3, 0, 0), (4, 0, 0), (5, 0, 0), (6, 0, 0), (7, 0, 1), (8, 0, 0), (9, 0, 0), (10, 0, 0), (11, 0, 1), (12, 0, 0), (13, 1, 0), (14, 0, 0), (15, 1, 0)] (by kernel_rfl) rfl (by kernel_rfl) ?_; simp only [opsZ, List.getD_cons_zero, List.getD_cons_succ]; refine ZE.move rfl rfl rfl rfl sz0 ?_; refine ZE.move rfl rfl rfl rfl sz0 ?_; refine ZE.move rfl rfl rfl rfl sz0 ?_; refine ZE.move rfl rfl rfl rfl sz0 ?_; refine ZE.move rfl rfl rfl rfl sz0 ?_; refine ZE.move rfl rfl rfl rfl sz0 ?_
                    obtain ⟨x1, ad1, hx1, hm1, ix1, lx1⟩ := pi.r.at' (t := a) (by rw [pi.len]; omega)
                    refine ZE.index rfl rfl rfl rfl rfl sz0 (fun W => ix1 W) ?_; refine ZE.load rfl rfl rfl rfl sz1 (fun W hW => lx1 W (sb_of hW)) ?_; refine ZE.move rfl rfl rfl rfl sz0 ?_; refine ZE.move rfl rfl rfl rfl sz0 ?_
                    obtain ⟨x2, ad2, hx2, hm2, ix2, lx2⟩ := pi.r.at' (t := j) (by rw [pi.len]; omega)
                    refine ZE.index rfl rfl rfl rfl rfl sz0 (fun W => ix2 W) ?_; refine ZE.load rfl rfl rfl rfl sz1 (fun W hW => lx2 W (sb_of hW)) ?_; refine ZE.index rfl rfl rfl rfl rfl sz0 (fun W => ix2 W) ?_
                    refine ZE.store (fun W => Pws W v (li.set (j) x1) ∧ Fx (fun k => v.ownBlock = some k) wc W) rfl rfl rfl (fun _ _ => .inl rfl) (fun W hW => by
      obtain ⟨w', g1, g2, g3⟩ := pi.r.swap1 (pi.apt hs) (I := j) (by rw [pi.len]; omega) hm1 ix2 W hW
      exact ⟨w', g1, g2, g3⟩) ?_
                    refine ZE.index rfl rfl rfl rfl rfl sz0 (fun W => ix1 W) ?_; refine ZE.store (fun W => Prm wc v li W ((li.set (j) x1).set (a) x2)) rfl rfl rfl (fun _ _ => .inl rfl) (fun W hW => pi.r.swap2 (pi.apt hs) hx2 hx1 ix1 W hW.1 hW.2) ?_
                    rintro ws ps_
                    replace pi := pi.trans ps_
                    refine EW.on ?_; refine EW.seq ?_; refine EW.region ?_; refine WL.move rfl rfl rfl ?_; refine WL.assign rfl rfl rfl ?_; refine WL.assign rfl rfl rfl ?_; refine WL.done ?_; refine EW.on ?_; refine EW.ret ?_
                    exact EW.returns2 Tryz.results97 rfl rfl ⟨j, _, rfl, by omega, by omega, _, pi⟩
                  · refine EW.skip ?_; refine EW.on ?_; refine EW.seq ?_; refine EW.ordB [(0, 0, 0), (1, 0, 0), (2, 0, 0), (3, 0, 0), (4, 0, 0), (5, 0, 0), (6, 0, 0), (7, 0, 1), (8, 0, 0), (9, 0, 0), (10, 0, 0), (11, 0, 1), (12, 0, 0), (13, 1, 0), (14, 0, 0), (15, 1, 0)] (by kernel_rfl) rfl (by kernel_rfl) ?_; simp only [opsZ, List.getD_cons_zero, List.getD_cons_succ]; refine ZE.move rfl rfl rfl rfl sz0 ?_; refine ZE.move rfl rfl rfl rfl sz0 ?_; refine ZE.move rfl rfl rfl rfl sz0 ?_; refine ZE.move rfl rfl rfl rfl sz0 ?_; refine ZE.move rfl rfl rfl rfl sz0 ?_; refine ZE.move rfl rfl rfl rfl sz0 ?_
                    obtain ⟨x1, ad1, hx1, hm1, ix1, lx1⟩ := pi.r.at' (t := j) (by rw [pi.len]; omega)
                    refine ZE.index rfl rfl rfl rfl rfl sz0 (fun W => ix1 W) ?_; refine ZE.load rfl rfl rfl rfl sz1 (fun W hW => lx1 W (sb_of hW)) ?_; refine ZE.move rfl rfl rfl rfl sz0 ?_; refine ZE.move rfl rfl rfl rfl sz0 ?_
                    obtain ⟨x2, ad2, hx2, hm2, ix2, lx2⟩ := pi.r.at' (t := i) (by rw [pi.len]; omega)
                    refine ZE.index rfl rfl rfl rfl rfl sz0 (fun W => ix2 W) ?_; refine ZE.load rfl rfl rfl rfl sz1 (fun W hW => lx2 W (sb_of hW)) ?_; refine ZE.index rfl rfl rfl rfl rfl sz0 (fun W => ix2 W) ?_
                    refine ZE.store (fun W => Pws W v (li.set (i) x1) ∧ Fx (fun k => v.ownBlock = some k) wc W) rfl rfl rfl (fun _ _ => .inl rfl) (fun W hW => by
      obtain ⟨w', g1, g2, g3⟩ := pi.r.swap1 (pi.apt hs) (I := i) (by rw [pi.len]; omega) hm1 ix2 W hW
      exact ⟨w', g1, g2, g3⟩) ?_
                    refine ZE.index rfl rfl rfl rfl rfl sz0 (fun W => ix1 W) ?_; refine ZE.store (fun W => Prm wc v li W ((li.set (i) x1).set (j) x2)) rfl rfl rfl (fun _ _ => .inl rfl) (fun W hW => pi.r.swap2 (pi.apt hs) hx2 hx1 ix1 W hW.1 hW.2) ?_
                    rintro ws ps_
                    replace pi := pi.trans ps_
                    refine EW.on ?_; refine EW.seq ?_; refine EW.region ?_; refine WL.move rfl rfl rfl ?_; refine WL.bin rfl rfl rfl rfl (int_add (c := ((i + 1 : Nat) : Int)) (by rw [IntKind.wrap_i64]; omega) _ _ _) ?_; refine WL.assign rfl rfl rfl ?_; refine WL.done ?_; refine EW.on ?_; refine EW.region ?_; refine WL.move rfl rfl rfl ?_; refine WL.bin rfl rfl rfl rfl (int_sub (c := ((j - 1 : Nat) : Int)) (by rw [IntKind.wrap_i64]; omega) _ _ _) ?_; refine WL.assign rfl rfl rfl ?_; refine WL.done ?_; refine pn_block ?_; refine EW.again (E := ptE v a 12 13) (R := PtR w v l a b (a + 1) (b - 1)) (m := fun x => x.2.1 + 1 - x.1) (x := (i1, j1, l1)) (i + 1, j - 1, _) [0, 1, 4, 12, 13] rfl ⟨pi, by simp only; omega, by simp only; omega, by simp only; omega, by simp only; omega, by simp only; omega, by simp only; omega⟩ (by simp only; omega)
              · refine EW.ordB [(0, 0, 0), (1, 0, 0), (2, 0, 0), (3, 0, 0), (4, 0, 0), (5, 0, 0), (6, 0, 0), (7, 0, 0), (8, 0, 1), (9, 0, 0), (10, 0, 0), (11, 0, 0), (12, 0, 1), (13, 0, 0), (14, 0, 0), (15, 0, 0), (16, 0, 0)] (by kernel_rfl) rfl (by kernel_rfl) ?_; simp only [opsZ, List.getD_cons_zero, List.getD_cons_succ]; refine ZE.move rfl rfl rfl rfl sz0 ?_; refine ZE.move rfl rfl rfl rfl sz0 ?_; refine ZE.bin rfl rfl rfl rfl rfl sz0 (fun W => int_le_f (by omega) W _ _) ?_; refine ZE.move rfl rfl rfl rfl sz0 ?_
                first | refine ZE.move rfl rfl rfl rfl sz0 ?_ | refine ZE.skip rfl rfl rfl sz0 ?_
                first | refine ZE.move rfl rfl rfl rfl sz0 ?_ | refine ZE.skip rfl rfl rfl sz0 ?_
                first | refine ZE.move rfl rfl rfl rfl sz0 ?_ | refine ZE.skip rfl rfl rfl sz0 ?_
                refine ZE.skip rfl rfl rfl sz0 ?_; refine ZE.skip rfl rfl rfl sz1 ?_
                first | refine ZE.move rfl rfl rfl rfl sz0 ?_ | refine ZE.skip rfl rfl rfl sz0 ?_
                first | refine ZE.move rfl rfl rfl rfl sz0 ?_ | refine ZE.skip rfl rfl rfl sz0 ?_
                refine ZE.skip rfl rfl rfl sz0 ?_; refine ZE.skip rfl rfl rfl sz1 ?_; refine ZE.skip rfl rfl rfl sz0 ?_; refine ZE.skip rfl rfl rfl sz0 ?_; refine ZE.skip rfl rfl rfl sz0 ?_; refine ZE.pick rfl rfl rfl rfl rfl sz0 ?_
                rintro wc ec
                replace pi := pi.below ec
                refine EW.on ?_; refine EW.cond_f rfl ?_; refine EW.exit ?_; refine px_then ?_; refine px_then ?_; refine px_block ?_; refine EW.on ?_; refine EW.seq ?_; refine EW.seq ?_; refine EW.region ?_; refine WL.move rfl rfl rfl ?_; refine WL.move rfl rfl rfl ?_; refine WL.bin rfl rfl rfl rfl (int_gt_d _ _ _ _ _) ?_; refine WL.done ?_; refine EW.on ?_; refine EW.cond_d rfl (fun h144 => ?_) (fun h144 => ?_)
                · refine EW.exit ?_; refine px_then ?_; refine px_other (by decide) ?_; refine px_then ?_; refine px_block ?_; refine EW.on ?_; refine EW.seq ?_; refine EW.ordB [(0, 0, 0), (1, 0, 0), (2, 0, 0), (3, 0, 0), (4, 0, 0), (5, 0, 0), (6, 0, 0), (7, 0, 1), (8, 0, 0), (9, 0, 0), (10, 0, 0), (11, 0, 1), (12, 0, 0), (13, 1, 0), (14, 0, 0), (15, 1, 0)] (by kernel_rfl) rfl (by kernel_rfl) ?_; simp only [opsZ, List.getD_cons_zero, List.getD_cons_succ]; refine ZE.move rfl rfl rfl rfl sz0 ?_; refine ZE.move rfl rfl rfl rfl sz0 ?_; refine ZE.move rfl rfl rfl rfl sz0 ?_; refine ZE.move rfl rfl rfl rfl sz0 ?_; refine ZE.move rfl rfl rfl rfl sz0 ?_; refine ZE.move rfl rfl rfl rfl sz0 ?_
                  obtain ⟨x1, ad1, hx1, hm1, ix1, lx1⟩ := pi.r.at' (t := a) (by rw [pi.len]; omega)
                  refine ZE.index rfl rfl rfl rfl rfl sz0 (fun W => ix1 W) ?_; refine ZE.load rfl rfl rfl rfl sz1 (fun W hW => lx1 W (sb_of hW)) ?_; refine ZE.move rfl rfl rfl rfl sz0 ?_; refine ZE.move rfl rfl rfl rfl sz0 ?_
                  obtain ⟨x2, ad2, hx2, hm2, ix2, lx2⟩ := pi.r.at' (t := j) (by rw [pi.len]; omega)
                  refine ZE.index rfl rfl rfl rfl rfl sz0 (fun W => ix2 W) ?_; refine ZE.load rfl rfl rfl rfl sz1 (fun W hW => lx2 W (sb_of hW)) ?_; refine ZE.index rfl rfl rfl rfl rfl sz0 (fun W => ix2 W) ?_
                  refine ZE.store (fun W => Pws W v (li.set (j) x1) ∧ Fx (fun k => v.ownBlock = some k) wc W) rfl rfl rfl (fun _ _ => .inl rfl) (fun W hW => by
      obtain ⟨w', g1, g2, g3⟩ := pi.r.swap1 (pi.apt hs) (I := j) (by rw [pi.len]; omega) hm1 ix2 W hW
      exact ⟨w', g1, g2, g3⟩) ?_
                  refine ZE.index rfl rfl rfl rfl rfl sz0 (fun W => ix1 W) ?_; refine ZE.store (fun W => Prm wc v li W ((li.set (j) x1).set (a) x2)) rfl rfl rfl (fun _ _ => .inl rfl) (fun W hW => pi.r.swap2 (pi.apt hs) hx2 hx1 ix1 W hW.1 hW.2) ?_
                  rintro ws ps_
                  replace pi := pi.trans ps_
                  refine EW.on ?_; refine EW.seq ?_; refine EW.region ?_; refine WL.move rfl rfl rfl ?_; refine WL.assign rfl rfl rfl ?_; refine WL.assign rfl rfl rfl ?_; refine WL.done ?_; refine EW.on ?_; refine EW.ret ?_
                  exact EW.returns2 Tryz.results97 rfl rfl ⟨j, _, rfl, by omega, by omega, _, pi⟩
                · refine EW.skip ?_; refine EW.on ?_; refine EW.seq ?_; refine EW.ordB [(0, 0, 0), (1, 0, 0), (2, 0, 0), (3, 0, 0), (4, 0, 0), (5, 0, 0), (6, 0, 0), (7, 0, 1), (8, 0, 0), (9, 0, 0), (10, 0, 0), (11, 0, 1), (12, 0, 0), (13, 1, 0), (14, 0, 0), (15, 1, 0)] (by kernel_rfl) rfl (by kernel_rfl) ?_; simp only [opsZ, List.getD_cons_zero, List.getD_cons_succ]; refine ZE.move rfl rfl rfl rfl sz0 ?_; refine ZE.move rfl rfl rfl rfl sz0 ?_; refine ZE.move rfl rfl rfl rfl sz0 ?_; refine ZE.move rfl rfl rfl rfl sz0 ?_; refine ZE.move rfl rfl rfl rfl sz0 ?_; refine ZE.move rfl rfl rfl rfl sz0 ?_
                  obtain ⟨x1, ad1, hx1, hm1, ix1, lx1⟩ := pi.r.at' (t := j) (by rw [pi.len]; omega)
                  refine ZE.index rfl rfl rfl rfl rfl sz0 (fun W => ix1 W) ?_; refine ZE.load rfl rfl rfl rfl sz1 (fun W hW => lx1 W (sb_of hW)) ?_; refine ZE.move rfl rfl rfl rfl sz0 ?_; refine ZE.move rfl rfl rfl rfl sz0 ?_
                  obtain ⟨x2, ad2, hx2, hm2, ix2, lx2⟩ := pi.r.at' (t := i) (by rw [pi.len]; omega)
                  refine ZE.index rfl rfl rfl rfl rfl sz0 (fun W => ix2 W) ?_; refine ZE.load rfl rfl rfl rfl sz1 (fun W hW => lx2 W (sb_of hW)) ?_; refine ZE.index rfl rfl rfl rfl rfl sz0 (fun W => ix2 W) ?_
                  refine ZE.store (fun W => Pws W v (li.set (i) x1) ∧ Fx (fun k => v.ownBlock = some k) wc W) rfl rfl rfl (fun _ _ => .inl rfl) (fun W hW => by
      obtain ⟨w', g1, g2, g3⟩ := pi.r.swap1 (pi.apt hs) (I := i) (by rw [pi.len]; omega) hm1 ix2 W hW
      exact ⟨w', g1, g2, g3⟩) ?_
                  refine ZE.index rfl rfl rfl rfl rfl sz0 (fun W => ix1 W) ?_; refine ZE.store (fun W => Prm wc v li W ((li.set (i) x1).set (j) x2)) rfl rfl rfl (fun _ _ => .inl rfl) (fun W hW => pi.r.swap2 (pi.apt hs) hx2 hx1 ix1 W hW.1 hW.2) ?_
                  rintro ws ps_
                  replace pi := pi.trans ps_
                  refine EW.on ?_; refine EW.seq ?_; refine EW.region ?_; refine WL.move rfl rfl rfl ?_; refine WL.bin rfl rfl rfl rfl (int_add (c := ((i + 1 : Nat) : Int)) (by rw [IntKind.wrap_i64]; omega) _ _ _) ?_; refine WL.assign rfl rfl rfl ?_; refine WL.done ?_; refine EW.on ?_; refine EW.region ?_; refine WL.move rfl rfl rfl ?_; refine WL.bin rfl rfl rfl rfl (int_sub (c := ((j - 1 : Nat) : Int)) (by rw [IntKind.wrap_i64]; omega) _ _ _) ?_; refine WL.assign rfl rfl rfl ?_; refine WL.done ?_; refine pn_block ?_; refine EW.again (E := ptE v a 12 13) (R := PtR w v l a b (a + 1) (b - 1)) (m := fun x => x.2.1 + 1 - x.1) (x := (i1, j1, l1)) (i + 1, j - 1, _) [0, 1, 4, 12, 13] rfl ⟨pi, by simp only; omega, by simp only; omega, by simp only; omega, by simp only; omega, by simp only; omega, by simp only; omega⟩ (by simp only; omega)
      · refine EW.ordB [(0, 0, 0), (1, 0, 0), (2, 0, 0), (3, 0, 0), (4, 0, 0), (5, 0, 0), (6, 0, 0), (7, 0, 0), (8, 0, 1), (9, 0, 0), (10, 0, 0), (11, 0, 0), (12, 0, 1), (13, 0, 0), (14, 0, 0), (15, 0, 0), (16, 0, 0)] (by kernel_rfl) rfl (by kernel_rfl) ?_; simp only [opsZ, List.getD_cons_zero, List.getD_cons_succ]; refine ZE.move rfl rfl rfl rfl sz0 ?_; refine ZE.move rfl rfl rfl rfl sz0 ?_; refine ZE.bin rfl rfl rfl rfl rfl sz0 (fun W => int_le_f (by omega) W _ _) ?_; refine ZE.move rfl rfl rfl rfl sz0 ?_
        first | refine ZE.move rfl rfl rfl rfl sz0 ?_ | refine ZE.skip rfl rfl rfl sz0 ?_
        first | refine ZE.move rfl rfl rfl rfl sz0 ?_ | refine ZE.skip rfl rfl rfl sz0 ?_
        first | refine ZE.move rfl rfl rfl rfl sz0 ?_ | refine ZE.skip rfl rfl rfl sz0 ?_
        refine ZE.skip rfl rfl rfl sz0 ?_; refine ZE.skip rfl rfl rfl sz1 ?_
        first | refine ZE.move rfl rfl rfl rfl sz0 ?_ | refine ZE.skip rfl rfl rfl sz0 ?_
        first | refine ZE.move rfl rfl rfl rfl sz0 ?_ | refine ZE.skip rfl rfl rfl sz0 ?_
        refine ZE.skip rfl rfl rfl sz0 ?_; refine ZE.skip rfl rfl rfl sz1 ?_; refine ZE.skip rfl rfl rfl sz0 ?_; refine ZE.skip rfl rfl rfl sz0 ?_; refine ZE.skip rfl rfl rfl sz0 ?_; refine ZE.pick rfl rfl rfl rfl rfl sz0 ?_
        rintro wc ec
        replace pi := pi.below ec
        refine EW.on ?_; refine EW.cond_f rfl ?_; refine EW.exit ?_; refine px_then ?_; refine px_then ?_; refine px_block ?_; refine EW.on ?_; refine EW.seq ?_; refine EW.seq ?_; refine EW.region ?_; refine WL.move rfl rfl rfl ?_; refine WL.move rfl rfl rfl ?_; refine WL.bin rfl rfl rfl rfl (int_gt_d _ _ _ _ _) ?_; refine WL.done ?_; refine EW.on ?_; refine EW.cond_d rfl (fun h71 => ?_) (fun h71 => ?_)
        · refine EW.seq ?_; refine EW.ordB [(0, 0, 0), (1, 0, 0), (2, 0, 0), (3, 0, 0), (4, 0, 0), (5, 0, 0), (6, 0, 0), (7, 0, 1), (8, 0, 0), (9, 0, 0), (10, 0, 0), (11, 0, 1), (12, 0, 0), (13, 1, 0), (14, 0, 0), (15, 1, 0)] (by kernel_rfl) rfl (by kernel_rfl) ?_; simp only [opsZ, List.getD_cons_zero, List.getD_cons_succ]; refine ZE.move rfl rfl rfl rfl sz0 ?_; refine ZE.move rfl rfl rfl rfl sz0 ?_; refine ZE.move rfl rfl rfl rfl sz0 ?_; refine ZE.move rfl rfl rfl rfl sz0 ?_; refine ZE.move rfl rfl rfl rfl sz0 ?_; refine ZE.move rfl rfl rfl rfl sz0 ?_
          obtain ⟨x1, ad1, hx1, hm1, ix1, lx1⟩ := pi.r.at' (t := a) (by rw [pi.len]; omega)
          refine ZE.index rfl rfl rfl rfl rfl sz0 (fun W => ix1 W) ?_; refine ZE.load rfl rfl rfl rfl sz1 (fun W hW => lx1 W (sb_of hW)) ?_; refine ZE.move rfl rfl rfl rfl sz0 ?_; refine ZE.move rfl rfl rfl rfl sz0 ?_
          obtain ⟨x2, ad2, hx2, hm2, ix2, lx2⟩ := pi.r.at' (t := j) (by rw [pi.len]; omega)
          refine ZE.index rfl rfl rfl rfl rfl sz0 (fun W => ix2 W) ?_; refine ZE.load rfl rfl rfl rfl sz1 (fun W hW => lx2 W (sb_of hW)) ?_; refine ZE.index rfl rfl rfl rfl rfl sz0 (fun W => ix2 W) ?_
          refine ZE.store (fun W => Pws W v (li.set (j) x1) ∧ Fx (fun k => v.ownBlock = some k) wc W) rfl rfl rfl (fun _ _ => .inl rfl) (fun W hW => by
      obtain ⟨w', g1, g2, g3⟩ := pi.r.swap1 (pi.apt hs) (I := j) (by rw [pi.len]; omega) hm1 ix2 W hW
      exact ⟨w', g1, g2, g3⟩) ?_
          refine ZE.index rfl rfl rfl rfl rfl sz0 (fun W => ix1 W) ?_; refine ZE.store (fun W => Prm wc v li W ((li.set (j) x1).set (a) x2)) rfl rfl rfl (fun _ _ => .inl rfl) (fun W hW => pi.r.swap2 (pi.apt hs) hx2 hx1 ix1 W hW.1 hW.2) ?_
          rintro ws ps_
          replace pi := pi.trans ps_
          refine EW.on ?_; refine EW.seq ?_; refine EW.region ?_; refine WL.move rfl rfl rfl ?_; refine WL.assign rfl rfl rfl ?_; refine WL.assign rfl rfl rfl ?_; refine WL.done ?_; refine EW.on ?_; refine EW.ret ?_; refine pr_then ?_
          exact EW.returns2 Tryz.results97 rfl rfl ⟨j, _, rfl, by omega, by omega, _, pi⟩
        · refine EW.skip ?_; refine EW.on ?_; refine EW.seq ?_; refine EW.ordB [(0, 0, 0), (1, 0, 0), (2, 0, 0), (3, 0, 0), (4, 0, 0), (5, 0, 0), (6, 0, 0), (7, 0, 1), (8, 0, 0), (9, 0, 0), (10, 0, 0), (11, 0, 1), (12, 0, 0), (13, 1, 0), (14, 0, 0), (15, 1, 0)] (by kernel_rfl) rfl (by kernel_rfl) ?_; simp only [opsZ, List.getD_cons_zero, List.getD_cons_succ]; refine ZE.move rfl rfl rfl rfl sz0 ?_; refine ZE.move rfl rfl rfl rfl sz0 ?_; refine ZE.move rfl rfl rfl rfl sz0 ?_; refine ZE.move rfl rfl rfl rfl sz0 ?_; refine ZE.move rfl rfl rfl rfl sz0 ?_; refine ZE.move rfl rfl rfl rfl sz0 ?_
          obtain ⟨x1, ad1, hx1, hm1, ix1, lx1⟩ := pi.r.at' (t := j) (by rw [pi.len]; omega)
          refine ZE.index rfl rfl rfl rfl rfl sz0 (fun W => ix1 W) ?_; refine ZE.load rfl rfl rfl rfl sz1 (fun W hW => lx1 W (sb_of hW)) ?_; refine ZE.move rfl rfl rfl rfl sz0 ?_; refine ZE.move rfl rfl rfl rfl sz0 ?_
          obtain ⟨x2, ad2, hx2, hm2, ix2, lx2⟩ := pi.r.at' (t := i) (by rw [pi.len]; omega)
          refine ZE.index rfl rfl rfl rfl rfl sz0 (fun W => ix2 W) ?_; refine ZE.load rfl rfl rfl rfl sz1 (fun W hW => lx2 W (sb_of hW)) ?_; refine ZE.index rfl rfl rfl rfl rfl sz0 (fun W => ix2 W) ?_
          refine ZE.store (fun W => Pws W v (li.set (i) x1) ∧ Fx (fun k => v.ownBlock = some k) wc W) rfl rfl rfl (fun _ _ => .inl rfl) (fun W hW => by
      obtain ⟨w', g1, g2, g3⟩ := pi.r.swap1 (pi.apt hs) (I := i) (by rw [pi.len]; omega) hm1 ix2 W hW
      exact ⟨w', g1, g2, g3⟩) ?_
          refine ZE.index rfl rfl rfl rfl rfl sz0 (fun W => ix1 W) ?_; refine ZE.store (fun W => Prm wc v li W ((li.set (i) x1).set (j) x2)) rfl rfl rfl (fun _ _ => .inl rfl) (fun W hW => pi.r.swap2 (pi.apt hs) hx2 hx1 ix1 W hW.1 hW.2) ?_
          rintro ws ps_
          replace pi := pi.trans ps_
          refine EW.on ?_; refine EW.seq ?_; refine EW.region ?_; refine WL.move rfl rfl rfl ?_; refine WL.bin rfl rfl rfl rfl (int_add (c := ((i + 1 : Nat) : Int)) (by rw [IntKind.wrap_i64]; omega) _ _ _) ?_; refine WL.assign rfl rfl rfl ?_; refine WL.done ?_; refine EW.on ?_; refine EW.seq ?_; refine EW.region ?_; refine WL.move rfl rfl rfl ?_; refine WL.bin rfl rfl rfl rfl (int_sub (c := ((j - 1 : Nat) : Int)) (by rw [IntKind.wrap_i64]; omega) _ _ _) ?_; refine WL.assign rfl rfl rfl ?_; refine WL.done ?_; refine EW.on ?_; refine EW.seq ?_; refine EW.block ?_; refine EW.loop (ptE v a 12 13) (PtR w v l a b (a + 1) (b - 1)) (fun x => x.2.1 + 1 - x.1) (i + 1, j - 1, _) [0, 1, 4, 12, 13] rfl ⟨pi, by simp only; omega, by simp only; omega, by simp only; omega, by simp only; omega, by simp only; omega, by simp only; omega⟩ ?_
          clear pi
          rintro ⟨i1, j1, l1⟩ wi ⟨pi, hi0, hj0, hlo, hhi, haj, hib⟩
          simp only at pi hi0 hj0 hlo hhi haj hib
          show EW _ _ _ _ [(0, v), (1, .int .i64 (a : Int)), (4, fnV), (12, .int .i64 (i1 : Int)), (13, .int .i64 (j1 : Int))] _
          refine EW.block ?_; refine EW.seq ?_; refine EW.block ?_; refine EW.loop (ptE v a 12 13) (PtR w v l a b (i1) (j1)) (fun x => x.2.1 + 1 - x.1) (i1, j1, _) [0, 1, 4, 12, 13] rfl ⟨pi, by simp only; omega, by simp only; omega, by simp only; omega, by simp only; omega, by simp only; omega, by simp only; omega⟩ ?_
          clear pi
          rintro ⟨i, j, li⟩ wi ⟨pi, hi0, hj0, hlo, hhi, haj, hib⟩
          simp only at pi hi0 hj0 hlo hhi haj hib
          show EW _ _ _ _ [(0, v), (1, .int .i64 (a : Int)), (4, fnV), (12, .int .i64 (i : Int)), (13, .int .i64 (j : Int))] _
          refine EW.seq ?_; refine EW.seq ?_
          by_cases hij : i ≤ j
          · refine EW.ordB [(0, 0, 0), (1, 0, 0), (2, 0, 0), (3, 0, 0), (4, 0, 0), (5, 0, 0), (6, 0, 0), (7, 0, 0), (8, 0, 1), (9, 0, 0), (10, 0, 0), (11, 0, 0), (12, 0, 1), (13, 1, 1), (14, 0, 0), (15, 0, 0)] (by kernel_rfl) rfl (by kernel_rfl) ?_; simp only [opsZ, List.getD_cons_zero, List.getD_cons_succ]; refine ZE.move rfl rfl rfl rfl sz0 ?_; refine ZE.move rfl rfl rfl rfl sz0 ?_; refine ZE.bin rfl rfl rfl rfl rfl sz0 (fun W => int_le_t (by omega) W _ _) ?_; refine ZE.move rfl rfl rfl rfl sz0 ?_
            first | refine ZE.move rfl rfl rfl rfl sz0 ?_ | refine ZE.skip rfl rfl rfl sz0 ?_
            first | refine ZE.move rfl rfl rfl rfl sz0 ?_ | refine ZE.skip rfl rfl rfl sz0 ?_
            first | refine ZE.move rfl rfl rfl rfl sz0 ?_ | refine ZE.skip rfl rfl rfl sz0 ?_
            obtain ⟨x1, ad1, hx1, hm1, ix1, lx1⟩ := pi.r.at' (t := i) (by rw [pi.len]; omega)
            refine ZE.index rfl rfl rfl rfl rfl sz0 (fun W => ix1 W) ?_; refine ZE.load rfl rfl rfl rfl sz1 (fun W hW => lx1 W (sb_of hW)) ?_
            first | refine ZE.move rfl rfl rfl rfl sz0 ?_ | refine ZE.skip rfl rfl rfl sz0 ?_
            first | refine ZE.move rfl rfl rfl rfl sz0 ?_ | refine ZE.skip rfl rfl rfl sz0 ?_
            obtain ⟨x2, ad2, hx2, hm2, ix2, lx2⟩ := pi.r.at' (t := a) (by rw [pi.len]; omega)
            refine ZE.index rfl rfl rfl rfl rfl sz0 (fun W => ix2 W) ?_; refine ZE.load rfl rfl rfl rfl sz1 (fun W hW => lx2 W (sb_of hW)) ?_; refine ZE.callFR [.agg (pgC x1).toArray, .agg (pgC x2).toArray] (fun v W => (∃ r, v = .int .i64 r) ∧ Below wi.heap.size wi W) enter70 rfl rfl rfl rfl (fun _ _ h => .inr h.2) (fun W hW => (cmpf_any x1 x2 W).mono fun e w' ⟨⟨r, g1⟩, g2⟩ => ⟨_, g1, ⟨r, rfl⟩, hW.trans (g2.mono hW.size)⟩) ?_
            rintro _ ⟨_, ⟨rc, rfl⟩, _⟩
            refine ZE.bin rfl rfl rfl rfl rfl sz0 (fun W => int_lt_d _ _ W _ _) ?_; refine ZE.pick rfl rfl rfl rfl rfl sz0 ?_
            rintro wc ⟨_, ec⟩
            replace pi := pi.below ec
            refine EW.on ?_; refine EW.cond_d rfl (fun h120 => ?_) (fun h120 => ?_)
            · refine EW.skip ?_; refine EW.on ?_; refine EW.block ?_; refine EW.region ?_; refine WL.move rfl rfl rfl ?_; refine WL.bin rfl rfl rfl rfl (int_add (c := ((i + 1 : Nat) : Int)) (by rw [IntKind.wrap_i64]; omega) _ _ _) ?_; refine WL.assign rfl rfl rfl ?_; refine WL.done ?_; refine pn_block ?_; refine EW.again (E := ptE v a 12 13) (R := PtR w v l a b (i1) (j1)) (m := fun x => x.2.1 + 1 - x.1) (x := (i, j, li)) (i + 1, j, li) [0, 1, 4, 12, 13] rfl ⟨pi, by simp only; omega, by simp only; omega, by simp only; omega, by simp only; omega, by simp only; omega, by simp only; omega⟩ (by simp only; omega)
            · refine EW.exit ?_; refine px_then ?_; refine px_then ?_; refine px_block ?_; refine EW.on ?_; refine EW.seq ?_; refine EW.block ?_; refine EW.loop (ptE v a 12 13) (PtR w v l a b (i1) (j1)) (fun x => x.2.1 + 1 - x.1) (i, j, _) [0, 1, 4, 12, 13] rfl ⟨pi, by simp only; omega, by simp only; omega, by simp only; omega, by simp only; omega, by simp only; omega, by simp only; omega⟩ ?_
              clear pi
              rintro ⟨i, j, li⟩ wi ⟨pi, hi0, hj0, hlo, hhi, haj, hib⟩
              simp only at pi hi0 hj0 hlo hhi haj hib
              show EW _ _ _ _ [(0, v), (1, .int .i64 (a : Int)), (4, fnV), (12, .int .i64 (i : Int)), (13, .int .i64 (j : Int))] _
              refine EW.seq ?_; refine EW.seq ?_
              by_cases hij : i ≤ j
              · refine EW.ordB [(0, 0, 0), (1, 0, 0), (2, 0, 0), (3, 0, 0), (4, 0, 0), (5, 0, 0), (6, 0, 0), (7, 0, 0), (8, 0, 1), (9, 0, 0), (10, 0, 0), (11, 0, 0), (12, 0, 1), (13, 1, 1), (14, 0, 0), (15, 0, 0), (16, 0, 0)] (by kernel_rfl) rfl (by kernel_rfl) ?_; simp only [opsZ, List.getD_cons_zero, List.getD_cons_succ]; refine ZE.move rfl rfl rfl rfl sz0 ?_; refine ZE.move rfl rfl rfl rfl sz0 ?_; refine ZE.bin rfl rfl rfl rfl rfl sz0 (fun W => int_le_t (by omega) W _ _) ?_; refine ZE.move rfl rfl rfl rfl sz0 ?_
                first | refine ZE.move rfl rfl rfl rfl sz0 ?_ | refine ZE.skip rfl rfl rfl sz0 ?_
                first | refine ZE.move rfl rfl rfl rfl sz0 ?_ | refine ZE.skip rfl rfl rfl sz0 ?_
                first | refine ZE.move rfl rfl rfl rfl sz0 ?_ | refine ZE.skip rfl rfl rfl sz0 ?_
                obtain ⟨x1, ad1, hx1, hm1, ix1, lx1⟩ := pi.r.at' (t := j) (by rw [pi.len]; omega)
                refine ZE.index rfl rfl rfl rfl rfl sz0 (fun W => ix1 W) ?_; refine ZE.load rfl rfl rfl rfl sz1 (fun W hW => lx1 W (sb_of hW)) ?_
                first | refine ZE.move rfl rfl rfl rfl sz0 ?_ | refine ZE.skip rfl rfl rfl sz0 ?_
                first | refine ZE.move rfl rfl rfl rfl sz0 ?_ | refine ZE.skip rfl rfl rfl sz0 ?_
                obtain ⟨x2, ad2, hx2, hm2, ix2, lx2⟩ := pi.r.at' (t := a) (by rw [pi.len]; omega)
                refine ZE.index rfl rfl rfl rfl rfl sz0 (fun W => ix2 W) ?_; refine ZE.load rfl rfl rfl rfl sz1 (fun W hW => lx2 W (sb_of hW)) ?_; refine ZE.callFR [.agg (pgC x1).toArray, .agg (pgC x2).toArray] (fun v W => (∃ r, v = .int .i64 r) ∧ Below wi.heap.size wi W) enter70 rfl rfl rfl rfl (fun _ _ h => .inr h.2) (fun W hW => (cmpf_any x1 x2 W).mono fun e w' ⟨⟨r, g1⟩, g2⟩ => ⟨_, g1, ⟨r, rfl⟩, hW.trans (g2.mono hW.size)⟩) ?_
                rintro _ ⟨_, ⟨rc, rfl⟩, _⟩
                refine ZE.bin rfl rfl rfl rfl rfl sz0 (fun W => int_lt_d _ _ W _ _) ?_
                first | refine ZE.un rfl rfl rfl rfl sz0 (fun W => not_t _ W) ?_ | refine ZE.skip rfl rfl rfl sz0 ?_
                refine ZE.pick rfl rfl rfl rfl rfl sz0 ?_
                rintro wc ⟨_, ec⟩
                replace pi := pi.below ec
                refine EW.on ?_; refine EW.cond_b rfl (fun h139 => ?_) (fun h139 => ?_)
                · refine EW.skip ?_; refine EW.on ?_; refine EW.block ?_; refine EW.region ?_; refine WL.move rfl rfl rfl ?_; refine WL.bin rfl rfl rfl rfl (int_sub (c := ((j - 1 : Nat) : Int)) (by rw [IntKind.wrap_i64]; omega) _ _ _) ?_; refine WL.assign rfl rfl rfl ?_; refine WL.done ?_; refine pn_block ?_; refine EW.again (E := ptE v a 12 13) (R := PtR w v l a b (i1) (j1)) (m := fun x => x.2.1 + 1 - x.1) (x := (i, j, li)) (i, j - 1, li) [0, 1, 4, 12, 13] rfl ⟨pi, by simp only; omega, by simp only; omega, by simp only; omega, by simp only; omega, by simp only; omega, by simp only; omega⟩ (by simp only; omega)
                · refine EW.exit ?_; refine px_then ?_; refine px_then ?_; refine px_block ?_; refine EW.on ?_; refine EW.seq ?_; refine EW.seq ?_; refine EW.region ?_; refine WL.move rfl rfl rfl ?_; refine WL.move rfl rfl rfl ?_; refine WL.bin rfl rfl rfl rfl (int_gt_d _ _ _ _ _) ?_; refine WL.done ?_; refine EW.on ?_; refine EW.cond_d rfl (fun h144 => ?_) (fun h144 => ?_)
                  · refine EW.exit ?_; refine px_then ?_; refine px_other (by decide) ?_; refine px_then ?_; refine px_block ?_; refine EW.on ?_; refine EW.seq ?_; refine EW.ordB [(0, 0, 0), (1, 0, 0), (2, 0, 0), (3, 0, 0), (4, 0, 0), (5, 0, 0), (6, 0, 0), (7, 0, 1), (8, 0, 0), (9, 0, 0), (10, 0, 0), (11, 0, 1), (12, 0, 0), (13, 1, 0), (14, 0, 0), (15, 1, 0)] (by kernel_rfl) rfl (by kernel_rfl) ?_; simp only [opsZ, List.getD_cons_zero, List.getD_cons_succ]; refine ZE.move rfl rfl rfl rfl sz0 ?_; refine ZE.move rfl rfl rfl rfl sz0 ?_; refine ZE.move rfl rfl rfl rfl sz0 ?_; refine ZE.move rfl rfl rfl rfl sz0 ?_; refine ZE.move rfl rfl rfl rfl sz0 ?_; refine ZE.move rfl rfl rfl rfl sz0 ?_
                    obtain ⟨x1, ad1, hx1, hm1, ix1, lx1⟩ := pi.r.at' (t := a) (by rw [pi.len]; omega)
                    refine ZE.index rfl rfl rfl rfl rfl sz0 (fun W => ix1 W) ?_; refine ZE.load rfl rfl rfl rfl sz1 (fun W hW => lx1 W (sb_of hW)) ?_; refine ZE.move rfl rfl rfl rfl sz0 ?_; refine ZE.move rfl rfl rfl rfl sz0 ?_
                    obtain ⟨x2, ad2, hx2, hm2, ix2, lx2⟩ := pi.r.at' (t := j) (by rw [pi.len]; omega)
                    refine ZE.index rfl rfl rfl rfl rfl sz0 (fun W => ix2 W) ?_; refine ZE.load rfl rfl rfl rfl sz1 (fun W hW => lx2 W (sb_of hW)) ?_; refine ZE.index rfl rfl rfl rfl rfl sz0 (fun W => ix2 W) ?_
                    refine ZE.store (fun W => Pws W v (li.set (j) x1) ∧ Fx (fun k => v.ownBlock = some k) wc W) rfl rfl rfl (fun _ _ => .inl rfl) (fun W hW => by
      obtain ⟨w', g1, g2, g3⟩ := pi.r.swap1 (pi.apt hs) (I := j) (by rw [pi.len]; omega) hm1 ix2 W hW
      exact ⟨w', g1, g2, g3⟩) ?_
                    refine ZE.index rfl rfl rfl rfl rfl sz0 (fun W => ix1 W) ?_; refine ZE.store (fun W => Prm wc v li W ((li.set (j) x1).set (a) x2)) rfl rfl rfl (fun _ _ => .inl rfl) (fun W hW => pi.r.swap2 (pi.apt hs) hx2 hx1 ix1 W hW.1 hW.2) ?_
                    rintro ws ps_
                    replace pi := pi.trans ps_
                    refine EW.on ?_; refine EW.seq ?_; refine EW.region ?_; refine WL.move rfl rfl rfl ?_; refine WL.assign rfl rfl rfl ?_; refine WL.assign rfl rfl rfl ?_; refine WL.done ?_; refine EW.on ?_; refine EW.ret ?_
                    exact EW.returns2 Tryz.results97 rfl rfl ⟨j, _, rfl, by omega, by omega, _, pi⟩
                  · refine EW.skip ?_; refine EW.on ?_; refine EW.seq ?_; refine EW.ordB [(0, 0, 0), (1, 0, 0), (2, 0, 0), (3, 0, 0), (4, 0, 0), (5, 0, 0), (6, 0, 0), (7, 0, 1), (8, 0, 0), (9, 0, 0), (10, 0, 0), (11, 0, 1), (12, 0, 0), (13, 1, 0), (14, 0, 0), (15, 1, 0)] (by kernel_rfl) rfl (by kernel_rfl) ?_; simp only [opsZ, List.getD_cons_zero, List.getD_cons_succ]; refine ZE.move rfl rfl rfl rfl sz0 ?_; refine ZE.move rfl rfl rfl rfl sz0 ?_; refine ZE.move rfl rfl rfl rfl sz0 ?_; refine ZE.move rfl rfl rfl rfl sz0 ?_; refine ZE.move rfl rfl rfl rfl sz0 ?_; refine ZE.move rfl rfl rfl rfl sz0 ?_
                    obtain ⟨x1, ad1, hx1, hm1, ix1, lx1⟩ := pi.r.at' (t := j) (by rw [pi.len]; omega)
                    refine ZE.index rfl rfl rfl rfl rfl sz0 (fun W => ix1 W) ?_; refine ZE.load rfl rfl rfl rfl sz1 (fun W hW => lx1 W (sb_of hW)) ?_; refine ZE.move rfl rfl rfl rfl sz0 ?_; refine ZE.move rfl rfl rfl rfl sz0 ?_
                    obtain ⟨x2, ad2, hx2, hm2, ix2, lx2⟩ := pi.r.at' (t := i) (by rw [pi.len]; omega)
                    refine ZE.index rfl rfl rfl rfl rfl sz0 (fun W => ix2 W) ?_; refine ZE.load rfl rfl rfl rfl sz1 (fun W hW => lx2 W (sb_of hW)) ?_; refine ZE.index rfl rfl rfl rfl rfl sz0 (fun W => ix2 W) ?_
                    refine ZE.store (fun W => Pws W v (li.set (i) x1) ∧ Fx (fun k => v.ownBlock = some k) wc W) rfl rfl rfl (fun _ _ => .inl rfl) (fun W hW => by
      obtain ⟨w', g1, g2, g3⟩ := pi.r.swap1 (pi.apt hs) (I := i) (by rw [pi.len]; omega) hm1 ix2 W hW
      exact ⟨w', g1, g2, g3⟩) ?_
                    refine ZE.index rfl rfl rfl rfl rfl sz0 (fun W => ix1 W) ?_; refine ZE.store (fun W => Prm wc v li W ((li.set (i) x1).set (j) x2)) rfl rfl rfl (fun _ _ => .inl rfl) (fun W hW => pi.r.swap2 (pi.apt hs) hx2 hx1 ix1 W hW.1 hW.2) ?_
                    rintro ws ps_
                    replace pi := pi.trans ps_
                    refine EW.on ?_; refine EW.seq ?_; refine EW.region ?_; refine WL.move rfl rfl rfl ?_; refine WL.bin rfl rfl rfl rfl (int_add (c := ((i + 1 : Nat) : Int)) (by rw [IntKind.wrap_i64]; omega) _ _ _) ?_; refine WL.assign rfl rfl rfl ?_; refine WL.done ?_; refine EW.on ?_; refine EW.region ?_; refine WL.move rfl rfl rfl ?_; refine WL.bin rfl rfl rfl rfl (int_sub (c := ((j - 1 : Nat) : Int)) (by rw [IntKind.wrap_i64]; omega) _ _ _) ?_; refine WL.assign rfl rfl rfl ?_; refine WL.done ?_; refine pn_block ?_; refine EW.again (E := ptE v a 12 13) (R := PtR w v l a b (a + 1) (b - 1)) (m := fun x => x.2.1 + 1 - x.1) (x := (i1, j1, l1)) (i + 1, j - 1, _) [0, 1, 4, 12, 13] rfl ⟨pi, by simp only; omega, by simp only; omega, by simp only; omega, by simp only; omega, by simp only; omega, by simp only; omega⟩ (by simp only; omega)
              · refine EW.ordB [(0, 0, 0), (1, 0, 0), (2, 0, 0), (3, 0, 0), (4, 0, 0), (5, 0, 0), (6, 0, 0), (7, 0, 0), (8, 0, 1), (9, 0, 0), (10, 0, 0), (11, 0, 0), (12, 0, 1), (13, 0, 0), (14, 0, 0), (15, 0, 0), (16, 0, 0)] (by kernel_rfl) rfl (by kernel_rfl) ?_; simp only [opsZ, List.getD_cons_zero, List.getD_cons_succ]; refine ZE.move rfl rfl rfl rfl sz0 ?_; refine ZE.move rfl rfl rfl rfl sz0 ?_; refine ZE.bin rfl rfl rfl rfl rfl sz0 (fun W => int_le_f (by omega) W _ _) ?_; refine ZE.move rfl rfl rfl rfl sz0 ?_
                first | refine ZE.move rfl rfl rfl rfl sz0 ?_ | refine ZE.skip rfl rfl rfl sz0 ?_
                first | refine ZE.move rfl rfl rfl rfl sz0 ?_ | refine ZE.skip rfl rfl rfl sz0 ?_
                first | refine ZE.move rfl rfl rfl rfl sz0 ?_ | refine ZE.skip rfl rfl rfl sz0 ?_
                refine ZE.skip rfl rfl rfl sz0 ?_; refine ZE.skip rfl rfl rfl sz1 ?_
                first | refine ZE.move rfl rfl rfl rfl sz0 ?_ | refine ZE.skip rfl rfl rfl sz0 ?_
                first | refine ZE.move rfl rfl rfl rfl sz0 ?_ | refine ZE.skip rfl rfl rfl sz0 ?_
                refine ZE.skip rfl rfl rfl sz0 ?_; refine ZE.skip rfl rfl rfl sz1 ?_; refine ZE.skip rfl rfl rfl sz0 ?_; refine ZE.skip rfl rfl rfl sz0 ?_; refine ZE.skip rfl rfl rfl sz0 ?_; refine ZE.pick rfl rfl rfl rfl rfl sz0 ?_
                rintro wc ec
                replace pi := pi.below ec
                refine EW.on ?_; refine EW.cond_f rfl ?_; refine EW.exit ?_; refine px_then ?_; refine px_then ?_; refine px_block ?_; refine EW.on ?_; refine EW.seq ?_; refine EW.seq ?_; refine EW.region ?_; refine WL.move rfl rfl rfl ?_; refine WL.move rfl rfl rfl ?_; refine WL.bin rfl rfl rfl rfl (int_gt_d _ _ _ _ _) ?_; refine WL.done ?_; refine EW.on ?_; refine EW.cond_d rfl (fun h144 => ?_) (fun h144 => ?_)
                · refine EW.exit ?_; refine px_then ?_; refine px_other (by decide) ?_; refine px_then ?_; refine px_block ?_; refine EW.on ?_; refine EW.seq ?_; refine EW.ordB [(0, 0, 0), (1, 0, 0), (2, 0, 0), (3, 0, 0), (4, 0, 0), (5, 0, 0), (6, 0, 0), (7, 0, 1), (8, 0, 0), (9, 0, 0), (10, 0, 0), (11, 0, 1), (12, 0, 0), (13, 1, 0), (14, 0, 0), (15, 1, 0)] (by kernel_rfl) rfl (by kernel_rfl) ?_; simp only [opsZ, List.getD_cons_zero, List.getD_cons_succ]; refine ZE.move rfl rfl rfl rfl sz0 ?_; refine ZE.move rfl rfl rfl rfl sz0 ?_; refine ZE.move rfl rfl rfl rfl sz0 ?_; refine ZE.move rfl rfl rfl rfl sz0 ?_; refine ZE.move rfl rfl rfl rfl sz0 ?_; refine ZE.move rfl rfl rfl rfl sz0 ?_
                  obtain ⟨x1, ad1, hx1, hm1, ix1, lx1⟩ := pi.r.at' (t := a) (by rw [pi.len]; omega)
                  refine ZE.index rfl rfl rfl rfl rfl sz0 (fun W => ix1 W) ?_; refine ZE.load rfl rfl rfl rfl sz1 (fun W hW => lx1 W (sb_of hW)) ?_; refine ZE.move rfl rfl rfl rfl sz0 ?_; refine ZE.move rfl rfl rfl rfl sz0 ?_
                  obtain ⟨x2, ad2, hx2, hm2, ix2, lx2⟩ := pi.r.at' (t := j) (by rw [pi.len]; omega)
                  refine ZE.index rfl rfl rfl rfl rfl sz0 (fun W => ix2 W) ?_; refine ZE.load rfl rfl rfl rfl sz1 (fun W hW => lx2 W (sb_of hW)) ?_; refine ZE.index rfl rfl rfl rfl rfl sz0 (fun W => ix2 W) ?_
                  refine ZE.store (fun W => Pws W v (li.set (j) x1) ∧ Fx (fun k => v.ownBlock = some k) wc W) rfl rfl rfl (fun _ _ => .inl rfl) (fun W hW => by
      obtain ⟨w', g1, g2, g3⟩ := pi.r.swap1 (pi.apt hs) (I := j) (by rw [pi.len]; omega) hm1 ix2 W hW
      exact ⟨w', g1, g2, g3⟩) ?_
                  refine ZE.index rfl rfl rfl rfl rfl sz0 (fun W => ix1 W) ?_; refine ZE.store (fun W => Prm wc v li W ((li.set (j) x1).set (a) x2)) rfl rfl rfl (fun _ _ => .inl rfl) (fun W hW => pi.r.swap2 (pi.apt hs) hx2 hx1 ix1 W hW.1 hW.2) ?_
                  rintro ws ps_
                  replace pi := pi.trans ps_
                  refine EW.on ?_; refine EW.seq ?_; refine EW.region ?_; refine WL.move rfl rfl rfl ?_; refine WL.assign rfl rfl rfl ?_; refine WL.assign rfl rfl rfl ?_; refine WL.done ?_; refine EW.on ?_; refine EW.ret ?_
                  exact EW.returns2 Tryz.results97 rfl rfl ⟨j, _, rfl, by omega, by omega, _, pi⟩
                · refine EW.skip ?_; refine EW.on ?_; refine EW.seq ?_; refine EW.ordB [(0, 0, 0), (1, 0, 0), (2, 0, 0), (3, 0, 0), (4, 0, 0), (5, 0, 0), (6, 0, 0), (7, 0, 1), (8, 0, 0), (9, 0, 0), (10, 0, 0), (11, 0, 1), (12, 0, 0), (13, 1, 0), (14, 0, 0), (15, 1, 0)] (by kernel_rfl) rfl (by kernel_rfl) ?_; simp only [opsZ, List.getD_cons_zero, List.getD_cons_succ]; refine ZE.move rfl rfl rfl rfl sz0 ?_; refine ZE.move rfl rfl rfl rfl sz0 ?_; refine ZE.move rfl rfl rfl rfl sz0 ?_; refine ZE.move rfl rfl rfl rfl sz0 ?_; refine ZE.move rfl rfl rfl rfl sz0 ?_; refine ZE.move rfl rfl rfl rfl sz0 ?_
                  obtain ⟨x1, ad1, hx1, hm1, ix1, lx1⟩ := pi.r.at' (t := j) (by rw [pi.len]; omega)
                  refine ZE.index rfl rfl rfl rfl rfl sz0 (fun W => ix1 W) ?_; refine ZE.load rfl rfl rfl rfl sz1 (fun W hW => lx1 W (sb_of hW)) ?_; refine ZE.move rfl rfl rfl rfl sz0 ?_; refine ZE.move rfl rfl rfl rfl sz0 ?_
                  obtain ⟨x2, ad2, hx2, hm2, ix2, lx2⟩ := pi.r.at' (t := i) (by rw [pi.len]; omega)
                  refine ZE.index rfl rfl rfl rfl rfl sz0 (fun W => ix2 W) ?_; refine ZE.load rfl rfl rfl rfl sz1 (fun W hW => lx2 W (sb_of hW)) ?_; refine ZE.index rfl rfl rfl rfl rfl sz0 (fun W => ix2 W) ?_
                  refine ZE.store (fun W => Pws W v (li.set (i) x1) ∧ Fx (fun k => v.ownBlock = some k) wc W) rfl rfl rfl (fun _ _ => .inl rfl) (fun W hW => by
      obtain ⟨w', g1, g2, g3⟩ := pi.r.swap1 (pi.apt hs) (I := i) (by rw [pi.len]; omega) hm1 ix2 W hW
      exact ⟨w', g1, g2, g3⟩) ?_
                  refine ZE.index rfl rfl rfl rfl rfl sz0 (fun W => ix1 W) ?_; refine ZE.store (fun W => Prm wc v li W ((li.set (i) x1).set (j) x2)) rfl rfl rfl (fun _ _ => .inl rfl) (fun W hW => pi.r.swap2 (pi.apt hs) hx2 hx1 ix1 W hW.1 hW.2) ?_
                  rintro ws ps_
                  replace pi := pi.trans ps_
                  refine EW.on ?_; refine EW.seq ?_; refine EW.region ?_; refine WL.move rfl rfl rfl ?_; refine WL.bin rfl rfl rfl rfl (int_add (c := ((i + 1 : Nat) : Int)) (by rw [IntKind.wrap_i64]; omega) _ _ _) ?_; refine WL.assign rfl rfl rfl ?_; refine WL.done ?_; refine EW.on ?_; refine EW.region ?_; refine WL.move rfl rfl rfl ?_; refine WL.bin rfl rfl rfl rfl (int_sub (c := ((j - 1 : Nat) : Int)) (by rw [IntKind.wrap_i64]; omega) _ _ _) ?_; refine WL.assign rfl rfl rfl ?_; refine WL.done ?_; refine pn_block ?_; refine EW.again (E := ptE v a 12 13) (R := PtR w v l a b (a + 1) (b - 1)) (m := fun x => x.2.1 + 1 - x.1) (x := (i1, j1, l1)) (i + 1, j - 1, _) [0, 1, 4, 12, 13] rfl ⟨pi, by simp only; omega, by simp only; omega, by simp only; omega, by simp only; omega, by simp only; omega, by simp only; omega⟩ (by simp only; omega)
          · refine EW.ordB [(0, 0, 0), (1, 0, 0), (2, 0, 0), (3, 0, 0), (4, 0, 0), (5, 0, 0), (6, 0, 0), (7, 0, 0), (8, 0, 1), (9, 0, 0), (10, 0, 0), (11, 0, 0), (12, 0, 1), (13, 0, 0), (14, 0, 0), (15, 0, 0)] (by kernel_rfl) rfl (by kernel_rfl) ?_; simp only [opsZ, List.getD_cons_zero, List.getD_cons_succ]; refine ZE.move rfl rfl rfl rfl sz0 ?_; refine ZE.move rfl rfl rfl rfl sz0 ?_; refine ZE.bin rfl rfl rfl rfl rfl sz0 (fun W => int_le_f (by omega) W _ _) ?_; refine ZE.move rfl rfl rfl rfl sz0 ?_
            first | refine ZE.move rfl rfl rfl rfl sz0 ?_ | refine ZE.skip rfl rfl rfl sz0 ?_
            first | refine ZE.move rfl rfl rfl rfl sz0 ?_ | refine ZE.skip rfl rfl rfl sz0 ?_
            first | refine ZE.move rfl rfl rfl rfl sz0 ?_ | refine ZE.skip rfl rfl rfl sz0 ?_
            refine ZE.skip rfl rfl rfl sz0 ?_; refine ZE.skip rfl rfl rfl sz1 ?_
            first | refine ZE.move rfl rfl rfl rfl sz0 ?_ | refine ZE.skip rfl rfl rfl sz0 ?_
            first | refine ZE.move rfl rfl rfl rfl sz0 ?_ | refine ZE.skip rfl rfl rfl sz0 ?_
            refine ZE.skip rfl rfl rfl sz0 ?_; refine ZE.skip rfl rfl rfl sz1 ?_; refine ZE.skip rfl rfl rfl sz0 ?_; refine ZE.skip rfl rfl rfl sz0 ?_; refine ZE.pick rfl rfl rfl rfl rfl sz0 ?_
            rintro wc ec
            replace pi := pi.below ec
            refine EW.on ?_; refine EW.cond_f rfl ?_; refine EW.exit ?_; refine px_then ?_; refine px_then ?_; refine px_block ?_; refine EW.on ?_; refine EW.seq ?_; refine EW.block ?_; refine EW.loop (ptE v a 12 13) (PtR w v l a b (i1) (j1)) (fun x => x.2.1 + 1 - x.1) (i, j, _) [0, 1, 4, 12, 13] rfl ⟨pi, by simp only; omega, by simp only; omega, by simp only; omega, by simp only; omega, by simp only; omega, by simp only; omega⟩ ?_
            clear pi
            rintro ⟨i, j, li⟩ wi ⟨pi, hi0, hj0, hlo, hhi, haj, hib⟩
            simp only at pi hi0 hj0 hlo hhi haj hib
            show EW _ _ _ _ [(0, v), (1, .int .i64 (a : Int)), (4, fnV), (12, .int .i64 (i : Int)), (13, .int .i64 (j : Int))] _
            refine EW.seq ?_; refine EW.seq ?_
            by_cases hij : i ≤ j
            · refine EW.ordB [(0, 0, 0), (1, 0, 0), (2, 0, 0), (3, 0, 0), (4, 0, 0), (5, 0, 0), (6, 0, 0), (7, 0, 0), (8, 0, 1), (9, 0, 0), (10, 0, 0), (11, 0, 0), (12, 0, 1), (13, 1, 1), (14, 0, 0), (15, 0, 0), (16, 0, 0)] (by kernel_rfl) rfl (by kernel_rfl) ?_; simp only [opsZ, List.getD_cons_zero, List.getD_cons_succ]; refine ZE.move rfl rfl rfl rfl sz0 ?_; refine ZE.move rfl rfl rfl rfl sz0 ?_; refine ZE.bin rfl rfl rfl rfl rfl sz0 (fun W => int_le_t (by omega) W _ _) ?_; refine ZE.move rfl rfl rfl rfl sz0 ?_
              first | refine ZE.move rfl rfl rfl rfl sz0 ?_ | refine ZE.skip rfl rfl rfl sz0 ?_
              first | refine ZE.move rfl rfl rfl rfl sz0 ?_ | refine ZE.skip rfl rfl rfl sz0 ?_
              first | refine ZE.move rfl rfl rfl rfl sz0 ?_ | refine ZE.skip rfl rfl rfl sz0 ?_
              obtain ⟨x1, ad1, hx1, hm1, ix1, lx1⟩ := pi.r.at' (t := j) (by rw [pi.len]; omega)
              refine ZE.index rfl rfl rfl rfl rfl sz0 (fun W => ix1 W) ?_; refine ZE.load rfl rfl rfl rfl sz1 (fun W hW => lx1 W (sb_of hW)) ?_
              first | refine ZE.move rfl rfl rfl rfl sz0 ?_ | refine ZE.skip rfl rfl rfl sz0 ?_
              first | refine ZE.move rfl rfl rfl rfl sz0 ?_ | refine ZE.skip rfl rfl rfl sz0 ?_
              obtain ⟨x2, ad2, hx2, hm2, ix2, lx2⟩ := pi.r.at' (t := a) (by rw [pi.len]; omega)
              refine ZE.index rfl rfl rfl rfl rfl sz0 (fun W => ix2 W) ?_; refine ZE.load rfl rfl rfl rfl sz1 (fun W hW => lx2 W (sb_of hW)) ?_; refine ZE.callFR [.agg (pgC x1).toArray, .agg (pgC x2).toArray] (fun v W => (∃ r, v = .int .i64 r) ∧ Below wi.heap.size wi W) enter70 rfl rfl rfl rfl (fun _ _ h => .inr h.2) (fun W hW => (cmpf_any x1 x2 W).mono fun e w' ⟨⟨r, g1⟩, g2⟩ => ⟨_, g1, ⟨r, rfl⟩, hW.trans (g2.mono hW.size)⟩) ?_
              rintro _ ⟨_, ⟨rc, rfl⟩, _⟩
              refine ZE.bin rfl rfl rfl rfl rfl sz0 (fun W => int_lt_d _ _ W _ _) ?_
              first | refine ZE.un rfl rfl rfl rfl sz0 (fun W => not_t _ W) ?_ | refine ZE.skip rfl rfl rfl sz0 ?_
              refine ZE.pick rfl rfl rfl rfl rfl sz0 ?_
              rintro wc ⟨_, ec⟩
              replace pi := pi.below ec
              refine EW.on ?_; refine EW.cond_b rfl (fun h139 => ?_) (fun h139 => ?_)
              · refine EW.skip ?_; refine EW.on ?_; refine EW.block ?_; refine EW.region ?_; refine WL.move rfl rfl rfl ?_; refine WL.bin rfl rfl rfl rfl (int_sub (c := ((j - 1 : Nat) : Int)) (by rw [IntKind.wrap_i64]; omega) _ _ _) ?_; refine WL.assign rfl rfl rfl ?_; refine WL.done ?_; refine pn_block ?_; refine EW.again (E := ptE v a 12 13) (R := PtR w v l a b (i1) (j1)) (m := fun x => x.2.1 + 1 - x.1) (x := (i, j, li)) (i, j - 1, li) [0, 1, 4, 12, 13] rfl ⟨pi, by simp only; omega, by simp only; omega, by simp only; omega, by simp only; omega, by simp only; omega, by simp only; omega⟩ (by simp only; omega)
              · refine EW.exit ?_; refine px_then ?_; refine px_then ?_; refine px_block ?_; refine EW.on ?_; refine EW.seq ?_; refine EW.seq ?_; refine EW.region ?_; refine WL.move rfl rfl rfl ?_; refine WL.move rfl rfl rfl ?_; refine WL.bin rfl rfl rfl rfl (int_gt_d _ _ _ _ _) ?_; refine WL.done ?_; refine EW.on ?_; refine EW.cond_d rfl (fun h144 => ?_) (fun h144 => ?_)
                · refine EW.exit ?_; refine px_then ?_; refine px_other (by decide) ?_; refine px_then ?_; refine px_block ?_; refine EW.on ?_; refine EW.seq ?_; refine EW.ordB [(0, 0, 0), (1, 0, 0), (2, 0, 0), (3, 0, 0), (4, 0, 0), (5, 0, 0), (6, 0, 0), (7, 0, 1), (8, 0, 0), (9, 0, 0), (10, 0, 0), (11, 0, 1), (12, 0, 0), (13, 1, 0), (14, 0, 0), (15, 1, 0)] (by kernel_rfl) rfl (by kernel_rfl) ?_; simp only [opsZ, List.getD_cons_zero, List.getD_cons_succ]; refine ZE.move rfl rfl rfl rfl sz0 ?_; refine ZE.move rfl rfl rfl rfl sz0 ?_; refine ZE.move rfl rfl rfl rfl sz0 ?_; refine ZE.move rfl rfl rfl rfl sz0 ?_; refine ZE.move rfl rfl rfl rfl sz0 ?_; refine ZE.move rfl rfl rfl rfl sz0 ?_
                  obtain ⟨x1, ad1, hx1, hm1, ix1, lx1⟩ := pi.r.at' (t := a) (by rw [pi.len]; omega)
                  refine ZE.index rfl rfl rfl rfl rfl sz0 (fun W => ix1 W) ?_; refine ZE.load rfl rfl rfl rfl sz1 (fun W hW => lx1 W (sb_of hW)) ?_; refine ZE.move rfl rfl rfl rfl sz0 ?_; refine ZE.move rfl rfl rfl rfl sz0 ?_
                  obtain ⟨x2, ad2, hx2, hm2, ix2, lx2⟩ := pi.r.at' (t := j) (by rw [pi.len]; omega)
                  refine ZE.index rfl rfl rfl rfl rfl sz0 (fun W => ix2 W) ?_; refine ZE.load rfl rfl rfl rfl sz1 (fun W hW => lx2 W (sb_of hW)) ?_; refine ZE.index rfl rfl rfl rfl rfl sz0 (fun W => ix2 W) ?_
                  refine ZE.store (fun W => Pws W v (li.set (j) x1) ∧ Fx (fun k => v.ownBlock = some k) wc W) rfl rfl rfl (fun _ _ => .inl rfl) (fun W hW => by
      obtain ⟨w', g1, g2, g3⟩ := pi.r.swap1 (pi.apt hs) (I := j) (by rw [pi.len]; omega) hm1 ix2 W hW
      exact ⟨w', g1, g2, g3⟩) ?_
                  refine ZE.index rfl rfl rfl rfl rfl sz0 (fun W => ix1 W) ?_; refine ZE.store (fun W => Prm wc v li W ((li.set (j) x1).set (a) x2)) rfl rfl rfl (fun _ _ => .inl rfl) (fun W hW => pi.r.swap2 (pi.apt hs) hx2 hx1 ix1 W hW.1 hW.2) ?_
                  rintro ws ps_
                  replace pi := pi.trans ps_
                  refine EW.on ?_; refine EW.seq ?_; refine EW.region ?_; refine WL.move rfl rfl rfl ?_; refine WL.assign rfl rfl rfl ?_; refine WL.assign rfl rfl rfl ?_; refine WL.done ?_; refine EW.on ?_; refine EW.ret ?_
                  exact EW.returns2 Tryz.results97 rfl rfl ⟨j, _, rfl, by omega, by omega, _, pi⟩
                · refine EW.skip ?_; refine EW.on ?_; refine EW.seq ?_; refine EW.ordB [(0, 0, 0), (1, 0, 0), (2, 0, 0), (3, 0, 0), (4, 0, 0), (5, 0, 0), (6, 0, 0), (7, 0, 1), (8, 0, 0), (9, 0, 0), (10, 0, 0), (11, 0, 1), (12, 0, 0), (13, 1, 0), (14, 0, 0), (15, 1, 0)] (by kernel_rfl) rfl (by kernel_rfl) ?_; simp only [opsZ, List.getD_cons_zero, List.getD_cons_succ]; refine ZE.move rfl rfl rfl rfl sz0 ?_; refine ZE.move rfl rfl rfl rfl sz0 ?_; refine ZE.move rfl rfl rfl rfl sz0 ?_; refine ZE.move rfl rfl rfl rfl sz0 ?_; refine ZE.move rfl rfl rfl rfl sz0 ?_; refine ZE.move rfl rfl rfl rfl sz0 ?_
                  obtain ⟨x1, ad1, hx1, hm1, ix1, lx1⟩ := pi.r.at' (t := j) (by rw [pi.len]; omega)
                  refine ZE.index rfl rfl rfl rfl rfl sz0 (fun W => ix1 W) ?_; refine ZE.load rfl rfl rfl rfl sz1 (fun W hW => lx1 W (sb_of hW)) ?_; refine ZE.move rfl rfl rfl rfl sz0 ?_; refine ZE.move rfl rfl rfl rfl sz0 ?_
                  obtain ⟨x2, ad2, hx2, hm2, ix2, lx2⟩ := pi.r.at' (t := i) (by rw [pi.len]; omega)
                  refine ZE.index rfl rfl rfl rfl rfl sz0 (fun W => ix2 W) ?_; refine ZE.load rfl rfl rfl rfl sz1 (fun W hW => lx2 W (sb_of hW)) ?_; refine ZE.index rfl rfl rfl rfl rfl sz0 (fun W => ix2 W) ?_
                  refine ZE.store (fun W => Pws W v (li.set (i) x1) ∧ Fx (fun k => v.ownBlock = some k) wc W) rfl rfl rfl (fun _ _ => .inl rfl) (fun W hW => by
      obtain ⟨w', g1, g2, g3⟩ := pi.r.swap1 (pi.apt hs) (I := i) (by rw [pi.len]; omega) hm1 ix2 W hW
      exact ⟨w', g1, g2, g3⟩) ?_
                  refine ZE.index rfl rfl rfl rfl rfl sz0 (fun W => ix1 W) ?_; refine ZE.store (fun W => Prm wc v li W ((li.set (i) x1).set (j) x2)) rfl rfl rfl (fun _ _ => .inl rfl) (fun W hW => pi.r.swap2 (pi.apt hs) hx2 hx1 ix1 W hW.1 hW.2) ?_
                  rintro ws ps_
                  replace pi := pi.trans ps_
                  refine EW.on ?_; refine EW.seq ?_; refine EW.region ?_; refine WL.move rfl rfl rfl ?_; refine WL.bin rfl rfl rfl rfl (int_add (c := ((i + 1 : Nat) : Int)) (by rw [IntKind.wrap_i64]; omega) _ _ _) ?_; refine WL.assign rfl rfl rfl ?_; refine WL.done ?_; refine EW.on ?_; refine EW.region ?_; refine WL.move rfl rfl rfl ?_; refine WL.bin rfl rfl rfl rfl (int_sub (c := ((j - 1 : Nat) : Int)) (by rw [IntKind.wrap_i64]; omega) _ _ _) ?_; refine WL.assign rfl rfl rfl ?_; refine WL.done ?_; refine pn_block ?_; refine EW.again (E := ptE v a 12 13) (R := PtR w v l a b (a + 1) (b - 1)) (m := fun x => x.2.1 + 1 - x.1) (x := (i1, j1, l1)) (i + 1, j - 1, _) [0, 1, 4, 12, 13] rfl ⟨pi, by simp only; omega, by simp only; omega, by simp only; omega, by simp only; omega, by simp only; omega, by simp only; omega⟩ (by simp only; omega)
            · refine EW.ordB [(0, 0, 0), (1, 0, 0), (2, 0, 0), (3, 0, 0), (4, 0, 0), (5, 0, 0), (6, 0, 0), (7, 0, 0), (8, 0, 1), (9, 0, 0), (10, 0, 0), (11, 0, 0), (12, 0, 1), (13, 0, 0), (14, 0, 0), (15, 0, 0), (16, 0, 0)] (by kernel_rfl) rfl (by kernel_rfl) ?_; simp only [opsZ, List.getD_cons_zero, List.getD_cons_succ]; refine ZE.move rfl rfl rfl rfl sz0 ?_; refine ZE.move rfl rfl rfl rfl sz0 ?_; refine ZE.bin rfl rfl rfl rfl rfl sz0 (fun W => int_le_f (by omega) W _ _) ?_; refine ZE.move rfl rfl rfl rfl sz0 ?_
              first | refine ZE.move rfl rfl rfl rfl sz0 ?_ | refine ZE.skip rfl rfl rfl sz0 ?_
              first | refine ZE.move rfl rfl rfl rfl sz0 ?_ | refine ZE.skip rfl rfl rfl sz0 ?_
              first | refine ZE.move rfl rfl rfl rfl sz0 ?_ | refine ZE.skip rfl rfl rfl sz0 ?_
              refine ZE.skip rfl rfl rfl sz0 ?_; refine ZE.skip rfl rfl rfl sz1 ?_
              first | refine ZE.move rfl rfl rfl rfl sz0 ?_ | refine ZE.skip rfl rfl rfl sz0 ?_
              first | refine ZE.move rfl rfl rfl rfl sz0 ?_ | refine ZE.skip rfl rfl rfl sz0 ?_
              refine ZE.skip rfl rfl rfl sz0 ?_; refine ZE.skip rfl rfl rfl sz1 ?_; refine ZE.skip rfl rfl rfl sz0 ?_; refine ZE.skip rfl rfl rfl sz0 ?_; refine ZE.skip rfl rfl rfl sz0 ?_; refine ZE.pick rfl rfl rfl rfl rfl sz0 ?_
              rintro wc ec
              replace pi := pi.below ec
              refine EW.on ?_; refine EW.cond_f rfl ?_; refine EW.exit ?_; refine px_then ?_; refine px_then ?_; refine px_block ?_; refine EW.on ?_; refine EW.seq ?_; refine EW.seq ?_; refine EW.region ?_; refine WL.move rfl rfl rfl ?_; refine WL.move rfl rfl rfl ?_; refine WL.bin rfl rfl rfl rfl (int_gt_d _ _ _ _ _) ?_; refine WL.done ?_; refine EW.on ?_; refine EW.cond_d rfl (fun h144 => ?_) (fun h144 => ?_)
              · refine EW.exit ?_; refine px_then ?_; refine px_other (by decide) ?_; refine px_then ?_; refine px_block ?_; refine EW.on ?_; refine EW.seq ?_; refine EW.ordB [(0, 0, 0), (1, 0, 0), (2, 0, 0), (3, 0, 0), (4, 0, 0), (5, 0, 0), (6, 0, 0), (7, 0, 1), (8, 0, 0), (9, 0, 0), (10, 0, 0), (11, 0, 1), (12, 0, 0), (13, 1, 0), (14, 0, 0), (15, 1, 0)] (by kernel_rfl) rfl (by kernel_rfl) ?_; simp only [opsZ, List.getD_cons_zero, List.getD_cons_succ]; refine ZE.move rfl rfl rfl rfl sz0 ?_; refine ZE.move rfl rfl rfl rfl sz0 ?_; refine ZE.move rfl rfl rfl rfl sz0 ?_; refine ZE.move rfl rfl rfl rfl sz0 ?_; refine ZE.move rfl rfl rfl rfl sz0 ?_; refine ZE.move rfl rfl rfl rfl sz0 ?_
                obtain ⟨x1, ad1, hx1, hm1, ix1, lx1⟩ := pi.r.at' (t := a) (by rw [pi.len]; omega)
                refine ZE.index rfl rfl rfl rfl rfl sz0 (fun W => ix1 W) ?_; refine ZE.load rfl rfl rfl rfl sz1 (fun W hW => lx1 W (sb_of hW)) ?_; refine ZE.move rfl rfl rfl rfl sz0 ?_; refine ZE.move rfl rfl rfl rfl sz0 ?_
                obtain ⟨x2, ad2, hx2, hm2, ix2, lx2⟩ := pi.r.at' (t := j) (by rw [pi.len]; omega)
                refine ZE.index rfl rfl rfl rfl rfl sz0 (fun W => ix2 W) ?_; refine ZE.load rfl rfl rfl rfl sz1 (fun W hW => lx2 W (sb_of hW)) ?_; refine ZE.index rfl rfl rfl rfl rfl sz0 (fun W => ix2 W) ?_
                refine ZE.store (fun W => Pws W v (li.set (j) x1) ∧ Fx (fun k => v.ownBlock = some k) wc W) rfl rfl rfl (fun _ _ => .inl rfl) (fun W hW => by
      obtain ⟨w', g1, g2, g3⟩ := pi.r.swap1 (pi.apt hs) (I := j) (by rw [pi.len]; omega) hm1 ix2 W hW
      exact ⟨w', g1, g2, g3⟩) ?_
                refine ZE.index rfl rfl rfl rfl rfl sz0 (fun W => ix1 W) ?_; refine ZE.store (fun W => Prm wc v li W ((li.set (j) x1).set (a) x2)) rfl rfl rfl (fun _ _ => .inl rfl) (fun W hW => pi.r.swap2 (pi.apt hs) hx2 hx1 ix1 W hW.1 hW.2) ?_
                rintro ws ps_
                replace pi := pi.trans ps_
                refine EW.on ?_; refine EW.seq ?_; refine EW.region ?_; refine WL.move rfl rfl rfl ?_; refine WL.assign rfl rfl rfl ?_; refine WL.assign rfl rfl rfl ?_; refine WL.done ?_; refine EW.on ?_; refine EW.ret ?_
                exact EW.returns2 Tryz.results97 rfl rfl ⟨j, _, rfl, by omega, by omega, _, pi⟩
              · refine EW.skip ?_; refine EW.on ?_; refine EW.seq ?_; refine EW.ordB [(0, 0, 0), (1, 0, 0), (2, 0, 0), (3, 0, 0), (4, 0, 0), (5, 0, 0), (6, 0, 0), (7, 0, 1), (8, 0, 0), (9, 0, 0), (10, 0, 0), (11, 0, 1), (12, 0, 0), (13, 1, 0), (14, 0, 0), (15, 1, 0)] (by kernel_rfl) rfl (by kernel_rfl) ?_; simp only [opsZ, List.getD_cons_zero, List.getD_cons_succ]; refine ZE.move rfl rfl rfl rfl sz0 ?_; refine ZE.move rfl rfl rfl rfl sz0 ?_; refine ZE.move rfl rfl rfl rfl sz0 ?_; refine ZE.move rfl rfl rfl rfl sz0 ?_; refine ZE.move rfl rfl rfl rfl sz0 ?_; refine ZE.move rfl rfl rfl rfl sz0 ?_
                obtain ⟨x1, ad1, hx1, hm1, ix1, lx1⟩ := pi.r.at' (t := j) (by rw [pi.len]; omega)
                refine ZE.index rfl rfl rfl rfl rfl sz0 (fun W => ix1 W) ?_; refine ZE.load rfl rfl rfl rfl sz1 (fun W hW => lx1 W (sb_of hW)) ?_; refine ZE.move rfl rfl rfl rfl sz0 ?_; refine ZE.move rfl rfl rfl rfl sz0 ?_
                obtain ⟨x2, ad2, hx2, hm2, ix2, lx2⟩ := pi.r.at' (t := i) (by rw [pi.len]; omega)
                refine ZE.index rfl rfl rfl rfl rfl sz0 (fun W => ix2 W) ?_; refine ZE.load rfl rfl rfl rfl sz1 (fun W hW => lx2 W (sb_of hW)) ?_; refine ZE.index rfl rfl rfl rfl rfl sz0 (fun W => ix2 W) ?_
                refine ZE.store (fun W => Pws W v (li.set (i) x1) ∧ Fx (fun k => v.ownBlock = some k) wc W) rfl rfl rfl (fun _ _ => .inl rfl) (fun W hW => by
      obtain ⟨w', g1, g2, g3⟩ := pi.r.swap1 (pi.apt hs) (I := i) (by rw [pi.len]; omega) hm1 ix2 W hW
      exact ⟨w', g1, g2, g3⟩) ?_
                refine ZE.index rfl rfl rfl rfl rfl sz0 (fun W => ix1 W) ?_; refine ZE.store (fun W => Prm wc v li W ((li.set (i) x1).set (j) x2)) rfl rfl rfl (fun _ _ => .inl rfl) (fun W hW => pi.r.swap2 (pi.apt hs) hx2 hx1 ix1 W hW.1 hW.2) ?_
                rintro ws ps_
                replace pi := pi.trans ps_
                refine EW.on ?_; refine EW.seq ?_; refine EW.region ?_; refine WL.move rfl rfl rfl ?_; refine WL.bin rfl rfl rfl rfl (int_add (c := ((i + 1 : Nat) : Int)) (by rw [IntKind.wrap_i64]; omega) _ _ _) ?_; refine WL.assign rfl rfl rfl ?_; refine WL.done ?_; refine EW.on ?_; refine EW.region ?_; refine WL.move rfl rfl rfl ?_; refine WL.bin rfl rfl rfl rfl (int_sub (c := ((j - 1 : Nat) : Int)) (by rw [IntKind.wrap_i64]; omega) _ _ _) ?_; refine WL.assign rfl rfl rfl ?_; refine WL.done ?_; refine pn_block ?_; refine EW.again (E := ptE v a 12 13) (R := PtR w v l a b (a + 1) (b - 1)) (m := fun x => x.2.1 + 1 - x.1) (x := (i1, j1, l1)) (i + 1, j - 1, _) [0, 1, 4, 12, 13] rfl ⟨pi, by simp only; omega, by simp only; omega, by simp only; omega, by simp only; omega, by simp only; omega, by simp only; omega⟩ (by simp only; omega)
  · refine EW.ordB [(0, 0, 0), (1, 0, 0), (2, 0, 0), (3, 0, 0), (4, 0, 0), (5, 0, 0), (6, 0, 0), (7, 0, 0), (8, 0, 1), (9, 0, 0), (10, 0, 0), (11, 0, 0), (12, 0, 1), (13, 0, 0), (14, 0, 0), (15, 0, 0)] (by kernel_rfl) rfl (by kernel_rfl) ?_; simp only [opsZ, List.getD_cons_zero, List.getD_cons_succ]; refine ZE.move rfl rfl rfl rfl sz0 ?_; refine ZE.move rfl rfl rfl rfl sz0 ?_; refine ZE.bin rfl rfl rfl rfl rfl sz0 (fun W => int_le_f (by omega) W _ _) ?_; refine ZE.move rfl rfl rfl rfl sz0 ?_
    first | refine ZE.move rfl rfl rfl rfl sz0 ?_ | refine ZE.skip rfl rfl rfl sz0 ?_
    first | refine ZE.move rfl rfl rfl rfl sz0 ?_ | refine ZE.skip rfl rfl rfl sz0 ?_
    first | refine ZE.move rfl rfl rfl rfl sz0 ?_ | refine ZE.skip rfl rfl rfl sz0 ?_
    refine ZE.skip rfl rfl rfl sz0 ?_; refine ZE.skip rfl rfl rfl sz1 ?_
    first | refine ZE.move rfl rfl rfl rfl sz0 ?_ | refine ZE.skip rfl rfl rfl sz0 ?_
    first | refine ZE.move rfl rfl rfl rfl sz0 ?_ | refine ZE.skip rfl rfl rfl sz0 ?_
    refine ZE.skip rfl rfl rfl sz0 ?_; refine ZE.skip rfl rfl rfl sz1 ?_; refine ZE.skip rfl rfl rfl sz0 ?_; refine ZE.skip rfl rfl rfl sz0 ?_; refine ZE.pick rfl rfl rfl rfl rfl sz0 ?_
    rintro wc ec
    replace pi := pi.below ec
    refine EW.on ?_; refine EW.cond_f rfl ?_; refine EW.exit ?_; refine px_then ?_; refine px_then ?_; refine px_block ?_; refine EW.on ?_; refine EW.seq ?_; refine EW.block ?_; refine EW.loop (ptE v a 12 13) (PtR w v l a b (a + 1) (b - 1)) (fun x => x.2.1 + 1 - x.1) (i, j, _) [0, 1, 4, 12, 13] rfl ⟨pi, by simp only; omega, by simp only; omega, by simp only; omega, by simp only; omega, by simp only; omega, by simp only; omega⟩ ?_
    clear pi
    rintro ⟨i, j, li⟩ wi ⟨pi, hi0, hj0, hlo, hhi, haj, hib⟩
    simp only at pi hi0 hj0 hlo hhi haj hib
    show EW _ _ _ _ [(0, v), (1, .int .i64 (a : Int)), (4, fnV), (12, .int .i64 (i : Int)), (13, .int .i64 (j : Int))] _
    refine EW.seq ?_; refine EW.seq ?_
    by_cases hij : i ≤ j
    · refine EW.ordB [(0, 0, 0), (1, 0, 0), (2, 0, 0), (3, 0, 0), (4, 0, 0), (5, 0, 0), (6, 0, 0), (7, 0, 0), (8, 0, 1), (9, 0, 0), (10, 0, 0), (11, 0, 0), (12, 0, 1), (13, 1, 1), (14, 0, 0), (15, 0, 0), (16, 0, 0)] (by kernel_rfl) rfl (by kernel_rfl) ?_; simp only [opsZ, List.getD_cons_zero, List.getD_cons_succ]; refine ZE.move rfl rfl rfl rfl sz0 ?_; refine ZE.move rfl rfl rfl rfl sz0 ?_; refine ZE.bin rfl rfl rfl rfl rfl sz0 (fun W => int_le_t (by omega) W _ _) ?_; refine ZE.move rfl rfl rfl rfl sz0 ?_
      first | refine ZE.move rfl rfl rfl rfl sz0 ?_ | refine ZE.skip rfl rfl rfl sz0 ?_
      first | refine ZE.move rfl rfl rfl rfl sz0 ?_ | refine ZE.skip rfl rfl rfl sz0 ?_
      first | refine ZE.move rfl rfl rfl rfl sz0 ?_ | refine ZE.skip rfl rfl rfl sz0 ?_
      obtain ⟨x1, ad1, hx1, hm1, ix1, lx1⟩ := pi.r.at' (t := j) (by rw [pi.len]; omega)
      refine ZE.index rfl rfl rfl rfl rfl sz0 (fun W => ix1 W) ?_; refine ZE.load rfl rfl rfl rfl sz1 (fun W hW => lx1 W (sb_of hW)) ?_
      first | refine ZE.move rfl rfl rfl rfl sz0 ?_ | refine ZE.skip rfl rfl rfl sz0 ?_
      first | refine ZE.move rfl rfl rfl rfl sz0 ?_ | refine ZE.skip rfl rfl rfl sz0 ?_
      obtain ⟨x2, ad2, hx2, hm2, ix2, lx2⟩ := pi.r.at' (t := a) (by rw [pi.len]; omega)
      refine ZE.index rfl rfl rfl rfl rfl sz0 (fun W => ix2 W) ?_; refine ZE.load rfl rfl rfl rfl sz1 (fun W hW => lx2 W (sb_of hW)) ?_; refine ZE.callFR [.agg (pgC x1).toArray, .agg (pgC x2).toArray] (fun v W => (∃ r, v = .int .i64 r) ∧ Below wi.heap.size wi W) enter70 rfl rfl rfl rfl (fun _ _ h => .inr h.2) (fun W hW => (cmpf_any x1 x2 W).mono fun e w' ⟨⟨r, g1⟩, g2⟩ => ⟨_, g1, ⟨r, rfl⟩, hW.trans (g2.mono hW.size)⟩) ?_
      rintro _ ⟨_, ⟨rc, rfl⟩, _⟩
      refine ZE.bin rfl rfl rfl rfl rfl sz0 (fun W => int_lt_d _ _ W _ _) ?_
      first | refine ZE.un rfl rfl rfl rfl sz0 (fun W => not_t _ W) ?_ | refine ZE.skip rfl rfl rfl sz0 ?_
      refine ZE.pick rfl rfl rfl rfl rfl sz0 ?_
      rintro wc ⟨_, ec⟩
      replace pi := pi.below ec
      refine EW.on ?_; refine EW.cond_b rfl (fun h66 => ?_) (fun h66 => ?_)
      · refine EW.skip ?_; refine EW.on ?_; refine EW.block ?_; refine EW.region ?_; refine WL.move rfl rfl rfl ?_; refine WL.bin rfl rfl rfl rfl (int_sub (c := ((j - 1 : Nat) : Int)) (by rw [IntKind.wrap_i64]; omega) _ _ _) ?_; refine WL.assign rfl rfl rfl ?_; refine WL.done ?_; refine pn_block ?_; refine EW.again (E := ptE v a 12 13) (R := PtR w v l a b (a + 1) (b - 1)) (m := fun x => x.2.1 + 1 - x.1) (x := (i, j, li)) (i, j - 1, li) [0, 1, 4, 12, 13] rfl ⟨pi, by simp only; omega, by simp only; omega, by simp only; omega, by simp only; omega, by simp only; omega, by simp only; omega⟩ (by simp only; omega)
      · refine EW.exit ?_; refine px_then ?_; refine px_then ?_; refine px_block ?_; refine EW.on ?_; refine EW.seq ?_; refine EW.seq ?_; refine EW.region ?_; refine WL.move rfl rfl rfl ?_; refine WL.move rfl rfl rfl ?_; refine WL.bin rfl rfl rfl rfl (int_gt_d _ _ _ _ _) ?_; refine WL.done ?_; refine EW.on ?_; refine EW.cond_d rfl (fun h71 => ?_) (fun h71 => ?_)
        · refine EW.seq ?_; refine EW.ordB [(0, 0, 0), (1, 0, 0), (2, 0, 0), (3, 0, 0), (4, 0, 0), (5, 0, 0), (6, 0, 0), (7, 0, 1), (8, 0, 0), (9, 0, 0), (10, 0, 0), (11, 0, 1), (12, 0, 0), (13, 1, 0), (14, 0, 0), (15, 1, 0)] (by kernel_rfl) rfl (by kernel_rfl) ?_; simp only [opsZ, List.getD_cons_zero, List.getD_cons_succ]; refine ZE.move rfl rfl rfl rfl sz0 ?_; refine ZE.move rfl rfl rfl rfl sz0 ?_; refine ZE.move rfl rfl rfl rfl sz0 ?_; refine ZE.move rfl rfl rfl rfl sz0 ?_; refine ZE.move rfl rfl rfl rfl sz0 ?_; refine ZE.move rfl rfl rfl rfl sz0 ?_
          obtain ⟨x1, ad1, hx1, hm1, ix1, lx1⟩ := pi.r.at' (t := a) (by rw [pi.len]; omega)
          refine ZE.index rfl rfl rfl rfl rfl sz0 (fun W => ix1 W) ?_; refine ZE.load rfl rfl rfl rfl sz1 (fun W hW => lx1 W (sb_of hW)) ?_; refine ZE.move rfl rfl rfl rfl sz0 ?_; refine ZE.move rfl rfl rfl rfl sz0 ?_
          obtain ⟨x2, ad2, hx2, hm2, ix2, lx2⟩ := pi.r.at' (t := j) (by rw [pi.len]; omega)
          refine ZE.index rfl rfl rfl rfl rfl sz0 (fun W => ix2 W) ?_; refine ZE.load rfl rfl rfl rfl sz1 (fun W hW => lx2 W (sb_of hW)) ?_; refine ZE.index rfl rfl rfl rfl rfl sz0 (fun W => ix2 W) ?_
          refine ZE.store (fun W => Pws W v (li.set (j) x1) ∧ Fx (fun k => v.ownBlock = some k) wc W) rfl rfl rfl (fun _ _ => .inl rfl) (fun W hW => by
      obtain ⟨w', g1, g2, g3⟩ := pi.r.swap1 (pi.apt hs) (I := j) (by rw [pi.len]; omega) hm1 ix2 W hW
      exact ⟨w', g1, g2, g3⟩) ?_
          refine ZE.index rfl rfl rfl rfl rfl sz0 (fun W => ix1 W) ?_; refine ZE.store (fun W => Prm wc v li W ((li.set (j) x1).set (a) x2)) rfl rfl rfl (fun _ _ => .inl rfl) (fun W hW => pi.r.swap2 (pi.apt hs) hx2 hx1 ix1 W hW.1 hW.2) ?_
          rintro ws ps_
          replace pi := pi.trans ps_
          refine EW.on ?_; refine EW.seq ?_; refine EW.region ?_; refine WL.move rfl rfl rfl ?_; refine WL.assign rfl rfl rfl ?_; refine WL.assign rfl rfl rfl ?_; refine WL.done ?_; refine EW.on ?_; refine EW.ret ?_; refine pr_then ?_
          exact EW.returns2 Tryz.results97 rfl rfl ⟨j, _, rfl, by omega, by omega, _, pi⟩
        · refine EW.skip ?_; refine EW.on ?_; refine EW.seq ?_; refine EW.ordB [(0, 0, 0), (1, 0, 0), (2, 0, 0), (3, 0, 0), (4, 0, 0), (5, 0, 0), (6, 0, 0), (7, 0, 1), (8, 0, 0), (9, 0, 0), (10, 0, 0), (11, 0, 1), (12, 0, 0), (13, 1, 0), (14, 0, 0), (15, 1, 0)] (by kernel_rfl) rfl (by kernel_rfl) ?_; simp only [opsZ, List.getD_cons_zero, List.getD_cons_succ]; refine ZE.move rfl rfl rfl rfl sz0 ?_; refine ZE.move rfl rfl rfl rfl sz0 ?_; refine ZE.move rfl rfl rfl rfl sz0 ?_; refine ZE.move rfl rfl rfl rfl sz0 ?_; refine ZE.move rfl rfl rfl rfl sz0 ?_; refine ZE.move rfl rfl rfl rfl sz0 ?_
          obtain ⟨x1, ad1, hx1, hm1, ix1, lx1⟩ := pi.r.at' (t := j) (by rw [pi.len]; omega)
          refine ZE.index rfl rfl rfl rfl rfl sz0 (fun W => ix1 W) ?_; refine ZE.load rfl rfl rfl rfl sz1 (fun W hW => lx1 W (sb_of hW)) ?_; refine ZE.move rfl rfl rfl rfl sz0 ?_; refine ZE.move rfl rfl rfl rfl sz0 ?_
          obtain ⟨x2, ad2, hx2, hm2, ix2, lx2⟩ := pi.r.at' (t := i) (by rw [pi.len]; omega)
          refine ZE.index rfl rfl rfl rfl rfl sz0 (fun W => ix2 W) ?_; refine ZE.load rfl rfl rfl rfl sz1 (fun W hW => lx2 W (sb_of hW)) ?_; refine ZE.index rfl rfl rfl rfl rfl sz0 (fun W => ix2 W) ?_
          refine ZE.store (fun W => Pws W v (li.set (i) x1) ∧ Fx (fun k => v.ownBlock = some k) wc W) rfl rfl rfl (fun _ _ => .inl rfl) (fun W hW => by
      obtain ⟨w', g1, g2, g3⟩ := pi.r.swap1 (pi.apt hs) (I := i) (by rw [pi.len]; omega) hm1 ix2 W hW
      exact ⟨w', g1, g2, g3⟩) ?_
          refine ZE.index rfl rfl rfl rfl rfl sz0 (fun W => ix1 W) ?_; refine ZE.store (fun W => Prm wc v li W ((li.set (i) x1).set (j) x2)) rfl rfl rfl (fun _ _ => .inl rfl) (fun W hW => pi.r.swap2 (pi.apt hs) hx2 hx1 ix1 W hW.1 hW.2) ?_
          rintro ws ps_
          replace pi := pi.trans ps_
          refine EW.on ?_; refine EW.seq ?_; refine EW.region ?_; refine WL.move rfl rfl rfl ?_; refine WL.bin rfl rfl rfl rfl (int_add (c := ((i + 1 : Nat) : Int)) (by rw [IntKind.wrap_i64]; omega) _ _ _) ?_; refine WL.assign rfl rfl rfl ?_; refine WL.done ?_; refine EW.on ?_; refine EW.seq ?_; refine EW.region ?_; refine WL.move rfl rfl rfl ?_; refine WL.bin rfl rfl rfl rfl (int_sub (c := ((j - 1 : Nat) : Int)) (by rw [IntKind.wrap_i64]; omega) _ _ _) ?_; refine WL.assign rfl rfl rfl ?_; refine WL.done ?_; refine EW.on ?_; refine EW.seq ?_; refine EW.block ?_; refine EW.loop (ptE v a 12 13) (PtR w v l a b (a + 1) (b - 1)) (fun x => x.2.1 + 1 - x.1) (i + 1, j - 1, _) [0, 1, 4, 12, 13] rfl ⟨pi, by simp only; omega, by simp only; omega, by simp only; omega, by simp only; omega, by simp only; omega, by simp only; omega⟩ ?_
          clear pi
          rintro ⟨i1, j1, l1⟩ wi ⟨pi, hi0, hj0, hlo, hhi, haj, hib⟩
          simp only at pi hi0 hj0 hlo hhi haj hib
          show EW _ _ _ _ [(0, v), (1, .int .i64 (a : Int)), (4, fnV), (12, .int .i64 (i1 : Int)), (13, .int .i64 (j1 : Int))] _
          refine EW.block ?_; refine EW.seq ?_; refine EW.block ?_; refine EW.loop (ptE v a 12 13) (PtR w v l a b (i1) (j1)) (fun x => x.2.1 + 1 - x.1) (i1, j1, _) [0, 1, 4, 12, 13] rfl ⟨pi, by simp only; omega, by simp only; omega, by simp only; omega, by simp only; omega, by simp only; omega, by simp only; omega⟩ ?_
          clear pi
          rintro ⟨i, j, li⟩ wi ⟨pi, hi0, hj0, hlo, hhi, haj, hib⟩
          simp only at pi hi0 hj0 hlo hhi haj hib
          show EW _ _ _ _ [(0, v), (1, .int .i64 (a : Int)), (4, fnV), (12, .int .i64 (i : Int)), (13, .int .i64 (j : Int))] _
          refine EW.seq ?_; refine EW.seq ?_
          by_cases hij : i ≤ j
          · refine EW.ordB [(0, 0, 0), (1, 0, 0), (2, 0, 0), (3, 0, 0), (4, 0, 0), (5, 0, 0), (6, 0, 0), (7, 0, 0), (8, 0, 1), (9, 0, 0), (10, 0, 0), (11, 0, 0), (12, 0, 1), (13, 1, 1), (14, 0, 0), (15, 0, 0)] (by kernel_rfl) rfl (by kernel_rfl) ?_; simp only [opsZ, List.getD_cons_zero, List.getD_cons_succ]; refine ZE.move rfl rfl rfl rfl sz0 ?_; refine ZE.move rfl rfl rfl rfl sz0 ?_; refine ZE.bin rfl rfl rfl rfl rfl sz0 (fun W => int_le_t (by omega) W _ _) ?_; refine ZE.move rfl rfl rfl rfl sz0 ?_
            first | refine ZE.move rfl rfl rfl rfl sz0 ?_ | refine ZE.skip rfl rfl rfl sz0 ?_
            first | refine ZE.move rfl rfl rfl rfl sz0 ?_ | refine ZE.skip rfl rfl rfl sz0 ?_
            first | refine ZE.move rfl rfl rfl rfl sz0 ?_ | refine ZE.skip rfl rfl rfl sz0 ?_
            obtain ⟨x1, ad1, hx1, hm1, ix1, lx1⟩ := pi.r.at' (t := i) (by rw [pi.len]; omega)
            refine ZE.index rfl rfl rfl rfl rfl sz0 (fun W => ix1 W) ?_; refine ZE.load rfl rfl rfl rfl sz1 (fun W hW => lx1 W (sb_of hW)) ?_
            first | refine ZE.move rfl rfl rfl rfl sz0 ?_ | refine ZE.skip rfl rfl rfl sz0 ?_
            first | refine ZE.move rfl rfl rfl rfl sz0 ?_ | refine ZE.skip rfl rfl rfl sz0 ?_
            obtain ⟨x2, ad2, hx2, hm2, ix2, lx2⟩ := pi.r.at' (t := a) (by rw [pi.len]; omega)
            refine ZE.index rfl rfl rfl rfl rfl sz0 (fun W => ix2 W) ?_; refine ZE.load rfl rfl rfl rfl sz1 (fun W hW => lx2 W (sb_of hW)) ?_; refine ZE.callFR [.agg (pgC x1).toArray, .agg (pgC x2).toArray] (fun v W => (∃ r, v = .int .i64 r) ∧ Below wi.heap.size wi W) enter70 rfl rfl rfl rfl (fun _ _ h => .inr h.2) (fun W hW => (cmpf_any x1 x2 W).mono fun e w' ⟨⟨r, g1⟩, g2⟩ => ⟨_, g1, ⟨r, rfl⟩, hW.trans (g2.mono hW.size)⟩) ?_
            rintro _ ⟨_, ⟨rc, rfl⟩, _⟩
            refine ZE.bin rfl rfl rfl rfl rfl sz0 (fun W => int_lt_d _ _ W _ _) ?_; refine ZE.pick rfl rfl rfl rfl rfl sz0 ?_
            rintro wc ⟨_, ec⟩
            replace pi := pi.below ec
            refine EW.on ?_; refine EW.cond_d rfl (fun h120 => ?_) (fun h120 => ?_)
            · refine EW.skip ?_; refine EW.on ?_; refine EW.block ?_; refine EW.region ?_; refine WL.move rfl rfl rfl ?_; refine WL.bin rfl rfl rfl rfl (int_add (c := ((i + 1 : Nat) : Int)) (by rw [IntKind.wrap_i64]; omega) _ _ _) ?_; refine WL.assign rfl rfl rfl ?_; refine WL.done ?_; refine pn_block ?_; refine EW.again (E := ptE v a 12 13) (R := PtR w v l a b (i1) (j1)) (m := fun x => x.2.1 + 1 - x.1) (x := (i, j, li)) (i + 1, j, li) [0, 1, 4, 12, 13] rfl ⟨pi, by simp only; omega, by simp only; omega, by simp only; omega, by simp only; omega, by simp only; omega, by simp only; omega⟩ (by simp only; omega)
            · refine EW.exit ?_; refine px_then ?_; refine px_then ?_; refine px_block ?_; refine EW.on ?_; refine EW.seq ?_; refine EW.block ?_; refine EW.loop (ptE v a 12 13) (PtR w v l a b (i1) (j1)) (fun x => x.2.1 + 1 - x.1) (i, j, _) [0, 1, 4, 12, 13] rfl ⟨pi, by simp only; omega, by simp only; omega, by simp only; omega, by simp only; omega, by simp only; omega, by simp only; omega⟩ ?_
              clear pi
              rintro ⟨i, j, li⟩ wi ⟨pi, hi0, hj0, hlo, hhi, haj, hib⟩
              simp only at pi hi0 hj0 hlo hhi haj hib
              show EW _ _ _ _ [(0, v), (1, .int .i64 (a : Int)), (4, fnV), (12, .int .i64 (i : Int)), (13, .int .i64 (j : Int))] _
              refine EW.seq ?_; refine EW.seq ?_
              by_cases hij : i ≤ j
              · refine EW.ordB [(0, 0, 0), (1, 0, 0), (2, 0, 0), (3, 0, 0), (4, 0, 0), (5, 0, 0), (6, 0, 0), (7, 0, 0), (8, 0, 1), (9, 0, 0), (10, 0, 0), (11, 0, 0), (12, 0, 1), (13, 1, 1), (14, 0, 0), (15, 0, 0), (16, 0, 0)] (by kernel_rfl) rfl (by kernel_rfl) ?_; simp only [opsZ, List.getD_cons_zero, List.getD_cons_succ]; refine ZE.move rfl rfl rfl rfl sz0 ?_; refine ZE.move rfl rfl rfl rfl sz0 ?_; refine ZE.bin rfl rfl rfl rfl rfl sz0 (fun W => int_le_t (by omega) W _ _) ?_; refine ZE.move rfl rfl rfl rfl sz0 ?_
                first | refine ZE.move rfl rfl rfl rfl sz0 ?_ | refine ZE.skip rfl rfl rfl sz0 ?_
                first | refine ZE.move rfl rfl rfl rfl sz0 ?_ | refine ZE.skip rfl rfl rfl sz0 ?_
                first | refine ZE.move rfl rfl rfl rfl sz0 ?_ | refine ZE.skip rfl rfl rfl sz0 ?_
                obtain ⟨x1, ad1, hx1, hm1, ix1, lx1⟩ := pi.r.at' (t := j) (by rw [pi.len]; omega)
                refine ZE.index rfl rfl rfl rfl rfl sz0 (fun W => ix1 W) ?_; refine ZE.load rfl rfl rfl rfl sz1 (fun W hW => lx1 W (sb_of hW)) ?_
                first | refine ZE.move rfl rfl rfl rfl sz0 ?_ | refine ZE.skip rfl rfl rfl sz0 ?_
                first | refine ZE.move rfl rfl rfl rfl sz0 ?_ | refine ZE.skip rfl rfl rfl sz0 ?_
                obtain ⟨x2, ad2, hx2, hm2, ix2, lx2⟩ := pi.r.at' (t := a) (by rw [pi.len]; omega)
                refine ZE.index rfl rfl rfl rfl rfl sz0 (fun W => ix2 W) ?_; refine ZE.load rfl rfl rfl rfl sz1 (fun W hW => lx2 W (sb_of hW)) ?_; refine ZE.callFR [.agg (pgC x1).toArray, .agg (pgC x2).toArray] (fun v W => (∃ r, v = .int .i64 r) ∧ Below wi.heap.size wi W) enter70 rfl rfl rfl rfl (fun _ _ h => .inr h.2) (fun W hW => (cmpf_any x1 x2 W).mono fun e w' ⟨⟨r, g1⟩, g2⟩ => ⟨_, g1, ⟨r, rfl⟩, hW.trans (g2.mono hW.size)⟩) ?_
                rintro _ ⟨_, ⟨rc, rfl⟩, _⟩
                refine ZE.bin rfl rfl rfl rfl rfl sz0 (fun W => int_lt_d _ _ W _ _) ?_
                first | refine ZE.un rfl rfl rfl rfl sz0 (fun W => not_t _ W) ?_ | refine ZE.skip rfl rfl rfl sz0 ?_
                refine ZE.pick rfl rfl rfl rfl rfl sz0 ?_
                rintro wc ⟨_, ec⟩
                replace pi := pi.below ec
                refine EW.on ?_; refine EW.cond_b rfl (fun h139 => ?_) (fun h139 => ?_)
                · refine EW.skip ?_; refine EW.on ?_; refine EW.block ?_; refine EW.region ?_; refine WL.move rfl rfl rfl ?_; refine WL.bin rfl rfl rfl rfl (int_sub (c := ((j - 1 : Nat) : Int)) (by rw [IntKind.wrap_i64]; omega) _ _ _) ?_; refine WL.assign rfl rfl rfl ?_; refine WL.done ?_; refine pn_block ?_; refine EW.again (E := ptE v a 12 13) (R := PtR w v l a b (i1) (j1)) (m := fun x => x.2.1 + 1 - x.1) (x := (i, j, li)) (i, j - 1, li) [0, 1, 4, 12, 13] rfl ⟨pi, by simp only; omega, by simp only; omega, by simp only; omega, by simp only; omega, by simp only; omega, by simp only; omega⟩ (by simp only; omega)
                · refine EW.exit ?_; refine px_then ?_; refine px_then ?_; refine px_block ?_; refine EW.on ?_; refine EW.seq ?_; refine EW.seq ?_; refine EW.region ?_; refine WL.move rfl rfl rfl ?_; refine WL.move rfl rfl rfl ?_; refine WL.bin rfl rfl rfl rfl (int_gt_d _ _ _ _ _) ?_; refine WL.done ?_; refine EW.on ?_; refine EW.cond_d rfl (fun h144 => ?_) (fun h144 => ?_)
                  · refine EW.exit ?_; refine px_then ?_; refine px_other (by decide) ?_; refine px_then ?_; refine px_block ?_; refine EW.on ?_; refine EW.seq ?_; refine EW.ordB [(0, 0, 0), (1, 0, 0), (2, 0, 0), (3, 0, 0), (4, 0, 0), (5, 0, 0), (6, 0, 0), (7, 0, 1), (8, 0, 0), (9, 0, 0), (10, 0, 0), (11, 0, 1), (12, 0, 0), (13, 1, 0), (14, 0, 0), (15, 1, 0)] (by kernel_rfl) rfl (by kernel_rfl) ?_; simp only [opsZ, List.getD_cons_zero, List.getD_cons_succ]; refine ZE.move rfl rfl rfl rfl sz0 ?_; refine ZE.move rfl rfl rfl rfl sz0 ?_; refine ZE.move rfl rfl rfl rfl sz0 ?_; refine ZE.move rfl rfl rfl rfl sz0 ?_; refine ZE.move rfl rfl rfl rfl sz0 ?_; refine ZE.move rfl rfl rfl rfl sz0 ?_
                    obtain ⟨x1, ad1, hx1, hm1, ix1, lx1⟩ := pi.r.at' (t := a) (by rw [pi.len]; omega)
                    refine ZE.index rfl rfl rfl rfl rfl sz0 (fun W => ix1 W) ?_; refine ZE.load rfl rfl rfl rfl sz1 (fun W hW => lx1 W (sb_of hW)) ?_; refine ZE.move rfl rfl rfl rfl sz0 ?_; refine ZE.move rfl rfl rfl rfl sz0 ?_
                    obtain ⟨x2, ad2, hx2, hm2, ix2, lx2⟩ := pi.r.at' (t := j) (by rw [pi.len]; omega)
                    refine ZE.index rfl rfl rfl rfl rfl sz0 (fun W => ix2 W) ?_; refine ZE.load rfl rfl rfl rfl sz1 (fun W hW => lx2 W (sb_of hW)) ?_; refine ZE.index rfl rfl rfl rfl rfl sz0 (fun W => ix2 W) ?_
                    refine ZE.store (fun W => Pws W v (li.set (j) x1) ∧ Fx (fun k => v.ownBlock = some k) wc W) rfl rfl rfl (fun _ _ => .inl rfl) (fun W hW => by
      obtain ⟨w', g1, g2, g3⟩ := pi.r.swap1 (pi.apt hs) (I := j) (by rw [pi.len]; omega) hm1 ix2 W hW
      exact ⟨w', g1, g2, g3⟩) ?_
                    refine ZE.index rfl rfl rfl rfl rfl sz0 (fun W => ix1 W) ?_; refine ZE.store (fun W => Prm wc v li W ((li.set (j) x1).set (a) x2)) rfl rfl rfl (fun _ _ => .inl rfl) (fun W hW => pi.r.swap2 (pi.apt hs) hx2 hx1 ix1 W hW.1 hW.2) ?_
                    rintro ws ps_
                    replace pi := pi.trans ps_
                    refine EW.on ?_; refine EW.seq ?_; refine EW.region ?_; refine WL.move rfl rfl rfl ?_; refine WL.assign rfl rfl rfl ?_; refine WL.assign rfl rfl rfl ?_; refine WL.done ?_; refine EW.on ?_; refine EW.ret ?_
                    exact EW.returns2 Tryz.results97 rfl rfl ⟨j, _, rfl, by omega, by omega, _, pi⟩
                  · refine EW.skip ?_; refine EW.on ?_; refine EW.seq ?_; refine EW.ordB [(0, 0, 0), (1, 0, 0), (2, 0, 0), (3, 0, 0), (4, 0, 0), (5, 0, 0), (6, 0, 0), (7, 0, 1), (8, 0, 0), (9, 0, 0), (10, 0, 0), (11, 0, 1), (12, 0, 0), (13, 1, 0), (14, 0, 0), (15, 1, 0)] (by kernel_rfl) rfl (by kernel_rfl) ?_; simp only [opsZ, List.getD_cons_zero, List.getD_cons_succ]; refine ZE.move rfl rfl rfl rfl sz0 ?_; refine ZE.move rfl rfl rfl rfl sz0 ?_; refine ZE.move rfl rfl rfl rfl sz0 ?_; refine ZE.move rfl rfl rfl rfl sz0 ?_; refine ZE.move rfl rfl rfl rfl sz0 ?_; refine ZE.move rfl rfl rfl rfl sz0 ?_
                    obtain ⟨x1, ad1, hx1, hm1, ix1, lx1⟩ := pi.r.at' (t := j) (by rw [pi.len]; omega)
                    refine ZE.index rfl rfl rfl rfl rfl sz0 (fun W => ix1 W) ?_; refine ZE.load rfl rfl rfl rfl sz1 (fun W hW => lx1 W (sb_of hW)) ?_; refine ZE.move rfl rfl rfl rfl sz0 ?_; refine ZE.move rfl rfl rfl rfl sz0 ?_
                    obtain ⟨x2, ad2, hx2, hm2, ix2, lx2⟩ := pi.r.at' (t := i) (by rw [pi.len]; omega)
                    refine ZE.index rfl rfl rfl rfl rfl sz0 (fun W => ix2 W) ?_; refine ZE.load rfl rfl rfl rfl sz1 (fun W hW => lx2 W (sb_of hW)) ?_; refine ZE.index rfl rfl rfl rfl rfl sz0 (fun W => ix2 W) ?_
                    refine ZE.store (fun W => Pws W v (li.set (i) x1) ∧ Fx (fun k => v.ownBlock = some k) wc W) rfl rfl rfl (fun _ _ => .inl rfl) (fun W hW => by
      obtain ⟨w', g1, g2, g3⟩ := pi.r.swap1 (pi.apt hs) (I := i) (by rw [pi.len]; omega) hm1 ix2 W hW
      exact ⟨w', g1, g2, g3⟩) ?_
                    refine ZE.index rfl rfl rfl rfl rfl sz0 (fun W => ix1 W) ?_; refine ZE.store (fun W => Prm wc v li W ((li.set (i) x1).set (j) x2)) rfl rfl rfl (fun _ _ => .inl rfl) (fun W hW => pi.r.swap2 (pi.apt hs) hx2 hx1 ix1 W hW.1 hW.2) ?_
                    rintro ws ps_
                    replace pi := pi.trans ps_
                    refine EW.on ?_; refine EW.seq ?_; refine EW.region ?_; refine WL.move rfl rfl rfl ?_; refine WL.bin rfl rfl rfl rfl (int_add (c := ((i + 1 : Nat) : Int)) (by rw [IntKind.wrap_i64]; omega) _ _ _) ?_; refine WL.assign rfl rfl rfl ?_; refine WL.done ?_; refine EW.on ?_; refine EW.region ?_; refine WL.move rfl rfl rfl ?_; refine WL.bin rfl rfl rfl rfl (int_sub (c := ((j - 1 : Nat) : Int)) (by rw [IntKind.wrap_i64]; omega) _ _ _) ?_; refine WL.assign rfl rfl rfl ?_; refine WL.done ?_; refine pn_block ?_; refine EW.again (E := ptE v a 12 13) (R := PtR w v l a b (a + 1) (b - 1)) (m := fun x => x.2.1 + 1 - x.1) (x := (i1, j1, l1)) (i + 1, j - 1, _) [0, 1, 4, 12, 13] rfl ⟨pi, by simp only; omega, by simp only; omega, by simp only; omega, by simp only; omega, by simp only; omega, by simp only; omega⟩ (by simp only; omega)
              · refine EW.ordB [(0, 0, 0), (1, 0, 0), (2, 0, 0), (3, 0, 0), (4, 0, 0), (5, 0, 0), (6, 0, 0), (7, 0, 0), (8, 0, 1), (9, 0, 0), (10, 0, 0), (11, 0, 0), (12, 0, 1), (13, 0, 0), (14, 0, 0), (15, 0, 0), (16, 0, 0)] (by kernel_rfl) rfl (by kernel_rfl) ?_; simp only [opsZ, List.getD_cons_zero, List.getD_cons_succ]; refine ZE.move rfl rfl rfl rfl sz0 ?_; refine ZE.move rfl rfl rfl rfl sz0 ?_; refine ZE.bin rfl rfl rfl rfl rfl sz0 (fun W => int_le_f (by omega) W _ _) ?_; refine ZE.move rfl rfl rfl rfl sz0 ?_
                first | refine ZE.move rfl rfl rfl rfl sz0 ?_ | refine ZE.skip rfl rfl rfl sz0 ?_
                first | refine ZE.move rfl rfl rfl rfl sz0 ?_ | refine ZE.skip rfl rfl rfl sz0 ?_
                first | refine ZE.move rfl rfl rfl rfl sz0 ?_ | refine ZE.skip rfl rfl rfl sz0 ?_
                refine ZE.skip rfl rfl rfl sz0 ?_; refine ZE.skip rfl rfl rfl sz1 ?_
                first | refine ZE.move rfl rfl rfl rfl sz0 ?_ | refine ZE.skip rfl rfl rfl sz0 ?_
                first | refine ZE.move rfl rfl rfl rfl sz0 ?_ | refine ZE.skip rfl rfl rfl sz0 ?_
                refine ZE.skip rfl rfl rfl sz0 ?_; refine ZE.skip rfl rfl rfl sz1 ?_; refine ZE.skip rfl rfl rfl sz0 ?_; refine ZE.skip rfl rfl rfl sz0 ?_; refine ZE.skip rfl rfl rfl sz0 ?_; refine ZE.pick rfl rfl rfl rfl rfl sz0 ?_
                rintro wc ec
                replace pi := pi.below ec
                refine EW.on ?_; refine EW.cond_f rfl ?_; refine EW.exit ?_; refine px_then ?_; refine px_then ?_; refine px_block ?_; refine EW.on ?_; refine EW.seq ?_; refine EW.seq ?_; refine EW.region ?_; refine WL.move rfl rfl rfl ?_; refine WL.move rfl rfl rfl ?_; refine WL.bin rfl rfl rfl rfl (int_gt_d _ _ _ _ _) ?_; refine WL.done ?_; refine EW.on ?_; refine EW.cond_d rfl (fun h144 => ?_) (fun h144 => ?_)
                · refine EW.exit ?_; refine px_then ?_; refine px_other (by decide) ?_; refine px_then ?_; refine px_block ?_; refine EW.on ?_; refine EW.seq ?_; refine EW.ordB [(0, 0, 0), (1, 0, 0), (2, 0, 0), (3, 0, 0), (4, 0, 0), (5, 0, 0), (6, 0, 0), (7, 0, 1), (8, 0, 0), (9, 0, 0), (10, 0, 0), (11, 0, 1), (12, 0, 0), (13, 1, 0), (14, 0, 0), (15, 1, 0)] (by kernel_rfl) rfl (by kernel_rfl) ?_; simp only [opsZ, List.getD_cons_zero, List.getD_cons_succ]; refine ZE.move rfl rfl rfl rfl sz0 ?_; refine ZE.move rfl rfl rfl rfl sz0 ?_; refine ZE.move rfl rfl rfl rfl sz0 ?_; refine ZE.move rfl rfl rfl rfl sz0 ?_; refine ZE.move rfl rfl rfl rfl sz0 ?_; refine ZE.move rfl rfl rfl rfl sz0 ?_
                  obtain ⟨x1, ad1, hx1, hm1, ix1, lx1⟩ := pi.r.at' (t := a) (by rw [pi.len]; omega)
                  refine ZE.index rfl rfl rfl rfl rfl sz0 (fun W => ix1 W) ?_; refine ZE.load rfl rfl rfl rfl sz1 (fun W hW => lx1 W (sb_of hW)) ?_; refine ZE.move rfl rfl rfl rfl sz0 ?_; refine ZE.move rfl rfl rfl rfl sz0 ?_
                  obtain ⟨x2, ad2, hx2, hm2, ix2, lx2⟩ := pi.r.at' (t := j) (by rw [pi.len]; omega)
                  refine ZE.index rfl rfl rfl rfl rfl sz0 (fun W => ix2 W) ?_; refine ZE.load rfl rfl rfl rfl sz1 (fun W hW => lx2 W (sb_of hW)) ?_; refine ZE.index rfl rfl rfl rfl rfl sz0 (fun W => ix2 W) ?_
                  refine ZE.store (fun W => Pws W v (li.set (j) x1) ∧ Fx (fun k => v.ownBlock = some k) wc W) rfl rfl rfl (fun _ _ => .inl rfl) (fun W hW => by
      obtain ⟨w', g1, g2, g3⟩ := pi.r.swap1 (pi.apt hs) (I := j) (by rw [pi.len]; omega) hm1 ix2 W hW
      exact ⟨w', g1, g2, g3⟩) ?_
                  refine ZE.index rfl rfl rfl rfl rfl sz0 (fun W => ix1 W) ?_; refine ZE.store (fun W => Prm wc v li W ((li.set (j) x1).set (a) x2)) rfl rfl rfl (fun _ _ => .inl rfl) (fun W hW => pi.r.swap2 (pi.apt hs) hx2 hx1 ix1 W hW.1 hW.2) ?_
                  rintro ws ps_
                  replace pi := pi.trans ps_
                  refine EW.on ?_; refine EW.seq ?_; refine EW.region ?_; refine WL.move rfl rfl rfl ?_; refine WL.assign rfl rfl rfl ?_; refine WL.assign rfl rfl rfl ?_; refine WL.done ?_; refine EW.on ?_; refine EW.ret ?_
                  exact EW.returns2 Tryz.results97 rfl rfl ⟨j, _, rfl, by omega, by omega, _, pi⟩
                · refine EW.skip ?_; refine EW.on ?_; refine EW.seq ?_; refine EW.ordB [(0, 0, 0), (1, 0, 0), (2, 0, 0), (3, 0, 0), (4, 0, 0), (5, 0, 0), (6, 0, 0), (7, 0, 1), (8, 0, 0), (9, 0, 0), (10, 0, 0), (11, 0, 1), (12, 0, 0), (13, 1, 0), (14, 0, 0), (15, 1, 0)] (by kernel_rfl) rfl (by kernel_rfl) ?_; simp only [opsZ, List.getD_cons_zero, List.getD_cons_succ]; refine ZE.move rfl rfl rfl rfl sz0 ?_; refine ZE.move rfl rfl rfl rfl sz0 ?_; refine ZE.move rfl rfl rfl rfl sz0 ?_; refine ZE.move rfl rfl rfl rfl sz0 ?_; refine ZE.move rfl rfl rfl rfl sz0 ?_; refine ZE.move rfl rfl rfl rfl sz0 ?_
                  obtain ⟨x1, ad1, hx1, hm1, ix1, lx1⟩ := pi.r.at' (t := j) (by rw [pi.len]; omega)
                  refine ZE.index rfl rfl rfl rfl rfl sz0 (fun W => ix1 W) ?_; refine ZE.load rfl rfl rfl rfl sz1 (fun W hW => lx1 W (sb_of hW)) ?_; refine ZE.move rfl rfl rfl rfl sz0 ?_; refine ZE.move rfl rfl rfl rfl sz0 ?_
                  obtain ⟨x2, ad2, hx2, hm2, ix2, lx2⟩ := pi.r.at' (t := i) (by rw [pi.len]; omega)
                  refine ZE.index rfl rfl rfl rfl rfl sz0 (fun W => ix2 W) ?_; refine ZE.load rfl rfl rfl rfl sz1 (fun W hW => lx2 W (sb_of hW)) ?_; refine ZE.index rfl rfl rfl rfl rfl sz0 (fun W => ix2 W) ?_
                  refine ZE.store (fun W => Pws W v (li.set (i) x1) ∧ Fx (fun k => v.ownBlock = some k) wc W) rfl rfl rfl (fun _ _ => .inl rfl) (fun W hW => by
      obtain ⟨w', g1, g2, g3⟩ := pi.r.swap1 (pi.apt hs) (I := i) (by rw [pi.len]; omega) hm1 ix2 W hW
      exact ⟨w', g1, g2, g3⟩) ?_
                  refine ZE.index rfl rfl rfl rfl rfl sz0 (fun W => ix1 W) ?_; refine ZE.store (fun W => Prm wc v li W ((li.set (i) x1).set (j) x2)) rfl rfl rfl (fun _ _ => .inl rfl) (fun W hW => pi.r.swap2 (pi.apt hs) hx2 hx1 ix1 W hW.1 hW.2) ?_
                  rintro ws ps_
                  replace pi := pi.trans ps_
                  refine EW.on ?_; refine EW.seq ?_; refine EW.region ?_; refine WL.move rfl rfl rfl ?_; refine WL.bin rfl rfl rfl rfl (int_add (c := ((i + 1 : Nat) : Int)) (by rw [IntKind.wrap_i64]; omega) _ _ _) ?_; refine WL.assign rfl rfl rfl ?_; refine WL.done ?_; refine EW.on ?_; refine EW.region ?_; refine WL.move rfl rfl rfl ?_; refine WL.bin rfl rfl rfl rfl (int_sub (c := ((j - 1 : Nat) : Int)) (by rw [IntKind.wrap_i64]; omega) _ _ _) ?_; refine WL.assign rfl rfl rfl ?_; refine WL.done ?_; refine pn_block ?_; refine EW.again (E := ptE v a 12 13) (R := PtR w v l a b (a + 1) (b - 1)) (m := fun x => x.2.1 + 1 - x.1) (x := (i1, j1, l1)) (i + 1, j - 1, _) [0, 1, 4, 12, 13] rfl ⟨pi, by simp only; omega, by simp only; omega, by simp only; omega, by simp only; omega, by simp only; omega, by simp only; omega⟩ (by simp only; omega)
          · refine EW.ordB [(0, 0, 0), (1, 0, 0), (2, 0, 0), (3, 0, 0), (4, 0, 0), (5, 0, 0), (6, 0, 0), (7, 0, 0), (8, 0, 1), (9, 0, 0), (10, 0, 0), (11, 0, 0), (12, 0, 1), (13, 0, 0), (14, 0, 0), (15, 0, 0)] (by kernel_rfl) rfl (by kernel_rfl) ?_; simp only [opsZ, List.getD_cons_zero, List.getD_cons_succ]; refine ZE.move rfl rfl rfl rfl sz0 ?_; refine ZE.move rfl rfl rfl rfl sz0 ?_; refine ZE.bin rfl rfl rfl rfl rfl sz0 (fun W => int_le_f (by omega) W _ _) ?_; refine ZE.move rfl rfl rfl rfl sz0 ?_
            first | refine ZE.move rfl rfl rfl rfl sz0 ?_ | refine ZE.skip rfl rfl rfl sz0 ?_
            first | refine ZE.move rfl rfl rfl rfl sz0 ?_ | refine ZE.skip rfl rfl rfl sz0 ?_
            first | refine ZE.move rfl rfl rfl rfl sz0 ?_ | refine ZE.skip rfl rfl rfl sz0 ?_
            refine ZE.skip rfl rfl rfl sz0 ?_; refine ZE.skip rfl rfl rfl sz1 ?_
            first | refine ZE.move rfl rfl rfl rfl sz0 ?_ | refine ZE.skip rfl rfl rfl sz0 ?_
            first | refine ZE.move rfl rfl rfl rfl sz0 ?_ | refine ZE.skip rfl rfl rfl sz0 ?_
            refine ZE.skip rfl rfl rfl sz0 ?_; refine ZE.skip rfl rfl rfl sz1 ?_; refine ZE.skip rfl rfl rfl sz0 ?_; refine ZE.skip rfl rfl rfl sz0 ?_; refine ZE.pick rfl rfl rfl rfl rfl sz0 ?_
            rintro wc ec
            replace pi := pi.below ec
            refine EW.on ?_; refine EW.cond_f rfl ?_; refine EW.exit ?_; refine px_then ?_; refine px_then ?_; refine px_block ?_; refine EW.on ?_; refine EW.seq ?_; refine EW.block ?_; refine EW.loop (ptE v a 12 13) (PtR w v l a b (i1) (j1)) (fun x => x.2.1 + 1 - x.1) (i, j, _) [0, 1, 4, 12, 13] rfl ⟨pi, by simp only; omega, by simp only; omega, by simp only; omega, by simp only; omega, by simp only; omega, by simp only; omega⟩ ?_
            clear pi
            rintro ⟨i, j, li⟩ wi ⟨pi, hi0, hj0, hlo, hhi, haj, hib⟩
            simp only at pi hi0 hj0 hlo hhi haj hib
            show EW _ _ _ _ [(0, v), (1, .int .i64 (a : Int)), (4, fnV), (12, .int .i64 (i : Int)), (13, .int .i64 (j : Int))] _
            refine EW.seq ?_; refine EW.seq ?_
            by_cases hij : i ≤ j
            · refine EW.ordB [(0, 0, 0), (1, 0, 0), (2, 0, 0), (3, 0, 0), (4, 0, 0), (5, 0, 0), (6, 0, 0), (7, 0, 0), (8, 0, 1), (9, 0, 0), (10, 0, 0), (11, 0, 0), (12, 0, 1), (13, 1, 1), (14, 0, 0), (15, 0, 0), (16, 0, 0)] (by kernel_rfl) rfl (by kernel_rfl) ?_; simp only [opsZ, List.getD_cons_zero, List.getD_cons_succ]; refine ZE.move rfl rfl rfl rfl sz0 ?_; refine ZE.move rfl rfl rfl rfl sz0 ?_; refine ZE.bin rfl rfl rfl rfl rfl sz0 (fun W => int_le_t (by omega) W _ _) ?_; refine ZE.move rfl rfl rfl rfl sz0 ?_
              first | refine ZE.move rfl rfl rfl rfl sz0 ?_ | refine ZE.skip rfl rfl rfl sz0 ?_
              first | refine ZE.move rfl rfl rfl rfl sz0 ?_ | refine ZE.skip rfl rfl rfl sz0 ?_
              first | refine ZE.move rfl rfl rfl rfl sz0 ?_ | refine ZE.skip rfl rfl rfl sz0 ?_
              obtain ⟨x1, ad1, hx1, hm1, ix1, lx1⟩ := pi.r.at' (t := j) (by rw [pi.len]; omega)
              refine ZE.index rfl rfl rfl rfl rfl sz0 (fun W => ix1 W) ?_; refine ZE.load rfl rfl rfl rfl sz1 (fun W hW => lx1 W (sb_of hW)) ?_
              first | refine ZE.move rfl rfl rfl rfl sz0 ?_ | refine ZE.skip rfl rfl rfl sz0 ?_
              first | refine ZE.move rfl rfl rfl rfl sz0 ?_ | refine ZE.skip rfl rfl rfl sz0 ?_
              obtain ⟨x2, ad2, hx2, hm2, ix2, lx2⟩ := pi.r.at' (t := a) (by rw [pi.len]; omega)
              refine ZE.index rfl rfl rfl rfl rfl sz0 (fun W => ix2 W) ?_; refine ZE.load rfl rfl rfl rfl sz1 (fun W hW => lx2 W (sb_of hW)) ?_; refine ZE.callFR [.agg (pgC x1).toArray, .agg (pgC x2).toArray] (fun v W => (∃ r, v = .int .i64 r) ∧ Below wi.heap.size wi W) enter70 rfl rfl rfl rfl (fun _ _ h => .inr h.2) (fun W hW => (cmpf_any x1 x2 W).mono fun e w' ⟨⟨r, g1⟩, g2⟩ => ⟨_, g1, ⟨r, rfl⟩, hW.trans (g2.mono hW.size)⟩) ?_
              rintro _ ⟨_, ⟨rc, rfl⟩, _⟩
              refine ZE.bin rfl rfl rfl rfl rfl sz0 (fun W => int_lt_d _ _ W _ _) ?_
              first | refine ZE.un rfl rfl rfl rfl sz0 (fun W => not_t _ W) ?_ | refine ZE.skip rfl rfl rfl sz0 ?_
              refine ZE.pick rfl rfl rfl rfl rfl sz0 ?_
              rintro wc ⟨_, ec⟩
              replace pi := pi.below ec
              refine EW.on ?_; refine EW.cond_b rfl (fun h139 => ?_) (fun h139 => ?_)
              · refine EW.skip ?_; refine EW.on ?_; refine EW.block ?_; refine EW.region ?_; refine WL.move rfl rfl rfl ?_; refine WL.bin rfl rfl rfl rfl (int_sub (c := ((j - 1 : Nat) : Int)) (by rw [IntKind.wrap_i64]; omega) _ _ _) ?_; refine WL.assign rfl rfl rfl ?_; refine WL.done ?_; refine pn_block ?_; refine EW.again (E := ptE v a 12 13) (R := PtR w v l a b (i1) (j1)) (m := fun x => x.2.1 + 1 - x.1) (x := (i, j, li)) (i, j - 1, li) [0, 1, 4, 12, 13] rfl ⟨pi, by simp only; omega, by simp only; omega, by simp only; omega, by simp only; omega, by simp only; omega, by simp only; omega⟩ (by simp only; omega)
              · refine EW.exit ?_; refine px_then ?_; refine px_then ?_; refine px_block ?_; refine EW.on ?_; refine EW.seq ?_; refine EW.seq ?_; refine EW.region ?_; refine WL.move rfl rfl rfl ?_; refine WL.move rfl rfl rfl ?_; refine WL.bin rfl rfl rfl rfl (int_gt_d _ _ _ _ _) ?_; refine WL.done ?_; refine EW.on ?_; refine EW.cond_d rfl (fun h144 => ?_) (fun h144 => ?_)
                · refine EW.exit ?_; refine px_then ?_; refine px_other (by decide) ?_; refine px_then ?_; refine px_block ?_; refine EW.on ?_; refine EW.seq ?_; refine EW.ordB [(0, 0, 0), (1, 0, 0), (2, 0, 0), (3, 0, 0), (4, 0, 0), (5, 0, 0), (6, 0, 0), (7, 0, 1), (8, 0, 0), (9, 0, 0), (10, 0, 0), (11, 0, 1), (12, 0, 0), (13, 1, 0), (14, 0, 0), (15, 1, 0)] (by kernel_rfl) rfl (by kernel_rfl) ?_; simp only [opsZ, List.getD_cons_zero, List.getD_cons_succ]; refine ZE.move rfl rfl rfl rfl sz0 ?_; refine ZE.move rfl rfl rfl rfl sz0 ?_; refine ZE.move rfl rfl rfl rfl sz0 ?_; refine ZE.move rfl rfl rfl rfl sz0 ?_; refine ZE.move rfl rfl rfl rfl sz0 ?_; refine ZE.move rfl rfl rfl rfl sz0 ?_
                  obtain ⟨x1, ad1, hx1, hm1, ix1, lx1⟩ := pi.r.at' (t := a) (by rw [pi.len]; omega)
                  refine ZE.index rfl rfl rfl rfl rfl sz0 (fun W => ix1 W) ?_; refine ZE.load rfl rfl rfl rfl sz1 (fun W hW => lx1 W (sb_of hW)) ?_; refine ZE.move rfl rfl rfl rfl sz0 ?_; refine ZE.move rfl rfl rfl rfl sz0 ?_
                  obtain ⟨x2, ad2, hx2, hm2, ix2, lx2⟩ := pi.r.at' (t := j) (by rw [pi.len]; omega)
                  refine ZE.index rfl rfl rfl rfl rfl sz0 (fun W => ix2 W) ?_; refine ZE.load rfl rfl rfl rfl sz1 (fun W hW => lx2 W (sb_of hW)) ?_; refine ZE.index rfl rfl rfl rfl rfl sz0 (fun W => ix2 W) ?_
                  refine ZE.store (fun W => Pws W v (li.set (j) x1) ∧ Fx (fun k => v.ownBlock = some k) wc W) rfl rfl rfl (fun _ _ => .inl rfl) (fun W hW => by
      obtain ⟨w', g1, g2, g3⟩ := pi.r.swap1 (pi.apt hs) (I := j) (by rw [pi.len]; omega) hm1 ix2 W hW
      exact ⟨w', g1, g2, g3⟩) ?_
                  refine ZE.index rfl rfl rfl rfl rfl sz0 (fun W => ix1 W) ?_; refine ZE.store (fun W => Prm wc v li W ((li.set (j) x1).set (a) x2)) rfl rfl rfl (fun _ _ => .inl rfl) (fun W hW => pi.r.swap2 (pi.apt hs) hx2 hx1 ix1 W hW.1 hW.2) ?_
                  rintro ws ps_
                  replace pi := pi.trans ps_
                  refine EW.on ?_; refine EW.seq ?_; refine EW.region ?_; refine WL.move rfl rfl rfl ?_; refine WL.assign rfl rfl rfl ?_; refine WL.assign rfl rfl rfl ?_; refine WL.done ?_; refine EW.on ?_; refine EW.ret ?_
                  exact EW.returns2 Tryz.results97 rfl rfl ⟨j, _, rfl, by omega, by omega, _, pi⟩
                · refine EW.skip ?_; refine EW.on ?_; refine EW.seq ?_; refine EW.ordB [(0, 0, 0), (1, 0, 0), (2, 0, 0), (3, 0, 0), (4, 0, 0), (5, 0, 0), (6, 0, 0), (7, 0, 1), (8, 0, 0), (9, 0, 0), (10, 0, 0), (11, 0, 1), (12, 0, 0), (13, 1, 0), (14, 0, 0), (15, 1, 0)] (by kernel_rfl) rfl (by kernel_rfl) ?_; simp only [opsZ, List.getD_cons_zero, List.getD_cons_succ]; refine ZE.move rfl rfl rfl rfl sz0 ?_; refine ZE.move rfl rfl rfl rfl sz0 ?_; refine ZE.move rfl rfl rfl rfl sz0 ?_; refine ZE.move rfl rfl rfl rfl sz0 ?_; refine ZE.move rfl rfl rfl rfl sz0 ?_; refine ZE.move rfl rfl rfl rfl sz0 ?_
                  obtain ⟨x1, ad1, hx1, hm1, ix1, lx1⟩ := pi.r.at' (t := j) (by rw [pi.len]; omega)
                  refine ZE.index rfl rfl rfl rfl rfl sz0 (fun W => ix1 W) ?_; refine ZE.load rfl rfl rfl rfl sz1 (fun W hW => lx1 W (sb_of hW)) ?_; refine ZE.move rfl rfl rfl rfl sz0 ?_; refine ZE.move rfl rfl rfl rfl sz0 ?_
                  obtain ⟨x2, ad2, hx2, hm2, ix2, lx2⟩ := pi.r.at' (t := i) (by rw [pi.len]; omega)
                  refine ZE.index rfl rfl rfl rfl rfl sz0 (fun W => ix2 W) ?_; refine ZE.load rfl rfl rfl rfl sz1 (fun W hW => lx2 W (sb_of hW)) ?_; refine ZE.index rfl rfl rfl rfl rfl sz0 (fun W => ix2 W) ?_
                  refine ZE.store (fun W => Pws W v (li.set (i) x1) ∧ Fx (fun k => v.ownBlock = some k) wc W) rfl rfl rfl (fun _ _ => .inl rfl) (fun W hW => by
      obtain ⟨w', g1, g2, g3⟩ := pi.r.swap1 (pi.apt hs) (I := i) (by rw [pi.len]; omega) hm1 ix2 W hW
      exact ⟨w', g1, g2, g3⟩) ?_
                  refine ZE.index rfl rfl rfl rfl rfl sz0 (fun W => ix1 W) ?_; refine ZE.store (fun W => Prm wc v li W ((li.set (i) x1).set (j) x2)) rfl rfl rfl (fun _ _ => .inl rfl) (fun W hW => pi.r.swap2 (pi.apt hs) hx2 hx1 ix1 W hW.1 hW.2) ?_
                  rintro ws ps_
                  replace pi := pi.trans ps_
                  refine EW.on ?_; refine EW.seq ?_; refine EW.region ?_; refine WL.move rfl rfl rfl ?_; refine WL.bin rfl rfl rfl rfl (int_add (c := ((i + 1 : Nat) : Int)) (by rw [IntKind.wrap_i64]; omega) _ _ _) ?_; refine WL.assign rfl rfl rfl ?_; refine WL.done ?_; refine EW.on ?_; refine EW.region ?_; refine WL.move rfl rfl rfl ?_; refine WL.bin rfl rfl rfl rfl (int_sub (c := ((j - 1 : Nat) : Int)) (by rw [IntKind.wrap_i64]; omega) _ _ _) ?_; refine WL.assign rfl rfl rfl ?_; refine WL.done ?_; refine pn_block ?_; refine EW.again (E := ptE v a 12 13) (R := PtR w v l a b (a + 1) (b - 1)) (m := fun x => x.2.1 + 1 - x.1) (x := (i1, j1, l1)) (i + 1, j - 1, _) [0, 1, 4, 12, 13] rfl ⟨pi, by simp only; omega, by simp only; omega, by simp only; omega, by simp only; omega, by simp only; omega, by simp only; omega⟩ (by simp only; omega)
            · refine EW.ordB [(0, 0, 0), (1, 0, 0), (2, 0, 0), (3, 0, 0), (4, 0, 0), (5, 0, 0), (6, 0, 0), (7, 0, 0), (8, 0, 1), (9, 0, 0), (10, 0, 0), (11, 0, 0), (12, 0, 1), (13, 0, 0), (14, 0, 0), (15, 0, 0), (16, 0, 0)] (by kernel_rfl) rfl (by kernel_rfl) ?_; simp only [opsZ, List.getD_cons_zero, List.getD_cons_succ]; refine ZE.move rfl rfl rfl rfl sz0 ?_; refine ZE.move rfl rfl rfl rfl sz0 ?_; refine ZE.bin rfl rfl rfl rfl rfl sz0 (fun W => int_le_f (by omega) W _ _) ?_; refine ZE.move rfl rfl rfl rfl sz0 ?_
              first | refine ZE.move rfl rfl rfl rfl sz0 ?_ | refine ZE.skip rfl rfl rfl sz0 ?_
              first | refine ZE.move rfl rfl rfl rfl sz0 ?_ | refine ZE.skip rfl rfl rfl sz0 ?_
              first | refine ZE.move rfl rfl rfl rfl sz0 ?_ | refine ZE.skip rfl rfl rfl sz0 ?_
              refine ZE.skip rfl rfl rfl sz0 ?_; refine ZE.skip rfl rfl rfl sz1 ?_
              first | refine ZE.move rfl rfl rfl rfl sz0 ?_ | refine ZE.skip rfl rfl rfl sz0 ?_
              first | refine ZE.move rfl rfl rfl rfl sz0 ?_ | refine ZE.skip rfl rfl rfl sz0 ?_
              refine ZE.skip rfl rfl rfl sz0 ?_; refine ZE.skip rfl rfl rfl sz1 ?_; refine ZE.skip rfl rfl rfl sz0 ?_; refine ZE.skip rfl rfl rfl sz0 ?_; refine ZE.skip rfl rfl rfl sz0 ?_; refine ZE.pick rfl rfl rfl rfl rfl sz0 ?_
              rintro wc ec
              replace pi := pi.below ec
              refine EW.on ?_; refine EW.cond_f rfl ?_; refine EW.exit ?_; refine px_then ?_; refine px_then ?_; refine px_block ?_; refine EW.on ?_; refine EW.seq ?_; refine EW.seq ?_; refine EW.region ?_; refine WL.move rfl rfl rfl ?_; refine WL.move rfl rfl rfl ?_; refine WL.bin rfl rfl rfl rfl (int_gt_d _ _ _ _ _) ?_; refine WL.done ?_; refine EW.on ?_; refine EW.cond_d rfl (fun h144 => ?_) (fun h144 => ?_)
              · refine EW.exit ?_; refine px_then ?_; refine px_other (by decide) ?_; refine px_then ?_; refine px_block ?_; refine EW.on ?_; refine EW.seq ?_; refine EW.ordB [(0, 0, 0), (1, 0, 0), (2, 0, 0), (3, 0, 0), (4, 0, 0), (5, 0, 0), (6, 0, 0), (7, 0, 1), (8, 0, 0), (9, 0, 0), (10, 0, 0), (11, 0, 1), (12, 0, 0), (13, 1, 0), (14, 0, 0), (15, 1, 0)] (by kernel_rfl) rfl (by kernel_rfl) ?_; simp only [opsZ, List.getD_cons_zero, List.getD_cons_succ]; refine ZE.move rfl rfl rfl rfl sz0 ?_; refine ZE.move rfl rfl rfl rfl sz0 ?_; refine ZE.move rfl rfl rfl rfl sz0 ?_; refine ZE.move rfl rfl rfl rfl sz0 ?_; refine ZE.move rfl rfl rfl rfl sz0 ?_; refine ZE.move rfl rfl rfl rfl sz0 ?_
                obtain ⟨x1, ad1, hx1, hm1, ix1, lx1⟩ := pi.r.at' (t := a) (by rw [pi.len]; omega)
                refine ZE.index rfl rfl rfl rfl rfl sz0 (fun W => ix1 W) ?_; refine ZE.load rfl rfl rfl rfl sz1 (fun W hW => lx1 W (sb_of hW)) ?_; refine ZE.move rfl rfl rfl rfl sz0 ?_; refine ZE.move rfl rfl rfl rfl sz0 ?_
                obtain ⟨x2, ad2, hx2, hm2, ix2, lx2⟩ := pi.r.at' (t := j) (by rw [pi.len]; omega)
                refine ZE.index rfl rfl rfl rfl rfl sz0 (fun W => ix2 W) ?_; refine ZE.load rfl rfl rfl rfl sz1 (fun W hW => lx2 W (sb_of hW)) ?_; refine ZE.index rfl rfl rfl rfl rfl sz0 (fun W => ix2 W) ?_
                refine ZE.store (fun W => Pws W v (li.set (j) x1) ∧ Fx (fun k => v.ownBlock = some k) wc W) rfl rfl rfl (fun _ _ => .inl rfl) (fun W hW => by
      obtain ⟨w', g1, g2, g3⟩ := pi.r.swap1 (pi.apt hs) (I := j) (by rw [pi.len]; omega) hm1 ix2 W hW
      exact ⟨w', g1, g2, g3⟩) ?_
                refine ZE.index rfl rfl rfl rfl rfl sz0 (fun W => ix1 W) ?_; refine ZE.store (fun W => Prm wc v li W ((li.set (j) x1).set (a) x2)) rfl rfl rfl (fun _ _ => .inl rfl) (fun W hW => pi.r.swap2 (pi.apt hs) hx2 hx1 ix1 W hW.1 hW.2) ?_
                rintro ws ps_
                replace pi := pi.trans ps_
                refine EW.on ?_; refine EW.seq ?_; refine EW.region ?_; refine WL.move rfl rfl rfl ?_; refine WL.assign rfl rfl rfl ?_; refine WL.assign rfl rfl rfl ?_; refine WL.done ?_; refine EW.on ?_; refine EW.ret ?_
                exact EW.returns2 Tryz.results97 rfl rfl ⟨j, _, rfl, by omega, by omega, _, pi⟩
              · refine EW.skip ?_; refine EW.on ?_; refine EW.seq ?_; refine EW.ordB [(0, 0, 0), (1, 0, 0), (2, 0, 0), (3, 0, 0), (4, 0, 0), (5, 0, 0), (6, 0, 0), (7, 0, 1), (8, 0, 0), (9, 0, 0), (10, 0, 0), (11, 0, 1), (12, 0, 0), (13, 1, 0), (14, 0, 0), (15, 1, 0)] (by kernel_rfl) rfl (by kernel_rfl) ?_; simp only [opsZ, List.getD_cons_zero, List.getD_cons_succ]; refine ZE.move rfl rfl rfl rfl sz0 ?_; refine ZE.move rfl rfl rfl rfl sz0 ?_; refine ZE.move rfl rfl rfl rfl sz0 ?_; refine ZE.move rfl rfl rfl rfl sz0 ?_; refine ZE.move rfl rfl rfl rfl sz0 ?_; refine ZE.move rfl rfl rfl rfl sz0 ?_
                obtain ⟨x1, ad1, hx1, hm1, ix1, lx1⟩ := pi.r.at' (t := j) (by rw [pi.len]; omega)
                refine ZE.index rfl rfl rfl rfl rfl sz0 (fun W => ix1 W) ?_; refine ZE.load rfl rfl rfl rfl sz1 (fun W hW => lx1 W (sb_of hW)) ?_; refine ZE.move rfl rfl rfl rfl sz0 ?_; refine ZE.move rfl rfl rfl rfl sz0 ?_
                obtain ⟨x2, ad2, hx2, hm2, ix2, lx2⟩ := pi.r.at' (t := i) (by rw [pi.len]; omega)
                refine ZE.index rfl rfl rfl rfl rfl sz0 (fun W => ix2 W) ?_; refine ZE.load rfl rfl rfl rfl sz1 (fun W hW => lx2 W (sb_of hW)) ?_; refine ZE.index rfl rfl rfl rfl rfl sz0 (fun W => ix2 W) ?_
                refine ZE.store (fun W => Pws W v (li.set (i) x1) ∧ Fx (fun k => v.ownBlock = some k) wc W) rfl rfl rfl (fun _ _ => .inl rfl) (fun W hW => by
      obtain ⟨w', g1, g2, g3⟩ := pi.r.swap1 (pi.apt hs) (I := i) (by rw [pi.len]; omega) hm1 ix2 W hW
      exact ⟨w', g1, g2, g3⟩) ?_
                refine ZE.index rfl rfl rfl rfl rfl sz0 (fun W => ix1 W) ?_; refine ZE.store (fun W => Prm wc v li W ((li.set (i) x1).set (j) x2)) rfl rfl rfl (fun _ _ => .inl rfl) (fun W hW => pi.r.swap2 (pi.apt hs) hx2 hx1 ix1 W hW.1 hW.2) ?_
                rintro ws ps_
                replace pi := pi.trans ps_
                refine EW.on ?_; refine EW.seq ?_; refine EW.region ?_; refine WL.move rfl rfl rfl ?_; refine WL.bin rfl rfl rfl rfl (int_add (c := ((i + 1 : Nat) : Int)) (by rw [IntKind.wrap_i64]; omega) _ _ _) ?_; refine WL.assign rfl rfl rfl ?_; refine WL.done ?_; refine EW.on ?_; refine EW.region ?_; refine WL.move rfl rfl rfl ?_; refine WL.bin rfl rfl rfl rfl (int_sub (c := ((j - 1 : Nat) : Int)) (by rw [IntKind.wrap_i64]; omega) _ _ _) ?_; refine WL.assign rfl rfl rfl ?_; refine WL.done ?_; refine pn_block ?_; refine EW.again (E := ptE v a 12 13) (R := PtR w v l a b (a + 1) (b - 1)) (m := fun x => x.2.1 + 1 - x.1) (x := (i1, j1, l1)) (i + 1, j - 1, _) [0, 1, 4, 12, 13] rfl ⟨pi, by simp only; omega, by simp only; omega, by simp only; omega, by simp only; omega, by simp only; omega, by simp only; omega⟩ (by simp only; omega)
    · refine EW.ordB [(0, 0, 0), (1, 0, 0), (2, 0, 0), (3, 0, 0), (4, 0, 0), (5, 0, 0), (6, 0, 0), (7, 0, 0), (8, 0, 1), (9, 0, 0), (10, 0, 0), (11, 0, 0), (12, 0, 1), (13, 0, 0), (14, 0, 0), (15, 0, 0), (16, 0, 0)] (by kernel_rfl) rfl (by kernel_rfl) ?_; simp only [opsZ, List.getD_cons_zero, List.getD_cons_succ]; refine ZE.move rfl rfl rfl rfl sz0 ?_; refine ZE.move rfl rfl rfl rfl sz0 ?_; refine ZE.bin rfl rfl rfl rfl rfl sz0 (fun W => int_le_f (by omega) W _ _) ?_; refine ZE.move rfl rfl rfl rfl sz0 ?_
      first | refine ZE.move rfl rfl rfl rfl sz0 ?_ | refine ZE.skip rfl rfl rfl sz0 ?_
      first | refine ZE.move rfl rfl rfl rfl sz0 ?_ | refine ZE.skip rfl rfl rfl sz0 ?_
      first | refine ZE.move rfl rfl rfl rfl sz0 ?_ | refine ZE.skip rfl rfl rfl sz0 ?_
      refine ZE.skip rfl rfl rfl sz0 ?_; refine ZE.skip rfl rfl rfl sz1 ?_
      first | refine ZE.move rfl rfl rfl rfl sz0 ?_ | refine ZE.skip rfl rfl rfl sz0 ?_
      first | refine ZE.move rfl rfl rfl rfl sz0 ?_ | refine ZE.skip rfl rfl rfl sz0 ?_
      refine ZE.skip rfl rfl rfl sz0 ?_; refine ZE.skip rfl rfl rfl sz1 ?_; refine ZE.skip rfl rfl rfl sz0 ?_; refine ZE.skip rfl rfl rfl sz0 ?_; refine ZE.skip rfl rfl rfl sz0 ?_; refine ZE.pick rfl rfl rfl rfl rfl sz0 ?_
      rintro wc ec
      replace pi := pi.below ec
      refine EW.on ?_; refine EW.cond_f rfl ?_; refine EW.exit ?_; refine px_then ?_; refine px_then ?_; refine px_block ?_; refine EW.on ?_; refine EW.seq ?_; refine EW.seq ?_; refine EW.region ?_; refine WL.move rfl rfl rfl ?_; refine WL.move rfl rfl rfl ?_; refine WL.bin rfl rfl rfl rfl (int_gt_d _ _ _ _ _) ?_; refine WL.done ?_; refine EW.on ?_; refine EW.cond_d rfl (fun h71 => ?_) (fun h71 => ?_)
      · refine EW.seq ?_; refine EW.ordB [(0, 0, 0), (1, 0, 0), (2, 0, 0), (3, 0, 0), (4, 0, 0), (5, 0, 0), (6, 0, 0), (7, 0, 1), (8, 0, 0), (9, 0, 0), (10, 0, 0), (11, 0, 1), (12, 0, 0), (13, 1, 0), (14, 0, 0), (15, 1, 0)] (by kernel_rfl) rfl (by kernel_rfl) ?_; simp only [opsZ, List.getD_cons_zero, List.getD_cons_succ]; refine ZE.move rfl rfl rfl rfl sz0 ?_; refine ZE.move rfl rfl rfl rfl sz0 ?_; refine ZE.move rfl rfl rfl rfl sz0 ?_; refine ZE.move rfl rfl rfl rfl sz0 ?_; refine ZE.move rfl rfl rfl rfl sz0 ?_; refine ZE.move rfl rfl rfl rfl sz0 ?_
        obtain ⟨x1, ad1, hx1, hm1, ix1, lx1⟩ := pi.r.at' (t := a) (by rw [pi.len]; omega)
        refine ZE.index rfl rfl rfl rfl rfl sz0 (fun W => ix1 W) ?_; refine ZE.load rfl rfl rfl rfl sz1 (fun W hW => lx1 W (sb_of hW)) ?_; refine ZE.move rfl rfl rfl rfl sz0 ?_; refine ZE.move rfl rfl rfl rfl sz0 ?_
        obtain ⟨x2, ad2, hx2, hm2, ix2, lx2⟩ := pi.r.at' (t := j) (by rw [pi.len]; omega)
        refine ZE.index rfl rfl rfl rfl rfl sz0 (fun W => ix2 W) ?_; refine ZE.load rfl rfl rfl rfl sz1 (fun W hW => lx2 W (sb_of hW)) ?_; refine ZE.index rfl rfl rfl rfl rfl sz0 (fun W => ix2 W) ?_
        refine ZE.store (fun W => Pws W v (li.set (j) x1) ∧ Fx (fun k => v.ownBlock = some k) wc W) rfl rfl rfl (fun _ _ => .inl rfl) (fun W hW => by
      obtain ⟨w', g1, g2, g3⟩ := pi.r.swap1 (pi.apt hs) (I := j) (by rw [pi.len]; omega) hm1 ix2 W hW
      exact ⟨w', g1, g2, g3⟩) ?_
        refine ZE.index rfl rfl rfl rfl rfl sz0 (fun W => ix1 W) ?_; refine ZE.store (fun W => Prm wc v li W ((li.set (j) x1).set (a) x2)) rfl rfl rfl (fun _ _ => .inl rfl) (fun W hW => pi.r.swap2 (pi.apt hs) hx2 hx1 ix1 W hW.1 hW.2) ?_
        rintro ws ps_
        replace pi := pi.trans ps_
        refine EW.on ?_; refine EW.seq ?_; refine EW.region ?_; refine WL.move rfl rfl rfl ?_; refine WL.assign rfl rfl rfl ?_; refine WL.assign rfl rfl rfl ?_; refine WL.done ?_; refine EW.on ?_; refine EW.ret ?_; refine pr_then ?_
        exact EW.returns2 Tryz.results97 rfl rfl ⟨j, _, rfl, by omega, by omega, _, pi⟩
      · refine EW.skip ?_; refine EW.on ?_; refine EW.seq ?_; refine EW.ordB [(0, 0, 0), (1, 0, 0), (2, 0, 0), (3, 0, 0), (4, 0, 0), (5, 0, 0), (6, 0, 0), (7, 0, 1), (8, 0, 0), (9, 0, 0), (10, 0, 0), (11, 0, 1), (12, 0, 0), (13, 1, 0), (14, 0, 0), (15, 1, 0)] (by kernel_rfl) rfl (by kernel_rfl) ?_; simp only [opsZ, List.getD_cons_zero, List.getD_cons_succ]; refine ZE.move rfl rfl rfl rfl sz0 ?_; refine ZE.move rfl rfl rfl rfl sz0 ?_; refine ZE.move rfl rfl rfl rfl sz0 ?_; refine ZE.move rfl rfl rfl rfl sz0 ?_; refine ZE.move rfl rfl rfl rfl sz0 ?_; refine ZE.move rfl rfl rfl rfl sz0 ?_
        obtain ⟨x1, ad1, hx1, hm1, ix1, lx1⟩ := pi.r.at' (t := j) (by rw [pi.len]; omega)
        refine ZE.index rfl rfl rfl rfl rfl sz0 (fun W => ix1 W) ?_; refine ZE.load rfl rfl rfl rfl sz1 (fun W hW => lx1 W (sb_of hW)) ?_; refine ZE.move rfl rfl rfl rfl sz0 ?_; refine ZE.move rfl rfl rfl rfl sz0 ?_
        obtain ⟨x2, ad2, hx2, hm2, ix2, lx2⟩ := pi.r.at' (t := i) (by rw [pi.len]; omega)
        refine ZE.index rfl rfl rfl rfl rfl sz0 (fun W => ix2 W) ?_; refine ZE.load rfl rfl rfl rfl sz1 (fun W hW => lx2 W (sb_of hW)) ?_; refine ZE.index rfl rfl rfl rfl rfl sz0 (fun W => ix2 W) ?_
        refine ZE.store (fun W => Pws W v (li.set (i) x1) ∧ Fx (fun k => v.ownBlock = some k) wc W) rfl rfl rfl (fun _ _ => .inl rfl) (fun W hW => by
      obtain ⟨w', g1, g2, g3⟩ := pi.r.swap1 (pi.apt hs) (I := i) (by rw [pi.len]; omega) hm1 ix2 W hW
      exact ⟨w', g1, g2, g3⟩) ?_
        refine ZE.index rfl rfl rfl rfl rfl sz0 (fun W => ix1 W) ?_; refine ZE.store (fun W => Prm wc v li W ((li.set (i) x1).set (j) x2)) rfl rfl rfl (fun _ _ => .inl rfl) (fun W hW => pi.r.swap2 (pi.apt hs) hx2 hx1 ix1 W hW.1 hW.2) ?_
        rintro ws ps_
        replace pi := pi.trans ps_
        refine EW.on ?_; refine EW.seq ?_; refine EW.region ?_; refine WL.move rfl rfl rfl ?_; refine WL.bin rfl rfl rfl rfl (int_add (c := ((i + 1 : Nat) : Int)) (by rw [IntKind.wrap_i64]; omega) _ _ _) ?_; refine WL.assign rfl rfl rfl ?_; refine WL.done ?_; refine EW.on ?_; refine EW.seq ?_; refine EW.region ?_; refine WL.move rfl rfl rfl ?_; refine WL.bin rfl rfl rfl rfl (int_sub (c := ((j - 1 : Nat) : Int)) (by rw [IntKind.wrap_i64]; omega) _ _ _) ?_; refine WL.assign rfl rfl rfl ?_; refine WL.done ?_; refine EW.on ?_; refine EW.seq ?_; refine EW.block ?_; refine EW.loop (ptE v a 12 13) (PtR w v l a b (a + 1) (b - 1)) (fun x => x.2.1 + 1 - x.1) (i + 1, j - 1, _) [0, 1, 4, 12, 13] rfl ⟨pi, by simp only; omega, by simp only; omega, by simp only; omega, by simp only; omega, by simp only; omega, by simp only; omega⟩ ?_
        clear pi
        rintro ⟨i1, j1, l1⟩ wi ⟨pi, hi0, hj0, hlo, hhi, haj, hib⟩
        simp only at pi hi0 hj0 hlo hhi haj hib
        show EW _ _ _ _ [(0, v), (1, .int .i64 (a : Int)), (4, fnV), (12, .int .i64 (i1 : Int)), (13, .int .i64 (j1 : Int))] _
        refine EW.block ?_; refine EW.seq ?_; refine EW.block ?_; refine EW.loop (ptE v a 12 13) (PtR w v l a b (i1) (j1)) (fun x => x.2.1 + 1 - x.1) (i1, j1, _) [0, 1, 4, 12, 13] rfl ⟨pi, by simp only; omega, by simp only; omega, by simp only; omega, by simp only; omega, by simp only; omega, by simp only; omega⟩ ?_
        clear pi
        rintro ⟨i, j, li⟩ wi ⟨pi, hi0, hj0, hlo, hhi, haj, hib⟩
        simp only at pi hi0 hj0 hlo hhi haj hib
        show EW _ _ _ _ [(0, v), (1, .int .i64 (a : Int)), (4, fnV), (12, .int .i64 (i : Int)), (13, .int .i64 (j : Int))] _
        refine EW.seq ?_; refine EW.seq ?_
        by_cases hij : i ≤ j
        · refine EW.ordB [(0, 0, 0), (1, 0, 0), (2, 0, 0), (3, 0, 0), (4, 0, 0), (5, 0, 0), (6, 0, 0), (7, 0, 0), (8, 0, 1), (9, 0, 0), (10, 0, 0), (11, 0, 0), (12, 0, 1), (13, 1, 1), (14, 0, 0), (15, 0, 0)] (by kernel_rfl) rfl (by kernel_rfl) ?_; simp only [opsZ, List.getD_cons_zero, List.getD_cons_succ]; refine ZE.move rfl rfl rfl rfl sz0 ?_; refine ZE.move rfl rfl rfl rfl sz0 ?_; refine ZE.bin rfl rfl rfl rfl rfl sz0 (fun W => int_le_t (by omega) W _ _) ?_; refine ZE.move rfl rfl rfl rfl sz0 ?_
          first | refine ZE.move rfl rfl rfl rfl sz0 ?_ | refine ZE.skip rfl rfl rfl sz0 ?_
          first | refine ZE.move rfl rfl rfl rfl sz0 ?_ | refine ZE.skip rfl rfl rfl sz0 ?_
          first | refine ZE.move rfl rfl rfl rfl sz0 ?_ | refine ZE.skip rfl rfl rfl sz0 ?_
          obtain ⟨x1, ad1, hx1, hm1, ix1, lx1⟩ := pi.r.at' (t := i) (by rw [pi.len]; omega)
          refine ZE.index rfl rfl rfl rfl rfl sz0 (fun W => ix1 W) ?_; refine ZE.load rfl rfl rfl rfl sz1 (fun W hW => lx1 W (sb_of hW)) ?_
          first | refine ZE.move rfl rfl rfl rfl sz0 ?_ | refine ZE.skip rfl rfl rfl sz0 ?_
          first | refine ZE.move rfl rfl rfl rfl sz0 ?_ | refine ZE.skip rfl rfl rfl sz0 ?_
          obtain ⟨x2, ad2, hx2, hm2, ix2, lx2⟩ := pi.r.at' (t := a) (by rw [pi.len]; omega)
          refine ZE.index rfl rfl rfl rfl rfl sz0 (fun W => ix2 W) ?_; refine ZE.load rfl rfl rfl rfl sz1 (fun W hW => lx2 W (sb_of hW)) ?_; refine ZE.callFR [.agg (pgC x1).toArray, .agg (pgC x2).toArray] (fun v W => (∃ r, v = .int .i64 r) ∧ Below wi.heap.size wi W) enter70 rfl rfl rfl rfl (fun _ _ h => .inr h.2) (fun W hW => (cmpf_any x1 x2 W).mono fun e w' ⟨⟨r, g1⟩, g2⟩ => ⟨_, g1, ⟨r, rfl⟩, hW.trans (g2.mono hW.size)⟩) ?_
          rintro _ ⟨_, ⟨rc, rfl⟩, _⟩
          refine ZE.bin rfl rfl rfl rfl rfl sz0 (fun W => int_lt_d _ _ W _ _) ?_; refine ZE.pick rfl rfl rfl rfl rfl sz0 ?_
          rintro wc ⟨_, ec⟩
          replace pi := pi.below ec
          refine EW.on ?_; refine EW.cond_d rfl (fun h120 => ?_) (fun h120 => ?_)
          · refine EW.skip ?_; refine EW.on ?_; refine EW.block ?_; refine EW.region ?_; refine WL.move rfl rfl rfl ?_; refine WL.bin rfl rfl rfl rfl (int_add (c := ((i + 1 : Nat) : Int)) (by rw [IntKind.wrap_i64]; omega) _ _ _) ?_; refine WL.assign rfl rfl rfl ?_; refine WL.done ?_; refine pn_block ?_; refine EW.again (E := ptE v a 12 13) (R := PtR w v l a b (i1) (j1)) (m := fun x => x.2.1 + 1 - x.1) (x := (i, j, li)) (i + 1, j, li) [0, 1, 4, 12, 13] rfl ⟨pi, by simp only; omega, by simp only; omega, by simp only; omega, by simp only; omega, by simp only; omega, by simp only; omega⟩ (by simp only; omega)
          · refine EW.exit ?_; refine px_then ?_; refine px_then ?_; refine px_block ?_; refine EW.on ?_; refine EW.seq ?_; refine EW.block ?_; refine EW.loop (ptE v a 12 13) (PtR w v l a b (i1) (j1)) (fun x => x.2.1 + 1 - x.1) (i, j, _) [0, 1, 4, 12, 13] rfl ⟨pi, by simp only; omega, by simp only; omega, by simp only; omega, by simp only; omega, by simp only; omega, by simp only; omega⟩ ?_
            clear pi
            rintro ⟨i, j, li⟩ wi ⟨pi, hi0, hj0, hlo, hhi, haj, hib⟩
            simp only at pi hi0 hj0 hlo hhi haj hib
            show EW _ _ _ _ [(0, v), (1, .int .i64 (a : Int)), (4, fnV), (12, .int .i64 (i : Int)), (13, .int .i64 (j : Int))] _
            refine EW.seq ?_; refine EW.seq ?_
            by_cases hij : i ≤ j
            · refine EW.ordB [(0, 0, 0), (1, 0, 0), (2, 0, 0), (3, 0, 0), (4, 0, 0), (5, 0, 0), (6, 0, 0), (7, 0, 0), (8, 0, 1), (9, 0, 0), (10, 0, 0), (11, 0, 0), (12, 0, 1), (13, 1, 1), (14, 0, 0), (15, 0, 0), (16, 0, 0)] (by kernel_rfl) rfl (by kernel_rfl) ?_; simp only [opsZ, List.getD_cons_zero, List.getD_cons_succ]; refine ZE.move rfl rfl rfl rfl sz0 ?_; refine ZE.move rfl rfl rfl rfl sz0 ?_; refine ZE.bin rfl rfl rfl rfl rfl sz0 (fun W => int_le_t (by omega) W _ _) ?_; refine ZE.move rfl rfl rfl rfl sz0 ?_
              first | refine ZE.move rfl rfl rfl rfl sz0 ?_ | refine ZE.skip rfl rfl rfl sz0 ?_
              first | refine ZE.move rfl rfl rfl rfl sz0 ?_ | refine ZE.skip rfl rfl rfl sz0 ?_
              first | refine ZE.move rfl rfl rfl rfl sz0 ?_ | refine ZE.skip rfl rfl rfl sz0 ?_
              obtain ⟨x1, ad1, hx1, hm1, ix1, lx1⟩ := pi.r.at' (t := j) (by rw [pi.len]; omega)
              refine ZE.index rfl rfl rfl rfl rfl sz0 (fun W => ix1 W) ?_; refine ZE.load rfl rfl rfl rfl sz1 (fun W hW => lx1 W (sb_of hW)) ?_
              first | refine ZE.move rfl rfl rfl rfl sz0 ?_ | refine ZE.skip rfl rfl rfl sz0 ?_
              first | refine ZE.move rfl rfl rfl rfl sz0 ?_ | refine ZE.skip rfl rfl rfl sz0 ?_
              obtain ⟨x2, ad2, hx2, hm2, ix2, lx2⟩ := pi.r.at' (t := a) (by rw [pi.len]; omega)
              refine ZE.index rfl rfl rfl rfl rfl sz0 (fun W => ix2 W) ?_; refine ZE.load rfl rfl rfl rfl sz1 (fun W hW => lx2 W (sb_of hW)) ?_; refine ZE.callFR [.agg (pgC x1).toArray, .agg (pgC x2).toArray] (fun v W => (∃ r, v = .int .i64 r) ∧ Below wi.heap.size wi W) enter70 rfl rfl rfl rfl (fun _ _ h => .inr h.2) (fun W hW => (cmpf_any x1 x2 W).mono fun e w' ⟨⟨r, g1⟩, g2⟩ => ⟨_, g1, ⟨r, rfl⟩, hW.trans (g2.mono hW.size)⟩) ?_
              rintro _ ⟨_, ⟨rc, rfl⟩, _⟩
              refine ZE.bin rfl rfl rfl rfl rfl sz0 (fun W => int_lt_d _ _ W _ _) ?_
              first | refine ZE.un rfl rfl rfl rfl sz0 (fun W => not_t _ W) ?_ | refine ZE.skip rfl rfl rfl sz0 ?_
              refine ZE.pick rfl rfl rfl rfl rfl sz0 ?_
              rintro wc ⟨_, ec⟩
              replace pi := pi.below ec
              refine EW.on ?_; refine EW.cond_b rfl (fun h139 => ?_) (fun h139 => ?_)
              · refine EW.skip ?_; refine EW.on ?_; refine EW.block ?_; refine EW.region ?_; refine WL.move rfl rfl rfl ?_; refine WL.bin rfl rfl rfl rfl (int_sub (c := ((j - 1 : Nat) : Int)) (by rw [IntKind.wrap_i64]; omega) _ _ _) ?_; refine WL.assign rfl rfl rfl ?_; refine WL.done ?_; refine pn_block ?_; refine EW.again (E := ptE v a 12 13) (R := PtR w v l a b (i1) (j1)) (m := fun x => x.2.1 + 1 - x.1) (x := (i, j, li)) (i, j - 1, li) [0, 1, 4, 12, 13] rfl ⟨pi, by simp only; omega, by simp only; omega, by simp only; omega, by simp only; omega, by simp only; omega, by simp only; omega⟩ (by simp only; omega)
              · refine EW.exit ?_; refine px_then ?_; refine px_then ?_; refine px_block ?_; refine EW.on ?_; refine EW.seq ?_; refine EW.seq ?_; refine EW.region ?_; refine WL.move rfl rfl rfl ?_; refine WL.move rfl rfl rfl ?_; refine WL.bin rfl rfl rfl rfl (int_gt_d _ _ _ _ _) ?_; refine WL.done ?_; refine EW.on ?_; refine EW.cond_d rfl (fun h144 => ?_) (fun h144 => ?_)
                · refine EW.exit ?_; refine px_then ?_; refine px_other (by decide) ?_; refine px_then ?_; refine px_block ?_; refine EW.on ?_; refine EW.seq ?_; refine EW.ordB [(0, 0, 0), (1, 0, 0), (2, 0, 0), (3, 0, 0), (4, 0, 0), (5, 0, 0), (6, 0, 0), (7, 0, 1), (8, 0, 0), (9, 0, 0), (10, 0, 0), (11, 0, 1), (12, 0, 0), (13, 1, 0), (14, 0, 0), (15, 1, 0)] (by kernel_rfl) rfl (by kernel_rfl) ?_; simp only [opsZ, List.getD_cons_zero, List.getD_cons_succ]; refine ZE.move rfl rfl rfl rfl sz0 ?_; refine ZE.move rfl rfl rfl rfl sz0 ?_; refine ZE.move rfl rfl rfl rfl sz0 ?_; refine ZE.move rfl rfl rfl rfl sz0 ?_; refine ZE.move rfl rfl rfl rfl sz0 ?_; refine ZE.move rfl rfl rfl rfl sz0 ?_
                  obtain ⟨x1, ad1, hx1, hm1, ix1, lx1⟩ := pi.r.at' (t := a) (by rw [pi.len]; omega)
                  refine ZE.index rfl rfl rfl rfl rfl sz0 (fun W => ix1 W) ?_; refine ZE.load rfl rfl rfl rfl sz1 (fun W hW => lx1 W (sb_of hW)) ?_; refine ZE.move rfl rfl rfl rfl sz0 ?_; refine ZE.move rfl rfl rfl rfl sz0 ?_
                  obtain ⟨x2, ad2, hx2, hm2, ix2, lx2⟩ := pi.r.at' (t := j) (by rw [pi.len]; omega)
                  refine ZE.index rfl rfl rfl rfl rfl sz0 (fun W => ix2 W) ?_; refine ZE.load rfl rfl rfl rfl sz1 (fun W hW => lx2 W (sb_of hW)) ?_; refine ZE.index rfl rfl rfl rfl rfl sz0 (fun W => ix2 W) ?_
                  refine ZE.store (fun W => Pws W v (li.set (j) x1) ∧ Fx (fun k => v.ownBlock = some k) wc W) rfl rfl rfl (fun _ _ => .inl rfl) (fun W hW => by
      obtain ⟨w', g1, g2, g3⟩ := pi.r.swap1 (pi.apt hs) (I := j) (by rw [pi.len]; omega) hm1 ix2 W hW
      exact ⟨w', g1, g2, g3⟩) ?_
                  refine ZE.index rfl rfl rfl rfl rfl sz0 (fun W => ix1 W) ?_; refine ZE.store (fun W => Prm wc v li W ((li.set (j) x1).set (a) x2)) rfl rfl rfl (fun _ _ => .inl rfl) (fun W hW => pi.r.swap2 (pi.apt hs) hx2 hx1 ix1 W hW.1 hW.2) ?_
                  rintro ws ps_
                  replace pi := pi.trans ps_
                  refine EW.on ?_; refine EW.seq ?_; refine EW.region ?_; refine WL.move rfl rfl rfl ?_; refine WL.assign rfl rfl rfl ?_; refine WL.assign rfl rfl rfl ?_; refine WL.done ?_; refine EW.on ?_; refine EW.ret ?_
                  exact EW.returns2 Tryz.results97 rfl rfl ⟨j, _, rfl, by omega, by omega, _, pi⟩
                · refine EW.skip ?_; refine EW.on ?_; refine EW.seq ?_; refine EW.ordB [(0, 0, 0), (1, 0, 0), (2, 0, 0), (3, 0, 0), (4, 0, 0), (5, 0, 0), (6, 0, 0), (7, 0, 1), (8, 0, 0), (9, 0, 0), (10, 0, 0), (11, 0, 1), (12, 0, 0), (13, 1, 0), (14, 0, 0), (15, 1, 0)] (by kernel_rfl) rfl (by kernel_rfl) ?_; simp only [opsZ, List.getD_cons_zero, List.getD_cons_succ]; refine ZE.move rfl rfl rfl rfl sz0 ?_; refine ZE.move rfl rfl rfl rfl sz0 ?_; refine ZE.move rfl rfl rfl rfl sz0 ?_; refine ZE.move rfl rfl rfl rfl sz0 ?_; refine ZE.move rfl rfl rfl rfl sz0 ?_; refine ZE.move rfl rfl rfl rfl sz0 ?_
                  obtain ⟨x1, ad1, hx1, hm1, ix1, lx1⟩ := pi.r.at' (t := j) (by rw [pi.len]; omega)
                  refine ZE.index rfl rfl rfl rfl rfl sz0 (fun W => ix1 W) ?_; refine ZE.load rfl rfl rfl rfl sz1 (fun W hW => lx1 W (sb_of hW)) ?_; refine ZE.move rfl rfl rfl rfl sz0 ?_; refine ZE.move rfl rfl rfl rfl sz0 ?_
                  obtain ⟨x2, ad2, hx2, hm2, ix2, lx2⟩ := pi.r.at' (t := i) (by rw [pi.len]; omega)
                  refine ZE.index rfl rfl rfl rfl rfl sz0 (fun W => ix2 W) ?_; refine ZE.load rfl rfl rfl rfl sz1 (fun W hW => lx2 W (sb_of hW)) ?_; refine ZE.index rfl rfl rfl rfl rfl sz0 (fun W => ix2 W) ?_
                  refine ZE.store (fun W => Pws W v (li.set (i) x1) ∧ Fx (fun k => v.ownBlock = some k) wc W) rfl rfl rfl (fun _ _ => .inl rfl) (fun W hW => by
      obtain ⟨w', g1, g2, g3⟩ := pi.r.swap1 (pi.apt hs) (I := i) (by rw [pi.len]; omega) hm1 ix2 W hW
      exact ⟨w', g1, g2, g3⟩) ?_
                  refine ZE.index rfl rfl rfl rfl rfl sz0 (fun W => ix1 W) ?_; refine ZE.store (fun W => Prm wc v li W ((li.set (i) x1).set (j) x2)) rfl rfl rfl (fun _ _ => .inl rfl) (fun W hW => pi.r.swap2 (pi.apt hs) hx2 hx1 ix1 W hW.1 hW.2) ?_
                  rintro ws ps_
                  replace pi := pi.trans ps_
                  refine EW.on ?_; refine EW.seq ?_; refine EW.region ?_; refine WL.move rfl rfl rfl ?_; refine WL.bin rfl rfl rfl rfl (int_add (c := ((i + 1 : Nat) : Int)) (by rw [IntKind.wrap_i64]; omega) _ _ _) ?_; refine WL.assign rfl rfl rfl ?_; refine WL.done ?_; refine EW.on ?_; refine EW.region ?_; refine WL.move rfl rfl rfl ?_; refine WL.bin rfl rfl rfl rfl (int_sub (c := ((j - 1 : Nat) : Int)) (by rw [IntKind.wrap_i64]; omega) _ _ _) ?_; refine WL.assign rfl rfl rfl ?_; refine WL.done ?_; refine pn_block ?_; refine EW.again (E := ptE v a 12 13) (R := PtR w v l a b (a + 1) (b - 1)) (m := fun x => x.2.1 + 1 - x.1) (x := (i1, j1, l1)) (i + 1, j - 1, _) [0, 1, 4, 12, 13] rfl ⟨pi, by simp only; omega, by simp only; omega, by simp only; omega, by simp only; omega, by simp only; omega, by simp only; omega⟩ (by simp only; omega)
            · refine EW.ordB [(0, 0, 0), (1, 0, 0), (2, 0, 0), (3, 0, 0), (4, 0, 0), (5, 0, 0), (6, 0, 0), (7, 0, 0), (8, 0, 1), (9, 0, 0), (10, 0, 0), (11, 0, 0), (12, 0, 1), (13, 0, 0), (14, 0, 0), (15, 0, 0), (16, 0, 0)] (by kernel_rfl) rfl (by kernel_rfl) ?_; simp only [opsZ, List.getD_cons_zero, List.getD_cons_succ]; refine ZE.move rfl rfl rfl rfl sz0 ?_; refine ZE.move rfl rfl rfl rfl sz0 ?_; refine ZE.bin rfl rfl rfl rfl rfl sz0 (fun W => int_le_f (by omega) W _ _) ?_; refine ZE.move rfl rfl rfl rfl sz0 ?_
              first | refine ZE.move rfl rfl rfl rfl sz0 ?_ | refine ZE.skip rfl rfl rfl sz0 ?_
              first | refine ZE.move rfl rfl rfl rfl sz0 ?_ | refine ZE.skip rfl rfl rfl sz0 ?_
              first | refine ZE.move rfl rfl rfl rfl sz0 ?_ | refine ZE.skip rfl rfl rfl sz0 ?_
              refine ZE.skip rfl rfl rfl sz0 ?_; refine ZE.skip rfl rfl rfl sz1 ?_
              first | refine ZE.move rfl rfl rfl rfl sz0 ?_ | refine ZE.skip rfl rfl rfl sz0 ?_
              first | refine ZE.move rfl rfl rfl rfl sz0 ?_ | refine ZE.skip rfl rfl rfl sz0 ?_
              refine ZE.skip rfl rfl rfl sz0 ?_; refine ZE.skip rfl rfl rfl sz1 ?_; refine ZE.skip rfl rfl rfl sz0 ?_; refine ZE.skip rfl rfl rfl sz0 ?_; refine ZE.skip rfl rfl rfl sz0 ?_; refine ZE.pick rfl rfl rfl rfl rfl sz0 ?_
              rintro wc ec
              replace pi := pi.below ec
              refine EW.on ?_; refine EW.cond_f rfl ?_; refine EW.exit ?_; refine px_then ?_; refine px_then ?_; refine px_block ?_; refine EW.on ?_; refine EW.seq ?_; refine EW.seq ?_; refine EW.region ?_; refine WL.move rfl rfl rfl ?_; refine WL.move rfl rfl rfl ?_; refine WL.bin rfl rfl rfl rfl (int_gt_d _ _ _ _ _) ?_; refine WL.done ?_; refine EW.on ?_; refine EW.cond_d rfl (fun h144 => ?_) (fun h144 => ?_)
              · refine EW.exit ?_; refine px_then ?_; refine px_other (by decide) ?_; refine px_then ?_; refine px_block ?_; refine EW.on ?_; refine EW.seq ?_; refine EW.ordB [(0, 0, 0), (1, 0, 0), (2, 0, 0), (3, 0, 0), (4, 0, 0), (5, 0, 0), (6, 0, 0), (7, 0, 1), (8, 0, 0), (9, 0, 0), (10, 0, 0), (11, 0, 1), (12, 0, 0), (13, 1, 0), (14, 0, 0), (15, 1, 0)] (by kernel_rfl) rfl (by kernel_rfl) ?_; simp only [opsZ, List.getD_cons_zero, List.getD_cons_succ]; refine ZE.move rfl rfl rfl rfl sz0 ?_; refine ZE.move rfl rfl rfl rfl sz0 ?_; refine ZE.move rfl rfl rfl rfl sz0 ?_; refine ZE.move rfl rfl rfl rfl sz0 ?_; refine ZE.move rfl rfl rfl rfl sz0 ?_; refine ZE.move rfl rfl rfl rfl sz0 ?_
                obtain ⟨x1, ad1, hx1, hm1, ix1, lx1⟩ := pi.r.at' (t := a) (by rw [pi.len]; omega)
                refine ZE.index rfl rfl rfl rfl rfl sz0 (fun W => ix1 W) ?_; refine ZE.load rfl rfl rfl rfl sz1 (fun W hW => lx1 W (sb_of hW)) ?_; refine ZE.move rfl rfl rfl rfl sz0 ?_; refine ZE.move rfl rfl rfl rfl sz0 ?_
                obtain ⟨x2, ad2, hx2, hm2, ix2, lx2⟩ := pi.r.at' (t := j) (by rw [pi.len]; omega)
                refine ZE.index rfl rfl rfl rfl rfl sz0 (fun W => ix2 W) ?_; refine ZE.load rfl rfl rfl rfl sz1 (fun W hW => lx2 W (sb_of hW)) ?_; refine ZE.index rfl rfl rfl rfl rfl sz0 (fun W => ix2 W) ?_
                refine ZE.store (fun W => Pws W v (li.set (j) x1) ∧ Fx (fun k => v.ownBlock = some k) wc W) rfl rfl rfl (fun _ _ => .inl rfl) (fun W hW => by
      obtain ⟨w', g1, g2, g3⟩ := pi.r.swap1 (pi.apt hs) (I := j) (by rw [pi.len]; omega) hm1 ix2 W hW
      exact ⟨w', g1, g2, g3⟩) ?_
                refine ZE.index rfl rfl rfl rfl rfl sz0 (fun W => ix1 W) ?_; refine ZE.store (fun W => Prm wc v li W ((li.set (j) x1).set (a) x2)) rfl rfl rfl (fun _ _ => .inl rfl) (fun W hW => pi.r.swap2 (pi.apt hs) hx2 hx1 ix1 W hW.1 hW.2) ?_
                rintro ws ps_
                replace pi := pi.trans ps_
                refine EW.on ?_; refine EW.seq ?_; refine EW.region ?_; refine WL.move rfl rfl rfl ?_; refine WL.assign rfl rfl rfl ?_; refine WL.assign rfl rfl rfl ?_; refine WL.done ?_; refine EW.on ?_; refine EW.ret ?_
                exact EW.returns2 Tryz.results97 rfl rfl ⟨j, _, rfl, by omega, by omega, _, pi⟩
              · refine EW.skip ?_; refine EW.on ?_; refine EW.seq ?_; refine EW.ordB [(0, 0, 0), (1, 0, 0), (2, 0, 0), (3, 0, 0), (4, 0, 0), (5, 0, 0), (6, 0, 0), (7, 0, 1), (8, 0, 0), (9, 0, 0), (10, 0, 0), (11, 0, 1), (12, 0, 0), (13, 1, 0), (14, 0, 0), (15, 1, 0)] (by kernel_rfl) rfl (by kernel_rfl) ?_; simp only [opsZ, List.getD_cons_zero, List.getD_cons_succ]; refine ZE.move rfl rfl rfl rfl sz0 ?_; refine ZE.move rfl rfl rfl rfl sz0 ?_; refine ZE.move rfl rfl rfl rfl sz0 ?_; refine ZE.move rfl rfl rfl rfl sz0 ?_; refine ZE.move rfl rfl rfl rfl sz0 ?_; refine ZE.move rfl rfl rfl rfl sz0 ?_
                obtain ⟨x1, ad1, hx1, hm1, ix1, lx1⟩ := pi.r.at' (t := j) (by rw [pi.len]; omega)
                refine ZE.index rfl rfl rfl rfl rfl sz0 (fun W => ix1 W) ?_; refine ZE.load rfl rfl rfl rfl sz1 (fun W hW => lx1 W (sb_of hW)) ?_; refine ZE.move rfl rfl rfl rfl sz0 ?_; refine ZE.move rfl rfl rfl rfl sz0 ?_
                obtain ⟨x2, ad2, hx2, hm2, ix2, lx2⟩ := pi.r.at' (t := i) (by rw [pi.len]; omega)
                refine ZE.index rfl rfl rfl rfl rfl sz0 (fun W => ix2 W) ?_; refine ZE.load rfl rfl rfl rfl sz1 (fun W hW => lx2 W (sb_of hW)) ?_; refine ZE.index rfl rfl rfl rfl rfl sz0 (fun W => ix2 W) ?_
                refine ZE.store (fun W => Pws W v (li.set (i) x1) ∧ Fx (fun k => v.ownBlock = some k) wc W) rfl rfl rfl (fun _ _ => .inl rfl) (fun W hW => by
      obtain ⟨w', g1, g2, g3⟩ := pi.r.swap1 (pi.apt hs) (I := i) (by rw [pi.len]; omega) hm1 ix2 W hW
      exact ⟨w', g1, g2, g3⟩) ?_
                refine ZE.index rfl rfl rfl rfl rfl sz0 (fun W => ix1 W) ?_; refine ZE.store (fun W => Prm wc v li W ((li.set (i) x1).set (j) x2)) rfl rfl rfl (fun _ _ => .inl rfl) (fun W hW => pi.r.swap2 (pi.apt hs) hx2 hx1 ix1 W hW.1 hW.2) ?_
                rintro ws ps_
                replace pi := pi.trans ps_
                refine EW.on ?_; refine EW.seq ?_; refine EW.region ?_; refine WL.move rfl rfl rfl ?_; refine WL.bin rfl rfl rfl rfl (int_add (c := ((i + 1 : Nat) : Int)) (by rw [IntKind.wrap_i64]; omega) _ _ _) ?_; refine WL.assign rfl rfl rfl ?_; refine WL.done ?_; refine EW.on ?_; refine EW.region ?_; refine WL.move rfl rfl rfl ?_; refine WL.bin rfl rfl rfl rfl (int_sub (c := ((j - 1 : Nat) : Int)) (by rw [IntKind.wrap_i64]; omega) _ _ _) ?_; refine WL.assign rfl rfl rfl ?_; refine WL.done ?_; refine pn_block ?_; refine EW.again (E := ptE v a 12 13) (R := PtR w v l a b (a + 1) (b - 1)) (m := fun x => x.2.1 + 1 - x.1) (x := (i1, j1, l1)) (i + 1, j - 1, _) [0, 1, 4, 12, 13] rfl ⟨pi, by simp only; omega, by simp only; omega, by simp only; omega, by simp only; omega, by simp only; omega, by simp only; omega⟩ (by simp only; omega)
        · refine EW.ordB [(0, 0, 0), (1, 0, 0), (2, 0, 0), (3, 0, 0), (4, 0, 0), (5, 0, 0), (6, 0, 0), (7, 0, 0), (8, 0, 1), (9, 0, 0), (10, 0, 0), (11, 0, 0), (12, 0, 1), (13, 0, 0), (14, 0, 0), (15, 0, 0)] (by kernel_rfl) rfl (by kernel_rfl) ?_; simp only [opsZ, List.getD_cons_zero, List.getD_cons_succ]; refine ZE.move rfl rfl rfl rfl sz0 ?_; refine ZE.move rfl rfl rfl rfl sz0 ?_; refine ZE.bin rfl rfl rfl rfl rfl sz0 (fun W => int_le_f (by omega) W _ _) ?_; refine ZE.move rfl rfl rfl rfl sz0 ?_
          first | refine ZE.move rfl rfl rfl rfl sz0 ?_ | refine ZE.skip rfl rfl rfl sz0 ?_
          first | refine ZE.move rfl rfl rfl rfl sz0 ?_ | refine ZE.skip rfl rfl rfl sz0 ?_
          first | refine ZE.move rfl rfl rfl rfl sz0 ?_ | refine ZE.skip rfl rfl rfl sz0 ?_
          refine ZE.skip rfl rfl rfl sz0 ?_; refine ZE.skip rfl rfl rfl sz1 ?_
          first | refine ZE.move rfl rfl rfl rfl sz0 ?_ | refine ZE.skip rfl rfl rfl sz0 ?_
          first | refine ZE.move rfl rfl rfl rfl sz0 ?_ | refine ZE.skip rfl rfl rfl sz0 ?_
          refine ZE.skip rfl rfl rfl sz0 ?_; refine ZE.skip rfl rfl rfl sz1 ?_; refine ZE.skip rfl rfl rfl sz0 ?_; refine ZE.skip rfl rfl rfl sz0 ?_; refine ZE.pick rfl rfl rfl rfl rfl sz0 ?_
          rintro wc ec
          replace pi := pi.below ec
          refine EW.on ?_; refine EW.cond_f rfl ?_; refine EW.exit ?_; refine px_then ?_; refine px_then ?_; refine px_block ?_; refine EW.on ?_; refine EW.seq ?_; refine EW.block ?_; refine EW.loop (ptE v a 12 13) (PtR w v l a b (i1) (j1)) (fun x => x.2.1 + 1 - x.1) (i, j, _) [0, 1, 4, 12, 13] rfl ⟨pi, by simp only; omega, by simp only; omega, by simp only; omega, by simp only; omega, by simp only; omega, by simp only; omega⟩ ?_
          clear pi
          rintro ⟨i, j, li⟩ wi ⟨pi, hi0, hj0, hlo, hhi, haj, hib⟩
          simp only at pi hi0 hj0 hlo hhi haj hib
          show EW _ _ _ _ [(0, v), (1, .int .i64 (a : Int)), (4, fnV), (12, .int .i64 (i : Int)), (13, .int .i64 (j : Int))] _
          refine EW.seq ?_; refine EW.seq ?_
          by_cases hij : i ≤ j
          · refine EW.ordB [(0, 0, 0), (1, 0, 0), (2, 0, 0), (3, 0, 0), (4, 0, 0), (5, 0, 0), (6, 0, 0), (7, 0, 0), (8, 0, 1), (9, 0, 0), (10, 0, 0), (11, 0, 0), (12, 0, 1), (13, 1, 1), (14, 0, 0), (15, 0, 0), (16, 0, 0)] (by kernel_rfl) rfl (by kernel_rfl) ?_; simp only [opsZ, List.getD_cons_zero, List.getD_cons_succ]; refine ZE.move rfl rfl rfl rfl sz0 ?_; refine ZE.move rfl rfl rfl rfl sz0 ?_; refine ZE.bin rfl rfl rfl rfl rfl sz0 (fun W => int_le_t (by omega) W _ _) ?_; refine ZE.move rfl rfl rfl rfl sz0 ?_
            first | refine ZE.move rfl rfl rfl rfl sz0 ?_ | refine ZE.skip rfl rfl rfl sz0 ?_
            first | refine ZE.move rfl rfl rfl rfl sz0 ?_ | refine ZE.skip rfl rfl rfl sz0 ?_
            first | refine ZE.move rfl rfl rfl rfl sz0 ?_ | refine ZE.skip rfl rfl rfl sz0 ?_
            obtain ⟨x1, ad1, hx1, hm1, ix1, lx1⟩ := pi.r.at' (t := j) (by rw [pi.len]; omega)
            refine ZE.index rfl rfl rfl rfl rfl sz0 (fun W => ix1 W) ?_; refine ZE.load rfl rfl rfl rfl sz1 (fun W hW => lx1 W (sb_of hW)) ?_
            first | refine ZE.move rfl rfl rfl rfl sz0 ?_ | refine ZE.skip rfl rfl rfl sz0 ?_
            first | refine ZE.move rfl rfl rfl rfl sz0 ?_ | refine ZE.skip rfl rfl rfl sz0 ?_
            obtain ⟨x2, ad2, hx2, hm2, ix2, lx2⟩ := pi.r.at' (t := a) (by rw [pi.len]; omega)
            refine ZE.index rfl rfl rfl rfl rfl sz0 (fun W => ix2 W) ?_; refine ZE.load rfl rfl rfl rfl sz1 (fun W hW => lx2 W (sb_of hW)) ?_; refine ZE.callFR [.agg (pgC x1).toArray, .agg (pgC x2).toArray] (fun v W => (∃ r, v = .int .i64 r) ∧ Below wi.heap.size wi W) enter70 rfl rfl rfl rfl (fun _ _ h => .inr h.2) (fun W hW => (cmpf_any x1 x2 W).mono fun e w' ⟨⟨r, g1⟩, g2⟩ => ⟨_, g1, ⟨r, rfl⟩, hW.trans (g2.mono hW.size)⟩) ?_
            rintro _ ⟨_, ⟨rc, rfl⟩, _⟩
            refine ZE.bin rfl rfl rfl rfl rfl sz0 (fun W => int_lt_d _ _ W _ _) ?_
            first | refine ZE.un rfl rfl rfl rfl sz0 (fun W => not_t _ W) ?_ | refine ZE.skip rfl rfl rfl sz0 ?_
            refine ZE.pick rfl rfl rfl rfl rfl sz0 ?_
            rintro wc ⟨_, ec⟩
            replace pi := pi.below ec
            refine EW.on ?_; refine EW.cond_b rfl (fun h139 => ?_) (fun h139 => ?_)
            · refine EW.skip ?_; refine EW.on ?_; refine EW.block ?_; refine EW.region ?_; refine WL.move rfl rfl rfl ?_; refine WL.bin rfl rfl rfl rfl (int_sub (c := ((j - 1 : Nat) : Int)) (by rw [IntKind.wrap_i64]; omega) _ _ _) ?_; refine WL.assign rfl rfl rfl ?_; refine WL.done ?_; refine pn_block ?_; refine EW.again (E := ptE v a 12 13) (R := PtR w v l a b (i1) (j1)) (m := fun x => x.2.1 + 1 - x.1) (x := (i, j, li)) (i, j - 1, li) [0, 1, 4, 12, 13] rfl ⟨pi, by simp only; omega, by simp only; omega, by simp only; omega, by simp only; omega, by simp only; omega, by simp only; omega⟩ (by simp only; omega)
            · refine EW.exit ?_; refine px_then ?_; refine px_then ?_; refine px_block ?_; refine EW.on ?_; refine EW.seq ?_; refine EW.seq ?_; refine EW.region ?_; refine WL.move rfl rfl rfl ?_; refine WL.move rfl rfl rfl ?_; refine WL.bin rfl rfl rfl rfl (int_gt_d _ _ _ _ _) ?_; refine WL.done ?_; refine EW.on ?_; refine EW.cond_d rfl (fun h144 => ?_) (fun h144 => ?_)
              · refine EW.exit ?_; refine px_then ?_; refine px_other (by decide) ?_; refine px_then ?_; refine px_block ?_; refine EW.on ?_; refine EW.seq ?_; refine EW.ordB [(0, 0, 0), (1, 0, 0), (2, 0, 0), (3, 0, 0), (4, 0, 0), (5, 0, 0), (6, 0, 0), (7, 0, 1), (8, 0, 0), (9, 0, 0), (10, 0, 0), (11, 0, 1), (12, 0, 0), (13, 1, 0), (14, 0, 0), (15, 1, 0)] (by kernel_rfl) rfl (by kernel_rfl) ?_; simp only [opsZ, List.getD_cons_zero, List.getD_cons_succ]; refine ZE.move rfl rfl rfl rfl sz0 ?_; refine ZE.move rfl rfl rfl rfl sz0 ?_; refine ZE.move rfl rfl rfl rfl sz0 ?_; refine ZE.move rfl rfl rfl rfl sz0 ?_; refine ZE.move rfl rfl rfl rfl sz0 ?_; refine ZE.move rfl rfl rfl rfl sz0 ?_
                obtain ⟨x1, ad1, hx1, hm1, ix1, lx1⟩ := pi.r.at' (t := a) (by rw [pi.len]; omega)
                refine ZE.index rfl rfl rfl rfl rfl sz0 (fun W => ix1 W) ?_; refine ZE.load rfl rfl rfl rfl sz1 (fun W hW => lx1 W (sb_of hW)) ?_; refine ZE.move rfl rfl rfl rfl sz0 ?_; refine ZE.move rfl rfl rfl rfl sz0 ?_
                obtain ⟨x2, ad2, hx2, hm2, ix2, lx2⟩ := pi.r.at' (t := j) (by rw [pi.len]; omega)
                refine ZE.index rfl rfl rfl rfl rfl sz0 (fun W => ix2 W) ?_; refine ZE.load rfl rfl rfl rfl sz1 (fun W hW => lx2 W (sb_of hW)) ?_; refine ZE.index rfl rfl rfl rfl rfl sz0 (fun W => ix2 W) ?_
                refine ZE.store (fun W => Pws W v (li.set (j) x1) ∧ Fx (fun k => v.ownBlock = some k) wc W) rfl rfl rfl (fun _ _ => .inl rfl) (fun W hW => by
      obtain ⟨w', g1, g2, g3⟩ := pi.r.swap1 (pi.apt hs) (I := j) (by rw [pi.len]; omega) hm1 ix2 W hW
      exact ⟨w', g1, g2, g3⟩) ?_
                refine ZE.index rfl rfl rfl rfl rfl sz0 (fun W => ix1 W) ?_; refine ZE.store (fun W => Prm wc v li W ((li.set (j) x1).set (a) x2)) rfl rfl rfl (fun _ _ => .inl rfl) (fun W hW => pi.r.swap2 (pi.apt hs) hx2 hx1 ix1 W hW.1 hW.2) ?_
                rintro ws ps_
                replace pi := pi.trans ps_
                refine EW.on ?_; refine EW.seq ?_; refine EW.region ?_; refine WL.move rfl rfl rfl ?_; refine WL.assign rfl rfl rfl ?_; refine WL.assign rfl rfl rfl ?_; refine WL.done ?_; refine EW.on ?_; refine EW.ret ?_
                exact EW.returns2 Tryz.results97 rfl rfl ⟨j, _, rfl, by omega, by omega, _, pi⟩
              · refine EW.skip ?_; refine EW.on ?_; refine EW.seq ?_; refine EW.ordB [(0, 0, 0), (1, 0, 0), (2, 0, 0), (3, 0, 0), (4, 0, 0), (5, 0, 0), (6, 0, 0), (7, 0, 1), (8, 0, 0), (9, 0, 0), (10, 0, 0), (11, 0, 1), (12, 0, 0), (13, 1, 0), (14, 0, 0), (15, 1, 0)] (by kernel_rfl) rfl (by kernel_rfl) ?_; simp only [opsZ, List.getD_cons_zero, List.getD_cons_succ]; refine ZE.move rfl rfl rfl rfl sz0 ?_; refine ZE.move rfl rfl rfl rfl sz0 ?_; refine ZE.move rfl rfl rfl rfl sz0 ?_; refine ZE.move rfl rfl rfl rfl sz0 ?_; refine ZE.move rfl rfl rfl rfl sz0 ?_; refine ZE.move rfl rfl rfl rfl sz0 ?_
                obtain ⟨x1, ad1, hx1, hm1, ix1, lx1⟩ := pi.r.at' (t := j) (by rw [pi.len]; omega)
                refine ZE.index rfl rfl rfl rfl rfl sz0 (fun W => ix1 W) ?_; refine ZE.load rfl rfl rfl rfl sz1 (fun W hW => lx1 W (sb_of hW)) ?_; refine ZE.move rfl rfl rfl rfl sz0 ?_; refine ZE.move rfl rfl rfl rfl sz0 ?_
                obtain ⟨x2, ad2, hx2, hm2, ix2, lx2⟩ := pi.r.at' (t := i) (by rw [pi.len]; omega)
                refine ZE.index rfl rfl rfl rfl rfl sz0 (fun W => ix2 W) ?_; refine ZE.load rfl rfl rfl rfl sz1 (fun W hW => lx2 W (sb_of hW)) ?_; refine ZE.index rfl rfl rfl rfl rfl sz0 (fun W => ix2 W) ?_
                refine ZE.store (fun W => Pws W v (li.set (i) x1) ∧ Fx (fun k => v.ownBlock = some k) wc W) rfl rfl rfl (fun _ _ => .inl rfl) (fun W hW => by
      obtain ⟨w', g1, g2, g3⟩ := pi.r.swap1 (pi.apt hs) (I := i) (by rw [pi.len]; omega) hm1 ix2 W hW
      exact ⟨w', g1, g2, g3⟩) ?_
                refine ZE.index rfl rfl rfl rfl rfl sz0 (fun W => ix1 W) ?_; refine ZE.store (fun W => Prm wc v li W ((li.set (i) x1).set (j) x2)) rfl rfl rfl (fun _ _ => .inl rfl) (fun W hW => pi.r.swap2 (pi.apt hs) hx2 hx1 ix1 W hW.1 hW.2) ?_
                rintro ws ps_
                replace pi := pi.trans ps_
                refine EW.on ?_; refine EW.seq ?_; refine EW.region ?_; refine WL.move rfl rfl rfl ?_; refine WL.bin rfl rfl rfl rfl (int_add (c := ((i + 1 : Nat) : Int)) (by rw [IntKind.wrap_i64]; omega) _ _ _) ?_; refine WL.assign rfl rfl rfl ?_; refine WL.done ?_; refine EW.on ?_; refine EW.region ?_; refine WL.move rfl rfl rfl ?_; refine WL.bin rfl rfl rfl rfl (int_sub (c := ((j - 1 : Nat) : Int)) (by rw [IntKind.wrap_i64]; omega) _ _ _) ?_; refine WL.assign rfl rfl rfl ?_; refine WL.done ?_; refine pn_block ?_; refine EW.again (E := ptE v a 12 13) (R := PtR w v l a b (a + 1) (b - 1)) (m := fun x => x.2.1 + 1 - x.1) (x := (i1, j1, l1)) (i + 1, j - 1, _) [0, 1, 4, 12, 13] rfl ⟨pi, by simp only; omega, by simp only; omega, by simp only; omega, by simp only; omega, by simp only; omega, by simp only; omega⟩ (by simp only; omega)
          · refine EW.ordB [(0, 0, 0), (1, 0, 0), (2, 0, 0), (3, 0, 0), (4, 0, 0), (5, 0, 0), (6, 0, 0), (7, 0, 0), (8, 0, 1), (9, 0, 0), (10, 0, 0), (11, 0, 0), (12, 0, 1), (13, 0, 0), (14, 0, 0), (15, 0, 0), (16, 0, 0)] (by kernel_rfl) rfl (by kernel_rfl) ?_; simp only [opsZ, List.getD_cons_zero, List.getD_cons_succ]; refine ZE.move rfl rfl rfl rfl sz0 ?_; refine ZE.move rfl rfl rfl rfl sz0 ?_; refine ZE.bin rfl rfl rfl rfl rfl sz0 (fun W => int_le_f (by omega) W _ _) ?_; refine ZE.move rfl rfl rfl rfl sz0 ?_
            first | refine ZE.move rfl rfl rfl rfl sz0 ?_ | refine ZE.skip rfl rfl rfl sz0 ?_
            first | refine ZE.move rfl rfl rfl rfl sz0 ?_ | refine ZE.skip rfl rfl rfl sz0 ?_
            first | refine ZE.move rfl rfl rfl rfl sz0 ?_ | refine ZE.skip rfl rfl rfl sz0 ?_
            refine ZE.skip rfl rfl rfl sz0 ?_; refine ZE.skip rfl rfl rfl sz1 ?_
            first | refine ZE.move rfl rfl rfl rfl sz0 ?_ | refine ZE.skip rfl rfl rfl sz0 ?_
            first | refine ZE.move rfl rfl rfl rfl sz0 ?_ | refine ZE.skip rfl rfl rfl sz0 ?_
            refine ZE.skip rfl rfl rfl sz0 ?_; refine ZE.skip rfl rfl rfl sz1 ?_; refine ZE.skip rfl rfl rfl sz0 ?_; refine ZE.skip rfl rfl rfl sz0 ?_; refine ZE.skip rfl rfl rfl sz0 ?_; refine ZE.pick rfl rfl rfl rfl rfl sz0 ?_
            rintro wc ec
            replace pi := pi.below ec
            refine EW.on ?_; refine EW.cond_f rfl ?_; refine EW.exit ?_; refine px_then ?_; refine px_then ?_; refine px_block ?_; refine EW.on ?_; refine EW.seq ?_; refine EW.seq ?_; refine EW.region ?_; refine WL.move rfl rfl rfl ?_; refine WL.move rfl rfl rfl ?_; refine WL.bin rfl rfl rfl rfl (int_gt_d _ _ _ _ _) ?_; refine WL.done ?_; refine EW.on ?_; refine EW.cond_d rfl (fun h144 => ?_) (fun h144 => ?_)
            · refine EW.exit ?_; refine px_then ?_; refine px_other (by decide) ?_; refine px_then ?_; refine px_block ?_; refine EW.on ?_; refine EW.seq ?_; refine EW.ordB [(0, 0, 0), (1, 0, 0), (2, 0, 0), (3, 0, 0), (4, 0, 0), (5, 0, 0), (6, 0, 0), (7, 0, 1), (8, 0, 0), (9, 0, 0), (10, 0, 0), (11, 0, 1), (12, 0, 0), (13, 1, 0), (14, 0, 0), (15, 1, 0)] (by kernel_rfl) rfl (by kernel_rfl) ?_; simp only [opsZ, List.getD_cons_zero, List.getD_cons_succ]; refine ZE.move rfl rfl rfl rfl sz0 ?_; refine ZE.move rfl rfl rfl rfl sz0 ?_; refine ZE.move rfl rfl rfl rfl sz0 ?_; refine ZE.move rfl rfl rfl rfl sz0 ?_; refine ZE.move rfl rfl rfl rfl sz0 ?_; refine ZE.move rfl rfl rfl rfl sz0 ?_
              obtain ⟨x1, ad1, hx1, hm1, ix1, lx1⟩ := pi.r.at' (t := a) (by rw [pi.len]; omega)
              refine ZE.index rfl rfl rfl rfl rfl sz0 (fun W => ix1 W) ?_; refine ZE.load rfl rfl rfl rfl sz1 (fun W hW => lx1 W (sb_of hW)) ?_; refine ZE.move rfl rfl rfl rfl sz0 ?_; refine ZE.move rfl rfl rfl rfl sz0 ?_
              obtain ⟨x2, ad2, hx2, hm2, ix2, lx2⟩ := pi.r.at' (t := j) (by rw [pi.len]; omega)
              refine ZE.index rfl rfl rfl rfl rfl sz0 (fun W => ix2 W) ?_; refine ZE.load rfl rfl rfl rfl sz1 (fun W hW => lx2 W (sb_of hW)) ?_; refine ZE.index rfl rfl rfl rfl rfl sz0 (fun W => ix2 W) ?_
              refine ZE.store (fun W => Pws W v (li.set (j) x1) ∧ Fx (fun k => v.ownBlock = some k) wc W) rfl rfl rfl (fun _ _ => .inl rfl) (fun W hW => by
      obtain ⟨w', g1, g2, g3⟩ := pi.r.swap1 (pi.apt hs) (I := j) (by rw [pi.len]; omega) hm1 ix2 W hW
      exact ⟨w', g1, g2, g3⟩) ?_
              refine ZE.index rfl rfl rfl rfl rfl sz0 (fun W => ix1 W) ?_; refine ZE.store (fun W => Prm wc v li W ((li.set (j) x1).set (a) x2)) rfl rfl rfl (fun _ _ => .inl rfl) (fun W hW => pi.r.swap2 (pi.apt hs) hx2 hx1 ix1 W hW.1 hW.2) ?_
              rintro ws ps_
              replace pi := pi.trans ps_
              refine EW.on ?_; refine EW.seq ?_; refine EW.region ?_; refine WL.move rfl rfl rfl ?_; refine WL.assign rfl rfl rfl ?_; refine WL.assign rfl rfl rfl ?_; refine WL.done ?_; refine EW.on ?_; refine EW.ret ?_
              exact EW.returns2 Tryz.results97 rfl rfl ⟨j, _, rfl, by omega, by omega, _, pi⟩
            · refine EW.skip ?_; refine EW.on ?_; refine EW.seq ?_; refine EW.ordB [(0, 0, 0), (1, 0, 0), (2, 0, 0), (3, 0, 0), (4, 0, 0), (5, 0, 0), (6, 0, 0), (7, 0, 1), (8, 0, 0), (9, 0, 0), (10, 0, 0), (11, 0, 1), (12, 0, 0), (13, 1, 0), (14, 0, 0), (15, 1, 0)] (by kernel_rfl) rfl (by kernel_rfl) ?_; simp only [opsZ, List.getD_cons_zero, List.getD_cons_succ]; refine ZE.move rfl rfl rfl rfl sz0 ?_; refine ZE.move rfl rfl rfl rfl sz0 ?_; refine ZE.move rfl rfl rfl rfl sz0 ?_; refine ZE.move rfl rfl rfl rfl sz0 ?_; refine ZE.move rfl rfl rfl rfl sz0 ?_; refine ZE.move rfl rfl rfl rfl sz0 ?_
              obtain ⟨x1, ad1, hx1, hm1, ix1, lx1⟩ := pi.r.at' (t := j) (by rw [pi.len]; omega)
              refine ZE.index rfl rfl rfl rfl rfl sz0 (fun W => ix1 W) ?_; refine ZE.load rfl rfl rfl rfl sz1 (fun W hW => lx1 W (sb_of hW)) ?_; refine ZE.move rfl rfl rfl rfl sz0 ?_; refine ZE.move rfl rfl rfl rfl sz0 ?_
              obtain ⟨x2, ad2, hx2, hm2, ix2, lx2⟩ := pi.r.at' (t := i) (by rw [pi.len]; omega)
              refine ZE.index rfl rfl rfl rfl rfl sz0 (fun W => ix2 W) ?_; refine ZE.load rfl rfl rfl rfl sz1 (fun W hW => lx2 W (sb_of hW)) ?_; refine ZE.index rfl rfl rfl rfl rfl sz0 (fun W => ix2 W) ?_
              refine ZE.store (fun W => Pws W v (li.set (i) x1) ∧ Fx (fun k => v.ownBlock = some k) wc W) rfl rfl rfl (fun _ _ => .inl rfl) (fun W hW => by
      obtain ⟨w', g1, g2, g3⟩ := pi.r.swap1 (pi.apt hs) (I := i) (by rw [pi.len]; omega) hm1 ix2 W hW
      exact ⟨w', g1, g2, g3⟩) ?_
              refine ZE.index rfl rfl rfl rfl rfl sz0 (fun W => ix1 W) ?_; refine ZE.store (fun W => Prm wc v li W ((li.set (i) x1).set (j) x2)) rfl rfl rfl (fun _ _ => .inl rfl) (fun W hW => pi.r.swap2 (pi.apt hs) hx2 hx1 ix1 W hW.1 hW.2) ?_
              rintro ws ps_
              replace pi := pi.trans ps_
              refine EW.on ?_; refine EW.seq ?_; refine EW.region ?_; refine WL.move rfl rfl rfl ?_; refine WL.bin rfl rfl rfl rfl (int_add (c := ((i + 1 : Nat) : Int)) (by rw [IntKind.wrap_i64]; omega) _ _ _) ?_; refine WL.assign rfl rfl rfl ?_; refine WL.done ?_; refine EW.on ?_; refine EW.region ?_; refine WL.move rfl rfl rfl ?_; refine WL.bin rfl rfl rfl rfl (int_sub (c := ((j - 1 : Nat) : Int)) (by rw [IntKind.wrap_i64]; omega) _ _ _) ?_; refine WL.assign rfl rfl rfl ?_; refine WL.done ?_; refine pn_block ?_; refine EW.again (E := ptE v a 12 13) (R := PtR w v l a b (a + 1) (b - 1)) (m := fun x => x.2.1 + 1 - x.1) (x := (i1, j1, l1)) (i + 1, j - 1, _) [0, 1, 4, 12, 13] rfl ⟨pi, by simp only; omega, by simp only; omega, by simp only; omega, by simp only; omega, by simp only; omega, by simp only; omega⟩ (by simp only; omega)
end Go.Proofs.YtmbgeojjklboeaaGreatDoor
