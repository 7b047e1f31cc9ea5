import Derived.Test.YtmbgeojjklboeaaGreatDoorZe
set_option linter.unusedVariables false
set_option linter.unusedSimpArgs false
namespace Go.Proofs.YtmbgeojjklboeaaGreatDoor
open Go.RowKit

def sfE (v : Value) (hi fs : Nat) (x : Nat × List Pw) : List (Nat × Value) := [(0, v), (2, .int .i64 (hi : Int)), (3, .int .i64 (fs : Int)), (4, fnV), (10, .int .i64 (x.1 : Int))]
set_option maxRecDepth 100000 in
set_option maxHeartbeats 1000000 in
theorem sift_any {w : World} {v : Value} {l : List Pw} (h : Pws w v l) (hs : Apt v l) (hl : l.length ≤ 1000) (lo hi fs : Nat) (hlo : lo ≤ 1000) (hf : fs + hi ≤ l.length) : Calls Tryz.prog 101 #[v, .int .i64 (lo : Int), .int .i64 (hi : Int), .int .i64 (fs : Int), fnV] w fun e w' => e = .returned (.tuple #[]) ∧ ∃ l', Prm w v l w' l' := by
  refine calls_of_args [v, .int .i64 (lo : Int), .int .i64 (hi : Int), .int .i64 (fs : Int), fnV] Tryz.func101 rfl 82 Tryz.ntmps101 (by show 5 ≤ 82; decide) ?_; refine EW.seq ?_; refine EW.region ?_; refine WL.move rfl rfl rfl ?_; refine WL.assign rfl rfl rfl ?_; refine WL.done ?_; refine EW.on ?_; refine EW.block ?_; refine EW.loop (sfE v hi fs) (fun x W => Prm w v l W x.2 ∧ x.1 ≤ 1000) (fun x => hi - x.1) (lo, l) [0, 2, 3, 4, 10] rfl ⟨Prm.refl h, hlo⟩ ?_
  rintro ⟨rt, li⟩ wi ⟨pi, hrt⟩
  simp only at pi hrt
  show EW _ _ _ _ [(0, v), (2, .int .i64 (hi : Int)), (3, .int .i64 (fs : Int)), (4, fnV), (10, .int .i64 (rt : Int))] _
  refine EW.block ?_; refine EW.seq ?_; refine EW.region ?_; refine WL.move rfl rfl rfl ?_; refine WL.bin rfl rfl rfl rfl (int_mulc (c := ((2 * rt : Nat) : Int)) (by rw [IntKind.wrap_i64]; omega) _ _ _) ?_; refine WL.bin rfl rfl rfl rfl (int_add (c := ((2 * rt + 1 : Nat) : Int)) (by rw [IntKind.wrap_i64]; omega) _ _ _) ?_
  obtain ⟨ch, hch⟩ : ∃ ch, 2 * rt + 1 = ch := ⟨_, rfl⟩
  rw [hch]
  refine WL.assign rfl rfl rfl ?_; refine WL.done ?_; refine EW.on ?_; refine EW.seq ?_; refine EW.seq ?_; refine EW.region ?_; refine WL.move rfl rfl rfl ?_; refine WL.move rfl rfl rfl ?_; refine WL.bin rfl rfl rfl rfl (int_ge_d _ _ _ _ _) ?_; refine WL.done ?_; refine EW.on ?_; refine EW.cond_d rfl (fun h18 => ?_) (fun h18 => ?_)
  · refine EW.exit ?_; refine px_then ?_; refine px_other (by decide) ?_; refine px_then ?_; refine px_block ?_
    exact EW.falls Tryz.results101 ⟨rfl, _, pi⟩
  · refine EW.skip ?_; refine EW.on ?_; refine EW.seq ?_; refine EW.seq ?_
    by_cases hc1 : ch + 1 < hi
    · refine EW.ordB [(0, 0, 0), (1, 0, 0), (2, 0, 0), (3, 0, 0), (4, 0, 0), (5, 0, 0), (6, 0, 0), (7, 0, 0), (8, 0, 0), (9, 0, 0), (10, 0, 0), (11, 0, 1), (12, 0, 0), (13, 0, 0), (14, 0, 0), (15, 0, 0), (16, 0, 0), (17, 0, 0), (18, 0, 1), (19, 1, 1), (20, 0, 0), (21, 0, 0)] (by kernel_rfl) rfl (by kernel_rfl) ?_; simp only [opsZ, List.getD_cons_zero, List.getD_cons_succ]; refine ZE.move rfl rfl rfl rfl sz0 ?_; refine ZE.bin rfl rfl rfl rfl rfl sz0 (fun W => int_add (c := ((ch + 1 : Nat) : Int)) (by rw [IntKind.wrap_i64]; omega) W _ _) ?_; refine ZE.move rfl rfl rfl rfl sz0 ?_; refine ZE.bin rfl rfl rfl rfl rfl sz0 (fun W => int_lt_t (by omega) W _ _) ?_; refine ZE.move rfl rfl rfl rfl sz0 ?_
      first | refine ZE.move rfl rfl rfl rfl sz0 ?_ | refine ZE.skip rfl rfl rfl sz0 ?_
      first | refine ZE.move rfl rfl rfl rfl sz0 ?_ | refine ZE.skip rfl rfl rfl sz0 ?_
      first | refine ZE.move rfl rfl rfl rfl sz0 ?_ | refine ZE.skip rfl rfl rfl sz0 ?_
      first | refine ZE.move rfl rfl rfl rfl sz0 ?_ | refine ZE.skip rfl rfl rfl sz0 ?_
      refine ZE.bin rfl rfl rfl rfl rfl sz0 (fun W => int_add (c := ((fs + ch : Nat) : Int)) (by rw [IntKind.wrap_i64]; omega) W _ _) ?_
      obtain ⟨x1, ad1, hx1, hm1, ix1, lx1⟩ := pi.r.at' (t := fs + ch) (by rw [pi.len]; omega)
      refine ZE.index rfl rfl rfl rfl rfl sz0 (fun W => ix1 W) ?_; refine ZE.load rfl rfl rfl rfl sz1 (fun W hW => lx1 W (sb_of hW)) ?_
      first | refine ZE.move rfl rfl rfl rfl sz0 ?_ | refine ZE.skip rfl rfl rfl sz0 ?_
      first | refine ZE.move rfl rfl rfl rfl sz0 ?_ | refine ZE.skip rfl rfl rfl sz0 ?_
      first | refine ZE.move rfl rfl rfl rfl sz0 ?_ | refine ZE.skip rfl rfl rfl sz0 ?_
      refine ZE.bin rfl rfl rfl rfl rfl sz0 (fun W => int_add (c := ((fs + ch : Nat) : Int)) (by rw [IntKind.wrap_i64]; omega) W _ _) ?_; refine ZE.bin rfl rfl rfl rfl rfl sz0 (fun W => int_add (c := ((fs + ch + 1 : Nat) : Int)) (by rw [IntKind.wrap_i64]; omega) W _ _) ?_
      obtain ⟨x2, ad2, hx2, hm2, ix2, lx2⟩ := pi.r.at' (t := fs + ch + 1) (by rw [pi.len]; omega)
      refine ZE.index rfl rfl rfl rfl rfl sz0 (fun W => ix2 W) ?_; refine ZE.load rfl rfl rfl rfl sz1 (fun W hW => lx2 W (sb_of hW)) ?_; refine ZE.callFR [.agg (pgC x1).toArray, .agg (pgC x2).toArray] (fun v W => (∃ r, v = .int .i64 r) ∧ Below wi.heap.size wi W) enter70 rfl rfl rfl rfl (fun _ _ h => .inr h.2) (fun W hW => (cmpf_any x1 x2 W).mono fun e w' ⟨⟨r, g1⟩, g2⟩ => ⟨_, g1, ⟨r, rfl⟩, hW.trans (g2.mono hW.size)⟩) ?_
      rintro _ ⟨_, ⟨rc, rfl⟩, _⟩
      refine ZE.bin rfl rfl rfl rfl rfl sz0 (fun W => int_lt_d _ _ W _ _) ?_; refine ZE.pick rfl rfl rfl rfl rfl sz0 ?_
      rintro wc ⟨_, ec⟩
      replace pi := pi.below ec
      refine EW.on ?_; refine EW.cond_d rfl (fun h40 => ?_) (fun h40 => ?_)
      · refine EW.region ?_; refine WL.move rfl rfl rfl ?_; refine WL.bin rfl rfl rfl rfl (int_add (c := ((ch + 1 : Nat) : Int)) (by rw [IntKind.wrap_i64]; omega) _ _ _) ?_; refine WL.assign rfl rfl rfl ?_; refine WL.done ?_; refine EW.on ?_; refine EW.seq ?_; refine EW.seq ?_; refine EW.ordB [(0, 0, 0), (1, 0, 0), (2, 0, 0), (3, 0, 0), (4, 0, 0), (5, 0, 0), (6, 0, 1), (7, 0, 0), (8, 0, 0), (9, 0, 0), (10, 0, 0), (11, 0, 0), (12, 0, 1), (13, 1, 1), (14, 0, 0), (15, 0, 0)] (by kernel_rfl) rfl (by kernel_rfl) ?_; simp only [opsZ, List.getD_cons_zero, List.getD_cons_succ]; refine ZE.move rfl rfl rfl rfl sz0 ?_; refine ZE.move rfl rfl rfl rfl sz0 ?_; refine ZE.move rfl rfl rfl rfl sz0 ?_; refine ZE.move rfl rfl rfl rfl sz0 ?_; refine ZE.bin rfl rfl rfl rfl rfl sz0 (fun W => int_add (c := ((fs + rt : Nat) : Int)) (by rw [IntKind.wrap_i64]; omega) W _ _) ?_
        obtain ⟨x1, ad1, hx1, hm1, ix1, lx1⟩ := pi.r.at' (t := fs + rt) (by rw [pi.len]; omega)
        refine ZE.index rfl rfl rfl rfl rfl sz0 (fun W => ix1 W) ?_; refine ZE.load rfl rfl rfl rfl sz1 (fun W hW => lx1 W (sb_of hW)) ?_; refine ZE.move rfl rfl rfl rfl sz0 ?_; refine ZE.move rfl rfl rfl rfl sz0 ?_; refine ZE.move rfl rfl rfl rfl sz0 ?_; refine ZE.bin rfl rfl rfl rfl rfl sz0 (fun W => int_add (c := ((fs + (ch + 1) : Nat) : Int)) (by rw [IntKind.wrap_i64]; omega) W _ _) ?_
        obtain ⟨x2, ad2, hx2, hm2, ix2, lx2⟩ := pi.r.at' (t := fs + (ch + 1)) (by rw [pi.len]; omega)
        refine ZE.index rfl rfl rfl rfl rfl sz0 (fun W => ix2 W) ?_; refine ZE.load rfl rfl rfl rfl sz1 (fun W hW => lx2 W (sb_of hW)) ?_; refine ZE.callFR [.agg (pgC x1).toArray, .agg (pgC x2).toArray] (fun v W => (∃ r, v = .int .i64 r) ∧ Below wc.heap.size wc W) enter70 rfl rfl rfl rfl (fun _ _ h => .inr h.2) (fun W hW => (cmpf_any x1 x2 W).mono fun e w' ⟨⟨r, g1⟩, g2⟩ => ⟨_, g1, ⟨r, rfl⟩, hW.trans (g2.mono hW.size)⟩) ?_
        rintro _ ⟨_, ⟨rc, rfl⟩, _⟩
        refine ZE.bin rfl rfl rfl rfl rfl sz0 (fun W => int_lt_d _ _ W _ _) ?_; refine ZE.un rfl rfl rfl rfl sz0 (fun W => not_t _ W) ?_
        rintro wd ⟨_, ed⟩
        replace pi := pi.below ed
        refine EW.on ?_; refine EW.cond_b rfl (fun h58 => ?_) (fun h58 => ?_)
        · refine EW.ret ?_; refine pr_then ?_; refine pr_block ?_; refine pr_then ?_; refine pr_block ?_
          exact EW.bare Tryz.results101 ⟨rfl, _, pi⟩
        · refine EW.skip ?_; refine EW.on ?_; refine EW.seq ?_; refine EW.ordB [(0, 0, 0), (1, 0, 0), (2, 0, 0), (3, 0, 0), (4, 0, 0), (5, 0, 0), (6, 0, 0), (7, 0, 0), (8, 0, 0), (9, 0, 0), (10, 0, 0), (11, 0, 0), (12, 0, 0), (13, 0, 1), (14, 0, 0), (15, 0, 0), (16, 0, 0), (17, 0, 0), (18, 0, 0), (19, 0, 1), (20, 0, 0), (21, 1, 0), (22, 0, 0), (23, 1, 0)] (by kernel_rfl) rfl (by kernel_rfl) ?_; simp only [opsZ, List.getD_cons_zero, List.getD_cons_succ]; refine ZE.move rfl rfl rfl rfl sz0 ?_; refine ZE.move rfl rfl rfl rfl sz0 ?_; refine ZE.move rfl rfl rfl rfl sz0 ?_; refine ZE.bin rfl rfl rfl rfl rfl sz0 (fun W => int_add (c := ((fs + rt : Nat) : Int)) (by rw [IntKind.wrap_i64]; omega) W _ _) ?_; refine ZE.move rfl rfl rfl rfl sz0 ?_; refine ZE.move rfl rfl rfl rfl sz0 ?_; refine ZE.move rfl rfl rfl rfl sz0 ?_; refine ZE.bin rfl rfl rfl rfl rfl sz0 (fun W => int_add (c := ((fs + (ch + 1) : Nat) : Int)) (by rw [IntKind.wrap_i64]; omega) W _ _) ?_; refine ZE.move rfl rfl rfl rfl sz0 ?_; refine ZE.move rfl rfl rfl rfl sz0 ?_; refine ZE.move rfl rfl rfl rfl sz0 ?_; refine ZE.bin rfl rfl rfl rfl rfl sz0 (fun W => int_add (c := ((fs + (ch + 1) : Nat) : Int)) (by rw [IntKind.wrap_i64]; omega) W _ _) ?_
          obtain ⟨x1, ad1, hx1, hm1, ix1, lx1⟩ := pi.r.at' (t := fs + (ch + 1)) (by rw [pi.len]; omega)
          refine ZE.index rfl rfl rfl rfl rfl sz0 (fun W => ix1 W) ?_; refine ZE.load rfl rfl rfl rfl sz1 (fun W hW => lx1 W (sb_of hW)) ?_; refine ZE.move rfl rfl rfl rfl sz0 ?_; refine ZE.move rfl rfl rfl rfl sz0 ?_; refine ZE.move rfl rfl rfl rfl sz0 ?_; refine ZE.bin rfl rfl rfl rfl rfl sz0 (fun W => int_add (c := ((fs + rt : Nat) : Int)) (by rw [IntKind.wrap_i64]; omega) W _ _) ?_
          obtain ⟨x2, ad2, hx2, hm2, ix2, lx2⟩ := pi.r.at' (t := fs + rt) (by rw [pi.len]; omega)
          refine ZE.index rfl rfl rfl rfl rfl sz0 (fun W => ix2 W) ?_; refine ZE.load rfl rfl rfl rfl sz1 (fun W hW => lx2 W (sb_of hW)) ?_; refine ZE.index rfl rfl rfl rfl rfl sz0 (fun W => ix2 W) ?_
          refine ZE.store (fun W => Pws W v (li.set (fs + rt) x1) ∧ Fx (fun k => v.ownBlock = some k) wd W) rfl rfl rfl (fun _ _ => .inl rfl) (fun W hW => by
      obtain ⟨w', g1, g2, g3⟩ := pi.r.swap1 (pi.apt hs) (I := fs + rt) (by rw [pi.len]; omega) hm1 ix2 W hW
      exact ⟨w', g1, g2, g3⟩) ?_
          refine ZE.index rfl rfl rfl rfl rfl sz0 (fun W => ix1 W) ?_; refine ZE.store (fun W => Prm wd v li W ((li.set (fs + rt) x1).set (fs + (ch + 1)) x2)) rfl rfl rfl (fun _ _ => .inl rfl) (fun W hW => pi.r.swap2 (pi.apt hs) hx2 hx1 ix1 W hW.1 hW.2) ?_
          rintro ws ps_
          replace pi := pi.trans ps_
          refine EW.on ?_; refine EW.region ?_; refine WL.move rfl rfl rfl ?_; refine WL.assign rfl rfl rfl ?_; refine WL.done ?_; refine pn_block ?_; refine EW.again (E := sfE v hi fs) (R := fun x W => Prm w v l W x.2 ∧ x.1 ≤ 1000) (m := fun x => hi - x.1) (x := (rt, li)) (ch + 1, _) [0, 2, 3, 4, 10] rfl ⟨pi, by simp only; omega⟩ (by show hi - (ch + 1) < hi - rt; omega)
      · refine EW.skip ?_; refine EW.on ?_; refine EW.seq ?_; refine EW.seq ?_; refine EW.ordB [(0, 0, 0), (1, 0, 0), (2, 0, 0), (3, 0, 0), (4, 0, 0), (5, 0, 0), (6, 0, 1), (7, 0, 0), (8, 0, 0), (9, 0, 0), (10, 0, 0), (11, 0, 0), (12, 0, 1), (13, 1, 1), (14, 0, 0), (15, 0, 0)] (by kernel_rfl) rfl (by kernel_rfl) ?_; simp only [opsZ, List.getD_cons_zero, List.getD_cons_succ]; refine ZE.move rfl rfl rfl rfl sz0 ?_; refine ZE.move rfl rfl rfl rfl sz0 ?_; refine ZE.move rfl rfl rfl rfl sz0 ?_; refine ZE.move rfl rfl rfl rfl sz0 ?_; refine ZE.bin rfl rfl rfl rfl rfl sz0 (fun W => int_add (c := ((fs + rt : Nat) : Int)) (by rw [IntKind.wrap_i64]; omega) W _ _) ?_
        obtain ⟨x1, ad1, hx1, hm1, ix1, lx1⟩ := pi.r.at' (t := fs + rt) (by rw [pi.len]; omega)
        refine ZE.index rfl rfl rfl rfl rfl sz0 (fun W => ix1 W) ?_; refine ZE.load rfl rfl rfl rfl sz1 (fun W hW => lx1 W (sb_of hW)) ?_; refine ZE.move rfl rfl rfl rfl sz0 ?_; refine ZE.move rfl rfl rfl rfl sz0 ?_; refine ZE.move rfl rfl rfl rfl sz0 ?_; refine ZE.bin rfl rfl rfl rfl rfl sz0 (fun W => int_add (c := ((fs + (ch) : Nat) : Int)) (by rw [IntKind.wrap_i64]; omega) W _ _) ?_
        obtain ⟨x2, ad2, hx2, hm2, ix2, lx2⟩ := pi.r.at' (t := fs + (ch)) (by rw [pi.len]; omega)
        refine ZE.index rfl rfl rfl rfl rfl sz0 (fun W => ix2 W) ?_; refine ZE.load rfl rfl rfl rfl sz1 (fun W hW => lx2 W (sb_of hW)) ?_; refine ZE.callFR [.agg (pgC x1).toArray, .agg (pgC x2).toArray] (fun v W => (∃ r, v = .int .i64 r) ∧ Below wc.heap.size wc W) enter70 rfl rfl rfl rfl (fun _ _ h => .inr h.2) (fun W hW => (cmpf_any x1 x2 W).mono fun e w' ⟨⟨r, g1⟩, g2⟩ => ⟨_, g1, ⟨r, rfl⟩, hW.trans (g2.mono hW.size)⟩) ?_
        rintro _ ⟨_, ⟨rc, rfl⟩, _⟩
        refine ZE.bin rfl rfl rfl rfl rfl sz0 (fun W => int_lt_d _ _ W _ _) ?_; refine ZE.un rfl rfl rfl rfl sz0 (fun W => not_t _ W) ?_
        rintro wd ⟨_, ed⟩
        replace pi := pi.below ed
        refine EW.on ?_; refine EW.cond_b rfl (fun h58 => ?_) (fun h58 => ?_)
        · refine EW.ret ?_; refine pr_then ?_; refine pr_block ?_; refine pr_then ?_; refine pr_block ?_
          exact EW.bare Tryz.results101 ⟨rfl, _, pi⟩
        · refine EW.skip ?_; refine EW.on ?_; refine EW.seq ?_; refine EW.ordB [(0, 0, 0), (1, 0, 0), (2, 0, 0), (3, 0, 0), (4, 0, 0), (5, 0, 0), (6, 0, 0), (7, 0, 0), (8, 0, 0), (9, 0, 0), (10, 0, 0), (11, 0, 0), (12, 0, 0), (13, 0, 1), (14, 0, 0), (15, 0, 0), (16, 0, 0), (17, 0, 0), (18, 0, 0), (19, 0, 1), (20, 0, 0), (21, 1, 0), (22, 0, 0), (23, 1, 0)] (by kernel_rfl) rfl (by kernel_rfl) ?_; simp only [opsZ, List.getD_cons_zero, List.getD_cons_succ]; refine ZE.move rfl rfl rfl rfl sz0 ?_; refine ZE.move rfl rfl rfl rfl sz0 ?_; refine ZE.move rfl rfl rfl rfl sz0 ?_; refine ZE.bin rfl rfl rfl rfl rfl sz0 (fun W => int_add (c := ((fs + rt : Nat) : Int)) (by rw [IntKind.wrap_i64]; omega) W _ _) ?_; refine ZE.move rfl rfl rfl rfl sz0 ?_; refine ZE.move rfl rfl rfl rfl sz0 ?_; refine ZE.move rfl rfl rfl rfl sz0 ?_; refine ZE.bin rfl rfl rfl rfl rfl sz0 (fun W => int_add (c := ((fs + (ch) : Nat) : Int)) (by rw [IntKind.wrap_i64]; omega) W _ _) ?_; refine ZE.move rfl rfl rfl rfl sz0 ?_; refine ZE.move rfl rfl rfl rfl sz0 ?_; refine ZE.move rfl rfl rfl rfl sz0 ?_; refine ZE.bin rfl rfl rfl rfl rfl sz0 (fun W => int_add (c := ((fs + (ch) : Nat) : Int)) (by rw [IntKind.wrap_i64]; omega) W _ _) ?_
          obtain ⟨x1, ad1, hx1, hm1, ix1, lx1⟩ := pi.r.at' (t := fs + (ch)) (by rw [pi.len]; omega)
          refine ZE.index rfl rfl rfl rfl rfl sz0 (fun W => ix1 W) ?_; refine ZE.load rfl rfl rfl rfl sz1 (fun W hW => lx1 W (sb_of hW)) ?_; refine ZE.move rfl rfl rfl rfl sz0 ?_; refine ZE.move rfl rfl rfl rfl sz0 ?_; refine ZE.move rfl rfl rfl rfl sz0 ?_; refine ZE.bin rfl rfl rfl rfl rfl sz0 (fun W => int_add (c := ((fs + rt : Nat) : Int)) (by rw [IntKind.wrap_i64]; omega) W _ _) ?_
          obtain ⟨x2, ad2, hx2, hm2, ix2, lx2⟩ := pi.r.at' (t := fs + rt) (by rw [pi.len]; omega)
          refine ZE.index rfl rfl rfl rfl rfl sz0 (fun W => ix2 W) ?_; refine ZE.load rfl rfl rfl rfl sz1 (fun W hW => lx2 W (sb_of hW)) ?_; refine ZE.index rfl rfl rfl rfl rfl sz0 (fun W => ix2 W) ?_
          refine ZE.store (fun W => Pws W v (li.set (fs + rt) x1) ∧ Fx (fun k => v.ownBlock = some k) wd W) rfl rfl rfl (fun _ _ => .inl rfl) (fun W hW => by
      obtain ⟨w', g1, g2, g3⟩ := pi.r.swap1 (pi.apt hs) (I := fs + rt) (by rw [pi.len]; omega) hm1 ix2 W hW
      exact ⟨w', g1, g2, g3⟩) ?_
          refine ZE.index rfl rfl rfl rfl rfl sz0 (fun W => ix1 W) ?_; refine ZE.store (fun W => Prm wd v li W ((li.set (fs + rt) x1).set (fs + (ch)) x2)) rfl rfl rfl (fun _ _ => .inl rfl) (fun W hW => pi.r.swap2 (pi.apt hs) hx2 hx1 ix1 W hW.1 hW.2) ?_
          rintro ws ps_
          replace pi := pi.trans ps_
          refine EW.on ?_; refine EW.region ?_; refine WL.move rfl rfl rfl ?_; refine WL.assign rfl rfl rfl ?_; refine WL.done ?_; refine pn_block ?_; refine EW.again (E := sfE v hi fs) (R := fun x W => Prm w v l W x.2 ∧ x.1 ≤ 1000) (m := fun x => hi - x.1) (x := (rt, li)) (ch, _) [0, 2, 3, 4, 10] rfl ⟨pi, by simp only; omega⟩ (by show hi - (ch) < hi - rt; omega)
    · refine EW.ordB [(0, 0, 0), (1, 0, 0), (2, 0, 0), (3, 0, 0), (4, 0, 0), (5, 0, 0), (6, 0, 0), (7, 0, 0), (8, 0, 0), (9, 0, 0), (10, 0, 0), (11, 0, 1), (12, 0, 0), (13, 0, 0), (14, 0, 0), (15, 0, 0), (16, 0, 0), (17, 0, 0), (18, 0, 1), (19, 0, 0), (20, 0, 0), (21, 0, 0)] (by kernel_rfl) rfl (by kernel_rfl) ?_; simp only [opsZ, List.getD_cons_zero, List.getD_cons_succ]; refine ZE.move rfl rfl rfl rfl sz0 ?_; refine ZE.bin rfl rfl rfl rfl rfl sz0 (fun W => int_add (c := ((ch + 1 : Nat) : Int)) (by rw [IntKind.wrap_i64]; omega) W _ _) ?_; refine ZE.move rfl rfl rfl rfl sz0 ?_; refine ZE.bin rfl rfl rfl rfl rfl sz0 (fun W => int_lt_f (by omega) W _ _) ?_; refine ZE.move rfl rfl rfl rfl sz0 ?_
      first | refine ZE.move rfl rfl rfl rfl sz0 ?_ | refine ZE.skip rfl rfl rfl sz0 ?_
      first | refine ZE.move rfl rfl rfl rfl sz0 ?_ | refine ZE.skip rfl rfl rfl sz0 ?_
      first | refine ZE.move rfl rfl rfl rfl sz0 ?_ | refine ZE.skip rfl rfl rfl sz0 ?_
      first | refine ZE.move rfl rfl rfl rfl sz0 ?_ | refine ZE.skip rfl rfl rfl sz0 ?_
      refine ZE.skip rfl rfl rfl sz0 ?_; refine ZE.skip rfl rfl rfl sz0 ?_; refine ZE.skip rfl rfl rfl sz1 ?_
      first | refine ZE.move rfl rfl rfl rfl sz0 ?_ | refine ZE.skip rfl rfl rfl sz0 ?_
      first | refine ZE.move rfl rfl rfl rfl sz0 ?_ | refine ZE.skip rfl rfl rfl sz0 ?_
      first | refine ZE.move rfl rfl rfl rfl sz0 ?_ | refine ZE.skip rfl rfl rfl sz0 ?_
      refine ZE.skip rfl rfl rfl sz0 ?_; refine ZE.skip rfl rfl rfl sz0 ?_; refine ZE.skip rfl rfl rfl sz0 ?_; refine ZE.skip rfl rfl rfl sz1 ?_; refine ZE.skip rfl rfl rfl sz0 ?_; refine ZE.skip rfl rfl rfl sz0 ?_; refine ZE.pick rfl rfl rfl rfl rfl sz0 ?_
      rintro wc ec
      replace pi := pi.below ec
      refine EW.on ?_; refine EW.cond_f rfl ?_; refine EW.skip ?_; refine EW.on ?_; refine EW.seq ?_; refine EW.seq ?_; refine EW.ordB [(0, 0, 0), (1, 0, 0), (2, 0, 0), (3, 0, 0), (4, 0, 0), (5, 0, 0), (6, 0, 1), (7, 0, 0), (8, 0, 0), (9, 0, 0), (10, 0, 0), (11, 0, 0), (12, 0, 1), (13, 1, 1), (14, 0, 0), (15, 0, 0)] (by kernel_rfl) rfl (by kernel_rfl) ?_; simp only [opsZ, List.getD_cons_zero, List.getD_cons_succ]; refine ZE.move rfl rfl rfl rfl sz0 ?_; refine ZE.move rfl rfl rfl rfl sz0 ?_; refine ZE.move rfl rfl rfl rfl sz0 ?_; refine ZE.move rfl rfl rfl rfl sz0 ?_; refine ZE.bin rfl rfl rfl rfl rfl sz0 (fun W => int_add (c := ((fs + rt : Nat) : Int)) (by rw [IntKind.wrap_i64]; omega) W _ _) ?_
      obtain ⟨x1, ad1, hx1, hm1, ix1, lx1⟩ := pi.r.at' (t := fs + rt) (by rw [pi.len]; omega)
      refine ZE.index rfl rfl rfl rfl rfl sz0 (fun W => ix1 W) ?_; refine ZE.load rfl rfl rfl rfl sz1 (fun W hW => lx1 W (sb_of hW)) ?_; refine ZE.move rfl rfl rfl rfl sz0 ?_; refine ZE.move rfl rfl rfl rfl sz0 ?_; refine ZE.move rfl rfl rfl rfl sz0 ?_; refine ZE.bin rfl rfl rfl rfl rfl sz0 (fun W => int_add (c := ((fs + (ch) : Nat) : Int)) (by rw [IntKind.wrap_i64]; omega) W _ _) ?_
      obtain ⟨x2, ad2, hx2, hm2, ix2, lx2⟩ := pi.r.at' (t := fs + (ch)) (by rw [pi.len]; omega)
      refine ZE.index rfl rfl rfl rfl rfl sz0 (fun W => ix2 W) ?_; refine ZE.load rfl rfl rfl rfl sz1 (fun W hW => lx2 W (sb_of hW)) ?_; refine ZE.callFR [.agg (pgC x1).toArray, .agg (pgC x2).toArray] (fun v W => (∃ r, v = .int .i64 r) ∧ Below wc.heap.size wc W) enter70 rfl rfl rfl rfl (fun _ _ h => .inr h.2) (fun W hW => (cmpf_any x1 x2 W).mono fun e w' ⟨⟨r, g1⟩, g2⟩ => ⟨_, g1, ⟨r, rfl⟩, hW.trans (g2.mono hW.size)⟩) ?_
      rintro _ ⟨_, ⟨rc, rfl⟩, _⟩
      refine ZE.bin rfl rfl rfl rfl rfl sz0 (fun W => int_lt_d _ _ W _ _) ?_; refine ZE.un rfl rfl rfl rfl sz0 (fun W => not_t _ W) ?_
      rintro wd ⟨_, ed⟩
      replace pi := pi.below ed
      refine EW.on ?_; refine EW.cond_b rfl (fun h58 => ?_) (fun h58 => ?_)
      · refine EW.ret ?_; refine pr_then ?_; refine pr_block ?_; refine pr_then ?_; refine pr_block ?_
        exact EW.bare Tryz.results101 ⟨rfl, _, pi⟩
      · refine EW.skip ?_; refine EW.on ?_; refine EW.seq ?_; refine EW.ordB [(0, 0, 0), (1, 0, 0), (2, 0, 0), (3, 0, 0), (4, 0, 0), (5, 0, 0), (6, 0, 0), (7, 0, 0), (8, 0, 0), (9, 0, 0), (10, 0, 0), (11, 0, 0), (12, 0, 0), (13, 0, 1), (14, 0, 0), (15, 0, 0), (16, 0, 0), (17, 0, 0), (18, 0, 0), (19, 0, 1), (20, 0, 0), (21, 1, 0), (22, 0, 0), (23, 1, 0)] (by kernel_rfl) rfl (by kernel_rfl) ?_; simp only [opsZ, List.getD_cons_zero, List.getD_cons_succ]; refine ZE.move rfl rfl rfl rfl sz0 ?_; refine ZE.move rfl rfl rfl rfl sz0 ?_; refine ZE.move rfl rfl rfl rfl sz0 ?_; refine ZE.bin rfl rfl rfl rfl rfl sz0 (fun W => int_add (c := ((fs + rt : Nat) : Int)) (by rw [IntKind.wrap_i64]; omega) W _ _) ?_; refine ZE.move rfl rfl rfl rfl sz0 ?_; refine ZE.move rfl rfl rfl rfl sz0 ?_; refine ZE.move rfl rfl rfl rfl sz0 ?_; refine ZE.bin rfl rfl rfl rfl rfl sz0 (fun W => int_add (c := ((fs + (ch) : Nat) : Int)) (by rw [IntKind.wrap_i64]; omega) W _ _) ?_; refine ZE.move rfl rfl rfl rfl sz0 ?_; refine ZE.move rfl rfl rfl rfl sz0 ?_; refine ZE.move rfl rfl rfl rfl sz0 ?_; refine ZE.bin rfl rfl rfl rfl rfl sz0 (fun W => int_add (c := ((fs + (ch) : Nat) : Int)) (by rw [IntKind.wrap_i64]; omega) W _ _) ?_
        obtain ⟨x1, ad1, hx1, hm1, ix1, lx1⟩ := pi.r.at' (t := fs + (ch)) (by rw [pi.len]; omega)
        refine ZE.index rfl rfl rfl rfl rfl sz0 (fun W => ix1 W) ?_; refine ZE.load rfl rfl rfl rfl sz1 (fun W hW => lx1 W (sb_of hW)) ?_; refine ZE.move rfl rfl rfl rfl sz0 ?_; refine ZE.move rfl rfl rfl rfl sz0 ?_; refine ZE.move rfl rfl rfl rfl sz0 ?_; refine ZE.bin rfl rfl rfl rfl rfl sz0 (fun W => int_add (c := ((fs + rt : Nat) : Int)) (by rw [IntKind.wrap_i64]; omega) W _ _) ?_
        obtain ⟨x2, ad2, hx2, hm2, ix2, lx2⟩ := pi.r.at' (t := fs + rt) (by rw [pi.len]; omega)
        refine ZE.index rfl rfl rfl rfl rfl sz0 (fun W => ix2 W) ?_; refine ZE.load rfl rfl rfl rfl sz1 (fun W hW => lx2 W (sb_of hW)) ?_; refine ZE.index rfl rfl rfl rfl rfl sz0 (fun W => ix2 W) ?_
        refine ZE.store (fun W => Pws W v (li.set (fs + rt) x1) ∧ Fx (fun k => v.ownBlock = some k) wd W) rfl rfl rfl (fun _ _ => .inl rfl) (fun W hW => by
      obtain ⟨w', g1, g2, g3⟩ := pi.r.swap1 (pi.apt hs) (I := fs + rt) (by rw [pi.len]; omega) hm1 ix2 W hW
      exact ⟨w', g1, g2, g3⟩) ?_
        refine ZE.index rfl rfl rfl rfl rfl sz0 (fun W => ix1 W) ?_; refine ZE.store (fun W => Prm wd v li W ((li.set (fs + rt) x1).set (fs + (ch)) x2)) rfl rfl rfl (fun _ _ => .inl rfl) (fun W hW => pi.r.swap2 (pi.apt hs) hx2 hx1 ix1 W hW.1 hW.2) ?_
        rintro ws ps_
        replace pi := pi.trans ps_
        refine EW.on ?_; refine EW.region ?_; refine WL.move rfl rfl rfl ?_; refine WL.assign rfl rfl rfl ?_; refine WL.done ?_; refine pn_block ?_; refine EW.again (E := sfE v hi fs) (R := fun x W => Prm w v l W x.2 ∧ x.1 ≤ 1000) (m := fun x => hi - x.1) (x := (rt, li)) (ch, _) [0, 2, 3, 4, 10] rfl ⟨pi, by simp only; omega⟩ (by show hi - (ch) < hi - rt; omega)
end Go.Proofs.YtmbgeojjklboeaaGreatDoor
