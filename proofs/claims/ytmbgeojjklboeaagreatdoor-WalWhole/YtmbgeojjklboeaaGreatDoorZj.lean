import Derived.Test.YtmbgeojjklboeaaGreatDoorZi
import Derived.Test.YtmbgeojjklboeaaGreatDoorYfG
set_option linter.unusedVariables false
set_option linter.unusedSimpArgs false
namespace Go.Proofs.YtmbgeojjklboeaaGreatDoor
open Go.RowKit

theorem quo8n (n : Nat) (h : n < 1000) (W : World) (x y : Operand) : (do eqGuard .quo 3 x y (.int .i64 (n : Int)) (.int .i64 8); binOp .quo 3 (.int .i64 (n : Int)) (.int .i64 8) : Sem Value).run Tryz.prog W = .ok (.int .i64 ((n / 8 : Nat) : Int)) W := by
  have e : IntKind.i64.wrap ((n : Int).tdiv 8) = ((n / 8 : Nat) : Int) := by rw [Int.tdiv_eq_ediv_of_nonneg (by omega), IntKind.wrap_i64]; omega
  have e2 : IntKind.i64.wrap ((n : Int) / 8) = (n : Int) / 8 := by rw [IntKind.wrap_i64]; omega
  go_simp
structure Pq where
  a : Nat
  b : Nat
  m : Nat
  wb : Bool
  wp : Bool
  li : List Pw
def pqE (v : Value) (x : Pq) : List (Nat × Value) := [(0, v), (1, .int .i64 (x.a : Int)), (2, .int .i64 (x.b : Int)), (3, .int .i64 (x.m : Int)), (4, fnV), (10, .bool x.wb), (11, .bool x.wp)]
structure PqR (w : World) (v : Value) (l : List Pw) (D : Nat) (x : Pq) (W : World) : Prop where
  pr : Prm w v l W x.li
  ab : x.a ≤ x.b
  bl : x.b ≤ l.length
  d : x.b - x.a ≤ D
  lm : x.m ≤ 1000
def pj7 (v : Value) (a b : Nat) (wb wp : Bool) (x : Nat × List Pw) : List (Nat × Value) := [(0, v), (1, .int .i64 (a : Int)), (2, .int .i64 (b : Int)), (3, .int .i64 (x.1 : Int)), (4, fnV), (10, .bool wb), (11, .bool wp), (12, .int .i64 ((b - a : Nat) : Int))]
def pj11 (v : Value) (a b m : Nat) (wb wp : Bool) (x : Nat × Int × List Pw) : List (Nat × Value) := [(0, v), (1, .int .i64 (a : Int)), (2, .int .i64 (b : Int)), (3, .int .i64 (m : Int)), (4, fnV), (10, .bool wb), (11, .bool wp), (12, .int .i64 ((b - a : Nat) : Int)), (13, .int .i64 (x.1 : Int)), (14, .int .i64 x.2.1)]
def pj15 (v : Value) (a b m pv : Nat) (wb wp : Bool) (x : List Pw) : List (Nat × Value) := [(0, v), (1, .int .i64 (a : Int)), (2, .int .i64 (b : Int)), (3, .int .i64 (m : Int)), (4, fnV), (10, .bool wb), (11, .bool wp), (12, .int .i64 ((b - a : Nat) : Int)), (13, .int .i64 (pv : Int))]
theorem Prm.xl {w W : World} {v : Value} {l li : List Pw} (h : Prm w v l W li) (hx : ∀ x ∈ l, ∀ k, x.v.ownBlock = some k → k < w.heap.size) : ∀ x ∈ li, ∀ k, x.v.ownBlock = some k → k < W.heap.size := fun x hm k hk => by
  have := hx x (h.p.subset hm) k hk
  have := h.f.size
  omega
set_option maxRecDepth 100000 in
set_option maxHeartbeats 4000000 in
theorem pdq_any (v : Value) : ∀ (D : Nat) {w : World} {l : List Pw} (h : Pws w v l) (hs : Apt v l) (hl : l.length ≤ 40) (hxl : ∀ x ∈ l, ∀ k, x.v.ownBlock = some k → k < w.heap.size) (hvl : ∀ k, v.ownBlock = some k → k < w.heap.size) (a b lim : Nat) (hab : a ≤ b) (hb : b ≤ l.length) (hD : b - a ≤ D) (hlim : lim ≤ 1000), Calls Tryz.prog 81 #[v, .int .i64 (a : Int), .int .i64 (b : Int), .int .i64 (lim : Int), fnV] w fun e w' => e = .returned (.tuple #[]) ∧ ∃ l', Prm w v l w' l' := by
  intro D
  induction D using Nat.strongRecOn with
  | _ D ih =>
  intro w l h hs hl hxl hvl a b lim hab hb hD hlim
  refine calls_of_args [v, .int .i64 (a : Int), .int .i64 (b : Int), .int .i64 (lim : Int), fnV] Tryz.func81 rfl 148 Tryz.ntmps81 (by show 5 ≤ 148; decide) ?_; refine EW.seq ?_; refine EW.region ?_; refine WL.assign rfl rfl rfl ?_; refine WL.done ?_; refine EW.on ?_; refine EW.seq ?_; refine EW.region ?_; refine WL.assign rfl rfl rfl ?_; refine WL.done ?_; refine EW.on ?_; refine EW.block ?_; refine EW.loop (pqE v) (PqR w v l D) (fun x => x.b - x.a) ⟨a, b, lim, true, true, l⟩ [0, 1, 2, 3, 4, 10, 11] rfl ⟨Prm.refl h, hab, hb, hD, hlim⟩ ?_
  clear hab hb hD hlim h
  rintro ⟨a, b, m0, wb, wp, li0⟩ wi ⟨pi, hab, hb, hD, hlim⟩
  simp only at pi hab hb hD hlim
  show EW _ _ _ _ [(0, v), (1, .int .i64 (a : Int)), (2, .int .i64 (b : Int)), (3, .int .i64 (m0 : Int)), (4, fnV), (10, .bool wb), (11, .bool wp)] _
  refine EW.block ?_; refine EW.seq ?_; refine EW.region ?_; refine WL.move rfl rfl rfl ?_; refine WL.move rfl rfl rfl ?_; refine WL.bin rfl rfl rfl rfl (int_sub (c := ((b - a : Nat) : Int)) (by rw [IntKind.wrap_i64]; omega) _ _ _) ?_; refine WL.assign rfl rfl rfl ?_; refine WL.done ?_; refine EW.on ?_; refine EW.seq ?_; refine EW.seq ?_; refine EW.region ?_; refine WL.move rfl rfl rfl ?_; refine WL.bin rfl rfl rfl rfl (int_le_d _ _ _ _ _) ?_; refine WL.done ?_; refine EW.on ?_; refine EW.cond_d rfl (fun h25 => ?_) (fun h25 => ?_)
  · refine EW.seq ?_; refine EW.region ?_; refine WL.move rfl rfl rfl ?_; refine WL.move rfl rfl rfl ?_; refine WL.move rfl rfl rfl ?_; refine WL.move rfl rfl rfl ?_; refine WL.call [v, .int .i64 (a : Int), .int .i64 (b : Int), fnV] enter90 rfl rfl rfl (isort_any pi.r (pi.apt hs) (by rw [pi.len]; omega) a b (by omega) (by rw [pi.len]; omega)) ?_
    rintro _ wc ⟨rfl, l2, p2⟩
    refine ⟨_, rfl, ?_⟩
    replace pi := pi.trans p2
    refine WL.done ?_; refine EW.on ?_; refine EW.ret ?_; refine pr_then ?_; refine pr_block ?_; refine pr_then ?_; refine pr_block ?_
    exact EW.bare Tryz.results81 ⟨rfl, _, pi⟩
  · refine EW.skip ?_; refine EW.on ?_; refine EW.seq ?_; refine EW.seq ?_; refine EW.region ?_; refine WL.move rfl rfl rfl ?_; refine WL.bin rfl rfl rfl rfl (int_eq_d _ _ _ _ _) ?_; refine WL.done ?_; refine EW.on ?_; refine EW.cond_d rfl (fun h32 => ?_) (fun h32 => ?_)
    · refine EW.seq ?_; refine EW.region ?_; refine WL.move rfl rfl rfl ?_; refine WL.move rfl rfl rfl ?_; refine WL.move rfl rfl rfl ?_; refine WL.move rfl rfl rfl ?_; refine WL.call [v, .int .i64 (a : Int), .int .i64 (b : Int), fnV] enter91 rfl rfl rfl (heap_any pi.r (pi.apt hs) (by rw [pi.len]; omega) a b (by omega) (by rw [pi.len]; omega)) ?_
      rintro _ wc ⟨rfl, l2, p2⟩
      refine ⟨_, rfl, ?_⟩
      replace pi := pi.trans p2
      refine WL.done ?_; refine EW.on ?_; refine EW.ret ?_; refine pr_then ?_; refine pr_block ?_; refine pr_then ?_; refine pr_block ?_
      exact EW.bare Tryz.results81 ⟨rfl, _, pi⟩
    · refine EW.skip ?_; refine EW.on ?_; refine EW.join (pj7 v a b wb wp) (fun x W => Prm w v l W x.2 ∧ x.1 ≤ 1000) ?_ ?_
      · refine EW.seq ?_; refine EW.region ?_; refine WL.move rfl rfl rfl ?_; refine WL.un rfl rfl rfl (not_t _ _) ?_; refine WL.done ?_; refine EW.on ?_; refine EW.cond_b rfl (fun h39 => ?_) (fun h39 => ?_)
        · refine EW.seq ?_; refine EW.region ?_; refine WL.move rfl rfl rfl ?_; refine WL.move rfl rfl rfl ?_; refine WL.move rfl rfl rfl ?_; refine WL.move rfl rfl rfl ?_; refine WL.call [v, .int .i64 (a : Int), .int .i64 (b : Int), fnV] enter92 rfl rfl rfl (breakp_any pi.r (pi.apt hs) (by rw [pi.len]; omega) (pi.xl hxl) (fun k hk => by have := hvl k hk; have := pi.f.size; omega) a b (by omega) (by rw [pi.len]; omega)) ?_
          rintro _ wc ⟨rfl, l2, p2⟩
          refine ⟨_, rfl, ?_⟩
          replace pi := pi.trans p2
          refine WL.done ?_; refine EW.on ?_; refine EW.region ?_; refine WL.move rfl rfl rfl ?_; refine WL.bin rfl rfl rfl rfl (int_sub (c := ((m0 - 1 : Nat) : Int)) (by rw [IntKind.wrap_i64]; omega) _ _ _) ?_; refine WL.assign rfl rfl rfl ?_; refine WL.done ?_; refine EW.met (m0 - 1, _) [0, 1, 2, 3, 4, 10, 11, 12] rfl ⟨pi, by simp only; omega⟩
        · refine EW.skip ?_; refine EW.met (m0, _) [0, 1, 2, 3, 4, 10, 11, 12] rfl ⟨pi, by simp only; omega⟩
      · clear pi hlim
        rintro ⟨m, li⟩ wi ⟨pi, hlim⟩
        simp only at pi hlim
        show EW _ _ _ _ [(0, v), (1, .int .i64 (a : Int)), (2, .int .i64 (b : Int)), (3, .int .i64 (m : Int)), (4, fnV), (10, .bool wb), (11, .bool wp), (12, .int .i64 ((b - a : Nat) : Int))] _
        refine EW.seq ?_; refine EW.region ?_; refine WL.move rfl rfl rfl ?_; refine WL.move rfl rfl rfl ?_; refine WL.move rfl rfl rfl ?_; refine WL.move rfl rfl rfl ?_; refine WL.call [v, .int .i64 (a : Int), .int .i64 (b : Int), fnV] enter93 rfl rfl rfl (pivot_any pi.r (by rw [pi.len]; omega) (pi.xl hxl) a b (by omega) (by omega) (by rw [pi.len]; omega)) ?_
        rintro _ wc ⟨pv, ht, rfl, hpa, hpb, e2⟩
        refine ⟨_, rfl, ?_⟩
        replace pi := pi.below e2
        refine WL.move rfl rfl rfl ?_; refine WL.extract rfl rfl rfl (ext_2 _ _ _).1 ?_; refine WL.extract rfl rfl rfl (ext_2 _ _ _).2 ?_; refine WL.assign rfl rfl rfl ?_; refine WL.assign rfl rfl rfl ?_; refine WL.done ?_; refine EW.on ?_; refine EW.join (pj11 v a b m wb wp) (fun x W => Prm w v l W x.2.2 ∧ a ≤ x.1 ∧ x.1 < b) ?_ ?_
        · refine EW.seq ?_; refine EW.region ?_; refine WL.move rfl rfl rfl ?_; refine WL.bin rfl rfl rfl rfl (int_eq_d _ _ _ _ _) ?_; refine WL.done ?_; refine EW.on ?_; refine EW.cond_d rfl (fun h56 => ?_) (fun h56 => ?_)
          · refine EW.seq ?_; refine EW.region ?_; refine WL.move rfl rfl rfl ?_; refine WL.move rfl rfl rfl ?_; refine WL.move rfl rfl rfl ?_; refine WL.move rfl rfl rfl ?_; refine WL.call [v, .int .i64 (a : Int), .int .i64 (b : Int), fnV] enter94 rfl rfl rfl (reverse_any pi.r (pi.apt hs) (by rw [pi.len]; omega) a b (by omega) (by rw [pi.len]; omega)) ?_
            rintro _ wc ⟨rfl, l2, p2⟩
            refine ⟨_, rfl, ?_⟩
            replace pi := pi.trans p2
            refine WL.done ?_; refine EW.on ?_; refine EW.seq ?_; refine EW.region ?_; refine WL.move rfl rfl rfl ?_; refine WL.bin rfl rfl rfl rfl (int_sub (c := ((b - 1 : Nat) : Int)) (by rw [IntKind.wrap_i64]; omega) _ _ _) ?_; refine WL.move rfl rfl rfl ?_; refine WL.move rfl rfl rfl ?_; refine WL.bin rfl rfl rfl rfl (int_sub (c := ((pv - a : Nat) : Int)) (by rw [IntKind.wrap_i64]; omega) _ _ _) ?_; refine WL.bin rfl rfl rfl rfl (int_sub (c := ((b - 1 - (pv - a) : Nat) : Int)) (by rw [IntKind.wrap_i64]; omega) _ _ _) ?_; refine WL.assign rfl rfl rfl ?_; refine WL.done ?_; refine EW.on ?_; refine EW.region ?_; refine WL.assign rfl rfl rfl ?_; refine WL.done ?_; refine EW.met (b - 1 - (pv - a), 1, _) [0, 1, 2, 3, 4, 10, 11, 12, 13, 14] rfl ⟨pi, by simp only; omega, by simp only; omega⟩
          · refine EW.skip ?_; refine EW.met (pv, ht, _) [0, 1, 2, 3, 4, 10, 11, 12, 13, 14] rfl ⟨pi, by simp only; omega, by simp only; omega⟩
        · clear pi hpa hpb
          rintro ⟨pv, ht, li⟩ wi ⟨pi, hpa, hpb⟩
          simp only at pi hpa hpb
          show EW _ _ _ _ [(0, v), (1, .int .i64 (a : Int)), (2, .int .i64 (b : Int)), (3, .int .i64 (m : Int)), (4, fnV), (10, .bool wb), (11, .bool wp), (12, .int .i64 ((b - a : Nat) : Int)), (13, .int .i64 (pv : Int)), (14, .int .i64 ht)] _
          refine EW.join (pj15 v a b m pv wb wp) (fun x W => Prm w v l W x) ?_ ?_
          · refine EW.seq ?_
            obtain hwb | ⟨hwb, hwp⟩ | ⟨hwb, hwp⟩ : wb = false ∨ (wb = true ∧ wp = false) ∨ (wb = true ∧ wp = true) := by cases wb <;> cases wp <;> simp
            · subst hwb
              refine EW.region ?_; refine WL.move rfl rfl rfl ?_; refine WL.move rfl rfl rfl ?_
              first | refine WL.move rfl rfl rfl ?_ | refine WL.skip _ rfl rfl rfl ?_
              refine WL.pick rfl rfl rfl rfl ?_; refine WL.move rfl rfl rfl ?_
              first | refine WL.move rfl rfl rfl ?_ | refine WL.skip _ rfl rfl rfl ?_
              refine WL.skip _ rfl rfl rfl ?_; refine WL.pick rfl rfl rfl rfl ?_; refine WL.done ?_; refine EW.on ?_; refine EW.cond_f rfl ?_; refine EW.skip ?_; refine EW.met _ [0, 1, 2, 3, 4, 10, 11, 12, 13] rfl pi
            · subst hwb hwp
              refine EW.region ?_; refine WL.move rfl rfl rfl ?_; refine WL.move rfl rfl rfl ?_
              first | refine WL.move rfl rfl rfl ?_ | refine WL.skip _ rfl rfl rfl ?_
              refine WL.pick rfl rfl rfl rfl ?_; refine WL.move rfl rfl rfl ?_
              first | refine WL.move rfl rfl rfl ?_ | refine WL.skip _ rfl rfl rfl ?_
              refine WL.skip _ rfl rfl rfl ?_; refine WL.pick rfl rfl rfl rfl ?_; refine WL.done ?_; refine EW.on ?_; refine EW.cond_f rfl ?_; refine EW.skip ?_; refine EW.met _ [0, 1, 2, 3, 4, 10, 11, 12, 13] rfl pi
            · subst hwb hwp
              refine EW.region ?_; refine WL.move rfl rfl rfl ?_; refine WL.move rfl rfl rfl ?_
              first | refine WL.move rfl rfl rfl ?_ | refine WL.skip _ rfl rfl rfl ?_
              refine WL.pick rfl rfl rfl rfl ?_; refine WL.move rfl rfl rfl ?_
              first | refine WL.move rfl rfl rfl ?_ | refine WL.skip _ rfl rfl rfl ?_
              refine WL.bin rfl rfl rfl rfl (int_eq_d _ _ _ _ _) ?_; refine WL.pick rfl rfl rfl rfl ?_; refine WL.done ?_; refine EW.on ?_; refine EW.cond_d rfl (fun h75 => ?_) (fun h75 => ?_)
              · refine EW.seq ?_; refine EW.region ?_; refine WL.move rfl rfl rfl ?_; refine WL.move rfl rfl rfl ?_; refine WL.move rfl rfl rfl ?_; refine WL.move rfl rfl rfl ?_; refine WL.call [v, .int .i64 (a : Int), .int .i64 (b : Int), fnV] enter95 rfl rfl rfl (partial_any pi.r (by rw [pi.len]; omega) a b (by omega) (by omega) (by rw [pi.len]; omega)) ?_
                rintro _ wc ⟨tb, rfl, e2⟩
                refine ⟨_, rfl, ?_⟩
                replace pi := pi.below e2
                refine WL.done ?_; refine EW.on ?_; refine EW.cond_b rfl (fun h80 => ?_) (fun h80 => ?_)
                · refine EW.ret ?_; refine pr_then ?_; refine pr_block ?_; refine pr_then ?_; refine pr_block ?_
                  exact EW.bare Tryz.results81 ⟨rfl, _, pi⟩
                · refine EW.skip ?_; refine EW.met _ [0, 1, 2, 3, 4, 10, 11, 12, 13] rfl pi
              · refine EW.skip ?_; refine EW.met _ [0, 1, 2, 3, 4, 10, 11, 12, 13] rfl pi
          · clear pi
            rintro li wi pi
            show EW _ _ _ _ [(0, v), (1, .int .i64 (a : Int)), (2, .int .i64 (b : Int)), (3, .int .i64 (m : Int)), (4, fnV), (10, .bool wb), (11, .bool wp), (12, .int .i64 ((b - a : Nat) : Int)), (13, .int .i64 (pv : Int))] _
            refine EW.join (pj15 v a b m pv wb wp) (fun x W => Prm w v l W x) ?_ ?_
            · refine EW.seq ?_
              rcases Nat.eq_zero_or_pos a with ha0 | ha0
              · refine EW.ordB [(0, 0, 0), (1, 0, 0), (2, 0, 0), (3, 0, 0), (4, 0, 0), (5, 0, 0), (6, 0, 0), (7, 0, 0), (8, 0, 1), (9, 0, 0), (10, 0, 0), (11, 0, 0), (12, 0, 1), (13, 0, 0), (14, 0, 0), (15, 0, 0), (16, 0, 0)] (by kernel_rfl) rfl (by kernel_rfl) ?_; simp only [opsZ, List.getD_cons_zero, List.getD_cons_succ]; refine ZE.move rfl rfl rfl rfl sz0 ?_; refine ZE.bin rfl rfl rfl rfl rfl sz0 (fun W => int_gt_f (by omega) W _ _) ?_; refine ZE.move rfl rfl rfl rfl sz0 ?_; refine ZE.skip rfl rfl rfl sz0 ?_; refine ZE.skip rfl rfl rfl sz0 ?_; refine ZE.skip rfl rfl rfl sz0 ?_; refine ZE.skip rfl rfl rfl sz0 ?_; refine ZE.skip rfl rfl rfl sz0 ?_; refine ZE.skip rfl rfl rfl sz1 ?_; refine ZE.skip rfl rfl rfl sz0 ?_; refine ZE.skip rfl rfl rfl sz0 ?_; refine ZE.skip rfl rfl rfl sz0 ?_; refine ZE.skip rfl rfl rfl sz1 ?_; refine ZE.skip rfl rfl rfl sz0 ?_; refine ZE.skip rfl rfl rfl sz0 ?_; refine ZE.skip rfl rfl rfl sz0 ?_; refine ZE.pick rfl rfl rfl rfl rfl sz0 ?_
                rintro wc ec
                replace pi := pi.below ec
                refine EW.on ?_; refine EW.cond_f rfl ?_; refine EW.skip ?_; refine EW.met _ [0, 1, 2, 3, 4, 10, 11, 12, 13] rfl pi
              · refine EW.ordB [(0, 0, 0), (1, 0, 0), (2, 0, 0), (3, 0, 0), (4, 0, 0), (5, 0, 0), (6, 0, 0), (7, 0, 0), (8, 0, 1), (9, 0, 0), (10, 0, 0), (11, 0, 0), (12, 0, 1), (13, 1, 1), (14, 0, 0), (15, 0, 0), (16, 0, 0)] (by kernel_rfl) rfl (by kernel_rfl) ?_; simp only [opsZ, List.getD_cons_zero, List.getD_cons_succ]; refine ZE.move rfl rfl rfl rfl sz0 ?_; refine ZE.bin rfl rfl rfl rfl rfl sz0 (fun W => int_gt_t (by omega) W _ _) ?_; refine ZE.move rfl rfl rfl rfl sz0 ?_
                first | refine ZE.move rfl rfl rfl rfl sz0 ?_ | refine ZE.skip rfl rfl rfl sz0 ?_
                first | refine ZE.move rfl rfl rfl rfl sz0 ?_ | refine ZE.skip rfl rfl rfl sz0 ?_
                first | refine ZE.move rfl rfl rfl rfl sz0 ?_ | refine ZE.skip rfl rfl rfl sz0 ?_
                refine ZE.bin rfl rfl rfl rfl rfl sz0 (fun W => int_sub (c := ((a - 1 : Nat) : Int)) (by rw [IntKind.wrap_i64]; omega) W _ _) ?_
                obtain ⟨x1, ad1, hx1, hm1, ix1, lx1⟩ := pi.r.at' (t := a - 1) (by rw [pi.len]; omega)
                refine ZE.index rfl rfl rfl rfl rfl sz0 (fun W => ix1 W) ?_; refine ZE.load rfl rfl rfl rfl sz1 (fun W hW => lx1 W (sb_of hW)) ?_
                first | refine ZE.move rfl rfl rfl rfl sz0 ?_ | refine ZE.skip rfl rfl rfl sz0 ?_
                first | refine ZE.move rfl rfl rfl rfl sz0 ?_ | refine ZE.skip rfl rfl rfl sz0 ?_
                obtain ⟨x2, ad2, hx2, hm2, ix2, lx2⟩ := pi.r.at' (t := pv) (by rw [pi.len]; omega)
                refine ZE.index rfl rfl rfl rfl rfl sz0 (fun W => ix2 W) ?_; refine ZE.load rfl rfl rfl rfl sz1 (fun W hW => lx2 W (sb_of hW)) ?_; refine ZE.callFR [.agg (pgC x1).toArray, .agg (pgC x2).toArray] (fun v W => (∃ r, v = .int .i64 r) ∧ Below wi.heap.size wi W) enter70 rfl rfl rfl rfl (fun _ _ h => .inr h.2) (fun W hW => (cmpf_any x1 x2 W).mono fun e w' ⟨⟨r, g1⟩, g2⟩ => ⟨_, g1, ⟨r, rfl⟩, hW.trans (g2.mono hW.size)⟩) ?_
                rintro _ ⟨_, ⟨rc, rfl⟩, _⟩
                refine ZE.bin rfl rfl rfl rfl rfl sz0 (fun W => int_lt_d _ _ W _ _) ?_; refine ZE.un rfl rfl rfl rfl sz0 (fun W => not_t _ W) ?_; refine ZE.pick rfl rfl rfl rfl rfl sz0 ?_
                rintro wc ⟨_, ec⟩
                replace pi := pi.below ec
                refine EW.on ?_; refine EW.cond_b rfl (fun h97 => ?_) (fun h97 => ?_)
                · refine EW.seq ?_; refine EW.region ?_; refine WL.move rfl rfl rfl ?_; refine WL.move rfl rfl rfl ?_; refine WL.move rfl rfl rfl ?_; refine WL.move rfl rfl rfl ?_; refine WL.move rfl rfl rfl ?_; refine WL.call [v, .int .i64 (a : Int), .int .i64 (b : Int), .int .i64 (pv : Int), fnV] enter96 rfl rfl rfl (parteq_any pi.r (pi.apt hs) (by rw [pi.len]; omega) a b pv (by omega) (by rw [pi.len]; omega) hpa hpb) ?_
                  rintro _ wc ⟨mid, rfl, hm1, hm2, l2, p2⟩
                  refine ⟨_, rfl, ?_⟩
                  replace pi := pi.trans p2
                  refine WL.assign rfl rfl rfl ?_; refine WL.done ?_; refine EW.on ?_; refine EW.seq ?_; refine EW.region ?_; refine WL.move rfl rfl rfl ?_; refine WL.assign rfl rfl rfl ?_; refine WL.done ?_; refine EW.on ?_; refine EW.exit ?_; refine px_then ?_; refine px_block ?_; refine EW.again (E := pqE v) (R := PqR w v l D) (m := fun x => x.b - x.a) (x := ⟨a, b, m0, wb, wp, li0⟩) ⟨mid, b, m, wb, wp, _⟩ [0, 1, 2, 3, 4, 10, 11] rfl ⟨pi, by simp only; omega, by simp only; omega, by simp only; omega, by simp only; omega⟩ (by simp only; omega)
                · refine EW.skip ?_; refine EW.met _ [0, 1, 2, 3, 4, 10, 11, 12, 13] rfl pi
            · clear pi
              rintro li wi pi
              show EW _ _ _ _ [(0, v), (1, .int .i64 (a : Int)), (2, .int .i64 (b : Int)), (3, .int .i64 (m : Int)), (4, fnV), (10, .bool wb), (11, .bool wp), (12, .int .i64 ((b - a : Nat) : Int)), (13, .int .i64 (pv : Int))] _
              refine EW.seq ?_; refine EW.region ?_; refine WL.move rfl rfl rfl ?_; refine WL.move rfl rfl rfl ?_; refine WL.move rfl rfl rfl ?_; refine WL.move rfl rfl rfl ?_; refine WL.move rfl rfl rfl ?_; refine WL.call [v, .int .i64 (a : Int), .int .i64 (b : Int), .int .i64 (pv : Int), fnV] enter97 rfl rfl rfl (part_any pi.r (pi.apt hs) (by rw [pi.len]; omega) a b pv (by omega) (by rw [pi.len]; omega) hpa hpb) ?_
              rintro _ wc ⟨mid, tp, rfl, hm1, hm2, l2, p2⟩
              refine ⟨_, rfl, ?_⟩
              replace pi := pi.trans p2
              refine WL.move rfl rfl rfl ?_; refine WL.extract rfl rfl rfl (ext_2 _ _ _).1 ?_; refine WL.extract rfl rfl rfl (ext_2 _ _ _).2 ?_; refine WL.assign rfl rfl rfl ?_; refine WL.assign rfl rfl rfl ?_; refine WL.done ?_; refine EW.on ?_; refine EW.seq ?_; refine EW.region ?_; refine WL.move rfl rfl rfl ?_; refine WL.assign rfl rfl rfl ?_; refine WL.done ?_; refine EW.on ?_; refine EW.seq ?_; refine EW.region ?_; refine WL.move rfl rfl rfl ?_; refine WL.move rfl rfl rfl ?_; refine WL.bin rfl rfl rfl rfl (int_sub (c := ((mid - a : Nat) : Int)) (by rw [IntKind.wrap_i64]; omega) _ _ _) ?_; refine WL.move rfl rfl rfl ?_; refine WL.move rfl rfl rfl ?_; refine WL.bin rfl rfl rfl rfl (int_sub (c := ((b - mid : Nat) : Int)) (by rw [IntKind.wrap_i64]; omega) _ _ _) ?_; refine WL.assign rfl rfl rfl ?_; refine WL.assign rfl rfl rfl ?_; refine WL.done ?_; refine EW.on ?_; refine EW.seq ?_; refine EW.region ?_; refine WL.move rfl rfl rfl ?_; refine WL.bin rfl rfl rfl rfl (quo8n (b - a) (by omega) _ _ _) ?_; refine WL.assign rfl rfl rfl ?_; refine WL.done ?_; refine EW.on ?_; refine EW.seq ?_; refine EW.region ?_; refine WL.move rfl rfl rfl ?_; refine WL.move rfl rfl rfl ?_; refine WL.bin rfl rfl rfl rfl (int_lt_d _ _ _ _ _) ?_; refine WL.done ?_; refine EW.on ?_; refine EW.cond_d rfl (fun h125 => ?_) (fun h125 => ?_)
              · refine EW.seq ?_; refine EW.region ?_; refine WL.move rfl rfl rfl ?_; refine WL.move rfl rfl rfl ?_; refine WL.bin rfl rfl rfl rfl (int_ge_d _ _ _ _ _) ?_; refine WL.assign rfl rfl rfl ?_; refine WL.done ?_; refine EW.on ?_; refine EW.seq ?_; refine EW.region ?_; refine WL.move rfl rfl rfl ?_; refine WL.move rfl rfl rfl ?_; refine WL.move rfl rfl rfl ?_; refine WL.move rfl rfl rfl ?_; refine WL.move rfl rfl rfl ?_; refine WL.call [v, .int .i64 ((a : Nat) : Int), .int .i64 (mid : Int), .int .i64 (m : Int), fnV] enter81 rfl rfl rfl (ih (mid - (a)) (by omega) pi.r (pi.apt hs) (by rw [pi.len]; omega) (pi.xl hxl) (fun k hk => by have := hvl k hk; have := pi.f.size; omega) (a) (mid) m (by omega) (by rw [pi.len]; omega) (Nat.le_refl _) (by omega)) ?_
                rintro _ wc ⟨rfl, l3, p3⟩
                refine ⟨_, rfl, ?_⟩
                replace pi := pi.trans p3
                refine WL.done ?_; refine EW.on ?_; refine EW.region ?_; refine WL.move rfl rfl rfl ?_; refine WL.bin rfl rfl rfl rfl (int_add (c := ((mid + 1 : Nat) : Int)) (by rw [IntKind.wrap_i64]; omega) _ _ _) ?_; refine WL.assign rfl rfl rfl ?_; refine WL.done ?_; refine pn_block ?_; refine EW.again (E := pqE v) (R := PqR w v l D) (m := fun x => x.b - x.a) (x := ⟨a, b, m0, wb, wp, li0⟩) ⟨mid + 1, b, m, _, tp, _⟩ [0, 1, 2, 3, 4, 10, 11] rfl ⟨pi, by simp only; omega, by simp only; omega, by simp only; omega, by simp only; omega⟩ (by simp only; omega)
              · refine EW.seq ?_; refine EW.region ?_; refine WL.move rfl rfl rfl ?_; refine WL.move rfl rfl rfl ?_; refine WL.bin rfl rfl rfl rfl (int_ge_d _ _ _ _ _) ?_; refine WL.assign rfl rfl rfl ?_; refine WL.done ?_; refine EW.on ?_; refine EW.seq ?_; refine EW.region ?_; refine WL.move rfl rfl rfl ?_; refine WL.move rfl rfl rfl ?_; refine WL.bin rfl rfl rfl rfl (int_add (c := ((mid + 1 : Nat) : Int)) (by rw [IntKind.wrap_i64]; omega) _ _ _) ?_; refine WL.move rfl rfl rfl ?_; refine WL.move rfl rfl rfl ?_; refine WL.move rfl rfl rfl ?_; refine WL.call [v, .int .i64 ((mid + 1 : Nat) : Int), .int .i64 (b : Int), .int .i64 (m : Int), fnV] enter81 rfl rfl rfl (ih (b - (mid + 1)) (by omega) pi.r (pi.apt hs) (by rw [pi.len]; omega) (pi.xl hxl) (fun k hk => by have := hvl k hk; have := pi.f.size; omega) (mid + 1) (b) m (by omega) (by rw [pi.len]; omega) (Nat.le_refl _) (by omega)) ?_
                rintro _ wc ⟨rfl, l3, p3⟩
                refine ⟨_, rfl, ?_⟩
                replace pi := pi.trans p3
                refine WL.done ?_; refine EW.on ?_; refine EW.region ?_; refine WL.move rfl rfl rfl ?_; refine WL.assign rfl rfl rfl ?_; refine WL.done ?_; refine pn_block ?_; refine EW.again (E := pqE v) (R := PqR w v l D) (m := fun x => x.b - x.a) (x := ⟨a, b, m0, wb, wp, li0⟩) ⟨a, mid, m, _, tp, _⟩ [0, 1, 2, 3, 4, 10, 11] rfl ⟨pi, by simp only; omega, by simp only; omega, by simp only; omega, by simp only; omega⟩ (by simp only; omega)
end Go.Proofs.YtmbgeojjklboeaaGreatDoor
