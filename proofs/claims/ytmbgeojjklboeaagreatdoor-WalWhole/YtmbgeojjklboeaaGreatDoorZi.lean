import Derived.Test.YtmbgeojjklboeaaGreatDoorZhG
set_option linter.unusedVariables false
set_option linter.unusedSimpArgs false
namespace Go.Proofs.YtmbgeojjklboeaaGreatDoor
open Go.RowKit

theorem Prm.fxq {w W W' : World} {v : Value} {l li : List Pw} {q : Nat} (h : Prm w v l W li) (f : Fx (fun k => k = q) W W') (hq : w.heap.size ≤ q) (hv : ∀ k, v.ownBlock = some k → ¬ k = q) (hx : ∀ x ∈ l, ∀ k, x.v.ownBlock = some k → ¬ k = q) : Prm w v l W' li :=
  ⟨h.p, h.r.fx f hv (fun x hm => hx x (h.p.subset hm)), h.f.trans f (fun i hi e => by have e : i = q := e; omega)⟩
theorem conv3169 (n : Nat) (h : n < 256) (W : World) : (Go.convert 3 170 (.int .i64 (n : Int))).run Tryz.prog W = .ok (wv (BitVec.ofNat 64 n)) W := by
  have e : IntKind.u64.wrap (n : Int) = (n : Int) := by rw [IntKind.wrap_u64]; omega
  have e2 : wn (BitVec.ofNat 64 n) = (n : Int) := by unfold wn; rw [BitVec.toNat_ofNat, Nat.mod_eq_of_lt (by omega)]
  unfold wv
  rw [e2]
  go_simp
theorem new169 (w : World) : ∃ w1 q, (Instr.alloc 170 true (.tuple #[])).run Tryz.prog w = .ok (.pointer (some ⟨q, 0, none⟩)) w1 ∧ Blk w1 q [.int .u64 0] 170 ∧ Below w.heap.size w w1 ∧ q = w.heap.size := by
  refine ⟨w.alloc (.cells #[.int .u64 0] 170), w.heap.size, ?_, Blk.new w [.int .u64 0] 170, below_new _ _, rfl⟩
  go_simp
theorem sub140 (m : Nat) (h : 0 < m) (h2 : m < 1000) (W : World) (x y : Operand) : (do eqGuard .sub 142 x y (.int .u64 (m : Int)) (.int .u64 1); binOp .sub 142 (.int .u64 (m : Int)) (.int .u64 1) : Sem Value).run Tryz.prog W = .ok (.int .u64 ((m - 1 : Nat) : Int)) W := by
  have e : IntKind.u64.wrap ((m : Int) - 1) = ((m - 1 : Nat) : Int) := by rw [IntKind.wrap_u64]; omega
  go_simp
theorem and140 (y : BitVec 64) (m : Nat) (hm : m < 1000) (W : World) (a b : Operand) : (do eqGuard .and 142 a b (wv y) (.int .u64 (m : Int)); binOp .and 142 (wv y) (.int .u64 (m : Int)) : Sem Value).run Tryz.prog W = .ok (.int .u64 ((y.toNat &&& m : Nat) : Int)) W := by
  have e : bits .and .u64 (wn y) (m : Int) = ((y.toNat &&& m : Nat) : Int) := by
    unfold wn
    rw [u64_and_nat _ _ (wlt y) (by omega)]
  unfold wv
  go_simp
theorem conv1403 (n : Nat) (h : n < 1000) (W : World) : (Go.convert 142 3 (.int .u64 (n : Int))).run Tryz.prog W = .ok (.int .i64 (n : Int)) W := by
  have e : IntKind.i64.wrap (n : Int) = (n : Int) := by rw [IntKind.wrap_i64]; omega
  go_simp
theorem quo4 (n : Nat) (h : n < 1000) (W : World) (x y : Operand) : (do eqGuard .quo 3 x y (.int .i64 (n : Int)) (.int .i64 4); binOp .quo 3 (.int .i64 (n : Int)) (.int .i64 4) : Sem Value).run Tryz.prog W = .ok (.int .i64 ((n / 4 : Nat) : Int)) W := by
  have e : IntKind.i64.wrap ((n : Int).tdiv 4) = ((n / 4 : Nat) : Int) := by rw [Int.tdiv_eq_ediv_of_nonneg (by omega), IntKind.wrap_i64]; omega
  have e2 : IntKind.i64.wrap ((n : Int) / 4) = (n : Int) / 4 := by rw [IntKind.wrap_i64]; omega
  go_simp
def bkE (v : Value) (a b q m i : Nat) : List (Nat × Value) := [(0, v), (1, .int .i64 (a : Int)), (3, fnV), (8, .int .i64 ((b - a : Nat) : Int)), (9, .pointer (some ⟨q, 0, none⟩)), (10, .int .u64 (m : Int)), (11, .int .i64 (i : Int))]
structure BkR (w : World) (v : Value) (l : List Pw) (a b q : Nat) (x : Nat × BitVec 64 × List Pw) (W : World) : Prop where
  pr : Prm w v l W x.2.2
  bl : Blk W q [wv x.2.1] 170
  lo : a + (b - a) / 4 * 2 ≤ x.1 + 1
  hi : x.1 ≤ a + (b - a) / 4 * 2 + 2
set_option maxRecDepth 100000 in
set_option maxHeartbeats 1000000 in
theorem breakp_any {w : World} {v : Value} {l : List Pw} (h : Pws w v l) (hs : Apt v l) (hl : l.length ≤ 200) (hxl : ∀ x ∈ l, ∀ k, x.v.ownBlock = some k → k < w.heap.size) (hvl : ∀ k, v.ownBlock = some k → k < w.heap.size) (a b : Nat) (hab : a + 8 ≤ b) (hb : b ≤ l.length) : Calls Tryz.prog 92 #[v, .int .i64 (a : Int), .int .i64 (b : Int), fnV] w fun e w' => e = .returned (.tuple #[]) ∧ ∃ l', Prm w v l w' l' := by
  obtain ⟨w1, q, n1, b1, l1, hq⟩ := new169 w
  obtain ⟨w2, n2, b2, f2⟩ := st169 (BitVec.ofNat 64 (b - a)) b1
  have l2 : Below w.heap.size w w2 := l1.trans (f2.below (fun k hk e => by have e : k = q := e; omega) l1.size)
  replace hq : w.heap.size ≤ q := by omega
  have hvq : ∀ k, v.ownBlock = some k → ¬ k = q := fun k hk e => by have := hvl k hk; omega
  have hxq : ∀ x ∈ l, ∀ k, x.v.ownBlock = some k → ¬ k = q := fun x hx k hk e => by have := hxl x hx k hk; omega
  obtain ⟨hp1, hp2, hp3⟩ := lenT_ok ⟨b - a, by omega⟩ (by show 0 < b - a; omega)
  simp only at hp1 hp2 hp3
  refine calls_of_args [v, .int .i64 (a : Int), .int .i64 (b : Int), fnV] Tryz.func92 rfl 67 Tryz.ntmps92 (by show 4 ≤ 67; decide) ?_; refine EW.seq ?_; refine EW.region ?_; refine WL.move rfl rfl rfl ?_; refine WL.move rfl rfl rfl ?_; refine WL.bin rfl rfl rfl rfl (int_sub (c := ((b - a : Nat) : Int)) (by rw [IntKind.wrap_i64]; omega) _ _ _) ?_; refine WL.assign rfl rfl rfl ?_; refine WL.done ?_; refine EW.on ?_; refine EW.seq ?_; refine EW.region ?_; refine WL.move rfl rfl rfl ?_; refine WL.bin rfl rfl rfl rfl (int_ge_d _ _ _ _ _) ?_; refine WL.done ?_; refine EW.on ?_; refine EW.cond_d rfl (fun h17 => ?_) (fun h17 => ?_)
  · refine EW.seq ?_; refine EW.region ?_; refine WL.move rfl rfl rfl ?_; refine WL.conv rfl rfl rfl (conv3169 (b - a) (by omega) _) ?_; refine WL.new rfl rfl n1 ?_; refine WL.store rfl rfl rfl n2 ?_; refine WL.done ?_; refine EW.on ?_; refine EW.seq ?_; refine EW.region ?_; refine WL.move rfl rfl rfl ?_; refine WL.call [.int .i64 ((b - a : Nat) : Int)] enter102 rfl rfl rfl (nextp_any (b - a) (by omega) _) ?_
    rintro e wn1 ⟨rfl, rfl⟩
    refine ⟨_, rfl, ?_⟩; refine WL.assign rfl rfl rfl ?_; refine WL.done ?_; refine EW.on ?_; refine EW.seq ?_; refine EW.region ?_; refine WL.move rfl rfl rfl ?_; refine WL.move rfl rfl rfl ?_; refine WL.bin rfl rfl rfl rfl (quo4 (b - a) (by omega) _ _ _) ?_; refine WL.bin rfl rfl rfl rfl (int_mul (c := (((b - a) / 4 * 2 : Nat) : Int)) (by rw [IntKind.wrap_i64]; omega) _ _ _) ?_; refine WL.bin rfl rfl rfl rfl (int_add (c := ((a + (b - a) / 4 * 2 : Nat) : Int)) (by rw [IntKind.wrap_i64]; omega) _ _ _) ?_; refine WL.bin rfl rfl rfl rfl (int_sub (c := ((a + (b - a) / 4 * 2 - 1 : Nat) : Int)) (by rw [IntKind.wrap_i64]; omega) _ _ _) ?_; refine WL.assign rfl rfl rfl ?_; refine WL.done ?_; refine EW.on ?_; refine EW.block ?_; refine EW.loop (fun x : Nat × BitVec 64 × List Pw => bkE v a b q (2 ^ lenT (b - a)) x.1) (BkR w v l a b q) (fun x => a + (b - a) / 4 * 2 + 2 - x.1) (a + (b - a) / 4 * 2 - 1, _, l) [0, 1, 3, 8, 9, 10, 11] rfl ⟨⟨List.Perm.refl _, h.below l2, Fx.of_below l2⟩, b2, by simp only; omega, by simp only; omega⟩ ?_
    rintro ⟨i, x, li⟩ wi ⟨pi, bl, hlo, hhi⟩
    simp only at pi bl hlo hhi
    show EW _ _ _ _ [(0, v), (1, .int .i64 (a : Int)), (3, fnV), (8, .int .i64 ((b - a : Nat) : Int)), (9, .pointer (some ⟨q, 0, none⟩)), (10, .int .u64 ((2 ^ lenT (b - a) : Nat) : Int)), (11, .int .i64 (i : Int))] _
    refine EW.seq ?_; refine EW.seq ?_; refine EW.region ?_; refine WL.move rfl rfl rfl ?_; refine WL.move rfl rfl rfl ?_; refine WL.move rfl rfl rfl ?_; refine WL.bin rfl rfl rfl rfl (quo4 (b - a) (by omega) _ _ _) ?_; refine WL.bin rfl rfl rfl rfl (int_mul (c := (((b - a) / 4 * 2 : Nat) : Int)) (by rw [IntKind.wrap_i64]; omega) _ _ _) ?_; refine WL.bin rfl rfl rfl rfl (int_add (c := ((a + (b - a) / 4 * 2 : Nat) : Int)) (by rw [IntKind.wrap_i64]; omega) _ _ _) ?_; refine WL.bin rfl rfl rfl rfl (int_add (c := ((a + (b - a) / 4 * 2 + 1 : Nat) : Int)) (by rw [IntKind.wrap_i64]; omega) _ _ _) ?_; refine WL.bin rfl rfl rfl rfl (int_le_d _ _ _ _ _) ?_; refine WL.done ?_; refine EW.on ?_; refine EW.cond_d rfl (fun h35 => ?_) (fun h35 => ?_)
    · refine EW.skip ?_; refine EW.on ?_; refine EW.seq ?_; refine EW.block ?_; refine EW.seq ?_; refine EW.region ?_; refine WL.call [.pointer (some ⟨q, 0, none⟩)] enter103 rfl rfl rfl (xnext_any x q wi bl) ?_
      rintro e wx ⟨y, rfl, bl2, fx2⟩
      refine ⟨_, rfl, ?_⟩
      replace pi := pi.fxq fx2 hq hvq hxq
      obtain ⟨oo, hoo⟩ : ∃ oo, y.toNat &&& (2 ^ lenT (b - a) - 1) = oo := ⟨_, rfl⟩
      have hle : oo ≤ 2 ^ lenT (b - a) - 1 := by rw [← hoo]; exact Nat.and_le_right
      refine WL.move rfl rfl rfl ?_; refine WL.bin rfl rfl rfl rfl (sub140 (2 ^ lenT (b - a)) (by omega) (by omega) _ _ _) ?_; refine WL.bin rfl rfl rfl rfl (and140 y _ (by omega) _ _ _) ?_
      rw [hoo]
      refine WL.conv rfl rfl rfl (conv1403 oo (by omega) _) ?_; refine WL.assign rfl rfl rfl ?_; refine WL.done ?_; refine EW.on ?_; refine EW.seq ?_; refine EW.seq ?_; refine EW.region ?_; refine WL.move rfl rfl rfl ?_; refine WL.move rfl rfl rfl ?_; refine WL.bin rfl rfl rfl rfl (int_ge_d _ _ _ _ _) ?_; refine WL.done ?_; refine EW.on ?_; refine EW.cond_d rfl (fun h45 => ?_) (fun h45 => ?_)
      · refine EW.region ?_; refine WL.move rfl rfl rfl ?_; refine WL.move rfl rfl rfl ?_; refine WL.bin rfl rfl rfl rfl (int_sub (c := ((oo - (b - a) : Nat) : Int)) (by rw [IntKind.wrap_i64]; omega) _ _ _) ?_; refine WL.assign rfl rfl rfl ?_; refine WL.done ?_; refine EW.on ?_; refine EW.ordB [(0, 0, 0), (1, 0, 0), (2, 0, 0), (3, 0, 0), (4, 0, 0), (5, 0, 0), (6, 0, 0), (7, 0, 0), (8, 0, 0), (9, 0, 0), (10, 0, 0), (11, 0, 1), (12, 0, 0), (13, 0, 0), (14, 0, 0), (15, 0, 1), (16, 0, 0), (17, 1, 0), (18, 0, 0), (19, 1, 0)] (by kernel_rfl) rfl (by kernel_rfl) ?_; simp only [opsZ, List.getD_cons_zero, List.getD_cons_succ]; refine ZE.move rfl rfl rfl rfl sz0 ?_; refine ZE.move rfl rfl rfl rfl sz0 ?_; refine ZE.move rfl rfl rfl rfl sz0 ?_; refine ZE.move rfl rfl rfl rfl sz0 ?_; refine ZE.move rfl rfl rfl rfl sz0 ?_; refine ZE.bin rfl rfl rfl rfl rfl sz0 (fun W => int_add (c := ((a + (oo - (b - a)) : Nat) : Int)) (by rw [IntKind.wrap_i64]; omega) W _ _) ?_; refine ZE.move rfl rfl rfl rfl sz0 ?_; refine ZE.move rfl rfl rfl rfl sz0 ?_; refine ZE.move rfl rfl rfl rfl sz0 ?_; refine ZE.bin rfl rfl rfl rfl rfl sz0 (fun W => int_add (c := ((a + (oo - (b - a)) : Nat) : Int)) (by rw [IntKind.wrap_i64]; omega) W _ _) ?_
        obtain ⟨x1, ad1, hx1, hm1, ix1, lx1⟩ := pi.r.at' (t := a + (oo - (b - a))) (by rw [pi.len]; omega)
        refine ZE.index rfl rfl rfl rfl rfl sz0 (fun W => ix1 W) ?_; refine ZE.load rfl rfl rfl rfl sz1 (fun W hW => lx1 W (sb_of hW)) ?_; refine ZE.move rfl rfl rfl rfl sz0 ?_; refine ZE.move rfl rfl rfl rfl sz0 ?_
        obtain ⟨x2, ad2, hx2, hm2, ix2, lx2⟩ := pi.r.at' (t := i) (by rw [pi.len]; omega)
        refine ZE.index rfl rfl rfl rfl rfl sz0 (fun W => ix2 W) ?_; refine ZE.load rfl rfl rfl rfl sz1 (fun W hW => lx2 W (sb_of hW)) ?_; refine ZE.index rfl rfl rfl rfl rfl sz0 (fun W => ix2 W) ?_
        refine ZE.store (fun W => Pws W v (li.set (i) x1) ∧ Fx (fun k => v.ownBlock = some k) wx W) rfl rfl rfl (fun _ _ => .inl rfl) (fun W hW => by
      obtain ⟨w', g1, g2, g3⟩ := pi.r.swap1 (pi.apt hs) (I := i) (by rw [pi.len]; omega) hm1 ix2 W hW
      exact ⟨w', g1, g2, g3⟩) ?_
        refine ZE.index rfl rfl rfl rfl rfl sz0 (fun W => ix1 W) ?_; refine ZE.store (fun W => Prm wx v li W ((li.set (i) x1).set (a + (oo - (b - a))) x2)) rfl rfl rfl (fun _ _ => .inl rfl) (fun W hW => pi.r.swap2 (pi.apt hs) hx2 hx1 ix1 W hW.1 hW.2) ?_
        rintro ws ps_
        have pi2 := pi.trans ps_
        refine pn_block ?_; refine EW.on ?_; refine EW.region ?_; refine WL.move rfl rfl rfl ?_; refine WL.bin rfl rfl rfl rfl (int_add (c := ((i + 1 : Nat) : Int)) (by rw [IntKind.wrap_i64]; omega) _ _ _) ?_; refine WL.assign rfl rfl rfl ?_; refine WL.done ?_; refine EW.again (E := fun x : Nat × BitVec 64 × List Pw => bkE v a b q (2 ^ lenT (b - a)) x.1) (R := BkR w v l a b q) (m := fun x => a + (b - a) / 4 * 2 + 2 - x.1) (x := (i, x, li)) (i + 1, y, _) [0, 1, 3, 8, 9, 10, 11] rfl ⟨pi2, bl2.fx ps_.f (fun e => hvq _ e rfl), by simp only; omega, by simp only; omega⟩ (by simp only; omega)
      · refine EW.skip ?_; refine EW.on ?_; refine EW.ordB [(0, 0, 0), (1, 0, 0), (2, 0, 0), (3, 0, 0), (4, 0, 0), (5, 0, 0), (6, 0, 0), (7, 0, 0), (8, 0, 0), (9, 0, 0), (10, 0, 0), (11, 0, 1), (12, 0, 0), (13, 0, 0), (14, 0, 0), (15, 0, 1), (16, 0, 0), (17, 1, 0), (18, 0, 0), (19, 1, 0)] (by kernel_rfl) rfl (by kernel_rfl) ?_; simp only [opsZ, List.getD_cons_zero, List.getD_cons_succ]; refine ZE.move rfl rfl rfl rfl sz0 ?_; refine ZE.move rfl rfl rfl rfl sz0 ?_; refine ZE.move rfl rfl rfl rfl sz0 ?_; refine ZE.move rfl rfl rfl rfl sz0 ?_; refine ZE.move rfl rfl rfl rfl sz0 ?_; refine ZE.bin rfl rfl rfl rfl rfl sz0 (fun W => int_add (c := ((a + (oo) : Nat) : Int)) (by rw [IntKind.wrap_i64]; omega) W _ _) ?_; refine ZE.move rfl rfl rfl rfl sz0 ?_; refine ZE.move rfl rfl rfl rfl sz0 ?_; refine ZE.move rfl rfl rfl rfl sz0 ?_; refine ZE.bin rfl rfl rfl rfl rfl sz0 (fun W => int_add (c := ((a + (oo) : Nat) : Int)) (by rw [IntKind.wrap_i64]; omega) W _ _) ?_
        obtain ⟨x1, ad1, hx1, hm1, ix1, lx1⟩ := pi.r.at' (t := a + (oo)) (by rw [pi.len]; omega)
        refine ZE.index rfl rfl rfl rfl rfl sz0 (fun W => ix1 W) ?_; refine ZE.load rfl rfl rfl rfl sz1 (fun W hW => lx1 W (sb_of hW)) ?_; refine ZE.move rfl rfl rfl rfl sz0 ?_; refine ZE.move rfl rfl rfl rfl sz0 ?_
        obtain ⟨x2, ad2, hx2, hm2, ix2, lx2⟩ := pi.r.at' (t := i) (by rw [pi.len]; omega)
        refine ZE.index rfl rfl rfl rfl rfl sz0 (fun W => ix2 W) ?_; refine ZE.load rfl rfl rfl rfl sz1 (fun W hW => lx2 W (sb_of hW)) ?_; refine ZE.index rfl rfl rfl rfl rfl sz0 (fun W => ix2 W) ?_
        refine ZE.store (fun W => Pws W v (li.set (i) x1) ∧ Fx (fun k => v.ownBlock = some k) wx W) rfl rfl rfl (fun _ _ => .inl rfl) (fun W hW => by
      obtain ⟨w', g1, g2, g3⟩ := pi.r.swap1 (pi.apt hs) (I := i) (by rw [pi.len]; omega) hm1 ix2 W hW
      exact ⟨w', g1, g2, g3⟩) ?_
        refine ZE.index rfl rfl rfl rfl rfl sz0 (fun W => ix1 W) ?_; refine ZE.store (fun W => Prm wx v li W ((li.set (i) x1).set (a + (oo)) x2)) rfl rfl rfl (fun _ _ => .inl rfl) (fun W hW => pi.r.swap2 (pi.apt hs) hx2 hx1 ix1 W hW.1 hW.2) ?_
        rintro ws ps_
        have pi2 := pi.trans ps_
        refine pn_block ?_; refine EW.on ?_; refine EW.region ?_; refine WL.move rfl rfl rfl ?_; refine WL.bin rfl rfl rfl rfl (int_add (c := ((i + 1 : Nat) : Int)) (by rw [IntKind.wrap_i64]; omega) _ _ _) ?_; refine WL.assign rfl rfl rfl ?_; refine WL.done ?_; refine EW.again (E := fun x : Nat × BitVec 64 × List Pw => bkE v a b q (2 ^ lenT (b - a)) x.1) (R := BkR w v l a b q) (m := fun x => a + (b - a) / 4 * 2 + 2 - x.1) (x := (i, x, li)) (i + 1, y, _) [0, 1, 3, 8, 9, 10, 11] rfl ⟨pi2, bl2.fx ps_.f (fun e => hvq _ e rfl), by simp only; omega, by simp only; omega⟩ (by simp only; omega)
    · refine EW.exit ?_; refine px_then ?_; refine px_then ?_; refine px_block ?_
      exact EW.falls Tryz.results92 ⟨rfl, _, pi⟩
  · exact absurd h17 (by omega)
end Go.Proofs.YtmbgeojjklboeaaGreatDoor
