import Derived.Test.YtmbgeojjklboeaaGreatDoorZf
set_option linter.unusedVariables false
set_option linter.unusedSimpArgs false
namespace Go.Proofs.YtmbgeojjklboeaaGreatDoor
open Go.RowKit

theorem int_quo2 {a c : Int} (h : IntKind.i64.wrap (a.tdiv 2) = c) (W : World) (x y : Operand) : (do eqGuard .quo 3 x y (.int .i64 a) (.int .i64 2); binOp .quo 3 (.int .i64 a) (.int .i64 2) : Sem Value).run Tryz.prog W = .ok (.int .i64 c) W := by go_simp
def hpE (v : Value) (a n : Nat) (s : Nat) (x : Nat × List Pw) : List (Nat × Value) := [(0, v), (3, fnV), (8, .int .i64 (a : Int)), (9, .int .i64 0), (10, .int .i64 (n : Int)), (s, .int .i64 ((x.1 : Int) - 1))]
set_option maxRecDepth 100000 in
set_option maxHeartbeats 1000000 in
theorem heap_any {w : World} {v : Value} {l : List Pw} (h : Pws w v l) (hs : Apt v l) (hl : l.length ≤ 1000) (a b : Nat) (hab : a < b) (hb : b ≤ l.length) : Calls Tryz.prog 91 #[v, .int .i64 (a : Int), .int .i64 (b : Int), fnV] w fun e w' => e = .returned (.tuple #[]) ∧ ∃ l', Prm w v l w' l' := by
  refine calls_of_args [v, .int .i64 (a : Int), .int .i64 (b : Int), fnV] Tryz.func91 rfl 60 Tryz.ntmps91 (by show 4 ≤ 60; decide) ?_; refine EW.seq ?_; refine EW.region ?_; refine WL.move rfl rfl rfl ?_; refine WL.assign rfl rfl rfl ?_; refine WL.done ?_; refine EW.on ?_; refine EW.seq ?_; refine EW.region ?_; refine WL.assign rfl rfl rfl ?_; refine WL.done ?_; refine EW.on ?_; refine EW.seq ?_; refine EW.region ?_; refine WL.move rfl rfl rfl ?_; refine WL.move rfl rfl rfl ?_; refine WL.bin rfl rfl rfl rfl (int_sub (c := ((b - a : Nat) : Int)) (by rw [IntKind.wrap_i64]; omega) _ _ _) ?_; refine WL.assign rfl rfl rfl ?_; refine WL.done ?_; refine EW.on ?_; refine EW.seq ?_; refine EW.seq ?_; refine EW.region ?_; refine WL.move rfl rfl rfl ?_; refine WL.bin rfl rfl rfl rfl (int_sub (c := ((b - a - 1 : Nat) : Int)) (by rw [IntKind.wrap_i64]; omega) _ _ _) ?_; refine WL.bin rfl rfl rfl rfl (int_quo2 (c := (((b - a - 1) / 2 + 1 : Nat) : Int) - 1) (by rw [Int.tdiv_eq_ediv_of_nonneg (by omega), IntKind.wrap_i64]; omega) _ _ _) ?_; refine WL.assign rfl rfl rfl ?_; refine WL.done ?_; refine EW.on ?_; refine EW.block ?_; refine EW.loop (hpE v a (b - a) 11) (fun x W => Prm w v l W x.2 ∧ x.1 ≤ b - a) (fun x => x.1) ((b - a - 1) / 2 + 1, l) [0, 3, 8, 9, 10, 11] rfl ⟨Prm.refl h, by simp only; omega⟩ ?_
  rintro ⟨k, li⟩ wi ⟨pi, hk⟩
  simp only at pi hk
  obtain ⟨k0, hk0⟩ : ∃ x, k = x := ⟨_, rfl⟩
  obtain ⟨li0, hli0⟩ : ∃ x, li = x := ⟨_, rfl⟩
  show EW _ _ _ _ [(0, v), (3, fnV), (8, .int .i64 (a : Int)), (9, .int .i64 0), (10, .int .i64 ((b - a : Nat) : Int)), (11, .int .i64 ((k : Int) - 1))] _
  refine EW.seq ?_; refine EW.seq ?_; refine EW.region ?_; refine WL.move rfl rfl rfl ?_; refine WL.bin rfl rfl rfl rfl (int_ge_d _ _ _ _ _) ?_; refine WL.done ?_; refine EW.on ?_; refine EW.cond_d rfl (fun h21 => ?_) (fun h21 => ?_)
  · refine EW.skip ?_; refine EW.on ?_; refine EW.seq ?_; refine EW.block ?_; refine EW.region ?_; refine WL.move rfl rfl rfl ?_; refine WL.move rfl rfl rfl ?_; refine WL.move rfl rfl rfl ?_; refine WL.move rfl rfl rfl ?_; refine WL.move rfl rfl rfl ?_
    have ek : (k : Int) - 1 = ((k - 1 : Nat) : Int) := by omega
    rw [ek]
    refine WL.call [v, .int .i64 ((k - 1 : Nat) : Int), .int .i64 ((b - a : Nat) : Int), .int .i64 (a : Int), fnV] enter101 rfl rfl rfl (sift_any pi.r (pi.apt hs) (by rw [pi.len]; exact hl) (k - 1) (b - a) a (by omega) (by rw [pi.len]; omega)) ?_
    rintro _ wc ⟨rfl, l2, p2⟩
    replace pi := pi.trans p2
    refine ⟨_, rfl, ?_⟩; refine WL.done ?_; refine pn_block ?_; refine EW.on ?_; refine EW.region ?_; refine WL.move rfl rfl rfl ?_; refine WL.bin rfl rfl rfl rfl (int_sub (c := ((k - 1 : Nat) : Int) - 1) (by rw [IntKind.wrap_i64]; omega) _ _ _) ?_; refine WL.assign rfl rfl rfl ?_; refine WL.done ?_; refine EW.again (E := hpE v a (b - a) 11) (R := fun x W => Prm w v l W x.2 ∧ x.1 ≤ b - a) (m := fun x => x.1) (x := (k, li)) (k - 1, _) [0, 3, 8, 9, 10, 11] rfl ⟨pi, by simp only; omega⟩ (by show k - 1 < k; omega)
  · refine EW.exit ?_; refine px_then ?_; refine px_then ?_; refine px_block ?_; refine EW.on ?_; refine EW.seq ?_; refine EW.region ?_; refine WL.move rfl rfl rfl ?_; refine WL.bin rfl rfl rfl rfl (int_sub (c := ((b - a : Nat) : Int) - 1) (by rw [IntKind.wrap_i64]; omega) _ _ _) ?_; refine WL.assign rfl rfl rfl ?_; refine WL.done ?_; refine EW.on ?_; refine EW.block ?_; refine EW.loop (hpE v a (b - a) 12) (fun x W => Prm w v l W x.2 ∧ x.1 ≤ b - a) (fun x => x.1) (b - a, _) [0, 3, 8, 9, 10, 12] rfl ⟨pi, by simp only; omega⟩ ?_
    rintro ⟨k, li⟩ wi ⟨pi, hk⟩
    simp only at pi hk
    obtain ⟨k0, hk0⟩ : ∃ x, k = x := ⟨_, rfl⟩
    obtain ⟨li0, hli0⟩ : ∃ x, li = x := ⟨_, rfl⟩
    show EW _ _ _ _ [(0, v), (3, fnV), (8, .int .i64 (a : Int)), (9, .int .i64 0), (10, .int .i64 ((b - a : Nat) : Int)), (12, .int .i64 ((k : Int) - 1))] _
    refine EW.seq ?_; refine EW.seq ?_; refine EW.region ?_; refine WL.move rfl rfl rfl ?_; refine WL.bin rfl rfl rfl rfl (int_ge_d _ _ _ _ _) ?_; refine WL.done ?_; refine EW.on ?_; refine EW.cond_d rfl (fun h33 => ?_) (fun h33 => ?_)
    · refine EW.skip ?_; refine EW.on ?_; refine EW.seq ?_; refine EW.block ?_; refine EW.seq ?_
      have ek : (k : Int) - 1 = ((k - 1 : Nat) : Int) := by omega
      rw [ek]
      refine EW.ordB [(0, 0, 0), (1, 0, 0), (2, 0, 0), (3, 0, 0), (4, 0, 0), (5, 0, 0), (6, 0, 0), (7, 0, 0), (8, 0, 0), (9, 0, 0), (10, 0, 0), (11, 0, 1), (12, 0, 0), (13, 0, 0), (14, 0, 0), (15, 0, 1), (16, 0, 0), (17, 1, 0), (18, 0, 0), (19, 1, 0)] (by kernel_rfl) rfl (by kernel_rfl) ?_; simp only [opsZ, List.getD_cons_zero, List.getD_cons_succ]; refine ZE.move rfl rfl rfl rfl sz0 ?_; refine ZE.move rfl rfl rfl rfl sz0 ?_; refine ZE.move rfl rfl rfl rfl sz0 ?_; refine ZE.move rfl rfl rfl rfl sz0 ?_; refine ZE.move rfl rfl rfl rfl sz0 ?_; refine ZE.bin rfl rfl rfl rfl rfl sz0 (fun W => int_add (c := ((a + (k - 1) : Nat) : Int)) (by rw [IntKind.wrap_i64]; omega) W _ _) ?_; refine ZE.move rfl rfl rfl rfl sz0 ?_; refine ZE.move rfl rfl rfl rfl sz0 ?_; refine ZE.move rfl rfl rfl rfl sz0 ?_; refine ZE.bin rfl rfl rfl rfl rfl sz0 (fun W => int_add (c := ((a + (k - 1) : Nat) : Int)) (by rw [IntKind.wrap_i64]; omega) W _ _) ?_
      obtain ⟨x1, ad1, hx1, hm1, ix1, lx1⟩ := pi.r.at' (t := a + (k - 1)) (by rw [pi.len]; omega)
      refine ZE.index rfl rfl rfl rfl rfl sz0 (fun W => ix1 W) ?_; refine ZE.load rfl rfl rfl rfl sz1 (fun W hW => lx1 W (sb_of hW)) ?_; refine ZE.move rfl rfl rfl rfl sz0 ?_; refine ZE.move rfl rfl rfl rfl sz0 ?_
      obtain ⟨x2, ad2, hx2, hm2, ix2, lx2⟩ := pi.r.at' (t := a) (by rw [pi.len]; omega)
      refine ZE.index rfl rfl rfl rfl rfl sz0 (fun W => ix2 W) ?_; refine ZE.load rfl rfl rfl rfl sz1 (fun W hW => lx2 W (sb_of hW)) ?_; refine ZE.index rfl rfl rfl rfl rfl sz0 (fun W => ix2 W) ?_
      refine ZE.store (fun W => Pws W v (li.set (a) x1) ∧ Fx (fun k => v.ownBlock = some k) wi W) rfl rfl rfl (fun _ _ => .inl rfl) (fun W hW => by
      obtain ⟨w', g1, g2, g3⟩ := pi.r.swap1 (pi.apt hs) (I := a) (by rw [pi.len]; omega) hm1 ix2 W hW
      exact ⟨w', g1, g2, g3⟩) ?_
      refine ZE.index rfl rfl rfl rfl rfl sz0 (fun W => ix1 W) ?_; refine ZE.store (fun W => Prm wi v li W ((li.set (a) x1).set (a + (k - 1)) x2)) rfl rfl rfl (fun _ _ => .inl rfl) (fun W hW => pi.r.swap2 (pi.apt hs) hx2 hx1 ix1 W hW.1 hW.2) ?_
      rintro ws ps_
      replace pi := pi.trans ps_
      refine EW.on ?_; refine EW.region ?_; refine WL.move rfl rfl rfl ?_; refine WL.move rfl rfl rfl ?_; refine WL.move rfl rfl rfl ?_; refine WL.move rfl rfl rfl ?_; refine WL.move rfl rfl rfl ?_; refine WL.call [v, .int .i64 ((0 : Nat) : Int), .int .i64 ((k - 1 : Nat) : Int), .int .i64 (a : Int), fnV] enter101 rfl rfl rfl (sift_any pi.r (pi.apt hs) (by rw [pi.len]; exact hl) 0 (k - 1) a (by omega) (by rw [pi.len]; omega)) ?_
      rintro _ wc ⟨rfl, l2, p2⟩
      replace pi := pi.trans p2
      refine ⟨_, rfl, ?_⟩; refine WL.done ?_; refine pn_block ?_; refine EW.on ?_; refine EW.region ?_; refine WL.move rfl rfl rfl ?_; refine WL.bin rfl rfl rfl rfl (int_sub (c := ((k - 1 : Nat) : Int) - 1) (by rw [IntKind.wrap_i64]; omega) _ _ _) ?_; refine WL.assign rfl rfl rfl ?_; refine WL.done ?_; refine EW.again (E := hpE v a (b - a) 12) (R := fun x W => Prm w v l W x.2 ∧ x.1 ≤ b - a) (m := fun x => x.1) (x := (k, li)) (k - 1, _) [0, 3, 8, 9, 10, 12] rfl ⟨pi, by simp only; omega⟩ (by show k - 1 < k; omega)
    · refine EW.exit ?_; refine px_then ?_; refine px_then ?_; refine px_block ?_
      exact EW.falls Tryz.results91 ⟨rfl, _, pi⟩
end Go.Proofs.YtmbgeojjklboeaaGreatDoor

set_option linter.unusedVariables false
set_option linter.unusedSimpArgs false
namespace Go.Proofs.YtmbgeojjklboeaaGreatDoor
open Go.RowKit

theorem ge64_f (n : Nat) (m : Int) (h : ¬ m ≤ (n : Int)) (W : World) (x y : Operand) : (do eqGuard .geq 168 x y (.int .u64 (n : Int)) (.int .u64 m); binOp .geq 168 (.int .u64 (n : Int)) (.int .u64 m) : Sem Value).run Tryz.prog W = .ok (.bool false) W := by go_simp
theorem conv167 (n : Nat) (h : n < 256) (W : World) : (Go.convert 168 5 (.int .u64 (n : Int))).run Tryz.prog W = .ok (.int .u8 (n : Int)) W := by
  have e : IntKind.u8.wrap (n : Int) = (n : Int) := by rw [IntKind.wrap_u8]; omega
  go_simp
theorem conv53n (n : Nat) (h : n < 256) (W : World) : (Go.convert 5 3 (.int .u8 (n : Int))).run Tryz.prog W = .ok (.int .i64 (n : Int)) W := by
  have e : IntKind.i64.wrap (n : Int) = (n : Int) := by rw [IntKind.wrap_i64]; omega
  go_simp
theorem conv3140 (n : Nat) (h : n < 256) (W : World) : (Go.convert 3 142 (.int .i64 (n : Int))).run Tryz.prog W = .ok (.int .u64 (n : Int)) W := by
  have e : IntKind.u64.wrap (n : Int) = (n : Int) := by rw [IntKind.wrap_u64]; omega
  go_simp
/-- How many bits a number below 256 has. -/
def lenT (n : Nat) : Nat := if n = 0 then 0 else n.log2 + 1
theorem lenT_ok : ∀ n : Fin 256, 0 < n.val → 2 ^ lenT n.val ≤ 2 * n.val ∧ n.val < 2 ^ lenT n.val ∧ lenT n.val ≤ 8 := by decide +kernel
def tabL : List UInt8 := (([0, 1, 2, 2, 3, 3, 3, 3, 4, 4, 4, 4, 4, 4, 4, 4, 5, 5, 5, 5, 5, 5, 5, 5, 5, 5, 5, 5, 5, 5, 5, 5, 6, 6, 6, 6, 6, 6, 6, 6, 6, 6, 6, 6, 6, 6, 6, 6, 6, 6, 6, 6, 6, 6, 6, 6, 6, 6, 6, 6, 6, 6, 6, 6].append [7, 7, 7, 7, 7, 7, 7, 7, 7, 7, 7, 7, 7, 7, 7, 7, 7, 7, 7, 7, 7, 7, 7, 7, 7, 7, 7, 7, 7, 7, 7, 7, 7, 7, 7, 7, 7, 7, 7, 7, 7, 7, 7, 7, 7, 7, 7, 7, 7, 7, 7, 7, 7, 7, 7, 7, 7, 7, 7, 7, 7, 7, 7, 7]).append ([8, 8, 8, 8, 8, 8, 8, 8, 8, 8, 8, 8, 8, 8, 8, 8, 8, 8, 8, 8, 8, 8, 8, 8, 8, 8, 8, 8, 8, 8, 8, 8, 8, 8, 8, 8, 8, 8, 8, 8, 8, 8, 8, 8, 8, 8, 8, 8, 8, 8, 8, 8, 8, 8, 8, 8, 8, 8, 8, 8, 8, 8, 8, 8].append [8, 8, 8, 8, 8, 8, 8, 8, 8, 8, 8, 8, 8, 8, 8, 8, 8, 8, 8, 8, 8, 8, 8, 8, 8, 8, 8, 8, 8, 8, 8, 8, 8, 8, 8, 8, 8, 8, 8, 8, 8, 8, 8, 8, 8, 8, 8, 8, 8, 8, 8, 8, 8, 8, 8, 8, 8, 8, 8, 8, 8, 8, 8, 8]))
theorem tabL_ok : ∀ n : Fin 256, tabL[n.val]? = some (UInt8.ofNat (lenT n.val)) := by decide +kernel
theorem tabL_len : tabL.length = 256 := by decide +kernel
theorem idxS (c : List UInt8) (n : Nat) (b : UInt8) (h : c[n]? = some b) (hl : c.length = 256) (W : World) : (Instr.index 9 (.string ⟨c.toArray⟩) (.int .u8 (n : Int))).run Tryz.prog W = .ok (.int .u8 (b.toNat : Int)) W := by
  have hj : n < c.length := (List.getElem?_eq_some_iff.1 h).1
  have hz : (n : Int) < (c.length : Int) := by omega
  have hz2 : (n : Int) < 256 := by omega
  have hs : (⟨c.toArray⟩ : ByteArray).size = c.length := by show c.toArray.size = _; simp
  have hc : c[n] = b := (List.getElem?_eq_some_iff.1 h).2
  clear h
  go_simp
  all_goals (subst hc; rfl)
theorem idxT (n : Nat) (hn : n < 256) (W : World) : (Instr.index 9 (.string ⟨tabL.toArray⟩) (.int .u8 (n : Int))).run Tryz.prog W = .ok (.int .u8 (lenT n : Int)) W := by
  have h8 : lenT n ≤ 8 := by
    rcases Nat.eq_zero_or_pos n with rfl | h0
    · decide
    · exact (lenT_ok ⟨n, hn⟩ h0).2.2
  have := idxS tabL n _ (tabL_ok ⟨n, hn⟩) tabL_len W
  rw [UInt8.toNat_ofNat', Nat.mod_eq_of_lt (by show lenT n < _; omega)] at this
  exact this
theorem lenT8 (n : Nat) (hn : n < 256) : lenT n ≤ 8 := by
  rcases Nat.eq_zero_or_pos n with rfl | h0
  · decide
  · exact (lenT_ok ⟨n, hn⟩ h0).2.2
set_option maxRecDepth 100000 in
set_option maxHeartbeats 1000000 in
theorem len64_any (n : Nat) (hn : n < 256) (w : World) : Calls Tryz.prog 99 #[.int .u64 (n : Int)] w fun e w' => e = .returned (.int .i64 (lenT n : Int)) ∧ w' = w := by
  refine calls_of_args [.int .u64 (n : Int)] Tryz.func99 rfl 25 Tryz.ntmps99 (by show 1 ≤ 25; decide) ?_; refine EW.seq ?_; refine EW.region ?_; refine WL.assign rfl rfl rfl ?_; refine WL.done ?_; refine EW.on ?_; refine EW.seq ?_; refine EW.seq ?_; refine EW.region ?_; refine WL.move rfl rfl rfl ?_; refine WL.bin rfl rfl rfl rfl (ge64_f n _ (by omega) _ _ _) ?_; refine WL.done ?_; refine EW.on ?_; refine EW.cond_f rfl ?_; refine EW.skip ?_; refine EW.on ?_; refine EW.seq ?_; refine EW.seq ?_; refine EW.region ?_; refine WL.move rfl rfl rfl ?_; refine WL.bin rfl rfl rfl rfl (ge64_f n _ (by omega) _ _ _) ?_; refine WL.done ?_; refine EW.on ?_; refine EW.cond_f rfl ?_; refine EW.skip ?_; refine EW.on ?_; refine EW.seq ?_; refine EW.seq ?_; refine EW.region ?_; refine WL.move rfl rfl rfl ?_; refine WL.bin rfl rfl rfl rfl (ge64_f n _ (by omega) _ _ _) ?_; refine WL.done ?_; refine EW.on ?_; refine EW.cond_f rfl ?_; refine EW.skip ?_; refine EW.on ?_; refine EW.seq ?_; refine EW.region ?_; refine WL.move rfl rfl rfl ?_; refine WL.move rfl rfl rfl ?_; refine WL.conv rfl rfl rfl (conv167 n hn _) ?_; refine WL.idxv rfl rfl rfl rfl (idxT n hn _) ?_; refine WL.conv rfl rfl rfl (conv53n _ (by have := lenT8 n hn; omega) _) ?_; refine WL.bin rfl rfl rfl rfl (int_add (c := (lenT n : Int)) (by have := lenT8 n hn; rw [IntKind.wrap_i64]; omega) _ _ _) ?_; refine WL.assign rfl rfl rfl ?_; refine WL.done ?_; refine EW.on ?_; refine EW.ret ?_
  exact EW.returns Tryz.results99 rfl ⟨rfl, rfl⟩
set_option maxRecDepth 100000 in
set_option maxHeartbeats 1000000 in
theorem len_any (n : Nat) (hn : n < 256) (w : World) : Calls Tryz.prog 82 #[.int .u64 (n : Int)] w fun e w' => e = .returned (.int .i64 (lenT n : Int)) ∧ w' = w := by
  refine calls_of_args [.int .u64 (n : Int)] Tryz.func82 rfl 8 Tryz.ntmps82 (by show 1 ≤ 8; decide) ?_; refine EW.seq ?_; refine EW.region ?_; refine WL.assign rfl rfl rfl ?_; refine WL.done ?_; refine EW.on ?_; refine EW.seq ?_; refine EW.cond_f rfl ?_; refine EW.skip ?_; refine EW.on ?_; refine EW.seq ?_; refine EW.region ?_; refine WL.move rfl rfl rfl ?_; refine WL.call [.int .u64 (n : Int)] enter99 rfl rfl rfl (len64_any n hn _) ?_
  rintro e w1 ⟨rfl, rfl⟩
  refine ⟨_, rfl, ?_⟩; refine WL.assign rfl rfl rfl ?_; refine WL.done ?_; refine EW.on ?_; refine EW.ret ?_
  exact EW.returns Tryz.results82 rfl ⟨rfl, rfl⟩
theorem shl140 (k : Nat) (hk : k ≤ 8) (W : World) (x y : Operand) : (do eqGuard .shl 142 x y (.int .u64 1) (.int .i64 (k : Int)); binOp .shl 142 (.int .u64 1) (.int .i64 (k : Int)) : Sem Value).run Tryz.prog W = .ok (.int .u64 ((2 ^ k : Nat) : Int)) W := by
  obtain rfl | rfl | rfl | rfl | rfl | rfl | rfl | rfl | rfl : k = 0 ∨ k = 1 ∨ k = 2 ∨ k = 3 ∨ k = 4 ∨ k = 5 ∨ k = 6 ∨ k = 7 ∨ k = 8 := by omega
  all_goals rfl
set_option maxRecDepth 100000 in
set_option maxHeartbeats 1000000 in
theorem nextp_any (n : Nat) (hn : n < 256) (w : World) : Calls Tryz.prog 102 #[.int .i64 (n : Int)] w fun e w' => e = .returned (.int .u64 ((2 ^ lenT n : Nat) : Int)) ∧ w' = w := by
  refine calls_of_args [.int .i64 (n : Int)] Tryz.func102 rfl 7 Tryz.ntmps102 (by show 1 ≤ 7; decide) ?_; refine EW.seq ?_; refine EW.region ?_; refine WL.assign rfl rfl rfl ?_; refine WL.done ?_; refine EW.on ?_; refine EW.seq ?_; refine EW.region ?_; refine WL.move rfl rfl rfl ?_; refine WL.conv rfl rfl rfl (conv3140 n hn _) ?_; refine WL.call [.int .u64 (n : Int)] enter82 rfl rfl rfl (len_any n hn _) ?_
  rintro e w1 ⟨rfl, rfl⟩
  refine ⟨_, rfl, ?_⟩; refine WL.bin rfl rfl rfl rfl (shl140 _ (lenT8 n hn) _ _ _) ?_; refine WL.assign rfl rfl rfl ?_; refine WL.done ?_; refine EW.on ?_; refine EW.ret ?_
  exact EW.returns Tryz.results102 rfl ⟨rfl, rfl⟩
def nx1 (x : BitVec 64) : BitVec 64 := x ^^^ (x <<< 13)
def nx2 (x : BitVec 64) : BitVec 64 := x ^^^ (x >>> 7)
def nx3 (x : BitVec 64) : BitVec 64 := x ^^^ (x <<< 17)
theorem xor169 (x y : BitVec 64) (W : World) (a b : Operand) : (do eqGuard .xor 170 a b (wv x) (wv y); binOp .xor 170 (wv x) (wv y) : Sem Value).run Tryz.prog W = .ok (wv (x ^^^ y)) W := by
  have e := wxor x y
  unfold wv
  go_simp
theorem shl13 (x : BitVec 64) (W : World) (a b : Operand) : (do eqGuard .shl 170 a b (wv x) (.int .u64 13); binOp .shl 170 (wv x) (.int .u64 13) : Sem Value).run Tryz.prog W = .ok (wv (x <<< 13)) W := by
  have e := wshl13 x
  unfold wv
  rw [← e]
  go_simp
theorem shl17 (x : BitVec 64) (W : World) (a b : Operand) : (do eqGuard .shl 170 a b (wv x) (.int .u64 17); binOp .shl 170 (wv x) (.int .u64 17) : Sem Value).run Tryz.prog W = .ok (wv (x <<< 17)) W := by
  have e : IntKind.u64.wrap (wn x * (131072 : Int)) = wn (x <<< 17) := wshl x 17
  unfold wv
  rw [← e]
  go_simp
theorem shr7 (x : BitVec 64) (W : World) (a b : Operand) : (do eqGuard .shr 170 a b (wv x) (.int .u64 7); binOp .shr 170 (wv x) (.int .u64 7) : Sem Value).run Tryz.prog W = .ok (wv (x >>> 7)) W := by
  have e : wn x / (128 : Int) = wn (x >>> 7) := wshr x 7
  unfold wv
  rw [← e]
  go_simp
theorem ld169 {W : World} {q : Nat} {x : BitVec 64} (hb : Blk W q [wv x] 170) : (Instr.loadAt 170 (.pointer (some ⟨q, 0, none⟩))).run Tryz.prog W = .ok (wv x) W := by
  have hc : W.cell? ⟨q, 0, none⟩ = some (.int .u64 (wn x)) := hb.cell 0
  unfold wv
  go_simp
theorem st169 {w : World} {q : Nat} {v0 : Value} (x : BitVec 64) (hb : Blk w q [v0] 170) : ∃ w', (Instr.storeAt 170 (.pointer (some ⟨q, 0, none⟩)) (wv x)).run Tryz.prog w = .ok () w' ∧ Blk w' q [wv x] 170 ∧ Fx (fun k => k = q) w w' := by
  have hc : w.cell? ⟨q, 0, none⟩ = some v0 := hb.cell 0
  have hf := hb.frozen 0
  refine ⟨w.setCell ⟨q, 0, none⟩ (wv x), by unfold wv; go_simp, hb.set 0 _, Fx.setCell _ _ _ _ rfl⟩
set_option maxRecDepth 100000 in
set_option maxHeartbeats 1000000 in
theorem xnext_any (x : BitVec 64) (q : Nat) (w : World) (hq : Blk w q [wv x] 170) : Calls Tryz.prog 103 #[.pointer (some ⟨q, 0, none⟩)] w fun e w' => ∃ y, e = .returned (wv y) ∧ Blk w' q [wv y] 170 ∧ Fx (fun k => k = q) w w' := by
  refine calls_of_args [.pointer (some ⟨q, 0, none⟩)] Tryz.func103 rfl 33 Tryz.ntmps103 (by show 1 ≤ 33; decide) ?_; refine EW.seq ?_; refine EW.region ?_; refine WL.assign rfl rfl rfl ?_; refine WL.done ?_; refine EW.on ?_; refine EW.seq ?_; refine EW.ordB [(0, 0, 0), (1, 0, 0), (2, 0, 1), (3, 0, 0), (4, 0, 0), (5, 0, 1), (6, 0, 0), (7, 0, 0), (8, 0, 0), (9, 1, 0)] (by kernel_rfl) rfl (by kernel_rfl) ?_; simp only [opsZ, List.getD_cons_zero, List.getD_cons_succ]; refine ZE.move rfl rfl rfl rfl sz0 ?_; refine ZE.nilc rfl rfl rfl rfl sz0 ?_; refine ZE.load rfl rfl rfl rfl sz1 (fun W hW => ld169 (hq.on (sb_of hW))) ?_; refine ZE.move rfl rfl rfl rfl sz0 ?_; refine ZE.nilc rfl rfl rfl rfl sz0 ?_; refine ZE.load rfl rfl rfl rfl sz1 (fun W hW => ld169 (hq.on (sb_of hW))) ?_; refine ZE.bin rfl rfl rfl rfl rfl sz0 (fun W => shl13 _ W _ _) ?_; refine ZE.bin rfl rfl rfl rfl rfl sz0 (fun W => xor169 _ _ W _ _) ?_; refine ZE.nilc rfl rfl rfl rfl sz0 ?_; refine ZE.store (fun W => Blk W q [wv (nx1 x)] 170 ∧ Fx (fun k => k = q) w W) rfl rfl rfl (fun _ _ => .inl rfl) (fun W hW => ?_) ?_
  · obtain ⟨w', r, b, f⟩ := st169 (nx1 x) (hq.on hW)
    exact ⟨w', r, b, (Fx.of_below hW).and f⟩
  rintro W1 ⟨c1, f1⟩
  refine EW.on ?_; refine EW.seq ?_; refine EW.ordB [(0, 0, 0), (1, 0, 0), (2, 0, 1), (3, 0, 0), (4, 0, 0), (5, 0, 1), (6, 0, 0), (7, 0, 0), (8, 0, 0), (9, 1, 0)] (by kernel_rfl) rfl (by kernel_rfl) ?_; simp only [opsZ, List.getD_cons_zero, List.getD_cons_succ]; refine ZE.move rfl rfl rfl rfl sz0 ?_; refine ZE.nilc rfl rfl rfl rfl sz0 ?_; refine ZE.load rfl rfl rfl rfl sz1 (fun W hW => ld169 (c1.on (sb_of hW))) ?_; refine ZE.move rfl rfl rfl rfl sz0 ?_; refine ZE.nilc rfl rfl rfl rfl sz0 ?_; refine ZE.load rfl rfl rfl rfl sz1 (fun W hW => ld169 (c1.on (sb_of hW))) ?_; refine ZE.bin rfl rfl rfl rfl rfl sz0 (fun W => shr7 _ W _ _) ?_; refine ZE.bin rfl rfl rfl rfl rfl sz0 (fun W => xor169 _ _ W _ _) ?_; refine ZE.nilc rfl rfl rfl rfl sz0 ?_; refine ZE.store (fun W => Blk W q [wv (nx2 (nx1 x))] 170 ∧ Fx (fun k => k = q) W1 W) rfl rfl rfl (fun _ _ => .inl rfl) (fun W hW => ?_) ?_
  · obtain ⟨w', r, b, f⟩ := st169 (nx2 (nx1 x)) (c1.on hW)
    exact ⟨w', r, b, (Fx.of_below hW).and f⟩
  rintro W2 ⟨c2, f2⟩
  refine EW.on ?_; refine EW.seq ?_; refine EW.ordB [(0, 0, 0), (1, 0, 0), (2, 0, 1), (3, 0, 0), (4, 0, 0), (5, 0, 1), (6, 0, 0), (7, 0, 0), (8, 0, 0), (9, 1, 0)] (by kernel_rfl) rfl (by kernel_rfl) ?_; simp only [opsZ, List.getD_cons_zero, List.getD_cons_succ]; refine ZE.move rfl rfl rfl rfl sz0 ?_; refine ZE.nilc rfl rfl rfl rfl sz0 ?_; refine ZE.load rfl rfl rfl rfl sz1 (fun W hW => ld169 (c2.on (sb_of hW))) ?_; refine ZE.move rfl rfl rfl rfl sz0 ?_; refine ZE.nilc rfl rfl rfl rfl sz0 ?_; refine ZE.load rfl rfl rfl rfl sz1 (fun W hW => ld169 (c2.on (sb_of hW))) ?_; refine ZE.bin rfl rfl rfl rfl rfl sz0 (fun W => shl17 _ W _ _) ?_; refine ZE.bin rfl rfl rfl rfl rfl sz0 (fun W => xor169 _ _ W _ _) ?_; refine ZE.nilc rfl rfl rfl rfl sz0 ?_; refine ZE.store (fun W => Blk W q [wv (nx3 (nx2 (nx1 x)))] 170 ∧ Fx (fun k => k = q) W2 W) rfl rfl rfl (fun _ _ => .inl rfl) (fun W hW => ?_) ?_
  · obtain ⟨w', r, b, f⟩ := st169 (nx3 (nx2 (nx1 x))) (c2.on hW)
    exact ⟨w', r, b, (Fx.of_below hW).and f⟩
  rintro W3 ⟨c3, f3⟩
  refine EW.on ?_; refine EW.seq ?_; refine EW.region ?_; refine WL.move rfl rfl rfl ?_; refine WL.nilc rfl rfl rfl ?_; refine WL.load rfl rfl rfl (ld169 c3) ?_; refine WL.assign rfl rfl rfl ?_; refine WL.done ?_; refine EW.on ?_; refine EW.ret ?_
  exact EW.returns Tryz.results103 rfl ⟨_, rfl, c3, (f1.and f2).and f3⟩
end Go.Proofs.YtmbgeojjklboeaaGreatDoor
