import Derived.Test.YtiefgmgjlhjjhaaDoorTurnG
import Derived.Test.YtiefgmgjlhjjhaaDoorComp
namespace Go.Proofs.YtiefgmgjlhjjhaaDoor
open Go.RowKit

/-! The document's words: numbers of 64 bits below 2^32. -/
def uv (x : BitVec 32) : Value := .int .u64 (wn x)
def uvs (l : List (BitVec 32)) : List Value := l.map uv
theorem uvs_length (L : List (BitVec 32)) : (uvs L).length = L.length := by simp [uvs]
theorem uvs_at (L : List (BitVec 32)) (j : Nat) (h : j < L.length) : (uvs L)[j]? = some (.int .u64 (wn (L.getD j 0))) := by
  simp [uvs, uv, List.getElem?_eq_getElem h]
theorem uvs_set (L : List (BitVec 32)) (j : Nat) (x : BitVec 32) : (uvs L).set j (.int .u64 (wn x)) = uvs (L.set j x) := by
  simp [uvs, List.map_set]; rfl
theorem uvs_one (L : List (BitVec 32)) : (uvs L).toArray.all (·.oneCell') = true :=
  all_oneCell_toArray fun v hv => by
    obtain ⟨x, _, rfl⟩ := List.mem_map.1 hv
    rfl
theorem zero68 (w : World) : (zeroValue 145).run Tryd.prog w = .ok (.agg (uvs z64).toArray) w := by
  rw [Tryd.zeroValue145]; rfl
theorem uxor (x y : BitVec 32) : bits .xor .u64 (wn x) (wn y) = wn (x ^^^ y) := by
  have hx := wlt x
  have hy := wlt y
  unfold wn
  rw [u64_xor_nat _ _ (by omega) (by omega), BitVec.toNat_xor]
theorem uand (x y : BitVec 32) : bits .and .u64 (wn x) (wn y) = wn (x &&& y) := by
  have hx := wlt x
  have hy := wlt y
  unfold wn
  rw [u64_and_nat _ _ (by omega) (by omega), BitVec.toNat_and]
theorem uadd4 (a b c d : BitVec 32) : (wn a + wn b + wn c + wn d) % 4294967296 = wn (a + b + c + d) := by
  unfold wn
  rw [BitVec.toNat_add, BitVec.toNat_add, BitVec.toNat_add]; omega
theorem usum4 (a b c d : BitVec 32) : (IntKind.u64.wrap (IntKind.u64.wrap (IntKind.u64.wrap (wn a + wn b) + wn c) + wn d)).tmod 4294967296 = wn (a + b + c + d) := by
  have ha := wn_lt a
  have hb := wn_lt b
  have hc := wn_lt c
  have hd := wn_lt d
  have ha' := wn_nonneg a
  have hb' := wn_nonneg b
  have hc' := wn_nonneg c
  have hd' := wn_nonneg d
  rw [← uadd4, IntKind.wrap_u64, IntKind.wrap_u64, IntKind.wrap_u64, Int.tmod_eq_emod_of_nonneg (by omega)]
  omega
theorem ld_nat (x : BitVec 32) (u : UInt8) (hx : x.toNat < 16777216) : wn x * (256 : Int) + (u.toNat : Int) = wn (x <<< 8 ||| bw u) := by
  have hu := u.toNat_lt
  have hb : (bw u).toNat = u.toNat := by unfold bw; rw [BitVec.toNat_ofNat, Nat.mod_eq_of_lt (by omega)]
  unfold wn
  rw [BitVec.toNat_or, BitVec.toNat_shiftLeft, Nat.shiftLeft_eq, hb]
  rw [nat_join 8 _ _ (by show x.toNat * 2 ^ 8 % 4294967296 % 2 ^ 8 = 0; omega) (by show u.toNat < 2 ^ 8; omega)]
  show (x.toNat : Int) * (256 : Int) + u.toNat = ((x.toNat * 2 ^ 8 % 4294967296 + u.toNat : Nat) : Int)
  omega
theorem ld_lt (x : BitVec 32) (u : UInt8) (n : Nat) (hn : n ≤ 16777216) (hx : x.toNat < n) : (x <<< 8 ||| bw u).toNat < 256 * n := by
  have h := ld_nat x u (by omega)
  have hu := u.toNat_lt
  unfold wn at h
  omega

/-- The blocks of the document's 'schedule'. -/
structure Rsh (w wx : World) (b : List UInt8) (L : List (BitVec 32)) : Prop where
  bl : Blk wx w.heap.size (b.map byt) 134
  re : Blk wx (w.heap.size + 1) (uvs z64) 145
  wo : Blk wx (w.heap.size + 1 + 1) (uvs L) 145
  be : Below w.heap.size w wx
theorem Rsh.set {w wx : World} {b : List UInt8} {L : List (BitVec 32)} (h : Rsh w wx b L) (j : Nat) (x : BitVec 32) : Rsh w (wx.setCell ⟨w.heap.size + 1 + 1, j, none⟩ (.int .u64 (wn x))) b (L.set j x) :=
  ⟨h.bl.setOther _ _ _ (by omega), h.re.setOther _ _ _ (by omega), by rw [← uvs_set]; exact h.wo.set j _, h.be.setCell (by simp; omega) _⟩
theorem Rsh.drewN {w wx : World} {b : List UInt8} {L : List (BitVec 32)} (h : Rsh w wx b L) (n : Nat) : Rsh w (wx.drewN n) b L :=
  ⟨h.bl.drewN n, h.re.drewN n, h.wo.drewN n, below_drewN h.be n⟩
theorem Rsh.word {w wx : World} {b : List UInt8} {L : List (BitVec 32)} (h : Rsh w wx b L) (j : Nat) (hj : j < L.length) : wx.cell? ⟨w.heap.size + 1 + 1, j, none⟩ = some (.int .u64 (wn (L.getD j 0))) := by
  rw [h.wo.cell, uvs_at L j hj]
theorem Rsh.byte {w wx : World} {b : List UInt8} {L : List (BitVec 32)} (h : Rsh w wx b L) (j : Nat) (hj : j < b.length) : wx.cell? ⟨w.heap.size, j, none⟩ = some (.int .u8 ((b.getD j 0).toNat : Int)) := by
  rw [h.bl.cell]; simp [List.getElem?_eq_getElem hj, byt]

theorem turn_all (x : BitVec 32) (n : Int) (hn : 0 < n) (hn' : n < 32) (w : World) :
    Calls Tryd.prog 76 #[.int .i64 n, .int .u64 (wn x)] w fun e w' => e = .returned (.int .u64 (wn (rot n.toNat x))) ∧ w' = w := by
  have := turn_any x n.toNat (by omega) w
  rwa [Int.toNat_of_nonneg (by omega)] at this
theorem move_all (x : BitVec 32) (n : Int) (hn : 0 < n) (hn' : n < 32) (w : World) :
    Calls Tryd.prog 78 #[.int .i64 n, .int .u64 (wn x)] w fun e w' => e = .returned (.int .u64 (wn (x >>> n.toNat))) ∧ w' = w := by
  have := move_any x n.toNat (by omega) w
  rwa [Int.toNat_of_nonneg (by omega)] at this

theorem ldk_other (b : List UInt8) (t j : Nat) (hj : t ≠ j) (L : List (BitVec 32)) : ∀ k, (ldk b t L k).getD j 0 = L.getD j 0
  | 0 => rfl
  | k + 1 => by
    rw [ldk, ld, List.getD_eq_getElem?_getD, List.getElem?_set_ne hj, ← List.getD_eq_getElem?_getD, ldk_other b t j hj L k]
theorem ld16_zero (b : List UInt8) : ∀ t j, t ≤ j → (ld16 b t).getD j 0 = 0
  | 0, j, _ => by
    rw [ld16, z64, List.getD_eq_getElem?_getD, List.getElem?_replicate]
    split <;> rfl
  | t + 1, j, h => by rw [ld16, ldk_other b t j (by omega), ld16_zero b t j (by omega)]

set_option maxHeartbeats 600000 in
set_option maxRecDepth 100000 in
theorem rsched_any (b : List UInt8) (hb : b.length = 64) (w : World) :
    Calls Tryd.prog 75 #[.agg (b.map byt).toArray] w fun e w' => e = .returned (.agg (uvs (sched b)).toArray) ∧ Below w.heap.size w w' := by
  go_enter Tryd.func75, Tryd.ntmps75
  go_wp2_with (first | (refine wpList_box rfl 134 _ rfl (b.map byt) rfl ?_) | (refine wpList_new rfl 145 rfl (uvs z64) zero68 ?_))
  have h0 : Hid (Rsh w (((w.alloc (.cells (b.map byt).toArray 134)).alloc (.cells (uvs z64).toArray 145)).alloc (.cells (uvs z64).toArray 145)) b (ld16 b 0)) := by
    refine ⟨((Blk.new w _ _).alloc _).alloc _, ?_, ?_, ((((Below.refl _ _).alloc (Nat.le_refl _) _).alloc (by simp) _).alloc (by simp; omega) _)⟩
    · have := (Blk.new (w.alloc (.cells (b.map byt).toArray 134)) (uvs z64) 145).alloc (.cells (uvs z64).toArray 145)
      simpa using this
    · have := Blk.new ((w.alloc (.cells (b.map byt).toArray 134)).alloc (.cells (uvs z64).toArray 145)) (uvs z64) 145
      rw [show ld16 b 0 = z64 from rfl]
      simpa using this
  go_loopw [4] (fun i wr => ∃ t : Nat, t ≤ 16 ∧ i = .int .i64 t ∧ Hid (Rsh w wr b (ld16 b t))) (fun i _ => 16 - (intOf i).toNat)
  case atStart => exact ⟨0, by omega, rfl, h0⟩
  case round =>
    obtain ⟨t, ht, rfl, hs⟩ := hrel
    by_cases hlt : t < 16
    · have hlz : (t : Int) < 16 := by omega
      go_wp2
      go_loopw [5] (fun i wx => ∃ k : Nat, k ≤ 4 ∧ i = .int .i64 k ∧ Hid (Rsh w wx b (ldk b t (ld16 b t) k)) ∧ Hid (((ldk b t (ld16 b t) k).getD t 0).toNat < 256 ^ k)) (fun i _ => 4 - (intOf i).toNat)
      case atStart => exact ⟨0, by omega, rfl, hs, by show (List.getD (ld16 b t) t 0).toNat < 256 ^ 0; rw [ld16_zero b t t (Nat.le_refl _)]; decide⟩
      case round =>
        obtain ⟨k, hk, rfl, hx, hq⟩ := hrel
        by_cases hkl : k < 4
        · have hkz : (k : Int) < 4 := by omega
          have hlen : (ldk b t (ld16 b t) k).length = 64 := by rw [ldk_length, ld16_length]
          obtain ⟨L, hL⟩ : ∃ L, L = ldk b t (ld16 b t) k := ⟨_, rfl⟩
          have HL := hide hL
          rw [← hL] at hx hlen hq
          clear hL
          have hc := hx.out.word t (by omega)
          have hy := hx.out.byte (4 * t + k) (by omega)
          have hfz := hx.out.wo.frozen t
          have hp : 256 ^ k ≤ 16777216 := by
            have : k = 0 ∨ k = 1 ∨ k = 2 ∨ k = 3 := by omega
            rcases this with rfl | rfl | rfl | rfl <;> decide
          have e3 := ld_nat (L.getD t 0) (b.getD (4 * t + k) 0) (Nat.lt_of_lt_of_le hq.out hp)
          have e4 := ld_lt (L.getD t 0) (b.getD (4 * t + k) 0) _ hp hq.out
          have e5 := wn_lt (L.getD t 0)
          have e6 := wn_nonneg (L.getD t 0)
          have e7 := (b.getD (4 * t + k) 0).toNat_lt
          have hl64 := hlen
          obtain ⟨x, hX⟩ : ∃ x, x = L.getD t 0 := ⟨_, rfl⟩
          obtain ⟨u, hU⟩ : ∃ u, u = b.getD (4 * t + k) 0 := ⟨_, rfl⟩
          rw [← hX] at e3 e4 e5 e6 hc
          rw [← hU] at e3 e4 e7 hy
          have HX := hide hX
          have HU := hide hU
          have E3 := hide e3
          have E4 := hide e4
          have HLL := hide hl64
          clear hX hU e3 e4 hq hp hl64 hlen
          go_wp2
          go_region
          go_wp2
          go_roundw
          case rel =>
            have e : ldk b t (ld16 b t) (k + 1) = L.set t (x <<< 8 ||| bw u) := by
              rw [ldk, ld, ← HL.out, ← HX.out, ← HU.out]
            refine ⟨k + 1, by omega, by go_num, ?_, ?_⟩
            · rw [e, E3.out]
              exact (hx.out.set t _).drewN _
            · show (List.getD (ldk b t (ld16 b t) (k + 1)) t 0).toNat < 256 ^ (k + 1)
              rw [e, Nat.pow_succ, Nat.mul_comm]
              have := E4.out
              rw [List.getD_eq_getElem?_getD, List.getElem?_set_self (by rw [HLL.out]; omega)]
              exact this
          case measure => simp [intOf]; omega
        · obtain rfl : k = 4 := by omega
          rw [ldk4] at hx
          go_wp2
          go_roundw
          case rel => exact ⟨t + 1, by omega, by go_num, hx⟩
          case measure => simp [intOf]; omega
    · obtain rfl : t = 16 := by omega
      go_wp2
      go_loopw [6] (fun i wx => ∃ n : Nat, n ≤ 48 ∧ i = .int .i64 (16 + n : Nat) ∧ Hid (Rsh w wx b (exts b n))) (fun i _ => 64 - (intOf i).toNat)
      case atStart => exact ⟨0, by omega, rfl, hs⟩
      case round =>
        obtain ⟨n, hn, rfl, hx⟩ := hrel
        by_cases hkl : n < 48
        · have hkz : ((16 + n : Nat) : Int) < 64 := by omega
          have hlen : (exts b n).length = 64 := exts_length b n
          obtain ⟨L, hL⟩ : ∃ L, L = exts b n := ⟨_, rfl⟩
          have HL := hide hL
          rw [← hL] at hx hlen
          clear hL
          have c1 := hx.out.word n (by omega)
          have c2 := hx.out.word (9 + n) (by omega)
          have c3 := hx.out.word (1 + n) (by omega)
          have c4 := hx.out.word (14 + n) (by omega)
          have hfz := hx.out.wo.frozen (16 + n)
          have s1 : ((16 + n : Nat) : Int) - 15 = ((1 + n : Nat) : Int) := by omega
          have s2 : ((16 + n : Nat) : Int) - 2 = ((14 + n : Nat) : Int) := by omega
          have s3 : ((16 + n : Nat) : Int) - 7 = ((9 + n : Nat) : Int) := by omega
          have s4 : ((16 + n : Nat) : Int) - 16 = ((n : Nat) : Int) := by omega
          obtain ⟨m0, hm0⟩ : ∃ m, m = 16 + n := ⟨_, rfl⟩
          obtain ⟨m1, hm1⟩ : ∃ m, m = 1 + n := ⟨_, rfl⟩
          obtain ⟨m2, hm2⟩ : ∃ m, m = 14 + n := ⟨_, rfl⟩
          obtain ⟨m3, hm3⟩ : ∃ m, m = 9 + n := ⟨_, rfl⟩
          rw [← hm0] at s1 s2 s3 s4 hkz hfz ⊢
          rw [← hm1] at s1 c3
          rw [← hm2] at s2 c4
          rw [← hm3] at s3 c2
          obtain ⟨x1, hx1⟩ : ∃ x, x = L.getD m1 0 := ⟨_, rfl⟩
          obtain ⟨x2, hx2⟩ : ∃ x, x = L.getD m2 0 := ⟨_, rfl⟩
          obtain ⟨x3, hx3⟩ : ∃ x, x = L.getD m3 0 := ⟨_, rfl⟩
          obtain ⟨x4, hx4⟩ : ∃ x, x = L.getD n 0 := ⟨_, rfl⟩
          rw [← hx1] at c3
          rw [← hx2] at c4
          rw [← hx3] at c2
          rw [← hx4] at c1
          have b1 : m1 < 64 := by omega
          have b2 : m2 < 64 := by omega
          have b3 : m3 < 64 := by omega
          have b4 : m0 < 64 := by omega
          have b9 : 16 ≤ m0 := by omega
          have b5 : ¬ m3 = m0 := by omega
          have b6 : ¬ n = m0 := by omega
          have b7 : ¬ m0 = m3 := by omega
          have b8 : ¬ m0 = n := by omega
          have HX1 := hide hx1
          have HX2 := hide hx2
          have HX3 := hide hx3
          have HX4 := hide hx4
          have HM0 := hide hm0
          have HM1 := hide hm1
          have HM2 := hide hm2
          have HM3 := hide hm3
          clear hx1 hx2 hx3 hx4 hm0 hm1 hm2 hm3
          have e1 := uxor
          go_wp2
          go_quiet (first | (go_at_call 76; exact Calls.quiet_of_same (turn_all _ _ (by decide) (by decide) _)) | (go_at_call 78; exact Calls.quiet_of_same (move_all _ _ (by decide) (by decide) _)))
          have hy2 : Hid (Rsh w (wr.drewN nq) b L) := hx.out.drewN nq
          have d1 : (wr.drewN nq).cell? ⟨w.heap.size + 1 + 1, n, none⟩ = some (.int .u64 (wn x4)) := by simpa using c1
          have d2 : (wr.drewN nq).cell? ⟨w.heap.size + 1 + 1, m3, none⟩ = some (.int .u64 (wn x3)) := by simpa using c2
          have d4 : (wr.drewN nq).cell? ⟨w.heap.size + 1 + 1, m2, none⟩ = some (.int .u64 (wn x2)) := by simpa using c4
          generalize wr.drewN nq = w1 at hy2 d1 d2 d4 ⊢
          clear c1 c2 c3 c4 hfz hx
          go_wp2
          go_quiet (first | (go_at_call 76; exact Calls.quiet_of_same (turn_all _ _ (by decide) (by decide) _)) | (go_at_call 78; exact Calls.quiet_of_same (move_all _ _ (by decide) (by decide) _)))
          have hy3 : Hid (Rsh w (w1.drewN nq) b L) := hy2.out.drewN nq
          have hfz := hy3.out.wo.frozen m0
          have c1 : (w1.drewN nq).cell? ⟨w.heap.size + 1 + 1, n, none⟩ = some (.int .u64 (wn x4)) := by simpa using d1
          have c2 : (w1.drewN nq).cell? ⟨w.heap.size + 1 + 1, m3, none⟩ = some (.int .u64 (wn x3)) := by simpa using d2
          have c0 : ∃ v, (w1.drewN nq).cell? ⟨w.heap.size + 1 + 1, m0, none⟩ = some v := ⟨_, hy3.out.word m0 (by omega)⟩
          generalize w1.drewN nq = w2 at hy3 c1 c2 c0 hfz ⊢
          clear d1 d2 d4 hy2
          obtain ⟨v0, c0⟩ := c0
          go_wp2
          have n3 : (⟨w.heap.size + 1 + 1, m0, none⟩ : Addr) ≠ ⟨w.heap.size + 1 + 1, m3, none⟩ := fun h => b7 (congrArg Addr.off h)
          have n4 : (⟨w.heap.size + 1 + 1, m0, none⟩ : Addr) ≠ ⟨w.heap.size + 1 + 1, n, none⟩ := fun h => b8 (congrArg Addr.off h)
          go_big_region
          go_wp2
          go_roundw
          case rel =>
            refine ⟨n + 1, by omega, by rw [HM0.out]; go_num, ?_⟩
            have e : exts b (n + 1) = L.set m0 ((rot 17 x2 ^^^ rot 19 x2 ^^^ x2 >>> 10) + x3 + (rot 7 x1 ^^^ rot 18 x1 ^^^ x1 >>> 3) + x4) := by
              rw [exts, ext, ← HL.out, ← HM0.out, ← HM1.out, ← HM2.out, ← HM3.out, ← HX1.out, ← HX2.out, ← HX3.out, ← HX4.out]; rfl
            rw [e, usum4]
            exact (hy3.out.set m0 _).drewN 1
          case measure => rw [HM0.out]; simp [intOf]; omega
        · obtain rfl : n = 48 := by omega
          have hsz : (Tryd.prog.info? 145).map (·.size) = some (uvs (exts b 48)).toArray.size := by
            rw [List.size_toArray, uvs_length, exts_length]; kernel_rfl
          go_wp2_with (first
            | (refine wpList_load_row rfl 145 (.tmp 3) rfl (w.heap.size + 1 + 1) rfl 145 (uvs (exts b 48)).toArray (0, 0) _ hx.out.wo Tryd.underlying145 rfl hsz ?_)
            | (refine wpList_store_row rfl 145 (.tmp 2) (.tmp 85) rfl (w.heap.size + 1) (uvs (exts b 48)).toArray rfl rfl 145 (uvs z64).toArray hx.out.re hsz (by rw [List.size_toArray, List.size_toArray, uvs_length, uvs_length, exts_length]; rfl) (uvs_one _) ?_))
          refine bodyPost_ret (v := .agg (uvs (sched b)).toArray) ?_ rfl ⟨rfl, below_setRow hx.out.be _ _ (by omega)⟩
          exact results_cell_row Tryd.results75 _ _ (w.heap.size + 1) 145 _ (0, 0) _ rfl (hx.out.re.setRow _) Tryd.underlying145 rfl hsz
/-! The numbers of one round of the document's 'Block'. -/
theorem unot (e : BitVec 32) : 4294967295 - wn e = wn (~~~e) := by
  have := wlt e
  unfold wn
  rw [BitVec.toNat_not]
  omega
theorem uchs (e f g : BitVec 32) : (e &&& f) ^^^ (~~~e &&& g) = chs e f g := by
  unfold chs
  rw [BitVec.and_comm (~~~e) g]
theorem uadd2 (a b : BitVec 32) : (wn a + wn b) % 4294967296 = wn (a + b) := by
  unfold wn
  rw [BitVec.toNat_add]; omega
theorem uadd5 (a b c d e : BitVec 32) : (wn a + wn b + wn c + wn d + wn e) % 4294967296 = wn (a + b + c + d + e) := by
  unfold wn
  rw [BitVec.toNat_add, BitVec.toNat_add, BitVec.toNat_add, BitVec.toNat_add]; omega
/-- The two sums of a round: t1 of five words, t2 of two. -/
theorem round_e (d : BitVec 32) (t : Int) (x : BitVec 32) (ht : t % 4294967296 = wn x) : (wn d + t) % 4294967296 = wn (d + x) := by
  rw [← uadd2, ← ht]
  omega
theorem round_a (t u : Int) (x y : BitVec 32) (ht : t % 4294967296 = wn x) (hu : u % 4294967296 = wn y) : (t + u) % 4294967296 = wn (x + y) := by
  rw [← uadd2, ← ht, ← hu]
  omega
/-- The world holds the document's constants. -/
def Rst (w : World) : Prop := ∀ t, t < 64 → w.cell? ⟨2, t, none⟩ = some (.int .u64 (wn (kw t)))
theorem Rst.lt {w : World} (h : Rst w) : 2 < w.heap.size := cell_lt (h 0 (by omega))
theorem Rst.below {w w' : World} {n : Nat} (h : Rst w) (hb : Below n w w') (hn : 2 < n) : Rst w' := fun t ht => (hb.cell (p := ⟨2, t, none⟩) hn).trans (h t ht)
theorem Rst.drewN {w : World} (h : Rst w) (n : Nat) : Rst (w.drewN n) := h.below (below_drewN (Below.refl w.heap.size w) n) h.lt
end Go.Proofs.YtiefgmgjlhjjhaaDoor
