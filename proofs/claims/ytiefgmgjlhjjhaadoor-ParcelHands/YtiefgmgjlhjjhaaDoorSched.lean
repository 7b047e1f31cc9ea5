import Derived.Test.YtiefgmgjlhjjhaaDoorBlkG
import Derived.Deep.QuietTactic
import Derived.BigQuiet
import Derived.Deep.RegionHeld3
namespace Go.Proofs.YtiefgmgjlhjjhaaDoor
open Go.RowKit

/-- A byte as a word. -/
def bw (u : UInt8) : BitVec 32 := BitVec.ofNat 32 u.toNat
theorem bw_wn (u : UInt8) : (u.toNat : Int) = wn (bw u) := by
  have := u.toNat_lt
  unfold wn bw
  rw [BitVec.toNat_ofNat, Nat.mod_eq_of_lt (by omega)]

/-- The word number t takes byte k of its four. -/
def ld (b : List UInt8) (t k : Nat) (L : List (BitVec 32)) : List (BitVec 32) := L.set t (L.getD t 0 <<< 8 ||| bw (b.getD (4 * t + k) 0))
def ldk (b : List UInt8) (t : Nat) (L : List (BitVec 32)) : Nat → List (BitVec 32)
  | 0 => L
  | k + 1 => ld b t k (ldk b t L k)
def z64 : List (BitVec 32) := List.replicate 64 0
def ld16 (b : List UInt8) : Nat → List (BitVec 32)
  | 0 => z64
  | t + 1 => ldk b t (ld16 b t) 4
def sg0 (x : BitVec 32) : BitVec 32 := rot 7 x ^^^ rot 18 x ^^^ x >>> 3
def sg1 (x : BitVec 32) : BitVec 32 := rot 17 x ^^^ rot 19 x ^^^ x >>> 10
/-- The word number 16 + n. -/
def ext (L : List (BitVec 32)) (n : Nat) : List (BitVec 32) := L.set (16 + n) (sg1 (L.getD (14 + n) 0) + L.getD (9 + n) 0 + sg0 (L.getD (1 + n) 0) + L.getD n 0)
def exts (b : List UInt8) : Nat → List (BitVec 32)
  | 0 => ld16 b 16
  | n + 1 => ext (exts b n) n
/-- The words of a block's 64 rounds. -/
def sched (b : List UInt8) : List (BitVec 32) := exts b 48

theorem ldk_length (b : List UInt8) (t : Nat) (L : List (BitVec 32)) : ∀ k, (ldk b t L k).length = L.length
  | 0 => rfl
  | k + 1 => by rw [ldk, ld, List.length_set, ldk_length b t L k]
theorem ld16_length (b : List UInt8) : ∀ t, (ld16 b t).length = 64
  | 0 => by rw [ld16, z64, List.length_replicate]
  | t + 1 => by rw [ld16, ldk_length, ld16_length b t]
theorem exts_length (b : List UInt8) : ∀ n, (exts b n).length = 64
  | 0 => ld16_length b 16
  | n + 1 => by rw [exts, ext, List.length_set, exts_length b n]

theorem wvs_length (L : List (BitVec 32)) : (wvs L).length = L.length := by simp [wvs]
theorem wvs_at (L : List (BitVec 32)) (j : Nat) (h : j < L.length) : (wvs L)[j]? = some (.int .u32 (wn (L.getD j 0))) := by
  simp [wvs, wv, List.getElem?_eq_getElem h]
theorem wvs_set (L : List (BitVec 32)) (j : Nat) (x : BitVec 32) : (wvs L).set j (.int .u32 (wn x)) = wvs (L.set j x) := by
  simp [wvs, List.map_set]; rfl

/-- The blocks of 'schedule': its block, its result, its words. -/
structure Sch (w wx : World) (b : List UInt8) (L : List (BitVec 32)) : Prop where
  bl : Blk wx w.heap.size (b.map byt) 134
  re : Blk wx (w.heap.size + 1) (wvs z64) 140
  wo : Blk wx (w.heap.size + 1 + 1) (wvs L) 140
  be : Below w.heap.size w wx

theorem Sch.set {w wx : World} {b : List UInt8} {L : List (BitVec 32)} (h : Sch w wx b L) (j : Nat) (x : BitVec 32) : Sch w (wx.setCell ⟨w.heap.size + 1 + 1, j, none⟩ (.int .u32 (wn x))) b (L.set j x) :=
  ⟨h.bl.setOther _ _ _ (by omega), h.re.setOther _ _ _ (by omega), by rw [← wvs_set]; exact h.wo.set j _, h.be.setCell (by simp; omega) _⟩
theorem Sch.drewN {w wx : World} {b : List UInt8} {L : List (BitVec 32)} (h : Sch w wx b L) (n : Nat) : Sch w (wx.drewN n) b L :=
  ⟨h.bl.drewN n, h.re.drewN n, h.wo.drewN n, below_drewN h.be n⟩
theorem Sch.word {w wx : World} {b : List UInt8} {L : List (BitVec 32)} (h : Sch w wx b L) (j : Nat) (hj : j < L.length) : wx.cell? ⟨w.heap.size + 1 + 1, j, none⟩ = some (.int .u32 (wn (L.getD j 0))) := by
  rw [h.wo.cell, wvs_at L j hj]
theorem Sch.byte {w wx : World} {b : List UInt8} {L : List (BitVec 32)} (h : Sch w wx b L) (j : Nat) (hj : j < b.length) : wx.cell? ⟨w.heap.size, j, none⟩ = some (.int .u8 ((b.getD j 0).toNat : Int)) := by
  rw [h.bl.cell]; simp [List.getElem?_eq_getElem hj, byt]

theorem wvs_one (L : List (BitVec 32)) : (wvs L).toArray.all (·.oneCell') = true :=
  all_oneCell_toArray fun v hv => by
    obtain ⟨x, _, rfl⟩ := List.mem_map.1 hv
    rfl
theorem zero59 (w : World) : (zeroValue 140).run Tryd.prog w = .ok (.agg (wvs z64).toArray) w := by
  rw [Tryd.zeroValue140]; rfl

/-- A piece of an array of 64 bytes. -/
theorem sl42 (g o l h : Nat) (li hi : Int) (el : li = l) (eh : hi = h) (hl : l ≤ h) (hh : h ≤ 64) (hl' : l < 64) (W : World) :
    (Instr.sliceAt 134 (.pointer (some ⟨g, o, none⟩)) (some (.int .i64 li)) (some (.int .i64 hi)) none).run Tryd.prog W = .ok (.slice (some ⟨g, o + l, none⟩) (h - l) (64 - l)) W := by
  subst el eh
  have hu : Tryd.prog.underlying 134 = some (.array (Tryd.prog.arrayLen 134) (Tryd.prog.elem 134)) := by kernel_rfl
  have e1 : Tryd.prog.arrayLen 134 = 64 := by kernel_rfl
  have e2 : Tryd.prog.elem 134 = 5 := by kernel_rfl
  rw [run_sliceAt_array_lh W 134 _ hu .i64 .i64 l h (by omega) (by omega) (by rw [e1]; omega), e1, e2, Tryd.sizeOf5]
  simp only [Result.andThen, slicedAt, Int.toNat_natCast, Nat.mul_one]
  rw [if_neg (by omega), Addr.add_mid]

theorem wmod (x : BitVec 32) : wn x % 4294967296 = wn x := Int.emod_eq_of_lt (wn_nonneg x) (wn_lt x)
theorem wshl8 (x : BitVec 32) : wn x * (256 : Int) % (4294967296 : Int) = wn (x <<< 8) := by
  have := wshl x 8
  rw [IntKind.wrap_u32'] at this
  exact this
theorem wshr8 (x : BitVec 32) : wn x / (8 : Int) = wn (x >>> 3) := wshr x 3
theorem wshr10 (x : BitVec 32) : wn x / (1024 : Int) = wn (x >>> 10) := wshr x 10

theorem ldk4 (b : List UInt8) (t : Nat) : ldk b t (ld16 b t) 4 = ld16 b (t + 1) := rfl

set_option maxHeartbeats 600000 in
set_option maxRecDepth 100000 in
theorem sched_any (b : List UInt8) (hb : b.length = 64) (w : World) :
    Calls Tryd.prog 73 #[.agg (b.map byt).toArray] w fun e w' => e = .returned (.agg (wvs (sched b)).toArray) ∧ Below w.heap.size w w' := by
  go_enter Tryd.func73, Tryd.ntmps73
  go_wp2_with (first | (refine wpList_box rfl 134 _ rfl (b.map byt) rfl ?_) | (refine wpList_new rfl 140 rfl (wvs z64) zero59 ?_))
  have h0 : Hid (Sch w (((w.alloc (.cells (b.map byt).toArray 134)).alloc (.cells (wvs z64).toArray 140)).alloc (.cells (wvs z64).toArray 140)) b (ld16 b 0)) := by
    refine ⟨((Blk.new w _ _).alloc _).alloc _, ?_, ?_, ((((Below.refl _ _).alloc (Nat.le_refl _) _).alloc (by simp) _).alloc (by simp; omega) _)⟩
    · have := (Blk.new (w.alloc (.cells (b.map byt).toArray 134)) (wvs z64) 140).alloc (.cells (wvs z64).toArray 140)
      simpa using this
    · have := Blk.new ((w.alloc (.cells (b.map byt).toArray 134)).alloc (.cells (wvs z64).toArray 140)) (wvs z64) 140
      rw [show ld16 b 0 = z64 from rfl]
      simpa using this
  go_loopw [10] (fun i wr => ∃ t : Nat, t ≤ 16 ∧ i = .int .i64 t ∧ Hid (Sch w wr b (ld16 b t))) (fun i _ => 16 - (intOf i).toNat)
  case atStart => exact ⟨0, by omega, rfl, h0⟩
  case round =>
    obtain ⟨t, ht, rfl, hs⟩ := hrel
    by_cases hlt : t < 16
    · have hlz : (t : Int) < 16 := by omega
      have hsl := fun W => sl42 w.heap.size 0 (4 * t) (4 * t + 4) (4 * (t : Int)) (4 * (t : Int) + 4) (by omega) (by omega) (by omega) (by omega) (by omega) W
      rw [show 0 + 4 * t = 4 * t by omega, show 4 * t + 4 - 4 * t = 4 by omega] at hsl
      go_wp2
      go_loopw [20] (fun i wx => ∃ k : Nat, k ≤ 4 ∧ i = .int .i64 k ∧ Hid (Sch w wx b (ldk b t (ld16 b t) k))) (fun i _ => 4 - (intOf i).toNat)
      case atStart => exact ⟨0, by omega, rfl, hs⟩
      case round =>
        obtain ⟨k, hk, rfl, hx⟩ := hrel
        by_cases hkl : k < 4
        · have hkz : (k : Int) < 4 := by omega
          have hlen : (ldk b t (ld16 b t) k).length = 64 := by rw [ldk_length, ld16_length]
          obtain ⟨L, hL⟩ : ∃ L, L = ldk b t (ld16 b t) k := ⟨_, rfl⟩
          have HL := hide hL
          rw [← hL] at hx hlen
          clear hL
          have hc := hx.out.word t (by omega)
          have hy := hx.out.byte (4 * t + k) (by omega)
          have hfz := hx.out.wo.frozen t
          have e1 := wshl (L.getD t 0) 8
          have e2 := bw_wn (b.getD (4 * t + k) 0)
          have e3 := wor (L.getD t 0 <<< 8) (bw (b.getD (4 * t + k) 0))
          obtain ⟨x, hX⟩ : ∃ x, x = L.getD t 0 := ⟨_, rfl⟩
          obtain ⟨u, hU⟩ : ∃ u, u = b.getD (4 * t + k) 0 := ⟨_, rfl⟩
          rw [← hX] at e1 e3 hc
          rw [← hU] at e2 e3 hy
          rw [e2] at hy
          have HX := hide hX
          have HU := hide hU
          clear hX hU e2
          go_wp2
          go_roundw
          case rel =>
            refine ⟨k + 1, by omega, by go_num, ?_⟩
            rw [wmod, wshl8, e3, ldk, ld, ← HL.out, ← HX.out, ← HU.out]
            exact hx.out.set t _
          case measure => simp [intOf]; omega
        · obtain rfl : k = 4 := by omega
          rw [ldk4] at hx
          go_wp2
          go_roundw
          case rel => exact ⟨t + 1, by omega, by go_num, hx⟩
          case measure => simp [intOf]; omega
    · obtain rfl : t = 16 := by omega
      go_wp2
      go_loopw [7] (fun i wx => ∃ n : Nat, n ≤ 48 ∧ i = .int .i64 (16 + n : Nat) ∧ Hid (Sch w wx b (exts b n))) (fun i _ => 64 - (intOf i).toNat)
      case atStart => exact ⟨0, by omega, rfl, hs⟩
      case round =>
        obtain ⟨n, hn, rfl, hx⟩ := hrel
        by_cases hkl : n < 48
        · have hkz : ((16 + n : Nat) : Int) < 64 := by omega
          have hlen : (exts b n).length = 64 := exts_length b n
          obtain ⟨L, hL⟩ : ∃ L, L = exts b n := ⟨_, rfl⟩
          have HL := hide hL
          rw [← hL] at hx hlen
          clear hL
          have c1 := hx.out.word n (by omega)
          have c2 := hx.out.word (9 + n) (by omega)
          have c3 := hx.out.word (1 + n) (by omega)
          have c4 := hx.out.word (14 + n) (by omega)
          have hfz := hx.out.wo.frozen (16 + n)
          have s1 : ((16 + n : Nat) : Int) - 15 = ((1 + n : Nat) : Int) := by omega
          have s2 : ((16 + n : Nat) : Int) - 2 = ((14 + n : Nat) : Int) := by omega
          have s3 : ((16 + n : Nat) : Int) - 7 = ((9 + n : Nat) : Int) := by omega
          have s4 : ((16 + n : Nat) : Int) - 16 = ((n : Nat) : Int) := by omega
          obtain ⟨m0, hm0⟩ : ∃ m, m = 16 + n := ⟨_, rfl⟩
          obtain ⟨m1, hm1⟩ : ∃ m, m = 1 + n := ⟨_, rfl⟩
          obtain ⟨m2, hm2⟩ : ∃ m, m = 14 + n := ⟨_, rfl⟩
          obtain ⟨m3, hm3⟩ : ∃ m, m = 9 + n := ⟨_, rfl⟩
          rw [← hm0] at s1 s2 s3 s4 hkz hfz ⊢
          rw [← hm1] at s1 c3
          rw [← hm2] at s2 c4
          rw [← hm3] at s3 c2
          obtain ⟨x1, hx1⟩ : ∃ x, x = L.getD m1 0 := ⟨_, rfl⟩
          obtain ⟨x2, hx2⟩ : ∃ x, x = L.getD m2 0 := ⟨_, rfl⟩
          obtain ⟨x3, hx3⟩ : ∃ x, x = L.getD m3 0 := ⟨_, rfl⟩
          obtain ⟨x4, hx4⟩ : ∃ x, x = L.getD n 0 := ⟨_, rfl⟩
          rw [← hx1] at c3
          rw [← hx2] at c4
          rw [← hx3] at c2
          rw [← hx4] at c1
          have b1 : m1 < 64 := by omega
          have b2 : m2 < 64 := by omega
          have b3 : m3 < 64 := by omega
          have b4 : m0 < 64 := by omega
          have b9 : 16 ≤ m0 := by omega
          have b5 : ¬ m3 = m0 := by omega
          have b6 : ¬ n = m0 := by omega
          have b7 : ¬ m0 = m3 := by omega
          have b8 : ¬ m0 = n := by omega
          have HX1 := hide hx1
          have HX2 := hide hx2
          have HX3 := hide hx3
          have HX4 := hide hx4
          have HM0 := hide hm0
          have HM1 := hide hm1
          have HM2 := hide hm2
          have HM3 := hide hm3
          clear hx1 hx2 hx3 hx4 hm0 hm1 hm2 hm3
          have e1 := wxor
          have e2 := wadd
          have e3 := wshr8 x1
          have e4 := wshr10 x2
          go_wp2
          go_quiet ((go_at_call 74; exact Calls.quiet_of_same (right_all _ _ (by decide) (by decide) _)))
          have hy2 : Hid (Sch w (wr.drewN nq) b L) := hx.out.drewN nq
          have d1 : (wr.drewN nq).cell? ⟨w.heap.size + 1 + 1, n, none⟩ = some (.int .u32 (wn x4)) := by simpa using c1
          have d2 : (wr.drewN nq).cell? ⟨w.heap.size + 1 + 1, m3, none⟩ = some (.int .u32 (wn x3)) := by simpa using c2
          have d4 : (wr.drewN nq).cell? ⟨w.heap.size + 1 + 1, m2, none⟩ = some (.int .u32 (wn x2)) := by simpa using c4
          generalize wr.drewN nq = w1 at hy2 d1 d2 d4 ⊢
          clear c1 c2 c3 c4 hfz hx
          go_wp2
          go_quiet ((go_at_call 74; exact Calls.quiet_of_same (right_all _ _ (by decide) (by decide) _)))
          have hy3 : Hid (Sch w (w1.drewN nq) b L) := hy2.out.drewN nq
          have hfz := hy3.out.wo.frozen m0
          have c1 : (w1.drewN nq).cell? ⟨w.heap.size + 1 + 1, n, none⟩ = some (.int .u32 (wn x4)) := by simpa using d1
          have c2 : (w1.drewN nq).cell? ⟨w.heap.size + 1 + 1, m3, none⟩ = some (.int .u32 (wn x3)) := by simpa using d2
          have c0 : ∃ v, (w1.drewN nq).cell? ⟨w.heap.size + 1 + 1, m0, none⟩ = some v := ⟨_, hy3.out.word m0 (by omega)⟩
          generalize w1.drewN nq = w2 at hy3 c1 c2 c0 hfz ⊢
          clear d1 d2 d4 hy2
          obtain ⟨v0, c0⟩ := c0
          go_wp2
          have n3 : (⟨w.heap.size + 1 + 1, m0, none⟩ : Addr) ≠ ⟨w.heap.size + 1 + 1, m3, none⟩ := fun h => b7 (congrArg Addr.off h)
          have n4 : (⟨w.heap.size + 1 + 1, m0, none⟩ : Addr) ≠ ⟨w.heap.size + 1 + 1, n, none⟩ := fun h => b8 (congrArg Addr.off h)
          go_big_region
          go_wp2
          go_roundw
          case rel =>
            refine ⟨n + 1, by omega, by rw [HM0.out]; go_num, ?_⟩
            have e : exts b (n + 1) = L.set m0 ((rot 17 x2 ^^^ rot 19 x2 ^^^ x2 >>> 10) + x3 + (rot 7 x1 ^^^ rot 18 x1 ^^^ x1 >>> 3) + x4) := by
              rw [exts, ext, ← HL.out, ← HM0.out, ← HM1.out, ← HM2.out, ← HM3.out, ← HX1.out, ← HX2.out, ← HX3.out, ← HX4.out]; rfl
            rw [e]
            exact (hy3.out.set m0 _).drewN 1
          case measure => rw [HM0.out]; simp [intOf]; omega
        · obtain rfl : n = 48 := by omega
          have hsz : (Tryd.prog.info? 140).map (·.size) = some (wvs (exts b 48)).toArray.size := by
            rw [List.size_toArray, wvs_length, exts_length]; kernel_rfl
          go_wp2_with (first
            | (refine wpList_load_row rfl 140 (.tmp 3) rfl (w.heap.size + 1 + 1) rfl 140 (wvs (exts b 48)).toArray (0, 0) _ hx.out.wo Tryd.underlying140 rfl hsz ?_)
            | (refine wpList_store_row rfl 140 (.tmp 2) (.tmp 88) rfl (w.heap.size + 1) (wvs (exts b 48)).toArray rfl rfl 140 (wvs z64).toArray hx.out.re hsz (by rw [List.size_toArray, List.size_toArray, wvs_length, wvs_length, exts_length]; rfl) (wvs_one _) ?_))
          refine bodyPost_ret (v := .agg (wvs (sched b)).toArray) ?_ rfl ⟨rfl, below_setRow hx.out.be _ _ (by omega)⟩
          exact results_cell_row Tryd.results73 _ _ (w.heap.size + 1) 140 _ (0, 0) _ rfl (hx.out.re.setRow _) Tryd.underlying140 rfl hsz
end Go.Proofs.YtiefgmgjlhjjhaaDoor
