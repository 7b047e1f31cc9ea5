import Derived.Test.YtiefgmgjlhjjhaaDoorSched
namespace Go.Proofs.YtiefgmgjlhjjhaaDoor
open Go.RowKit

/-- The constants of the 64 rounds. -/
def Kn : List Nat := [1116352408, 1899447441, 3049323471, 3921009573, 961987163, 1508970993, 2453635748, 2870763221, 3624381080, 310598401, 607225278, 1426881987, 1925078388, 2162078206, 2614888103, 3248222580, 3835390401, 4022224774, 264347078, 604807628, 770255983, 1249150122, 1555081692, 1996064986, 2554220882, 2821834349, 2952996808, 3210313671, 3336571891, 3584528711, 113926993, 338241895, 666307205, 773529912, 1294757372, 1396182291, 1695183700, 1986661051, 2177026350, 2456956037, 2730485921, 2820302411, 3259730800, 3345764771, 3516065817, 3600352804, 4094571909, 275423344, 430227734, 506948616, 659060556, 883997877, 958139571, 1322822218, 1537002063, 1747873779, 1955562222, 2024104815, 2227730452, 2361852424, 2428436474, 2756734187, 3204031479, 3329325298]
def kw (t : Nat) : BitVec 32 := BitVec.ofNat 32 (Kn.getD t 0)

/-- The world holds the constants. -/
def Kst (w : World) : Prop := ∀ t, t < 64 → w.cell? ⟨0, t, none⟩ = some (.int .u32 (wn (kw t)))

theorem Kst.lt {w : World} (h : Kst w) : 0 < w.heap.size := cell_lt (h 0 (by omega))
theorem Kst.below {w w' : World} {n : Nat} (h : Kst w) (hb : Below n w w') (hn : 0 < n) : Kst w' := fun t ht => (hb.cell (p := ⟨0, t, none⟩) hn).trans (h t ht)
theorem Kst.drewN {w : World} (h : Kst w) (n : Nat) : Kst (w.drewN n) := h.below (below_drewN (Below.refl w.heap.size w) n) h.lt

structure S8 where
  a : BitVec 32
  b : BitVec 32
  c : BitVec 32
  d : BitVec 32
  e : BitVec 32
  f : BitVec 32
  g : BitVec 32
  h : BitVec 32
def S8.list (s : S8) : List (BitVec 32) := [s.a, s.b, s.c, s.d, s.e, s.f, s.g, s.h]
def S8.of (l : List (BitVec 32)) : S8 := ⟨l.getD 0 0, l.getD 1 0, l.getD 2 0, l.getD 3 0, l.getD 4 0, l.getD 5 0, l.getD 6 0, l.getD 7 0⟩
def bs1 (e : BitVec 32) : BitVec 32 := rot 6 e ^^^ rot 11 e ^^^ rot 25 e
def bs0 (a : BitVec 32) : BitVec 32 := rot 2 a ^^^ rot 13 a ^^^ rot 22 a
def chs (e f g : BitVec 32) : BitVec 32 := (e &&& f) ^^^ (g &&& ~~~e)
def maj (a b c : BitVec 32) : BitVec 32 := (a &&& b) ^^^ (a &&& c) ^^^ (b &&& c)
def tt1 (s : S8) (k x : BitVec 32) : BitVec 32 := s.h + bs1 s.e + chs s.e s.f s.g + k + x
def tt2 (s : S8) : BitVec 32 := bs0 s.a + maj s.a s.b s.c
def S8.step (s : S8) (k x : BitVec 32) : S8 := ⟨tt1 s k x + tt2 s, s.a, s.b, s.c, s.d + tt1 s k x, s.e, s.f, s.g⟩
def rounds (W : List (BitVec 32)) (s : S8) : Nat → S8
  | 0 => s
  | t + 1 => (rounds W s t).step (kw t) (W.getD t 0)
def addUp (s r : List (BitVec 32)) : Nat → List (BitVec 32)
  | 0 => s
  | n + 1 => (addUp s r n).set n ((addUp s r n).getD n 0 + r.getD n 0)
/-- One block into a state. -/
def comp (s : List (BitVec 32)) (b : List UInt8) : List (BitVec 32) := addUp s (rounds (sched b) (S8.of s) 64).list 8

theorem addUp_length (s r : List (BitVec 32)) : ∀ n, (addUp s r n).length = s.length
  | 0 => rfl
  | n + 1 => by rw [addUp, List.length_set, addUp_length s r n]
theorem comp_length (s : List (BitVec 32)) (b : List UInt8) : (comp s b).length = s.length := addUp_length s _ 8

def z8 : List (BitVec 32) := List.replicate 8 0
theorem zero39 (w : World) : (zeroValue 132).run Tryd.prog w = .ok (.agg (wvs z8).toArray) w := by
  rw [Tryd.zeroValue132]; rfl

theorem info42 (b : List UInt8) (hb : b.length = 64) : (Tryd.prog.info? 134).map (·.size) = some (b.map byt).toArray.size := by
  rw [List.size_toArray, List.length_map, hb]; kernel_rfl
theorem info59 (L : List (BitVec 32)) (hl : L.length = 64) : (Tryd.prog.info? 140).map (·.size) = some (wvs L).toArray.size := by
  rw [List.size_toArray, wvs_length, hl]; kernel_rfl
theorem info39 (L : List (BitVec 32)) (hl : L.length = 8) : (Tryd.prog.info? 132).map (·.size) = some (wvs L).toArray.size := by
  rw [List.size_toArray, wvs_length, hl]; kernel_rfl
theorem sched_length (b : List UInt8) : (sched b).length = 64 := exts_length b 48

theorem run_idx (T n : Nat) (hu : Tryd.prog.underlying T = some (.array n 22)) (L : List (BitVec 32)) (hl : L.length = n) (i : Nat) (hi : i < n) (W : World) :
    (Instr.index T (.agg (wvs L).toArray) (.int .i64 (i : Int))).run Tryd.prog W = .ok (.int .u32 (wn (L.getD i 0))) W := by
  have h1 : (wvs L).toArray[i]? = some (.int .u32 (wn (L.getD i 0))) := by
    rw [List.getElem?_toArray, wvs_at L i (by omega)]
  have h2 : (0 : Int) ≤ (i : Int) ∧ (i : Int) < (n : Int) := by omega
  simp only [Instr.index, asIntOf, Sem.run_bind, Sem.run_pure, Result.andThen_ok, run_underlying hu]
  rw [if_pos h2]
  simp only [Sem.run_bind, Result.andThen_ok, part, Tryd.isAgg22, Tryd.sizeOf22, Int.toNat_natCast, Nat.mul_one, h1]
  simp

/-- The blocks of 'Compress': its state, its result; the words' block g. -/
structure Cmp (w wx : World) (g : Nat) (s W : List (BitVec 32)) : Prop where
  st : Blk wx w.heap.size (wvs s) 132
  re : Blk wx (w.heap.size + 1 + 1) (wvs z8) 132
  wo : Blk wx g (wvs W) 140
  be : Below w.heap.size w wx
  gt : w.heap.size + 1 + 1 < g

theorem Cmp.drewN {w wx : World} {g : Nat} {s W : List (BitVec 32)} (h : Cmp w wx g s W) (n : Nat) : Cmp w (wx.drewN n) g s W :=
  ⟨h.st.drewN n, h.re.drewN n, h.wo.drewN n, below_drewN h.be n, h.gt⟩
theorem Cmp.set {w wx : World} {g : Nat} {s W : List (BitVec 32)} (h : Cmp w wx g s W) (j : Nat) (x : BitVec 32) : Cmp w (wx.setCell ⟨w.heap.size, j, none⟩ (.int .u32 (wn x))) g (s.set j x) W :=
  ⟨by rw [← wvs_set]; exact h.st.set j _, h.re.setOther _ _ _ (by omega), h.wo.setOther _ _ _ (by have := h.gt; omega), h.be.setCell (Nat.le_refl _) _, h.gt⟩
theorem Cmp.word {w wx : World} {g : Nat} {s W : List (BitVec 32)} (h : Cmp w wx g s W) (j : Nat) (hj : j < s.length) : wx.cell? ⟨w.heap.size, j, none⟩ = some (.int .u32 (wn (s.getD j 0))) := by
  rw [h.st.cell, wvs_at s j hj]

set_option maxHeartbeats 2000000 in
set_option maxRecDepth 100000 in
theorem comp_any (s : List (BitVec 32)) (hs : s.length = 8) (b : List UInt8) (hb : b.length = 64) (w : World) (hk : Kst w) :
    Calls Tryd.prog 65 #[.agg (wvs s).toArray, .agg (b.map byt).toArray] w fun e w' => e = .returned (.agg (wvs (comp s b)).toArray) ∧ Below w.heap.size w w' := by
  have HK := hide hk
  clear hk
  have HB := hide hb
  have HS := hide hs
  clear hb hs
  have B1 : Hid (Blk ((w.alloc (.cells (wvs s).toArray 132)).alloc (.cells (b.map byt).toArray 134)) (w.heap.size + 1) (b.map byt) 134) := by
    have := Blk.new (w.alloc (.cells (wvs s).toArray 132)) (b.map byt) 134
    rw [show (w.alloc (.cells (wvs s).toArray 132)).heap.size = w.heap.size + 1 by simp] at this
    exact this
  go_enter Tryd.func65, Tryd.ntmps65
  go_wp2_with (first
    | (refine wpList_boxAt rfl 132 _ rfl (wvs s) rfl w.heap.size rfl ?_)
    | (refine wpList_boxAt rfl 134 _ rfl (b.map byt) rfl (w.heap.size + 1) (by simp) ?_)
    | (refine wpList_newAt rfl 132 rfl (wvs z8) zero39 (w.heap.size + 1 + 1) (by simp) ?_)
    | (refine wpList_load_row rfl 134 (.tmp 3) rfl (w.heap.size + 1) rfl 134 (b.map byt).toArray (0, 0) _ (B1.out.alloc _) Tryd.underlying134 rfl (info42 b HB.out) ?_)
    | (refine wpList_newAt rfl 140 rfl (wvs z64) zero59 w1.heap.size rfl ?_)
    | (refine wpList_store_row rfl 140 (.tmp 5) (.tmp 21) rfl w1.heap.size (wvs (sched b)).toArray rfl rfl 140 (wvs z64).toArray (Blk.new w1 _ _) (info59 _ (sched_length b)) (by rw [List.size_toArray, List.size_toArray, wvs_length, wvs_length, sched_length]; rfl) (wvs_one _) ?_)
    | (go_at_call 73; refine (sched_any b HB.out _).mono ?_; rintro e w1 ⟨rfl, hb1⟩))
  have hC : Hid (Cmp w ((w1.alloc (.cells (wvs z64).toArray 140)).setRow w1.heap.size (wvs (sched b)).toArray) w1.heap.size s (sched b)) := by
    have hsz := hb1.size
    simp only [World.size_alloc] at hsz
    have b0 : Blk (((w.alloc (.cells (wvs s).toArray 132)).alloc (.cells (b.map byt).toArray 134)).alloc (.cells (wvs z8).toArray 132)) w.heap.size (wvs s) 132 := ((Blk.new w _ _).alloc _).alloc _
    have b2 : Blk (((w.alloc (.cells (wvs s).toArray 132)).alloc (.cells (b.map byt).toArray 134)).alloc (.cells (wvs z8).toArray 132)) (w.heap.size + 1 + 1) (wvs z8) 132 := by
      have := Blk.new ((w.alloc (.cells (wvs s).toArray 132)).alloc (.cells (b.map byt).toArray 134)) (wvs z8) 132
      rwa [show ((w.alloc (.cells (wvs s).toArray 132)).alloc (.cells (b.map byt).toArray 134)).heap.size = w.heap.size + 1 + 1 by simp] at this
    refine ⟨((b0.below hb1 (by simp; omega)).alloc _).setRowOther _ _ (by omega), ((b2.below hb1 (by simp)).alloc _).setRowOther _ _ (by omega), (Blk.new w1 _ _).setRow _, below_setRow ?_ _ _ (by omega), by omega⟩
    exact ((((((Below.refl w.heap.size w).alloc (Nat.le_refl _) _).alloc (by simp) _).alloc (by simp; omega) _).trans (hb1.mono (by simp; omega))).alloc (by omega) _)
  have hK : Hid (Kst ((w1.alloc (.cells (wvs z64).toArray 140)).setRow w1.heap.size (wvs (sched b)).toArray)) := HK.out.below hC.out.be HK.out.lt
  generalize w1.heap.size = g at hC hK ⊢
  generalize (w1.alloc (.cells (wvs z64).toArray 140)).setRow g (wvs (sched b)).toArray = wa at hC hK ⊢
  clear hb1
  have hs8 := HS.out
  obtain ⟨s0, hs0⟩ : ∃ s0, s0 = S8.of s := ⟨_, rfl⟩
  have c0 : wa.cell? ⟨w.heap.size, 0, none⟩ = some (.int .u32 (wn s0.a)) := by rw [hs0]; exact hC.out.word 0 (by omega)
  have c1 : wa.cell? ⟨w.heap.size, 1, none⟩ = some (.int .u32 (wn s0.b)) := by rw [hs0]; exact hC.out.word 1 (by omega)
  have c2 : wa.cell? ⟨w.heap.size, 2, none⟩ = some (.int .u32 (wn s0.c)) := by rw [hs0]; exact hC.out.word 2 (by omega)
  have c3 : wa.cell? ⟨w.heap.size, 3, none⟩ = some (.int .u32 (wn s0.d)) := by rw [hs0]; exact hC.out.word 3 (by omega)
  have H0 := hide hs0
  clear hs0 hs8
  go_quiet (fail)
  go_wp2
  have hC2 : Hid (Cmp w (wa.drewN nq) g s (sched b)) := hC.out.drewN nq
  have hK2 : Hid (Kst (wa.drewN nq)) := hK.out.drewN nq
  generalize wa.drewN nq = wb at hC2 hK2 ⊢
  clear hC hK c0 c1 c2 c3
  have c4 : wb.cell? ⟨w.heap.size, 4, none⟩ = some (.int .u32 (wn s0.e)) := by rw [H0.out]; exact hC2.out.word 4 (by rw [HS.out]; decide)
  have c5 : wb.cell? ⟨w.heap.size, 5, none⟩ = some (.int .u32 (wn s0.f)) := by rw [H0.out]; exact hC2.out.word 5 (by rw [HS.out]; decide)
  have c6 : wb.cell? ⟨w.heap.size, 6, none⟩ = some (.int .u32 (wn s0.g)) := by rw [H0.out]; exact hC2.out.word 6 (by rw [HS.out]; decide)
  have c7 : wb.cell? ⟨w.heap.size, 7, none⟩ = some (.int .u32 (wn s0.h)) := by rw [H0.out]; exact hC2.out.word 7 (by rw [HS.out]; decide)
  go_quiet (fail)
  have hC : Hid (Cmp w (wb.drewN nq) g s (sched b)) := hC2.out.drewN nq
  have hK : Hid (Kst (wb.drewN nq)) := hK2.out.drewN nq
  generalize wb.drewN nq = wc at hC hK ⊢
  clear hC2 hK2 c4 c5 c6 c7
  go_wp2_with (refine wpList_load_row rfl 140 (.tmp 5) rfl g rfl 140 (wvs (sched b)).toArray (0, 0) _ hC.out.wo Tryd.underlying140 rfl (info59 _ (sched_length b)) ?_)
  go_loopw [6, 7, 8, 9, 10, 11, 12, 13, 39] (fun ra rb rc rd re rf rg rh i wr => ∃ t : Nat, t ≤ 64 ∧ i = .int .i64 t ∧ ∃ S, Hid (S = rounds (sched b) s0 t) ∧ ra = .int .u32 (wn S.a) ∧ rb = .int .u32 (wn S.b) ∧ rc = .int .u32 (wn S.c) ∧ rd = .int .u32 (wn S.d) ∧ re = .int .u32 (wn S.e) ∧ rf = .int .u32 (wn S.f) ∧ rg = .int .u32 (wn S.g) ∧ rh = .int .u32 (wn S.h) ∧ Hid (Cmp w wr g s (sched b)) ∧ Hid (Kst wr)) (fun _ _ _ _ _ _ _ _ i _ => 64 - (intOf i).toNat)
  case atStart => exact ⟨0, by omega, rfl, s0, hide rfl, rfl, rfl, rfl, rfl, rfl, rfl, rfl, rfl, hC, hK⟩
  case round =>
    obtain ⟨t, ht, rfl, S, HR, rfl, rfl, rfl, rfl, rfl, rfl, rfl, rfl, hx, hkx⟩ := hrel
    by_cases hlt : t < 64
    · have hlz : (t : Int) < 64 := by omega
      have hck := hkx.out t hlt
      have hidx := fun W => run_idx 140 64 Tryd.underlying140 (sched b) (sched_length b) t hlt W
      obtain ⟨k, hk⟩ : ∃ k, k = kw t := ⟨_, rfl⟩
      obtain ⟨x, hX⟩ : ∃ x, x = (sched b).getD t 0 := ⟨_, rfl⟩
      rw [← hk] at hck
      rw [← hX] at hidx
      have Hk := hide hk
      have HX := hide hX
      clear hk hX
      have e1 := wxor
      have e2 := wadd
      have e3 := wand
      have e4 := wandn
      go_wp2
      go_quiet ((go_at_call 74; exact Calls.quiet_of_same (right_all _ _ (by decide) (by decide) _)))
      have hx2 : Hid (Cmp w (wr.drewN nq) g s (sched b)) := hx.out.drewN nq
      have hk2 : Hid (Kst (wr.drewN nq)) := hkx.out.drewN nq
      generalize wr.drewN nq = wd at hx2 hk2 ⊢
      clear hx hkx hck
      go_wp2_with (go_at_call 74; refine (right_all _ _ (by decide) (by decide) _).mono ?_; rintro e w' ⟨rfl, rfl⟩)
      go_roundw
      case rel =>
        refine ⟨t + 1, by omega, by go_num, S.step k x, ?_, rfl, rfl, rfl, rfl, rfl, rfl, rfl, rfl, hx2, hk2⟩
        rw [rounds, ← HR.out, ← Hk.out, ← HX.out]
        exact hide rfl
      case measure => simp [intOf]; omega
    · obtain rfl : t = 64 := by omega
      have HS8 := HS
      go_wp2
      go_loopw [109] (fun i wr => ∃ n : Nat, n ≤ 8 ∧ i = .int .i64 n ∧ Hid (Cmp w wr g (addUp s S.list n) (sched b))) (fun i _ => 8 - (intOf i).toNat)
      case atStart => exact ⟨0, by omega, rfl, hx⟩
      case round =>
        obtain ⟨n, hn, rfl, hy⟩ := hrel
        have hlen := hide ((addUp_length s S.list n).trans HS.out)
        by_cases hnl : n < 8
        · have hnz : (n : Int) < 8 := by omega
          have hidx : ∀ W, (Instr.index 132 (.agg #[.int .u32 (wn S.a), .int .u32 (wn S.b), .int .u32 (wn S.c), .int .u32 (wn S.d), .int .u32 (wn S.e), .int .u32 (wn S.f), .int .u32 (wn S.g), .int .u32 (wn S.h)]) (.int .i64 (n : Int))).run Tryd.prog W = .ok (.int .u32 (wn (S.list.getD n 0))) W :=
            fun W => run_idx 132 8 Tryd.underlying132 S.list rfl n hnl W
          have hc := hy.out.word n (by rw [hlen.out]; exact hnl)
          have hfz := hy.out.st.frozen n
          obtain ⟨L, hL⟩ : ∃ L, L = addUp s S.list n := ⟨_, rfl⟩
          rw [← hL] at hy hc
          obtain ⟨x, hX⟩ : ∃ x, x = S.list.getD n 0 := ⟨_, rfl⟩
          obtain ⟨y, hY⟩ : ∃ y, y = L.getD n 0 := ⟨_, rfl⟩
          rw [← hX] at hidx
          rw [← hY] at hc
          have HL := hide hL
          have HX := hide hX
          have HY := hide hY
          clear hL hX hY
          have e2 := wadd y x
          go_wp2
          go_roundw
          case rel =>
            refine ⟨n + 1, by omega, by go_num, ?_⟩
            rw [addUp, ← HL.out, ← HX.out, ← HY.out]
            exact hy.out.set n _
          case measure => simp [intOf]; omega
        · obtain rfl : n = 8 := by omega
          have hcs : addUp s S.list 8 = comp s b := by rw [HR.out, H0.out]; rfl
          rw [hcs] at hy
          have hl8 := (comp_length s b).trans HS.out
          have hsz := info39 (comp s b) hl8
          go_wp2_with (first
            | (refine wpList_load_row rfl 132 (.tmp 2) rfl w.heap.size rfl 132 (wvs (comp s b)).toArray (0, 0) _ hy.out.st Tryd.underlying132 rfl hsz ?_)
            | (refine wpList_store_row rfl 132 (.tmp 4) (.tmp 120) rfl (w.heap.size + 1 + 1) (wvs (comp s b)).toArray rfl rfl 132 (wvs z8).toArray hy.out.re hsz (by rw [List.size_toArray, List.size_toArray, wvs_length, wvs_length, hl8]; rfl) (wvs_one _) ?_))
          refine bodyPost_ret (v := .agg (wvs (comp s b)).toArray) ?_ rfl ⟨rfl, below_setRow hy.out.be _ _ (by omega)⟩
          exact results_cell_row Tryd.results65 _ _ (w.heap.size + 1 + 1) 132 _ (0, 0) _ rfl (hy.out.re.setRow _) Tryd.underlying132 rfl hsz
end Go.Proofs.YtiefgmgjlhjjhaaDoor
