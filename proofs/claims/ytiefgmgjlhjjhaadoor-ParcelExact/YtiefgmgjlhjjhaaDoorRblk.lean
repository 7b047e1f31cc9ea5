import Derived.Test.YtiefgmgjlhjjhaaDoorRnumG
namespace Go.Proofs.YtiefgmgjlhjjhaaDoor
open Go.RowKit

theorem zero70 (w : World) : (zeroValue 144).run Tryd.prog w = .ok (.agg (uvs z8).toArray) w := by
  rw [Tryd.zeroValue144]; rfl
theorem info68 (L : List (BitVec 32)) (hl : L.length = 64) : (Tryd.prog.info? 145).map (·.size) = some (uvs L).toArray.size := by
  rw [List.size_toArray, uvs_length, hl]; kernel_rfl

/-- The blocks of the document's 'Block'. -/
structure Rbk (w wx : World) (g h : Nat) (s W V : List (BitVec 32)) : Prop where
  st : Blk wx w.heap.size (wvs s) 132
  re : Blk wx (w.heap.size + 1 + 1) (wvs z8) 132
  wo : Blk wx g (uvs W) 145
  va : Blk wx h (uvs V) 144
  be : Below w.heap.size w wx
  gt : w.heap.size + 1 + 1 < g
  ht : g < h
theorem Rbk.drewN {w wx : World} {g h : Nat} {s W V : List (BitVec 32)} (x : Rbk w wx g h s W V) (n : Nat) : Rbk w (wx.drewN n) g h s W V :=
  ⟨x.st.drewN n, x.re.drewN n, x.wo.drewN n, x.va.drewN n, below_drewN x.be n, x.gt, x.ht⟩
theorem Rbk.set {w wx : World} {g h : Nat} {s W V : List (BitVec 32)} (x : Rbk w wx g h s W V) (j : Nat) (y : BitVec 32) : Rbk w (wx.setCell ⟨w.heap.size, j, none⟩ (.int .u32 (wn y))) g h (s.set j y) W V :=
  ⟨by rw [← wvs_set]; exact x.st.set j _, x.re.setOther _ _ _ (by omega), x.wo.setOther _ _ _ (by have := x.gt; omega), x.va.setOther _ _ _ (by have := x.gt; have := x.ht; omega), x.be.setCell (Nat.le_refl _) _, x.gt, x.ht⟩
theorem Rbk.put {w wx : World} {g h : Nat} {s W V : List (BitVec 32)} (x : Rbk w wx g h s W V) (j : Nat) (y : BitVec 32) : Rbk w (wx.setCell ⟨h, j, none⟩ (.int .u64 (wn y))) g h s W (V.set j y) :=
  ⟨x.st.setOther _ _ _ (by have := x.gt; have := x.ht; omega), x.re.setOther _ _ _ (by have := x.gt; have := x.ht; omega), x.wo.setOther _ _ _ (by have := x.ht; omega), by rw [← uvs_set]; exact x.va.set j _, x.be.setCell (by have := x.gt; have := x.ht; show _ ≤ h; omega) _, x.gt, x.ht⟩
theorem Rbk.word {w wx : World} {g h : Nat} {s W V : List (BitVec 32)} (x : Rbk w wx g h s W V) (j : Nat) (hj : j < s.length) : wx.cell? ⟨w.heap.size, j, none⟩ = some (.int .u32 (wn (s.getD j 0))) := by
  rw [x.st.cell, wvs_at s j hj]
theorem Rbk.wd {w wx : World} {g h : Nat} {s W V : List (BitVec 32)} (x : Rbk w wx g h s W V) (j : Nat) (hj : j < W.length) : wx.cell? ⟨g, j, none⟩ = some (.int .u64 (wn (W.getD j 0))) := by
  rw [x.wo.cell, uvs_at W j hj]
theorem Rbk.vd {w wx : World} {g h : Nat} {s W V : List (BitVec 32)} (x : Rbk w wx g h s W V) (j : Nat) (hj : j < V.length) : wx.cell? ⟨h, j, none⟩ = some (.int .u64 (wn (V.getD j 0))) := by
  rw [x.va.cell, uvs_at V j hj]

/-- The state, copied so far. -/
def cps (s : List (BitVec 32)) : Nat → List (BitVec 32)
  | 0 => z8
  | n + 1 => (cps s n).set n (s.getD n 0)
theorem cps_length (s : List (BitVec 32)) : ∀ n, (cps s n).length = 8
  | 0 => by rw [cps, z8, List.length_replicate]
  | n + 1 => by rw [cps, List.length_set, cps_length s n]
theorem cps8 (s : List (BitVec 32)) : cps s 8 = (S8.of s).list := rfl
/-- The words, moved up so far. -/
def mvs (V : List (BitVec 32)) : Nat → List (BitVec 32)
  | 0 => V
  | k + 1 => (mvs V k).set (7 - k) ((mvs V k).getD (6 - k) 0)
theorem mvs_length (V : List (BitVec 32)) : ∀ n, (mvs V n).length = V.length
  | 0 => rfl
  | n + 1 => by rw [mvs, List.length_set, mvs_length V n]
theorem mvs7 (S : S8) : mvs S.list 7 = [S.a, S.a, S.b, S.c, S.d, S.e, S.f, S.g] := rfl

theorem uwrap (x : BitVec 32) : IntKind.u64.wrap (wn x) = wn x := by
  have h0 := wn_nonneg x
  have h1 := wn_lt x
  rw [IntKind.wrap_u64]
  omega
theorem ut2 (a b : BitVec 32) : (IntKind.u64.wrap (wn a + wn b)) % 4294967296 = wn (a + b) ∧ 0 ≤ IntKind.u64.wrap (wn a + wn b) ∧ IntKind.u64.wrap (wn a + wn b) < 8589934592 := by
  have ha := wn_lt a
  have hb := wn_lt b
  have ha' := wn_nonneg a
  have hb' := wn_nonneg b
  rw [← uadd2, IntKind.wrap_u64]
  omega
theorem ue (d : BitVec 32) (t : Int) (x : BitVec 32) (q1 : t % 4294967296 = wn x) (_q2 : 0 ≤ t) (_q3 : t < 21474836480) : (IntKind.u64.wrap (wn d + t)).tmod 4294967296 = wn (d + x) := by
  have ha := wn_lt d
  have ha' := wn_nonneg d
  rw [← round_e d t x q1, IntKind.wrap_u64, Int.tmod_eq_emod_of_nonneg (by omega)]
  omega
theorem ua (t u : Int) (x y : BitVec 32) (q1 : t % 4294967296 = wn x) (_q2 : 0 ≤ t) (_q3 : t < 21474836480) (p1 : u % 4294967296 = wn y) (_p2 : 0 ≤ u) (_p3 : u < 8589934592) : (IntKind.u64.wrap (t + u)).tmod 4294967296 = wn (x + y) := by
  rw [← round_a t u x y q1 p1, IntKind.wrap_u64, Int.tmod_eq_emod_of_nonneg (by omega)]
  omega
theorem ut1 (a b c d e : BitVec 32) : (IntKind.u64.wrap (IntKind.u64.wrap (IntKind.u64.wrap (IntKind.u64.wrap (wn a + wn b) + wn c) + wn d) + wn e)) % 4294967296 = wn (a + b + c + d + e) ∧ 0 ≤ IntKind.u64.wrap (IntKind.u64.wrap (IntKind.u64.wrap (IntKind.u64.wrap (wn a + wn b) + wn c) + wn d) + wn e) ∧ IntKind.u64.wrap (IntKind.u64.wrap (IntKind.u64.wrap (IntKind.u64.wrap (wn a + wn b) + wn c) + wn d) + wn e) < 21474836480 := by
  have ha := wn_lt a
  have hb := wn_lt b
  have hc := wn_lt c
  have hd := wn_lt d
  have he := wn_lt e
  have ha' := wn_nonneg a
  have hb' := wn_nonneg b
  have hc' := wn_nonneg c
  have hd' := wn_nonneg d
  have he' := wn_nonneg e
  rw [← uadd5, IntKind.wrap_u64, IntKind.wrap_u64, IntKind.wrap_u64, IntKind.wrap_u64]
  omega

set_option maxHeartbeats 800000 in
set_option maxRecDepth 100000 in
theorem rblock_any (s : List (BitVec 32)) (hs : s.length = 8) (b : List UInt8) (hb : b.length = 64) (w : World) (hk : Rst w) :
    Calls Tryd.prog 70 #[.agg (wvs s).toArray, .agg (b.map byt).toArray] w fun e w' => e = .returned (.agg (wvs (comp s b)).toArray) ∧ Below w.heap.size w w' := by
  have HK := hide hk
  clear hk
  have HB := hide hb
  have HS := hide hs
  clear hb hs
  have B1 : Hid (Blk ((w.alloc (.cells (wvs s).toArray 132)).alloc (.cells (b.map byt).toArray 134)) (w.heap.size + 1) (b.map byt) 134) := by
    have := Blk.new (w.alloc (.cells (wvs s).toArray 132)) (b.map byt) 134
    rw [show (w.alloc (.cells (wvs s).toArray 132)).heap.size = w.heap.size + 1 by simp] at this
    exact this
  go_enter Tryd.func70, Tryd.ntmps70
  go_wp2_with (first
    | (refine wpList_boxAt rfl 132 _ rfl (wvs s) rfl w.heap.size rfl ?_)
    | (refine wpList_boxAt rfl 134 _ rfl (b.map byt) rfl (w.heap.size + 1) (by simp) ?_)
    | (refine wpList_newAt rfl 132 rfl (wvs z8) zero39 (w.heap.size + 1 + 1) (by simp) ?_)
    | (refine wpList_load_row rfl 134 (.tmp 3) rfl (w.heap.size + 1) rfl 134 (b.map byt).toArray (0, 0) _ (B1.out.alloc _) Tryd.underlying134 rfl (info42 b HB.out) ?_)
    | (refine wpList_newAt rfl 145 rfl (uvs z64) zero68 w1.heap.size rfl ?_)
    | (refine wpList_newAt rfl 144 rfl (uvs z8) zero70 (w1.heap.size + 1) (by simp) ?_)
    | (refine wpList_store_row rfl 145 (.tmp 5) (.tmp 20) rfl w1.heap.size (uvs (sched b)).toArray rfl rfl 145 (uvs z64).toArray (Blk.new w1 _ _) (info68 _ (sched_length b)) (by rw [List.size_toArray, List.size_toArray, uvs_length, uvs_length, sched_length]; rfl) (uvs_one _) ?_)
    | (go_at_call 75; refine (rsched_any b HB.out _).mono ?_; rintro e w1 ⟨rfl, hb1⟩))
  have hC : Hid (Rbk w (((w1.alloc (.cells (uvs z64).toArray 145)).setRow w1.heap.size (uvs (sched b)).toArray).alloc (.cells (uvs z8).toArray 144)) w1.heap.size (w1.heap.size + 1) s (sched b) (cps s 0)) := by
    have hsz := hb1.size
    simp only [World.size_alloc] at hsz
    have b0 : Blk (((w.alloc (.cells (wvs s).toArray 132)).alloc (.cells (b.map byt).toArray 134)).alloc (.cells (wvs z8).toArray 132)) w.heap.size (wvs s) 132 := ((Blk.new w _ _).alloc _).alloc _
    have b2 : Blk (((w.alloc (.cells (wvs s).toArray 132)).alloc (.cells (b.map byt).toArray 134)).alloc (.cells (wvs z8).toArray 132)) (w.heap.size + 1 + 1) (wvs z8) 132 := by
      have := Blk.new ((w.alloc (.cells (wvs s).toArray 132)).alloc (.cells (b.map byt).toArray 134)) (wvs z8) 132
      rwa [show ((w.alloc (.cells (wvs s).toArray 132)).alloc (.cells (b.map byt).toArray 134)).heap.size = w.heap.size + 1 + 1 by simp] at this
    have b3 := Blk.new ((w1.alloc (.cells (uvs z64).toArray 145)).setRow w1.heap.size (uvs (sched b)).toArray) (uvs z8) 144
    rw [show ((w1.alloc (.cells (uvs z64).toArray 145)).setRow w1.heap.size (uvs (sched b)).toArray).heap.size = w1.heap.size + 1 by simp] at b3
    refine ⟨(((b0.below hb1 (by simp; omega)).alloc _).setRowOther _ _ (by omega)).alloc _, (((b2.below hb1 (by simp)).alloc _).setRowOther _ _ (by omega)).alloc _, ((Blk.new w1 _ _).setRow _).alloc _, b3, (below_setRow ?_ _ _ (by omega)).alloc (by simp; omega) _, by omega, by omega⟩
    exact ((((((Below.refl w.heap.size w).alloc (Nat.le_refl _) _).alloc (by simp) _).alloc (by simp; omega) _).trans (hb1.mono (by simp; omega))).alloc (by omega) _)
  have hK : Hid (Rst (((w1.alloc (.cells (uvs z64).toArray 145)).setRow w1.heap.size (uvs (sched b)).toArray).alloc (.cells (uvs z8).toArray 144))) := HK.out.below hC.out.be HK.out.lt
  generalize ((w1.alloc (.cells (uvs z64).toArray 145)).setRow w1.heap.size (uvs (sched b)).toArray).alloc (.cells (uvs z8).toArray 144) = wa at hC hK ⊢
  generalize w1.heap.size + 1 = h at hC hK ⊢
  generalize w1.heap.size = g at hC hK ⊢
  clear hb1
  go_loopw [7] (fun i wr => ∃ n : Nat, n ≤ 8 ∧ i = .int .i64 n ∧ Hid (Rbk w wr g h s (sched b) (cps s n)) ∧ Hid (Rst wr)) (fun i _ => 8 - (intOf i).toNat)
  case atStart => exact ⟨0, by omega, rfl, hC, hK⟩
  case round =>
    obtain ⟨n, hn, rfl, hx, hkx⟩ := hrel
    by_cases hnl : n < 8
    · have hnz : (n : Int) < 8 := by omega
      have hc := hx.out.word n (by rw [HS.out]; exact hnl)
      have hc2 := hx.out.vd n (by rw [cps_length]; exact hnl)
      have hfz := hx.out.va.frozen n
      obtain ⟨L, hL⟩ : ∃ L, L = cps s n := ⟨_, rfl⟩
      rw [← hL] at hx hc2
      obtain ⟨y, hY⟩ : ∃ y, y = s.getD n 0 := ⟨_, rfl⟩
      rw [← hY] at hc
      have h0 := wn_nonneg y
      have h1 := wn_lt y
      have HL := hide hL
      have HY := hide hY
      clear hL hY
      go_wp2
      go_roundw
      case rel =>
        refine ⟨n + 1, by omega, by go_num, ?_, ?_⟩
        · rw [cps, ← HL.out, ← HY.out]
          exact hx.out.put n _
        · have := hx.out.gt
          have := hx.out.ht
          have := HK.out.lt
          exact hkx.out.below ((Below.refl h wr).setCell (Nat.le_refl _) _) (by omega)
      case measure => simp [intOf]; omega
    · obtain rfl : n = 8 := by omega
      rw [cps8] at hx
      obtain ⟨s0, hs0⟩ : ∃ s0, s0 = S8.of s := ⟨_, rfl⟩
      rw [← hs0] at hx
      have H0 := hide hs0
      clear hs0
      go_wp2
      go_loopw [8] (fun i wr => ∃ t : Nat, t ≤ 64 ∧ i = .int .i64 t ∧ ∃ S, Hid (S = rounds (sched b) s0 t) ∧ Hid (Rbk w wr g h s (sched b) (S8.list S)) ∧ Hid (Rst wr)) (fun i _ => 64 - (intOf i).toNat)
      case atStart => exact ⟨0, by omega, rfl, s0, hide rfl, hx, hkx⟩
      case round =>
        obtain ⟨t, ht, rfl, S, HR, hx, hkx⟩ := hrel
        by_cases hlt : t < 64
        · have hlz : (t : Int) < 64 := by omega
          have hck := hkx.out t hlt
          have hcx := hx.out.wd t (by rw [sched_length]; exact hlt)
          have c0 : wr.cell? ⟨h, 0, none⟩ = some (.int .u64 (wn S.a)) := hx.out.vd 0 (show 0 < 8 by decide)
          have c1 : wr.cell? ⟨h, 1, none⟩ = some (.int .u64 (wn S.b)) := hx.out.vd 1 (show 1 < 8 by decide)
          have c2 : wr.cell? ⟨h, 2, none⟩ = some (.int .u64 (wn S.c)) := hx.out.vd 2 (show 2 < 8 by decide)
          have c3 : wr.cell? ⟨h, 3, none⟩ = some (.int .u64 (wn S.d)) := hx.out.vd 3 (show 3 < 8 by decide)
          have c4 : wr.cell? ⟨h, 4, none⟩ = some (.int .u64 (wn S.e)) := hx.out.vd 4 (show 4 < 8 by decide)
          have c5 : wr.cell? ⟨h, 5, none⟩ = some (.int .u64 (wn S.f)) := hx.out.vd 5 (show 5 < 8 by decide)
          have c6 : wr.cell? ⟨h, 6, none⟩ = some (.int .u64 (wn S.g)) := hx.out.vd 6 (show 6 < 8 by decide)
          have c7 : wr.cell? ⟨h, 7, none⟩ = some (.int .u64 (wn S.h)) := hx.out.vd 7 (show 7 < 8 by decide)
          obtain ⟨k, hk⟩ : ∃ k, k = kw t := ⟨_, rfl⟩
          obtain ⟨x, hX⟩ : ∃ x, x = (sched b).getD t 0 := ⟨_, rfl⟩
          rw [← hk] at hck
          rw [← hX] at hcx
          have Hk := hide hk
          have HX := hide hX
          clear hk hX
          have e1 := uxor
          have e3 := uand
          have e4 := unot
          have e6 := uwrap
          go_wp2
          go_quiet (fail)
          have hx2 : Hid (Rbk w (wr.drewN nq) g h s (sched b) (S8.list S)) := hx.out.drewN nq
          have hk2 : Hid (Rst (wr.drewN nq)) := hkx.out.drewN nq
          have d1 : (wr.drewN nq).cell? ⟨h, 1, none⟩ = some (.int .u64 (wn S.b)) := by simpa using c1
          have d2 : (wr.drewN nq).cell? ⟨h, 2, none⟩ = some (.int .u64 (wn S.c)) := by simpa using c2
          have d5 : (wr.drewN nq).cell? ⟨h, 5, none⟩ = some (.int .u64 (wn S.f)) := by simpa using c5
          have d6 : (wr.drewN nq).cell? ⟨h, 6, none⟩ = some (.int .u64 (wn S.g)) := by simpa using c6
          have d7 : (wr.drewN nq).cell? ⟨h, 7, none⟩ = some (.int .u64 (wn S.h)) := by simpa using c7
          have dk : (wr.drewN nq).cell? ⟨2, t, none⟩ = some (.int .u64 (wn k)) := by simpa using hck
          have dx : (wr.drewN nq).cell? ⟨g, t, none⟩ = some (.int .u64 (wn x)) := by simpa using hcx
          generalize wr.drewN nq = wd at hx2 hk2 d1 d2 d5 d6 d7 dk dx ⊢
          clear c0 c1 c2 c3 c4 c5 c6 c7 hck hcx hx hkx
          have he0 := wn_nonneg S.e
          have he1 := wn_lt S.e
          go_wp2_with (go_at_call 76; refine (turn_all _ _ (by decide) (by decide) _).mono ?_; rintro e w' ⟨rfl, rfl⟩)
          go_quiet (fail)
          have hx3 : Hid (Rbk w (w'.drewN nq) g h s (sched b) (mvs (S8.list S) 0)) := hx2.out.drewN nq
          have hk3 : Hid (Rst (w'.drewN nq)) := hk2.out.drewN nq
          generalize w'.drewN nq = we at hx3 hk3 ⊢
          clear d1 d2 d5 d6 d7 dk dx hx2 hk2
          go_wp2
          obtain ⟨q1, q2, q3⟩ := ut1 S.h (rot 6 S.e ^^^ rot 11 S.e ^^^ rot 25 S.e) (S.e &&& S.f ^^^ ~~~S.e &&& S.g) k x
          obtain ⟨p1, p2, p3⟩ := ut2 (rot 2 S.a ^^^ rot 13 S.a ^^^ rot 22 S.a) (S.a &&& S.b ^^^ S.a &&& S.c ^^^ S.b &&& S.c)
          generalize IntKind.u64.wrap (IntKind.u64.wrap (IntKind.u64.wrap (IntKind.u64.wrap (wn S.h + wn (rot 6 S.e ^^^ rot 11 S.e ^^^ rot 25 S.e)) + wn (S.e &&& S.f ^^^ ~~~S.e &&& S.g)) + wn k) + wn x) = T1 at q1 q2 q3 ⊢
          generalize IntKind.u64.wrap (wn (rot 2 S.a ^^^ rot 13 S.a ^^^ rot 22 S.a) + wn (S.a &&& S.b ^^^ S.a &&& S.c ^^^ S.b &&& S.c)) = T2 at p1 p2 p3 ⊢
          go_loopw [17] (fun i wr => ∃ m : Nat, m ≤ 7 ∧ i = .int .i64 (7 - m : Nat) ∧ Hid (Rbk w wr g h s (sched b) (mvs (S8.list S) m)) ∧ Hid (Rst wr)) (fun i _ => (intOf i).toNat)
          case atStart => exact ⟨0, by omega, rfl, hx3, hk3⟩
          case round =>
            obtain ⟨m, hm, rfl, hy, hky⟩ := hrel
            by_cases hml : m < 7
            · obtain ⟨j, hj⟩ : ∃ j, 7 - m = j + 1 := ⟨6 - m, by omega⟩
              have hj6 : 6 - m = j := by omega
              have hl8 : (mvs (S8.list S) m).length = 8 := mvs_length _ m
              have hme : mvs (S8.list S) (m + 1) = (mvs (S8.list S) m).set (7 - m) ((mvs (S8.list S) m).getD (6 - m) 0) := rfl
              have hjm : ((7 - (m + 1) : Nat) : Int) = (j : Int) := by omega
              rw [hj, hj6] at hme
              rw [hj]
              have hc := hy.out.vd j (by rw [hl8]; omega)
              have hc2 := hy.out.vd (j + 1) (by rw [hl8]; omega)
              have hfz := hy.out.va.frozen (j + 1)
              have hz : (0 : Int) < (j : Int) + 1 := by omega
              have b7 : (j : Int) + 1 < 8 := by omega
              have b6 : (j : Int) < 8 := by omega
              have n7 : j + 1 < 8 := by omega
              have hm7 : Hid (m < 7) := hide hml
              have hjj : Hid (7 - m = j + 1) := hide hj
              have HME := hide hme
              have HJ := hide hjm
              obtain ⟨y, hY⟩ : ∃ y, y = (mvs (S8.list S) m).getD j 0 := ⟨_, rfl⟩
              obtain ⟨y2, hY2⟩ : ∃ y, y = (mvs (S8.list S) m).getD (j + 1) 0 := ⟨_, rfl⟩
              rw [← hY] at hc HME
              rw [← hY2] at hc2
              clear hme hl8 hjm hj hj6 hY hY2 hml hm
              go_wp2
              go_roundw
              case rel =>
                refine ⟨m + 1, by have := hm7.out; omega, by rw [HJ.out], ?_, ?_⟩
                · rw [HME.out]
                  exact hide (hy.out.put (j + 1) _)
                · have := hy.out.gt
                  have := hy.out.ht
                  have := HK.out.lt
                  exact hky.out.below ((Below.refl h wr).setCell (Nat.le_refl h) _) (by omega)
              case measure => simp [intOf]
            · obtain rfl : m = 7 := by omega
              rw [mvs7] at hy
              have c4 : wr.cell? ⟨h, 4, none⟩ = some (.int .u64 (wn S.d)) := hy.out.vd 4 (show 4 < 8 by decide)
              have c0 : wr.cell? ⟨h, 0, none⟩ = some (.int .u64 (wn S.a)) := hy.out.vd 0 (show 0 < 8 by decide)
              have f4 := hy.out.va.frozen 4
              have f0 := hy.out.va.frozen 0
              have hA := ue S.d T1 _ q1 q2 q3
              have hB := ua T1 T2 _ _ q1 q2 q3 p1 p2 p3
              go_wp2
              go_roundw
              case rel =>
                (repeat apply Exists.intro)
                refine ⟨⟨t + 1, by omega, by go_num, S.step k x, ?_, ?_, ?_⟩, rfl⟩
                · rw [rounds, ← HR.out, ← Hk.out, ← HX.out]
                  exact hide rfl
                · rw [round_a T1 T2 _ _ q1 p1, uchs]
                  exact hide ((hy.out.put 4 _).put 0 _)
                · have := hy.out.gt
                  have := hy.out.ht
                  have := HK.out.lt
                  exact hky.out.below (((Below.refl h wr).setCell (Nat.le_refl h) _).setCell (Nat.le_refl h) _) (by omega)
              case measure => simp [intOf]; omega
        · obtain rfl : t = 64 := by omega
          have e6 := uwrap
          go_wp2
          rw [show S8.list S = S.list from rfl] at hx
          have hx0 : Hid (Rbk w wr g h (addUp s S.list 0) (sched b) S.list) := hx
          clear hx
          go_loopw [18] (fun i wx => ∃ n : Nat, n ≤ 8 ∧ i = .int .i64 n ∧ Hid (Rbk w wx g h (addUp s S.list n) (sched b) S.list)) (fun i _ => 8 - (intOf i).toNat)
          case atStart => exact ⟨0, by omega, rfl, hx0⟩
          case round =>
            obtain ⟨n, hn, rfl, hy⟩ := hrel
            have hlen := hide ((addUp_length s S.list n).trans HS.out)
            by_cases hnl : n < 8
            · have hnz : (n : Int) < 8 := by omega
              have hc := hy.out.word n (by rw [hlen.out]; exact hnl)
              have hv := hy.out.vd n (show n < 8 from hnl)
              have hfz := hy.out.st.frozen n
              obtain ⟨L, hL⟩ : ∃ L, L = addUp s S.list n := ⟨_, rfl⟩
              rw [← hL] at hy hc
              obtain ⟨x, hX⟩ : ∃ x, x = S.list.getD n 0 := ⟨_, rfl⟩
              obtain ⟨y, hY⟩ : ∃ y, y = L.getD n 0 := ⟨_, rfl⟩
              rw [← hX] at hv
              rw [← hY] at hc
              have HL := hide hL
              have HX := hide hX
              have HY := hide hY
              clear hL hX hY
              have e2 := uadd2 y x
              have y0 := wn_nonneg y
              have y1 := wn_lt y
              have x0 := wn_nonneg x
              have x1 := wn_lt x
              have e7 := wmod (y + x)
              go_wp2
              go_big_region
              go_wp2
              go_roundw
              case rel =>
                refine ⟨n + 1, by omega, by go_num, ?_⟩
                rw [addUp, ← HL.out, ← HX.out, ← HY.out]
                exact hide ((hy.out.set n _).drewN 1)
              case measure => simp [intOf]; omega
            · obtain rfl : n = 8 := by omega
              have hcs : addUp s S.list 8 = comp s b := by rw [HR.out, H0.out]; rfl
              rw [hcs] at hy
              have hl8 := (comp_length s b).trans HS.out
              have hsz := info39 (comp s b) hl8
              go_wp2_with (first
                | (refine wpList_load_row rfl 132 (.tmp 2) rfl w.heap.size rfl 132 (wvs (comp s b)).toArray (0, 0) _ hy.out.st Tryd.underlying132 rfl hsz ?_)
                | (refine wpList_store_row rfl 132 (.tmp 4) (.tmp 134) rfl (w.heap.size + 1 + 1) (wvs (comp s b)).toArray rfl rfl 132 (wvs z8).toArray hy.out.re hsz (by rw [List.size_toArray, List.size_toArray, wvs_length, wvs_length, hl8]; rfl) (wvs_one _) ?_))
              refine bodyPost_ret (v := .agg (wvs (comp s b)).toArray) ?_ rfl ⟨rfl, below_setRow hy.out.be _ _ (by omega)⟩
              exact results_cell_row Tryd.results70 _ _ (w.heap.size + 1 + 1) 132 _ (0, 0) _ rfl (hy.out.re.setRow _) Tryd.underlying132 rfl hsz
end Go.Proofs.YtiefgmgjlhjjhaaDoor
