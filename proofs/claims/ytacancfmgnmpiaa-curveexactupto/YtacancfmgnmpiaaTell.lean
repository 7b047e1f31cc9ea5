import Derived.Test.YtacancfmgnmpiaaRd2G
set_option linter.unusedVariables false
set_option linter.unusedSimpArgs false
namespace Go.Proofs.Ytacancfmgnmpiaa
open Go.RowKit

/-- Does the number, with 19 more, reach 2^255? -/
def ov (l : List (BitVec 64)) : Nat → BitVec 64
  | 0 => 19#64
  | t + 1 => (l.getD t 0 + ov l t) >>> 51
def rcC (l : List (BitVec 64)) : Nat → BitVec 64
  | 0 => 19#64 * ov l 5
  | t + 1 => (l.getD t 0 + rcC l t) >>> 51
def rcL (l : List (BitVec 64)) : Nat → List (BitVec 64)
  | 0 => l
  | t + 1 => (rcL l t).set t ((l.getD t 0 + rcC l t) &&& mk51)
theorem rcL_length (l : List (BitVec 64)) : ∀ t, (rcL l t).length = l.length
  | 0 => rfl
  | t + 1 => by rw [rcL, List.length_set, rcL_length l t]
theorem rcL_at (l : List (BitVec 64)) : ∀ t j, t ≤ j → (rcL l t).getD j 0 = l.getD j 0
  | 0, _, _ => rfl
  | t + 1, j, h => by
    have h1 : t ≠ j := by omega
    rw [rcL, List.getD_eq_getElem?_getD, List.getElem?_set_ne h1, ← List.getD_eq_getElem?_getD]
    exact rcL_at l t j (by omega)

theorem run_limb (L : List (BitVec 64)) (hl : L.length = 5) (i : Nat) (hi : i < 5) (W : World) :
    (Instr.index 51 (.agg (wvs L).toArray) (.int .i64 (i : Int))).run Try.prog W = .ok (.int .u64 (wn (L.getD i 0))) W := by
  have h1 : (wvs L).toArray[i]? = some (.int .u64 (wn (L.getD i 0))) := by
    rw [List.getElem?_toArray, wvs_at L i (by omega)]
  have h2 : (0 : Int) ≤ (i : Int) ∧ (i : Int) < ((5 : Nat) : Int) := by omega
  simp only [Instr.index, asIntOf, Sem.run_bind, Sem.run_pure, Result.andThen_ok, run_underlying Try.underlying51]
  rw [if_pos h2]
  simp only [Sem.run_bind, Result.andThen_ok, part, Try.isAgg50, Try.sizeOf50, Int.toNat_natCast, Nat.mul_one, h1]
  simp

theorem z5_wvs : z5 = wvs [0, 0, 0, 0, 0] := rfl
structure Red (n : Nat) (w wx : World) (g : Nat) (L : List (BitVec 64)) : Prop where
  re : Blk wx (n + 1) z5 51
  li : Blk wx g (wvs L) 51
  be : Below n w wx
  lt : n + 1 < g
theorem Red.set {n : Nat} {w wx : World} {g : Nat} {L : List (BitVec 64)} (h : Red n w wx g L) (j : Nat) (x : BitVec 64) : Red n w (wx.setCell ⟨g, j, none⟩ (.int .u64 (wn x))) g (L.set j x) :=
  ⟨h.re.setOther _ _ _ (by have := h.lt; omega), by rw [← wvs_set]; exact h.li.set j _, h.be.setCell (by have := h.lt; simp; omega) _, h.lt⟩
theorem Red.word {n : Nat} {w wx : World} {g : Nat} {L : List (BitVec 64)} (h : Red n w wx g L) (j : Nat) (hj : j < L.length) : wx.cell? ⟨g, j, none⟩ = some (.int .u64 (wn (L.getD j 0))) := by
  rw [h.li.cell, wvs_at L j hj]

set_option maxRecDepth 100000 in
set_option maxHeartbeats 2000000 in
theorem reduced_any (l : List (BitVec 64)) (hl : l.length = 5) (w : World) :
    Calls Try.prog 34 #[.agg (wvs l).toArray] w fun e w' => e = .returned (.agg (wvs (rcL l 5)).toArray) ∧ Below w.heap.size w w' := by
  have hls : (Try.prog.info? 51).map (·.size) = some (wvs l).length := by rw [wvs_length, hl]; kernel_rfl
  have HLS := hide hls
  have HL := hide hl
  clear hls hl
  go_enter Try.func34, Try.ntmps34
  go_upto_region 2 with (first | (refine wpList_box rfl 53 _ rfl (wvs l) rfl ?_) | (refine wpList_newAt rfl 51 rfl z5 zero25 (w.heap.size + 1) (by simp) ?_))
  have b1 : Blk ((w.alloc (.cells (wvs l).toArray 53)).alloc (.cells z5.toArray 51)) w.heap.size (wvs l) 53 := (Blk.new _ _ _).alloc _
  have b2 : Blk ((w.alloc (.cells (wvs l).toArray 53)).alloc (.cells z5.toArray 51)) (w.heap.size + 1) z5 51 := by
    have := Blk.new (w.alloc (.cells (wvs l).toArray 53)) z5 51
    simpa using this
  have be : Below w.heap.size w ((w.alloc (.cells (wvs l).toArray 53)).alloc (.cells z5.toArray 51)) := by go_grown
  have hs : ((w.alloc (.cells (wvs l).toArray 53)).alloc (.cells z5.toArray 51)).heap.size = w.heap.size + 1 + 1 := by simp
  generalize (w.alloc (.cells (wvs l).toArray 53)).alloc (.cells z5.toArray 51) = w1 at b1 b2 be hs ⊢
  obtain ⟨n, hn⟩ : ∃ n, w.heap.size = n := ⟨_, rfl⟩
  rw [hn] at b1 b2 be hs ⊢
  skip
  have B1 := hide b1
  have B2 := hide b2
  have BE := hide be
  have HS := hide hs
  clear b1 b2 be hs
  go_wp2_with (refine wpList_load_row rfl 51 (.tmp 9) rfl n rfl 53 (wvs l).toArray (0, 0) _ B1.out Try.underlying51 rfl (by simpa using HLS.out) ?_)
  go_loopw [11, 3] (fun i o wr => ∃ t : Nat, t ≤ 5 ∧ i = .int .i64 t ∧ o = .int .u64 (wn (ov l t)) ∧ wr = w1) (fun i _ _ => 5 - (intOf i).toNat)
  case atStart => exact ⟨0, by omega, rfl, rfl, rfl⟩
  case round =>
    obtain ⟨t, ht, rfl, rfl, hw⟩ := hrel
    rw [hw]
    clear hw
    by_cases hlt : t < 5
    · have hlz : (t : Int) < 5 := by omega
      have hidx := fun W => run_limb l HL.out t hlt W
      have h1 := wadd
      have h2 := wshr51
      go_wp2
      go_roundw
      case rel => exact ⟨t + 1, by omega, by go_num, rfl, trivial⟩
      case measure => simp [intOf]; omega
    · obtain rfl : t = 5 := by omega
      have h4 := wmul19
      obtain ⟨o, ho⟩ : ∃ o, ov l 5 = o := ⟨_, rfl⟩
      have HO := hide ho
      rw [ho]
      clear ho
      go_wp2_with (first | (refine wpList_load_row rfl 51 (.tmp 19) rfl n rfl 53 (wvs l).toArray (0, 0) _ B1.out Try.underlying51 rfl (by simpa using HLS.out) ?_) | (refine wpList_newAt rfl 51 rfl z5 zero25 (n + 1 + 1) HS.out ?_) | (refine wpList_store_row rfl 51 (.tmp 6) (.tmp 20) rfl (n + 1 + 1) (wvs l).toArray rfl rfl 51 z5.toArray (HS.out ▸ Blk.new w1 z5 51) (by simpa using HLS.out) (by simp [z5, wvs_length, HL.out]) (wvs_one l) ?_))
      have h0 : Hid (Red n w ((w1.alloc (.cells z5.toArray 51)).setRow (n + 1 + 1) (wvs l).toArray) (n + 1 + 1) (rcL l 0)) := by
        have q := Blk.new w1 z5 51
        rw [HS.out] at q
        exact ⟨(B2.out.alloc _).setRowOther _ _ (by omega), q.setRow _, below_setRow (BE.out.alloc (by have := BE.out.size; omega) _) _ _ (by omega), by omega⟩
      rw [← HO.out]
      generalize (w1.alloc (.cells z5.toArray 51)).setRow (n + 1 + 1) (wvs l).toArray = w2 at h0 ⊢
      have hc0 : 19#64 * ov l 5 = rcC l 0 := rfl
      rw [hc0]
      clear hc0 B1 B2 BE HS
      go_loopw [23, 7] (fun i c wr => ∃ t : Nat, t ≤ 5 ∧ i = .int .i64 t ∧ c = .int .u64 (wn (rcC l t)) ∧ Hid (Red n w wr (n + 1 + 1) (rcL l t))) (fun i _ _ => 5 - (intOf i).toNat)
      case atStart => exact ⟨0, by omega, rfl, rfl, h0⟩
      case round =>
        obtain ⟨t, ht, rfl, rfl, hr⟩ := hrel
        have hlen := rcL_length l t
        have hat := rcL_at l t t (Nat.le_refl _)
        obtain ⟨L, hL⟩ : ∃ L, rcL l t = L := ⟨_, rfl⟩
        have HL2 := hide hL
        rw [hL] at hr hlen hat
        clear hL
        by_cases hlt : t < 5
        · have hlz : (t : Int) < 5 := by omega
          have hcell := hr.out.word t (by rw [hlen, HL.out]; exact hlt)
          have hfz := hr.out.li.frozen t
          rw [hat] at hcell
          obtain ⟨x, hx⟩ : ∃ x, l.getD t 0 = x := ⟨_, rfl⟩
          obtain ⟨c, hc⟩ : ∃ c, rcC l t = c := ⟨_, rfl⟩
          have HX := hide hx
          have HC := hide hc
          rw [hx] at hcell
          rw [hc]
          clear hx hc hlen hat
          have h1 := wadd
          have h2 := wshr51
          have h3 := wand51
          go_wp2
          go_roundw
          case rel =>
            refine ⟨t + 1, by omega, by go_num, by rw [rcC, HX.out, HC.out], ?_⟩
            rw [rcL, HX.out, HC.out, HL2.out]
            have := (hr.out.set t (x + c)).set t ((x + c) &&& mk51)
            rw [List.set_set] at this
            exact this
          case measure => simp [intOf]; omega
        · obtain rfl : t = 5 := by omega
          have hsz : (Try.prog.info? 51).map (·.size) = some (wvs L).length := by rw [wvs_length, hlen, HL.out]; kernel_rfl
          have HSZ := hide hsz
          have hz : z5.toArray.size = (wvs L).toArray.size := by simp [z5, wvs_length, hlen, HL.out]
          have HZ := hide hz
          clear hsz hlen hat hz
          go_wp2_with (first | (refine wpList_load_row rfl 51 (.tmp 6) rfl (n + 1 + 1) rfl 51 (wvs L).toArray (0, 0) _ hr.out.li Try.underlying51 rfl (by simpa using HSZ.out) ?_) | (refine wpList_store_row rfl 51 (.tmp 2) (.tmp 42) rfl (n + 1) (wvs L).toArray rfl rfl 51 z5.toArray hr.out.re (by simpa using HSZ.out) HZ.out (wvs_one L) ?_))
          refine bodyPost_ret (results_cell_row Try.results34 _ _ (n + 1) 51 (wvs L).toArray (0, 0) _ rfl (hr.out.re.setRow _) Try.underlying51 rfl (by simpa using HSZ.out)) rfl ?_
          exact ⟨by rw [HL2.out], by rw [hn]; exact below_setRow hr.out.be _ _ (by omega)⟩
end Go.Proofs.Ytacancfmgnmpiaa
