import Derived.Test.YtoceepmehmacbaaDoorKRd2G
import Derived.Test.YtoceepmehmacbaaDoorKNum2G
set_option linter.unusedVariables false
set_option linter.unusedSimpArgs false
namespace Go.Proofs.YtoceepmehmacbaaDoor.Cv
open Go.RowKit

/-- Does the number, with 19 more, reach 2^255? -/
def ov (l : List (BitVec 64)) : Nat → BitVec 64
  | 0 => 19#64
  | t + 1 => (l.getD t 0 + ov l t) >>> 51
def rcC (l : List (BitVec 64)) : Nat → BitVec 64
  | 0 => 19#64 * ov l 5
  | t + 1 => (l.getD t 0 + rcC l t) >>> 51
def rcL (l : List (BitVec 64)) : Nat → List (BitVec 64)
  | 0 => l
  | t + 1 => (rcL l t).set t ((l.getD t 0 + rcC l t) &&& mk51)
theorem rcL_length (l : List (BitVec 64)) : ∀ t, (rcL l t).length = l.length
  | 0 => rfl
  | t + 1 => by rw [rcL, List.length_set, rcL_length l t]
theorem rcL_at (l : List (BitVec 64)) : ∀ t j, t ≤ j → (rcL l t).getD j 0 = l.getD j 0
  | 0, _, _ => rfl
  | t + 1, j, h => by
    have h1 : t ≠ j := by omega
    rw [rcL, List.getD_eq_getElem?_getD, List.getElem?_set_ne h1, ← List.getD_eq_getElem?_getD]
    exact rcL_at l t j (by omega)

theorem run_limb (L : List (BitVec 64)) (hl : L.length = 5) (i : Nat) (hi : i < 5) (W : World) :
    (Instr.index 69 (.agg (wvs L).toArray) (.int .i64 (i : Int))).run Tryd.prog W = .ok (.int .u64 (wn (L.getD i 0))) W := by
  have h1 : (wvs L).toArray[i]? = some (.int .u64 (wn (L.getD i 0))) := by
    rw [List.getElem?_toArray, wvs_at L i (by omega)]
  have h2 : (0 : Int) ≤ (i : Int) ∧ (i : Int) < ((5 : Nat) : Int) := by omega
  simp only [Instr.index, asIntOf, Sem.run_bind, Sem.run_pure, Result.andThen_ok, run_underlying Tryd.underlying69]
  rw [if_pos h2]
  simp only [Sem.run_bind, Result.andThen_ok, part, Tryd.isAgg68, Tryd.sizeOf68, Int.toNat_natCast, Nat.mul_one, h1]
  simp

structure Red (n : Nat) (w wx : World) (g : Nat) (L : List (BitVec 64)) : Prop where
  re : Blk wx (n + 1) z5 69
  li : Blk wx g (wvs L) 69
  be : Below n w wx
  lt : n + 1 < g
theorem Red.set {n : Nat} {w wx : World} {g : Nat} {L : List (BitVec 64)} (h : Red n w wx g L) (j : Nat) (x : BitVec 64) : Red n w (wx.setCell ⟨g, j, none⟩ (.int .u64 (wn x))) g (L.set j x) :=
  ⟨h.re.setOther _ _ _ (by have := h.lt; omega), by rw [← wvs_set]; exact h.li.set j _, h.be.setCell (by have := h.lt; simp; omega) _, h.lt⟩
theorem Red.word {n : Nat} {w wx : World} {g : Nat} {L : List (BitVec 64)} (h : Red n w wx g L) (j : Nat) (hj : j < L.length) : wx.cell? ⟨g, j, none⟩ = some (.int .u64 (wn (L.getD j 0))) := by
  rw [h.li.cell, wvs_at L j hj]

set_option maxRecDepth 100000 in
set_option maxHeartbeats 2000000 in
theorem reduced_any (l : List (BitVec 64)) (hl : l.length = 5) (w : World) :
    Calls Tryd.prog 40 #[.agg (wvs l).toArray] w fun e w' => e = .returned (.agg (wvs (rcL l 5)).toArray) ∧ Below w.heap.size w w' := by
  have hls : (Tryd.prog.info? 69).map (·.size) = some (wvs l).length := by rw [wvs_length, hl]; kernel_rfl
  have HLS := hide hls
  have HL := hide hl
  clear hls hl
  go_enter Tryd.func40, Tryd.ntmps40
  go_upto_region 2 with (first | (refine wpList_box rfl 71 _ rfl (wvs l) rfl ?_) | (refine wpList_newAt rfl 69 rfl z5 zero25 (w.heap.size + 1) (by simp) ?_))
  have b1 : Blk ((w.alloc (.cells (wvs l).toArray 71)).alloc (.cells z5.toArray 69)) w.heap.size (wvs l) 71 := (Blk.new _ _ _).alloc _
  have b2 : Blk ((w.alloc (.cells (wvs l).toArray 71)).alloc (.cells z5.toArray 69)) (w.heap.size + 1) z5 69 := by
    have := Blk.new (w.alloc (.cells (wvs l).toArray 71)) z5 69
    simpa using this
  have be : Below w.heap.size w ((w.alloc (.cells (wvs l).toArray 71)).alloc (.cells z5.toArray 69)) := by go_grown
  have hs : ((w.alloc (.cells (wvs l).toArray 71)).alloc (.cells z5.toArray 69)).heap.size = w.heap.size + 1 + 1 := by simp
  generalize (w.alloc (.cells (wvs l).toArray 71)).alloc (.cells z5.toArray 69) = w1 at b1 b2 be hs ⊢
  obtain ⟨n, hn⟩ : ∃ n, w.heap.size = n := ⟨_, rfl⟩
  rw [hn] at b1 b2 be hs ⊢
  skip
  have B1 := hide b1
  have B2 := hide b2
  have BE := hide be
  have HS := hide hs
  clear b1 b2 be hs
  go_wp2_with (refine wpList_load_row rfl 69 (.tmp 9) rfl n rfl 71 (wvs l).toArray (0, 0) _ B1.out Tryd.underlying69 rfl (by simpa using HLS.out) ?_)
  go_loopw [11, 3] (fun i o wr => ∃ t : Nat, t ≤ 5 ∧ i = .int .i64 t ∧ o = .int .u64 (wn (ov l t)) ∧ wr = w1) (fun i _ _ => 5 - (intOf i).toNat)
  case atStart => exact ⟨0, by omega, rfl, rfl, rfl⟩
  case round =>
    obtain ⟨t, ht, rfl, rfl, hw⟩ := hrel
    rw [hw]
    clear hw
    by_cases hlt : t < 5
    · have hlz : (t : Int) < 5 := by omega
      have hidx := fun W => run_limb l HL.out t hlt W
      have h1 := wadd
      have h2 := wshr51
      go_wp2
      go_roundw
      case rel => exact ⟨t + 1, by omega, by go_num, rfl, trivial⟩
      case measure => simp [intOf]; omega
    · obtain rfl : t = 5 := by omega
      have h4 := wmul19
      obtain ⟨o, ho⟩ : ∃ o, ov l 5 = o := ⟨_, rfl⟩
      have HO := hide ho
      rw [ho]
      clear ho
      go_wp2_with (first | (refine wpList_load_row rfl 69 (.tmp 19) rfl n rfl 71 (wvs l).toArray (0, 0) _ B1.out Tryd.underlying69 rfl (by simpa using HLS.out) ?_) | (refine wpList_newAt rfl 69 rfl z5 zero25 (n + 1 + 1) HS.out ?_) | (refine wpList_store_row rfl 69 (.tmp 6) (.tmp 20) rfl (n + 1 + 1) (wvs l).toArray rfl rfl 69 z5.toArray (HS.out ▸ Blk.new w1 z5 69) (by simpa using HLS.out) (by simp [z5, wvs_length, HL.out]) (wvs_one l) ?_))
      have h0 : Hid (Red n w ((w1.alloc (.cells z5.toArray 69)).setRow (n + 1 + 1) (wvs l).toArray) (n + 1 + 1) (rcL l 0)) := by
        have q := Blk.new w1 z5 69
        rw [HS.out] at q
        exact ⟨(B2.out.alloc _).setRowOther _ _ (by omega), q.setRow _, below_setRow (BE.out.alloc (by have := BE.out.size; omega) _) _ _ (by omega), by omega⟩
      rw [← HO.out]
      generalize (w1.alloc (.cells z5.toArray 69)).setRow (n + 1 + 1) (wvs l).toArray = w2 at h0 ⊢
      have hc0 : 19#64 * ov l 5 = rcC l 0 := rfl
      rw [hc0]
      clear hc0 B1 B2 BE HS
      go_loopw [23, 7] (fun i c wr => ∃ t : Nat, t ≤ 5 ∧ i = .int .i64 t ∧ c = .int .u64 (wn (rcC l t)) ∧ Hid (Red n w wr (n + 1 + 1) (rcL l t))) (fun i _ _ => 5 - (intOf i).toNat)
      case atStart => exact ⟨0, by omega, rfl, rfl, h0⟩
      case round =>
        obtain ⟨t, ht, rfl, rfl, hr⟩ := hrel
        have hlen := rcL_length l t
        have hat := rcL_at l t t (Nat.le_refl _)
        obtain ⟨L, hL⟩ : ∃ L, rcL l t = L := ⟨_, rfl⟩
        have HL2 := hide hL
        rw [hL] at hr hlen hat
        clear hL
        by_cases hlt : t < 5
        · have hlz : (t : Int) < 5 := by omega
          have hcell := hr.out.word t (by rw [hlen, HL.out]; exact hlt)
          have hfz := hr.out.li.frozen t
          rw [hat] at hcell
          obtain ⟨x, hx⟩ : ∃ x, l.getD t 0 = x := ⟨_, rfl⟩
          obtain ⟨c, hc⟩ : ∃ c, rcC l t = c := ⟨_, rfl⟩
          have HX := hide hx
          have HC := hide hc
          rw [hx] at hcell
          rw [hc]
          clear hx hc hlen hat
          have h1 := wadd
          have h2 := wshr51
          have h3 := wand51
          go_wp2
          go_roundw
          case rel =>
            refine ⟨t + 1, by omega, by go_num, by rw [rcC, HX.out, HC.out], ?_⟩
            rw [rcL, HX.out, HC.out, HL2.out]
            have := (hr.out.set t (x + c)).set t ((x + c) &&& mk51)
            rw [List.set_set] at this
            exact this
          case measure => simp [intOf]; omega
        · obtain rfl : t = 5 := by omega
          have hsz : (Tryd.prog.info? 69).map (·.size) = some (wvs L).length := by rw [wvs_length, hlen, HL.out]; kernel_rfl
          have HSZ := hide hsz
          have hz : z5.toArray.size = (wvs L).toArray.size := by simp [z5, wvs_length, hlen, HL.out]
          have HZ := hide hz
          clear hsz hlen hat hz
          go_wp2_with (first | (refine wpList_load_row rfl 69 (.tmp 6) rfl (n + 1 + 1) rfl 69 (wvs L).toArray (0, 0) _ hr.out.li Tryd.underlying69 rfl (by simpa using HSZ.out) ?_) | (refine wpList_store_row rfl 69 (.tmp 2) (.tmp 42) rfl (n + 1) (wvs L).toArray rfl rfl 69 z5.toArray hr.out.re (by simpa using HSZ.out) HZ.out (wvs_one L) ?_))
          refine bodyPost_ret (results_cell_row Tryd.results40 _ _ (n + 1) 69 (wvs L).toArray (0, 0) _ rfl (hr.out.re.setRow _) Tryd.underlying69 rfl (by simpa using HSZ.out)) rfl ?_
          exact ⟨by rw [HL2.out], by rw [hn]; exact below_setRow hr.out.be _ _ (by omega)⟩
def z32 : List UInt8 := List.replicate 32 0
/-- The words' bytes, the first t of them. -/
def ubk (W : List (BitVec 64)) : Nat → List UInt8
  | 0 => z32
  | t + 1 => (ubk W t).set t (UInt8.ofNat (W.getD (t / 8) 0 >>> (8 * (t % 8))).toNat)
theorem ubk_length (W : List (BitVec 64)) : ∀ t, (ubk W t).length = 32
  | 0 => by rw [ubk, z32, List.length_replicate]
  | t + 1 => by rw [ubk, List.length_set, ubk_length W t]
theorem zero23 (w : World) : (zeroValue 23).run Tryd.prog w = .ok (.agg (z32.map byt).toArray) w := by
  rw [Tryd.zeroValue23]; rfl
theorem byts_one (L : List UInt8) : (L.map byt).toArray.all (·.oneCell') = true :=
  all_oneCell_toArray fun v hv => by
    obtain ⟨x, _, rfl⟩ := List.mem_map.1 hv
    rfl
theorem byt_set (L : List UInt8) (j : Nat) (u : UInt8) : (L.map byt).set j (.int .u8 (u.toNat : Int)) = (L.set j u).map byt := by
  simp [List.map_set]; rfl
theorem w2b (x : BitVec 64) : IntKind.u8.wrap (wn x) = ((UInt8.ofNat x.toNat).toNat : Int) := by
  unfold wn
  rw [IntKind.wrap_u8, UInt8.toNat_ofNat']; omega

structure Unw (n : Nat) (w wx : World) (W : List (BitVec 64)) (L : List UInt8) : Prop where
  wo : Blk wx n (wvs W) 89
  by_ : Blk wx (n + 1) (L.map byt) 23
  be : Below n w wx
theorem Unw.set {n : Nat} {w wx : World} {W : List (BitVec 64)} {L : List UInt8} (h : Unw n w wx W L) (j : Nat) (u : UInt8) : Unw n w (wx.setCell ⟨n + 1, j, none⟩ (.int .u8 (u.toNat : Int))) W (L.set j u) :=
  ⟨h.wo.setOther _ _ _ (by omega), by rw [← byt_set]; exact h.by_.set j _, h.be.setCell (by simp) _⟩

set_option maxRecDepth 100000 in
set_option maxHeartbeats 2000000 in
theorem unworded_any (W : List (BitVec 64)) (hl : W.length = 4) (w : World) :
    Calls Tryd.prog 41 #[.agg (wvs W).toArray] w fun e w' => e = .returned (.agg ((ubk W 32).map byt).toArray) ∧ Below w.heap.size w w' := by
  have HL := hide hl
  clear hl
  go_enter Tryd.func41, Tryd.ntmps41
  go_upto_region 1 with (first | (refine wpList_box rfl 89 _ rfl (wvs W) rfl ?_) | (refine wpList_newAt rfl 23 rfl (z32.map byt) zero23 (w.heap.size + 1) (by simp) ?_))
  have h0 : Hid (Unw w.heap.size w ((w.alloc (.cells (wvs W).toArray 89)).alloc (.cells (z32.map byt).toArray 23)) W (ubk W 0)) := by
    refine ⟨(Blk.new _ _ _).alloc _, ?_, by go_grown⟩
    have := Blk.new (w.alloc (.cells (wvs W).toArray 89)) (z32.map byt) 23
    rw [show ubk W 0 = z32 from rfl]
    simpa using this
  generalize (w.alloc (.cells (wvs W).toArray 89)).alloc (.cells (z32.map byt).toArray 23) = w1 at h0 ⊢
  obtain ⟨n, hn⟩ : ∃ n, w.heap.size = n := ⟨_, rfl⟩
  rw [hn] at h0 ⊢
  go_wp2
  go_loopw [4] (fun i wr => ∃ t : Nat, t ≤ 32 ∧ i = .int .i64 t ∧ Hid (Unw n w wr W (ubk W t))) (fun i _ => 32 - (intOf i).toNat)
  case atStart => exact ⟨0, by omega, rfl, h0⟩
  case round =>
    obtain ⟨t, ht, rfl, hs⟩ := hrel
    have hlen := ubk_length W t
    obtain ⟨L, hL⟩ : ∃ L, ubk W t = L := ⟨_, rfl⟩
    have HL2 := hide hL
    rw [hL] at hs hlen
    clear hL
    by_cases hlt : t < 32
    · have hlz : (t : Int) < 32 := by omega
      obtain ⟨j, hj⟩ : ∃ j, j = t / 8 := ⟨_, rfl⟩
      obtain ⟨r, hr⟩ : ∃ r, r = t % 8 := ⟨_, rfl⟩
      have q1 : (t : Int).tdiv 8 = (j : Int) := by rw [Int.tdiv_eq_ediv_of_nonneg (by omega)]; omega
      have q2 : (t : Int) / 8 = (j : Int) := by omega
      have q3 : (t : Int).tmod 8 = (r : Int) := by rw [Int.tmod_eq_emod_of_nonneg (by omega)]; omega
      have q4 : (t : Int) % 8 = (r : Int) := by omega
      have hj4 : (j : Int) < 4 := by omega
      have hr8 : r < 8 := by omega
      have hc := hs.out.wo.cell j
      rw [wvs_at W j (by rw [HL.out]; omega)] at hc
      have hfz := hs.out.by_.frozen t
      have hold := hs.out.by_.cell t
      have hol2 : (L.map byt)[t]? = some (byt (L.getD t 0)) := by simp [List.getElem?_eq_getElem (show t < L.length by omega)]
      rw [hol2] at hold
      clear hol2
      obtain ⟨x, hx⟩ : ∃ x, W.getD j 0 = x := ⟨_, rfl⟩
      rw [hx] at hc
      obtain ⟨m, hm⟩ : ∃ m, m = 8 * r := ⟨_, rfl⟩
      have q5 : (8 : Int) * (r : Int) = (m : Int) := by omega
      have hm64 : (m : Int) < 64 := by omega
      have e1 := wshr x m
      have e2 := w2b (x >>> m)
      obtain ⟨u, hu⟩ : ∃ u, UInt8.ofNat (x >>> m).toNat = u := ⟨_, rfl⟩
      rw [hu] at e2
      have HU := hide hu
      clear hu
      have HX := hide hx
      have HJ := hide hj
      have HR := hide hr
      have HM := hide hm
      clear hx hj hr hm hlen
      go_wp2
      go_roundw
      case rel =>
        refine ⟨t + 1, by omega, by go_num, ?_⟩
        rw [ubk, ← HJ.out, ← HR.out, ← HM.out, HL2.out, HX.out, HU.out]
        exact hs.out.set t _
      case measure => simp [intOf]; omega
    · obtain rfl : t = 32 := by omega
      have hsz : (Tryd.prog.info? 23).map (·.size) = some (L.map byt).length := by rw [List.length_map, hlen]; kernel_rfl
      have HSZ := hide hsz
      clear hsz hlen
      go_wp2_with (first | (refine wpList_load_row rfl 23 (.tmp 2) rfl (n + 1) rfl 23 (L.map byt).toArray (0, 0) _ hs.out.by_ Tryd.underlying23 rfl (by simpa using HSZ.out) ?_) | (refine wpList_store_row rfl 23 (.tmp 2) (.tmp 19) rfl (n + 1) (L.map byt).toArray rfl rfl 23 (L.map byt).toArray hs.out.by_ (by simpa using HSZ.out) rfl (byts_one L) ?_))
      refine bodyPost_ret (results_cell_row Tryd.results41 _ _ (n + 1) 23 (L.map byt).toArray (0, 0) _ rfl (hs.out.by_.setRow _) Tryd.underlying23 rfl (by simpa using HSZ.out)) rfl ?_
      exact ⟨by rw [HL2.out], by rw [hn]; exact below_setRow hs.out.be _ _ (by omega)⟩

theorem wshl51 (x : BitVec 64) : IntKind.u64.wrap (wn x * (2251799813685248 : Int)) = wn (x <<< 51) := wshl x 51
theorem wshl38 (x : BitVec 64) : IntKind.u64.wrap (wn x * (274877906944 : Int)) = wn (x <<< 38) := wshl x 38
theorem wshl25 (x : BitVec 64) : IntKind.u64.wrap (wn x * (33554432 : Int)) = wn (x <<< 25) := wshl x 25
theorem wshl12 (x : BitVec 64) : IntKind.u64.wrap (wn x * (4096 : Int)) = wn (x <<< 12) := wshl x 12
theorem wshr13 (x : BitVec 64) : wn x / (8192 : Int) = wn (x >>> 13) := wshr x 13
theorem wshr26 (x : BitVec 64) : wn x / (67108864 : Int) = wn (x >>> 26) := wshr x 26
theorem wshr39 (x : BitVec 64) : wn x / (549755813888 : Int) = wn (x >>> 39) := wshr x 39

/-- The words of five limbs. -/
def words5 (a b c d e : BitVec 64) : List (BitVec 64) := [a ||| b <<< 51, b >>> 13 ||| c <<< 38, c >>> 26 ||| d <<< 25, d >>> 39 ||| e <<< 12]
def tellE (x : L5) : List UInt8 := ubk (words5 ((rcL x.list 5).getD 0 0) ((rcL x.list 5).getD 1 0) ((rcL x.list 5).getD 2 0) ((rcL x.list 5).getD 3 0) ((rcL x.list 5).getD 4 0)) 32
theorem tell_length (x : L5) : (tellE x).length = 32 := ubk_length _ _
theorem five {α : Type} {L : List α} (h : L.length = 5) : ∃ a b c d e, L = [a, b, c, d, e] := by
  match L, h with
  | [a, b, c, d, e], _ => exact ⟨a, b, c, d, e, rfl⟩

set_option maxRecDepth 100000 in
set_option maxHeartbeats 2000000 in
theorem bytes_any (x : L5) (w : World) :
    Calls Tryd.prog 28 #[x.v] w fun e w' => e = .returned (.agg ((tellE x).map byt).toArray) ∧ Below w.heap.size w w' := by
  obtain ⟨a, b, c, d, e, hL⟩ := five (show (rcL x.list 5).length = 5 by rw [rcL_length]; rfl)
  have hrd : ∀ W, Calls Tryd.prog 40 #[x.v] W fun e w' => e = .returned (.agg (wvs (rcL x.list 5)).toArray) ∧ Below W.heap.size W w' := fun W => reduced_any x.list rfl W
  rw [hL] at hrd
  have hT : tellE x = ubk (words5 a b c d e) 32 := by
    unfold tellE
    rw [hL]
    rfl
  have hlen := tell_length x
  have hun := fun W => unworded_any (words5 a b c d e) rfl W
  rw [← hT] at hun
  generalize tellE x = R at hT hun hlen ⊢
  clear hL hT
  have hsz : (Tryd.prog.info? 23).map (·.size) = some (R.map byt).length := by rw [List.length_map, hlen]; kernel_rfl
  go_enter Tryd.func28, Tryd.ntmps28
  go_upto_region 1 with (first | (refine wpList_boxAt rfl 71 (.tmp 0) rfl x.cs rfl w.heap.size rfl ?_) | (refine wpList_newAt rfl 23 rfl (z32.map byt) zero23 (w.heap.size + 1) (by simp) ?_))
  have b1 : Blk ((w.alloc (.cells x.cs.toArray 71)).alloc (.cells (z32.map byt).toArray 23)) w.heap.size x.cs 71 := (Blk.new _ _ _).alloc _
  have b2 : Blk ((w.alloc (.cells x.cs.toArray 71)).alloc (.cells (z32.map byt).toArray 23)) (w.heap.size + 1) (z32.map byt) 23 := by
    have := Blk.new (w.alloc (.cells x.cs.toArray 71)) (z32.map byt) 23
    simpa using this
  have be : Below w.heap.size w ((w.alloc (.cells x.cs.toArray 71)).alloc (.cells (z32.map byt).toArray 23)) := by go_grown
  generalize (w.alloc (.cells x.cs.toArray 71)).alloc (.cells (z32.map byt).toArray 23) = w1 at b1 b2 be ⊢
  obtain ⟨n, hn⟩ : ∃ n, w.heap.size = n := ⟨_, rfl⟩
  rw [hn] at b1 b2 be ⊢
  simp only [Act.put, List.setIfInBounds_toArray, List.set_cons_zero, List.set_cons_succ]
  refine lst_newT 2 rfl rfl rfl rfl 3 rfl 69 rfl z5 zero25 rfl rfl (.tmp 5) rfl ?_
  simp only [List.take_succ_cons, List.take_zero]
  refine wpLex_cons _ (uni_row rfl 71 (.tmp 1) rfl n x.cs 71 rfl (fun W hW => b1.on hW) Tryd.underlying71 rfl (cs_info _)) ?_
  simp only [Act.put, List.setIfInBounds_toArray, List.set_cons_zero, List.set_cons_succ]
  refine wpLex_cons _ (uni_callF (by rfl) 40 [Operand.tmp 4] #[71] rfl [x.v] (.agg (wvs [a, b, c, d, e]).toArray) rfl enter40 (fun W hW => hrd W)) ?_
  simp only [Act.put, List.setIfInBounds_toArray, List.set_cons_zero, List.set_cons_succ]
  refine ⟨wvs [a, b, c, d, e], rfl, by simp, by simp, by kernel_rfl, rfl, wvs_one _, fun g w2 hg hW c1 => ?_⟩
  simp only [Act.put, List.setIfInBounds_toArray, List.set_cons_zero, List.set_cons_succ]
  replace b2 := b2.on hW
  replace be := be.trans (hW.mono (by have := be.size; omega))
  have g0 : w2.cell? ⟨g, 0, none⟩ = some (.int .u64 (wn a)) := c1.cell 0
  have g1 : w2.cell? ⟨g, 1, none⟩ = some (.int .u64 (wn b)) := c1.cell 1
  have g2 : w2.cell? ⟨g, 2, none⟩ = some (.int .u64 (wn c)) := c1.cell 2
  have g3 : w2.cell? ⟨g, 3, none⟩ = some (.int .u64 (wn d)) := c1.cell 3
  have g4 : w2.cell? ⟨g, 4, none⟩ = some (.int .u64 (wn e)) := c1.cell 4
  clear hW hg b1 w1 hrd c1
  have B2 := hide b2
  have BE := hide be
  have HU := hide hun
  have HSZ := hide hsz
  have HLN := hide hlen
  clear b2 be hun hsz hlen
  have h2 := wshl51
  have h3 := wshr13
  have h4 := wshl38
  have h5 := wshr26
  have h6 := wshl25
  have h7 := wshr39
  have h8 := wshl12
  have h9 := wor
  go_wp2_with (first | (go_at_call 41; refine (HU.out _).mono ?_; rintro e w3 ⟨rfl, hb⟩; have B3 := hide hb; clear hb) | (refine wpList_store_row rfl 23 (.tmp 2) (.tmp 34) rfl (n + 1) (R.map byt).toArray rfl rfl 23 (z32.map byt).toArray (B2.out.on B3.out) (by simpa using HSZ.out) (by simp [z32, HLN.out]) (byts_one _) ?_))
  refine bodyPost_ret (results_cell_row Tryd.results28 _ _ (n + 1) 23 (R.map byt).toArray (0, 0) _ rfl ((B2.out.on B3.out).setRow _) Tryd.underlying23 rfl (by simpa using HSZ.out)) rfl ?_
  exact ⟨rfl, by rw [hn]; exact below_setRow (BE.out.trans (B3.out.mono (by have := BE.out.size; omega))) _ _ (by omega)⟩
end Go.Proofs.YtoceepmehmacbaaDoor.Cv
set_option linter.unusedVariables false
set_option linter.unusedSimpArgs false
namespace Go.Proofs.YtoceepmehmacbaaDoor.Cv
open Go.RowKit Prm

/-- r bytes from place s on, as a number. -/
def psum (k : List UInt8) (s : Nat) : Nat → Nat
  | 0 => 0
  | r + 1 => psum k s r + (k.getD (s + r) 0).toNat * 256 ^ r
theorem psum_lt (k : List UInt8) (s : Nat) : ∀ r, psum k s r < 256 ^ r
  | 0 => by simp [psum]
  | r + 1 => by
    have h := psum_lt k s r
    have hu := (k.getD (s + r) 0).toNat_lt
    rw [psum, Nat.pow_succ]
    have : (k.getD (s + r) 0).toNat * 256 ^ r ≤ 255 * 256 ^ r := Nat.mul_le_mul_right _ (by omega)
    omega
theorem psum_add (k : List UInt8) (s r : Nat) : ∀ q, psum k s (r + q) = psum k s r + 256 ^ r * psum k (s + r) q
  | 0 => by simp [psum]
  | q + 1 => by
    rw [← Nat.add_assoc, psum, psum_add k s r q, psum, Nat.pow_add, Nat.add_assoc s r q, Nat.mul_add, Nat.add_assoc]
    congr 2
    rw [Nat.mul_left_comm]

theorem or_add (x : BitVec 64) (u : UInt8) (r : Nat) (hr : r < 8) (hx : x.toNat < 256 ^ r) : (x ||| bw u <<< (8 * r)).toNat = x.toNat + u.toNat * 256 ^ r := by
  have hu := u.toNat_lt
  have hp : (256 : Nat) ^ r = 2 ^ (8 * r) := by rw [Nat.pow_mul]
  have hle : u.toNat * 2 ^ (8 * r) < 18446744073709551616 := by
    have h1 : 2 ^ (8 * r) ≤ 2 ^ 56 := Nat.pow_le_pow_right (by decide) (by omega)
    have h2 : u.toNat * 2 ^ (8 * r) ≤ 255 * 2 ^ 56 := Nat.mul_le_mul (by omega) h1
    omega
  rw [BitVec.toNat_or, BitVec.toNat_shiftLeft, bw_nat, Nat.shiftLeft_eq, Nat.mod_eq_of_lt (by omega), hp]
  rw [hp] at hx
  have := Nat.two_pow_add_eq_or_of_lt hx u.toNat
  rw [Nat.or_comm, Nat.mul_comm u.toNat, ← this, Nat.add_comm]

theorem wdk_at (k : List UInt8) : ∀ t, t ≤ 32 → ∀ j, j < 4 → ((wdk k t).getD j 0).toNat = psum k (8 * j) (min 8 (t - 8 * j))
  | 0, _, j, hj => by
    have : j = 0 ∨ j = 1 ∨ j = 2 ∨ j = 3 := by omega
    rcases this with rfl | rfl | rfl | rfl <;> rfl
  | t + 1, ht, j, hj => by
    have ih := wdk_at k t (by omega)
    have hl := wdk_length k t
    rw [wdk]
    by_cases hq : t / 8 = j
    · have hr : t % 8 < 8 := by omega
      have e1 : min 8 (t + 1 - 8 * j) = t % 8 + 1 := by omega
      have e2 : min 8 (t - 8 * j) = t % 8 := by omega
      have e3 : 8 * j + t % 8 = t := by omega
      have hi := ih j hj
      rw [e2] at hi
      rw [hq, List.getD_eq_getElem?_getD, List.getElem?_set_self (by omega), Option.getD_some, or_add _ _ _ hr (by rw [hi]; exact psum_lt _ _ _), hi, e1, psum, e3]
    · rw [List.getD_eq_getElem?_getD, List.getElem?_set_ne hq, ← List.getD_eq_getElem?_getD, ih j hj]
      congr 1
      omega

/-- The number of a key. -/
def kn (k : List UInt8) : Nat := psum k 0 32
theorem kn_words (k : List UInt8) : kn k = psum k 0 8 + 18446744073709551616 * psum k 8 8 + 340282366920938463463374607431768211456 * psum k 16 8 + 6277101735386680763835789423207666416102355444464034512896 * psum k 24 8 := by
  have h1 := psum_add k 0 8 24
  have h2 := psum_add k 8 8 16
  have h3 := psum_add k 16 8 8
  simp only [Nat.zero_add, Nat.reduceAdd, Nat.reducePow] at h1 h2 h3
  unfold kn
  omega
theorem or_small (x y : Nat) (i : Nat) (hx : x < 2 ^ i) : x ||| y * 2 ^ i = x + y * 2 ^ i := by
  have := Nat.two_pow_add_eq_or_of_lt hx y
  rw [Nat.or_comm, Nat.mul_comm, ← this, Nat.add_comm]
theorem sh_or (x y : BitVec 64) (p q : Nat) (hpq : p + q = 64) : (x >>> p ||| y <<< q).toNat = x.toNat / 2 ^ p + y.toNat * 2 ^ q % 18446744073709551616 := by
  have hx := wlt x
  rw [BitVec.toNat_or, BitVec.toNat_ushiftRight, BitVec.toNat_shiftLeft, Nat.shiftRight_eq_div_pow, Nat.shiftLeft_eq]
  have e : y.toNat * 2 ^ q % 2 ^ 64 = y.toNat % 2 ^ p * 2 ^ q := by
    generalize y.toNat = z
    rw [← hpq, Nat.pow_add, Nat.mul_mod_mul_right]
  rw [e, or_small _ _ _ (by
    rw [Nat.div_lt_iff_lt_mul (Nat.two_pow_pos p), ← Nat.pow_add, Nat.add_comm, hpq]; exact hx), ← e]

theorem limbs4_nat (a b c d : BitVec 64) : (limbs4 a b c d).val = (a.toNat + 18446744073709551616 * b.toNat + 340282366920938463463374607431768211456 * c.toNat + 6277101735386680763835789423207666416102355444464034512896 * d.toNat) % 57896044618658097711785492504343953926634992332820282019728792003956564819968 ∧ (limbs4 a b c d).Ok := by
  have ha := wlt a
  have hb := wlt b
  have hc := wlt c
  have hd := wlt d
  have e0 : (a &&& mk51).toNat = a.toNat % 2251799813685248 := lo51 a
  have e1 : ((a >>> 51 ||| b <<< 13) &&& mk51).toNat = (a.toNat / 2251799813685248 + b.toNat * 8192 % 18446744073709551616) % 2251799813685248 := by rw [lo51, sh_or a b 51 13 rfl]
  have e2 : ((b >>> 38 ||| c <<< 26) &&& mk51).toNat = (b.toNat / 274877906944 + c.toNat * 67108864 % 18446744073709551616) % 2251799813685248 := by rw [lo51, sh_or b c 38 26 rfl]
  have e3 : ((c >>> 25 ||| d <<< 39) &&& mk51).toNat = (c.toNat / 33554432 + d.toNat * 549755813888 % 18446744073709551616) % 2251799813685248 := by rw [lo51, sh_or c d 25 39 rfl]
  have e4 : (d >>> 12 &&& mk51).toNat = d.toNat / 4096 % 2251799813685248 := by rw [lo51, BitVec.toNat_ushiftRight, Nat.shiftRight_eq_div_pow]
  refine ⟨?_, ⟨?_, ?_, ?_, ?_, ?_⟩⟩
  · simp only [L5.val, limbs4, e0, e1, e2, e3, e4]
    clear e0 e1 e2 e3 e4
    generalize a.toNat = a at *
    generalize b.toNat = b at *
    generalize c.toNat = c at *
    generalize d.toNat = d at *
    omega
  all_goals (first | (show (a &&& mk51).toNat < _; rw [e0]; omega) | (show ((a >>> 51 ||| b <<< 13) &&& mk51).toNat < _; rw [e1]; omega) | (show ((b >>> 38 ||| c <<< 26) &&& mk51).toNat < _; rw [e2]; omega) | (show ((c >>> 25 ||| d <<< 39) &&& mk51).toNat < _; rw [e3]; omega) | (show (d >>> 12 &&& mk51).toNat < _; rw [e4]; omega))

theorem read_val (k : List UInt8) : (readE k).val = kn k % 57896044618658097711785492504343953926634992332820282019728792003956564819968 := by
  unfold readE
  have w0 : ((wdk k 32).getD 0 0).toNat = psum k 0 8 := wdk_at k 32 (by omega) 0 (by omega)
  have w1 : ((wdk k 32).getD 1 0).toNat = psum k 8 8 := wdk_at k 32 (by omega) 1 (by omega)
  have w2 : ((wdk k 32).getD 2 0).toNat = psum k 16 8 := wdk_at k 32 (by omega) 2 (by omega)
  have w3 : ((wdk k 32).getD 3 0).toNat = psum k 24 8 := wdk_at k 32 (by omega) 3 (by omega)
  rw [(limbs4_nat _ _ _ _).1, w0, w1, w2, w3, kn_words]
theorem read_ok (k : List UInt8) : (readE k).Ok := (limbs4_nat _ _ _ _).2

end Go.Proofs.YtoceepmehmacbaaDoor.Cv
set_option linter.unusedVariables false
set_option linter.unusedSimpArgs false
namespace Go.Proofs.YtoceepmehmacbaaDoor.Cv
open Go.RowKit Prm

/-- A number's 32 bytes. -/
def nb (T : Nat) : List UInt8 := (List.range 32).map fun t => UInt8.ofNat (T / 256 ^ t)
theorem nb_length (T : Nat) : (nb T).length = 32 := by simp [nb]
theorem nb_at (T i : Nat) (h : i < 32) : (nb T).getD i 0 = UInt8.ofNat (T / 256 ^ i) := by
  rw [List.getD_eq_getElem?_getD, nb, List.getElem?_map, List.getElem?_range h]; rfl

theorem getD_ext' {L M : List UInt8} {n : Nat} (h1 : L.length = n) (h2 : M.length = n) (h : ∀ i, i < n → L.getD i 0 = M.getD i 0) : L = M := by
  apply List.ext_getElem (by omega)
  intro i hi hi'
  have := h i (by omega)
  rw [List.getD_eq_getElem?_getD, List.getD_eq_getElem?_getD, List.getElem?_eq_getElem hi, List.getElem?_eq_getElem hi'] at this
  simpa using this
theorem psum_div (k : List UInt8) : ∀ r i, i < r → psum k 0 r / 256 ^ i % 256 = (k.getD i 0).toNat
  | 0, i, h => by omega
  | r + 1, i, h => by
    rw [psum, Nat.zero_add]
    by_cases hi : i = r
    · subst hi
      have hl := psum_lt k 0 i
      have hu := (k.getD i 0).toNat_lt
      rw [Nat.add_mul_div_right _ _ (Nat.pow_pos (by decide)), Nat.div_eq_of_lt hl, Nat.zero_add]
      omega
    · have ih := psum_div k r i (by omega)
      obtain ⟨d, hd⟩ : ∃ d, r = i + (d + 1) := ⟨r - i - 1, by omega⟩
      have e : (k.getD r 0).toNat * 256 ^ r = (k.getD r 0).toNat * 256 ^ d * 256 * 256 ^ i := by
        rw [hd, Nat.pow_add, Nat.pow_succ, Nat.mul_comm (256 ^ i), ← Nat.mul_assoc, ← Nat.mul_assoc]
      rw [e, Nat.add_mul_div_right _ _ (Nat.pow_pos (by decide)), Nat.add_mul_mod_self_right, ih]
theorem ubk_at (W : List (BitVec 64)) : ∀ t, t ≤ 32 → ∀ j, j < t → (ubk W t).getD j 0 = UInt8.ofNat (W.getD (j / 8) 0 >>> (8 * (j % 8))).toNat
  | 0, _, j, h => by omega
  | t + 1, ht, j, hj => by
    have hl := ubk_length W t
    rw [ubk]
    by_cases hq : t = j
    · subst hq
      rw [List.getD_eq_getElem?_getD, List.getElem?_set_self (by omega), Option.getD_some]
    · rw [List.getD_eq_getElem?_getD, List.getElem?_set_ne hq, ← List.getD_eq_getElem?_getD]
      exact ubk_at W t (by omega) j (by omega)

theorem byte_of (M r : Nat) (hr : r < 8) : M / 256 ^ r % 256 = M % 18446744073709551616 / 256 ^ r % 256 := by
  have : r = 0 ∨ r = 1 ∨ r = 2 ∨ r = 3 ∨ r = 4 ∨ r = 5 ∨ r = 6 ∨ r = 7 := by omega
  rcases this with rfl | rfl | rfl | rfl | rfl | rfl | rfl | rfl <;> simp only [Nat.reducePow, Nat.pow_zero, Nat.pow_one] <;> omega

theorem ubk_nb (a b c d : BitVec 64) : ubk [a, b, c, d] 32 = nb (a.toNat + 18446744073709551616 * b.toNat + 340282366920938463463374607431768211456 * c.toNat + 6277101735386680763835789423207666416102355444464034512896 * d.toNat) := by
  have ha := wlt a
  have hb := wlt b
  have hc := wlt c
  have hd := wlt d
  refine getD_ext' (ubk_length _ _) (nb_length _) fun t ht => ?_
  rw [ubk_at _ 32 (by omega) t ht, nb_at _ _ ht]
  apply UInt8.toNat_inj.1
  rw [UInt8.toNat_ofNat', UInt8.toNat_ofNat', BitVec.toNat_ushiftRight, Nat.shiftRight_eq_div_pow]
  obtain ⟨N, hN⟩ : ∃ N, N = a.toNat + 18446744073709551616 * b.toNat + 340282366920938463463374607431768211456 * c.toNat + 6277101735386680763835789423207666416102355444464034512896 * d.toNat := ⟨_, rfl⟩
  rw [← hN]
  have hr : t % 8 < 8 := by omega
  have e1 : 2 ^ (8 * (t % 8)) = 256 ^ (t % 8) := by rw [Nat.pow_mul]
  have e2 : N / 256 ^ t = N / 256 ^ (8 * (t / 8)) / 256 ^ (t % 8) := by
    rw [Nat.div_div_eq_div_mul, ← Nat.pow_add]
    congr 2
    omega
  show _ % 256 = _ % 256
  rw [e1, e2, byte_of (N / 256 ^ (8 * (t / 8))) _ hr]
  congr 3
  have hj : t / 8 = 0 ∨ t / 8 = 1 ∨ t / 8 = 2 ∨ t / 8 = 3 := by omega
  rcases hj with h | h | h | h <;> rw [h]
  · show a.toNat = _
    simp only [Nat.reduceMul, Nat.pow_zero]
    omega
  · show b.toNat = _
    simp only [Nat.reduceMul, Nat.reducePow]
    omega
  · show c.toNat = _
    simp only [Nat.reduceMul, Nat.reducePow]
    omega
  · show d.toNat = _
    simp only [Nat.reduceMul, Nat.reducePow]
    omega

theorem or_sh (x y : BitVec 64) (p q : Nat) (h : x.toNat / 2 ^ p < 2 ^ q) (hq : q ≤ 64) : (x >>> p ||| y <<< q).toNat = x.toNat / 2 ^ p + y.toNat * 2 ^ q % 18446744073709551616 := by
  rw [BitVec.toNat_or, BitVec.toNat_ushiftRight, BitVec.toNat_shiftLeft, Nat.shiftRight_eq_div_pow, Nat.shiftLeft_eq]
  have e : y.toNat * 2 ^ q % 2 ^ 64 = y.toNat % 2 ^ (64 - q) * 2 ^ q := by
    generalize y.toNat = z
    conv => lhs; rw [show 64 = (64 - q) + q by omega, Nat.pow_add]
    rw [Nat.mul_mod_mul_right]
  rw [e, or_small _ _ _ h, ← e]

theorem words5_nat (a b c d e : BitVec 64) (ha : a.toNat < 2251799813685248) (hb : b.toNat < 2251799813685248) (hc : c.toNat < 2251799813685248) (hd : d.toNat < 2251799813685248) (he : e.toNat < 2251799813685248) :
    ubk (words5 a b c d e) 32 = nb (a.toNat + 2251799813685248 * b.toNat + 5070602400912917605986812821504 * c.toNat + 11417981541647679048466287755595961091061972992 * d.toNat + 25711008708143844408671393477458601640355247900524685364822016 * e.toNat) := by
  have e0 : (a ||| b <<< 51).toNat = a.toNat + b.toNat * 2251799813685248 % 18446744073709551616 := by
    have := or_sh a b 0 51 (by simpa using ha) (by omega)
    simpa using this
  have e1 : (b >>> 13 ||| c <<< 38).toNat = b.toNat / 8192 + c.toNat * 274877906944 % 18446744073709551616 := or_sh b c 13 38 (by simp only [Nat.reducePow]; omega) (by omega)
  have e2 : (c >>> 26 ||| d <<< 25).toNat = c.toNat / 67108864 + d.toNat * 33554432 % 18446744073709551616 := or_sh c d 26 25 (by simp only [Nat.reducePow]; omega) (by omega)
  have e3 : (d >>> 39 ||| e <<< 12).toNat = d.toNat / 549755813888 + e.toNat * 4096 % 18446744073709551616 := or_sh d e 39 12 (by simp only [Nat.reducePow]; omega) (by omega)
  unfold words5
  rw [ubk_nb, e0, e1, e2, e3]
  congr 1
  clear e0 e1 e2 e3
  generalize a.toNat = a at *
  generalize b.toNat = b at *
  generalize c.toNat = c at *
  generalize d.toNat = d at *
  generalize e.toNat = e at *
  omega

theorem ov_nat (x : L5) (hx : x.Ok) : (ov x.list 5).toNat = (x.val + 19) / 57896044618658097711785492504343953926634992332820282019728792003956564819968 := by
  obtain ⟨ha, hb, hc, hd, he⟩ := hx
  have o1 : (ov x.list 1).toNat = (x.a.toNat + 19) / 2251799813685248 := by
    show ((x.a + 19#64) >>> 51).toNat = _
    rw [hi51, BitVec.toNat_add]
    show (x.a.toNat + 19) % _ / _ = _
    omega
  have o2 : (ov x.list 2).toNat = (x.b.toNat + (x.a.toNat + 19) / 2251799813685248) / 2251799813685248 := by
    show ((x.b + ov x.list 1) >>> 51).toNat = _
    rw [hi51, BitVec.toNat_add, o1]
    omega
  have o3 : (ov x.list 3).toNat = (x.c.toNat + (ov x.list 2).toNat) / 2251799813685248 := by
    show ((x.c + ov x.list 2) >>> 51).toNat = _
    rw [hi51, BitVec.toNat_add]
    omega
  have o4 : (ov x.list 4).toNat = (x.d.toNat + (ov x.list 3).toNat) / 2251799813685248 := by
    show ((x.d + ov x.list 3) >>> 51).toNat = _
    rw [hi51, BitVec.toNat_add]
    omega
  have o5 : (ov x.list 5).toNat = (x.e.toNat + (ov x.list 4).toNat) / 2251799813685248 := by
    show ((x.e + ov x.list 4) >>> 51).toNat = _
    rw [hi51, BitVec.toNat_add]
    omega
  unfold L5.val
  generalize (ov x.list 5).toNat = t5 at *
  generalize (ov x.list 4).toNat = t4 at *
  generalize (ov x.list 3).toNat = t3 at *
  generalize (ov x.list 2).toNat = t2 at *
  clear o1
  generalize x.a.toNat = a at *
  generalize x.b.toNat = b at *
  generalize x.c.toNat = c at *
  generalize x.d.toNat = d at *
  generalize x.e.toNat = e at *
  omega

theorem rc_at (x : L5) : (rcL x.list 5).getD 0 0 = (x.a + rcC x.list 0) &&& mk51 ∧ (rcL x.list 5).getD 1 0 = (x.b + rcC x.list 1) &&& mk51 ∧ (rcL x.list 5).getD 2 0 = (x.c + rcC x.list 2) &&& mk51 ∧
    (rcL x.list 5).getD 3 0 = (x.d + rcC x.list 3) &&& mk51 ∧ (rcL x.list 5).getD 4 0 = (x.e + rcC x.list 4) &&& mk51 := by
  obtain ⟨a, b, c, d, e⟩ := x
  simp only [L5.list, rcL]
  generalize rcC [a, b, c, d, e] 0 = c0
  generalize rcC [a, b, c, d, e] 1 = c1
  generalize rcC [a, b, c, d, e] 2 = c2
  generalize rcC [a, b, c, d, e] 3 = c3
  generalize rcC [a, b, c, d, e] 4 = c4
  simp

theorem val_lt (x : L5) (hx : x.Ok) : x.val < 115792089237316195423570985008687907853269984665640564039457584007913129639898 := by
  obtain ⟨ha, hb, hc, hd, he⟩ := hx
  unfold L5.val
  omega

theorem tell_is (x : L5) (hx : x.Ok) : tellE x = nb (x.val % P) := by
  have ho := ov_nat x hx
  have hv := val_lt x hx
  obtain ⟨r0, r1, r2, r3, r4⟩ := rc_at x
  obtain ⟨ha, hb, hc, hd, he⟩ := hx
  have hol : (ov x.list 5).toNat ≤ 1 := by rw [ho]; omega
  have e19 : (19#64 : BitVec 64).toNat = 19 := rfl
  have c0 : (rcC x.list 0).toNat = 19 * (ov x.list 5).toNat := by
    show (19#64 * ov x.list 5).toNat = _
    rw [BitVec.toNat_mul, e19]
    omega
  have c1 : (rcC x.list 1).toNat = (x.a.toNat + (rcC x.list 0).toNat) / 2251799813685248 := by
    show ((x.a + rcC x.list 0) >>> 51).toNat = _
    rw [hi51, BitVec.toNat_add]
    omega
  have c2 : (rcC x.list 2).toNat = (x.b.toNat + (rcC x.list 1).toNat) / 2251799813685248 := by
    show ((x.b + rcC x.list 1) >>> 51).toNat = _
    rw [hi51, BitVec.toNat_add]
    omega
  have c3 : (rcC x.list 3).toNat = (x.c.toNat + (rcC x.list 2).toNat) / 2251799813685248 := by
    show ((x.c + rcC x.list 2) >>> 51).toNat = _
    rw [hi51, BitVec.toNat_add]
    omega
  have c4 : (rcC x.list 4).toNat = (x.d.toNat + (rcC x.list 3).toNat) / 2251799813685248 := by
    show ((x.d + rcC x.list 3) >>> 51).toNat = _
    rw [hi51, BitVec.toNat_add]
    omega
  have s0 : ((x.a + rcC x.list 0) &&& mk51).toNat = (x.a.toNat + (rcC x.list 0).toNat) % 2251799813685248 := by rw [lo51, BitVec.toNat_add]; omega
  have s1 : ((x.b + rcC x.list 1) &&& mk51).toNat = (x.b.toNat + (rcC x.list 1).toNat) % 2251799813685248 := by rw [lo51, BitVec.toNat_add]; omega
  have s2 : ((x.c + rcC x.list 2) &&& mk51).toNat = (x.c.toNat + (rcC x.list 2).toNat) % 2251799813685248 := by rw [lo51, BitVec.toNat_add]; omega
  have s3 : ((x.d + rcC x.list 3) &&& mk51).toNat = (x.d.toNat + (rcC x.list 3).toNat) % 2251799813685248 := by rw [lo51, BitVec.toNat_add]; omega
  have s4 : ((x.e + rcC x.list 4) &&& mk51).toNat = (x.e.toNat + (rcC x.list 4).toNat) % 2251799813685248 := by rw [lo51, BitVec.toNat_add]; omega
  unfold tellE
  rw [r0, r1, r2, r3, r4, words5_nat _ _ _ _ _ (by rw [s0]; omega) (by rw [s1]; omega) (by rw [s2]; omega) (by rw [s3]; omega) (by rw [s4]; omega), s0, s1, s2, s3, s4]
  congr 1
  have hP : x.val % P = if (ov x.list 5).toNat = 1 then x.val + 19 - 57896044618658097711785492504343953926634992332820282019728792003956564819968 else x.val := by
    unfold P
    split <;> omega
  rw [hP]
  clear r0 r1 r2 r3 r4 s0 s1 s2 s3 s4 hP e19
  unfold L5.val at *
  generalize (rcC x.list 4).toNat = t4 at *
  generalize (rcC x.list 3).toNat = t3 at *
  generalize (rcC x.list 2).toNat = t2 at *
  generalize (rcC x.list 1).toNat = t1 at *
  generalize (rcC x.list 0).toNat = t0 at *
  generalize (ov x.list 5).toNat = o at *
  generalize x.a.toNat = a at *
  generalize x.b.toNat = b at *
  generalize x.c.toNat = c at *
  generalize x.d.toNat = d at *
  generalize x.e.toNat = e at *
  split <;> omega

end Go.Proofs.YtoceepmehmacbaaDoor.Cv
