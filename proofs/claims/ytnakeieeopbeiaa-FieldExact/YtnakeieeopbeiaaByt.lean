import Derived.Test.YtnakeieeopbeiaaTellG
set_option linter.unusedVariables false
set_option linter.unusedSimpArgs false
namespace Go.Proofs.Ytnakeieeopbeiaa
open Go.RowKit

def z32 : List UInt8 := List.replicate 32 0
/-- The words' bytes, the first t of them. -/
def ubk (W : List (BitVec 64)) : Nat → List UInt8
  | 0 => z32
  | t + 1 => (ubk W t).set t (UInt8.ofNat (W.getD (t / 8) 0 >>> (8 * (t % 8))).toNat)
theorem ubk_length (W : List (BitVec 64)) : ∀ t, (ubk W t).length = 32
  | 0 => by rw [ubk, z32, List.length_replicate]
  | t + 1 => by rw [ubk, List.length_set, ubk_length W t]
theorem zero23 (w : World) : (zeroValue 23).run Try.prog w = .ok (.agg (z32.map byt).toArray) w := by
  rw [Try.zeroValue23]; rfl
theorem byts_one (L : List UInt8) : (L.map byt).toArray.all (·.oneCell') = true :=
  all_oneCell_toArray fun v hv => by
    obtain ⟨x, _, rfl⟩ := List.mem_map.1 hv
    rfl
theorem byt_set (L : List UInt8) (j : Nat) (u : UInt8) : (L.map byt).set j (.int .u8 (u.toNat : Int)) = (L.set j u).map byt := by
  simp [List.map_set]; rfl
theorem w2b (x : BitVec 64) : IntKind.u8.wrap (wn x) = ((UInt8.ofNat x.toNat).toNat : Int) := by
  unfold wn
  rw [IntKind.wrap_u8, UInt8.toNat_ofNat']; omega

structure Unw (n : Nat) (w wx : World) (W : List (BitVec 64)) (L : List UInt8) : Prop where
  wo : Blk wx n (wvs W) 58
  by_ : Blk wx (n + 1) (L.map byt) 23
  be : Below n w wx
theorem Unw.set {n : Nat} {w wx : World} {W : List (BitVec 64)} {L : List UInt8} (h : Unw n w wx W L) (j : Nat) (u : UInt8) : Unw n w (wx.setCell ⟨n + 1, j, none⟩ (.int .u8 (u.toNat : Int))) W (L.set j u) :=
  ⟨h.wo.setOther _ _ _ (by omega), by rw [← byt_set]; exact h.by_.set j _, h.be.setCell (by simp) _⟩

set_option maxRecDepth 100000 in
set_option maxHeartbeats 2000000 in
theorem unworded_any (W : List (BitVec 64)) (hl : W.length = 4) (w : World) :
    Calls Try.prog 27 #[.agg (wvs W).toArray] w fun e w' => e = .returned (.agg ((ubk W 32).map byt).toArray) ∧ Below w.heap.size w w' := by
  have HL := hide hl
  clear hl
  go_enter Try.func27, Try.ntmps27
  go_upto_region 1 with (first | (refine wpList_box rfl 58 _ rfl (wvs W) rfl ?_) | (refine wpList_newAt rfl 23 rfl (z32.map byt) zero23 (w.heap.size + 1) (by simp) ?_))
  have h0 : Hid (Unw w.heap.size w ((w.alloc (.cells (wvs W).toArray 58)).alloc (.cells (z32.map byt).toArray 23)) W (ubk W 0)) := by
    refine ⟨(Blk.new _ _ _).alloc _, ?_, by go_grown⟩
    have := Blk.new (w.alloc (.cells (wvs W).toArray 58)) (z32.map byt) 23
    rw [show ubk W 0 = z32 from rfl]
    simpa using this
  generalize (w.alloc (.cells (wvs W).toArray 58)).alloc (.cells (z32.map byt).toArray 23) = w1 at h0 ⊢
  obtain ⟨n, hn⟩ : ∃ n, w.heap.size = n := ⟨_, rfl⟩
  rw [hn] at h0 ⊢
  go_wp2
  go_loopw [4] (fun i wr => ∃ t : Nat, t ≤ 32 ∧ i = .int .i64 t ∧ Hid (Unw n w wr W (ubk W t))) (fun i _ => 32 - (intOf i).toNat)
  case atStart => exact ⟨0, by omega, rfl, h0⟩
  case round =>
    obtain ⟨t, ht, rfl, hs⟩ := hrel
    have hlen := ubk_length W t
    obtain ⟨L, hL⟩ : ∃ L, ubk W t = L := ⟨_, rfl⟩
    have HL2 := hide hL
    rw [hL] at hs hlen
    clear hL
    by_cases hlt : t < 32
    · have hlz : (t : Int) < 32 := by omega
      obtain ⟨j, hj⟩ : ∃ j, j = t / 8 := ⟨_, rfl⟩
      obtain ⟨r, hr⟩ : ∃ r, r = t % 8 := ⟨_, rfl⟩
      have q1 : (t : Int).tdiv 8 = (j : Int) := by rw [Int.tdiv_eq_ediv_of_nonneg (by omega)]; omega
      have q2 : (t : Int) / 8 = (j : Int) := by omega
      have q3 : (t : Int).tmod 8 = (r : Int) := by rw [Int.tmod_eq_emod_of_nonneg (by omega)]; omega
      have q4 : (t : Int) % 8 = (r : Int) := by omega
      have hj4 : (j : Int) < 4 := by omega
      have hr8 : r < 8 := by omega
      have hc := hs.out.wo.cell j
      rw [wvs_at W j (by rw [HL.out]; omega)] at hc
      have hfz := hs.out.by_.frozen t
      have hold := hs.out.by_.cell t
      have hol2 : (L.map byt)[t]? = some (byt (L.getD t 0)) := by simp [List.getElem?_eq_getElem (show t < L.length by omega)]
      rw [hol2] at hold
      clear hol2
      obtain ⟨x, hx⟩ : ∃ x, W.getD j 0 = x := ⟨_, rfl⟩
      rw [hx] at hc
      obtain ⟨m, hm⟩ : ∃ m, m = 8 * r := ⟨_, rfl⟩
      have q5 : (8 : Int) * (r : Int) = (m : Int) := by omega
      have hm64 : (m : Int) < 64 := by omega
      have e1 := wshr x m
      have e2 := w2b (x >>> m)
      obtain ⟨u, hu⟩ : ∃ u, UInt8.ofNat (x >>> m).toNat = u := ⟨_, rfl⟩
      rw [hu] at e2
      have HU := hide hu
      clear hu
      have HX := hide hx
      have HJ := hide hj
      have HR := hide hr
      have HM := hide hm
      clear hx hj hr hm hlen
      go_wp2
      go_roundw
      case rel =>
        refine ⟨t + 1, by omega, by go_num, ?_⟩
        rw [ubk, ← HJ.out, ← HR.out, ← HM.out, HL2.out, HX.out, HU.out]
        exact hs.out.set t _
      case measure => simp [intOf]; omega
    · obtain rfl : t = 32 := by omega
      have hsz : (Try.prog.info? 23).map (·.size) = some (L.map byt).length := by rw [List.length_map, hlen]; kernel_rfl
      have HSZ := hide hsz
      clear hsz hlen
      go_wp2_with (first | (refine wpList_load_row rfl 23 (.tmp 2) rfl (n + 1) rfl 23 (L.map byt).toArray (0, 0) _ hs.out.by_ Try.underlying23 rfl (by simpa using HSZ.out) ?_) | (refine wpList_store_row rfl 23 (.tmp 2) (.tmp 19) rfl (n + 1) (L.map byt).toArray rfl rfl 23 (L.map byt).toArray hs.out.by_ (by simpa using HSZ.out) rfl (byts_one L) ?_))
      refine bodyPost_ret (results_cell_row Try.results27 _ _ (n + 1) 23 (L.map byt).toArray (0, 0) _ rfl (hs.out.by_.setRow _) Try.underlying23 rfl (by simpa using HSZ.out)) rfl ?_
      exact ⟨by rw [HL2.out], by rw [hn]; exact below_setRow hs.out.be _ _ (by omega)⟩

theorem wshl51 (x : BitVec 64) : IntKind.u64.wrap (wn x * (2251799813685248 : Int)) = wn (x <<< 51) := wshl x 51
theorem wshl38 (x : BitVec 64) : IntKind.u64.wrap (wn x * (274877906944 : Int)) = wn (x <<< 38) := wshl x 38
theorem wshl25 (x : BitVec 64) : IntKind.u64.wrap (wn x * (33554432 : Int)) = wn (x <<< 25) := wshl x 25
theorem wshl12 (x : BitVec 64) : IntKind.u64.wrap (wn x * (4096 : Int)) = wn (x <<< 12) := wshl x 12
theorem wshr13 (x : BitVec 64) : wn x / (8192 : Int) = wn (x >>> 13) := wshr x 13
theorem wshr26 (x : BitVec 64) : wn x / (67108864 : Int) = wn (x >>> 26) := wshr x 26
theorem wshr39 (x : BitVec 64) : wn x / (549755813888 : Int) = wn (x >>> 39) := wshr x 39

/-- The words of five limbs. -/
def words5 (a b c d e : BitVec 64) : List (BitVec 64) := [a ||| b <<< 51, b >>> 13 ||| c <<< 38, c >>> 26 ||| d <<< 25, d >>> 39 ||| e <<< 12]
def tellE (x : L5) : List UInt8 := ubk (words5 ((rcL x.list 5).getD 0 0) ((rcL x.list 5).getD 1 0) ((rcL x.list 5).getD 2 0) ((rcL x.list 5).getD 3 0) ((rcL x.list 5).getD 4 0)) 32
theorem tell_length (x : L5) : (tellE x).length = 32 := ubk_length _ _
theorem five {α : Type} {L : List α} (h : L.length = 5) : ∃ a b c d e, L = [a, b, c, d, e] := by
  match L, h with
  | [a, b, c, d, e], _ => exact ⟨a, b, c, d, e, rfl⟩

set_option maxRecDepth 100000 in
set_option maxHeartbeats 2000000 in
theorem bytes_any (x : L5) (w : World) :
    Calls Try.prog 10 #[x.v] w fun e w' => e = .returned (.agg ((tellE x).map byt).toArray) ∧ Below w.heap.size w w' := by
  obtain ⟨a, b, c, d, e, hL⟩ := five (show (rcL x.list 5).length = 5 by rw [rcL_length]; rfl)
  have hrd : ∀ W, Calls Try.prog 26 #[x.v] W fun e w' => e = .returned (.agg (wvs (rcL x.list 5)).toArray) ∧ Below W.heap.size W w' := fun W => reduced_any x.list rfl W
  rw [hL] at hrd
  have hT : tellE x = ubk (words5 a b c d e) 32 := by
    unfold tellE
    rw [hL]
    rfl
  have hlen := tell_length x
  have hun := fun W => unworded_any (words5 a b c d e) rfl W
  rw [← hT] at hun
  generalize tellE x = R at hT hun hlen ⊢
  clear hL hT
  have hsz : (Try.prog.info? 23).map (·.size) = some (R.map byt).length := by rw [List.length_map, hlen]; kernel_rfl
  go_enter Try.func10, Try.ntmps10
  go_upto_region 1 with (first | (refine wpList_boxAt rfl 27 (.tmp 0) rfl x.cs rfl w.heap.size rfl ?_) | (refine wpList_newAt rfl 23 rfl (z32.map byt) zero23 (w.heap.size + 1) (by simp) ?_))
  have b1 : Blk ((w.alloc (.cells x.cs.toArray 27)).alloc (.cells (z32.map byt).toArray 23)) w.heap.size x.cs 27 := (Blk.new _ _ _).alloc _
  have b2 : Blk ((w.alloc (.cells x.cs.toArray 27)).alloc (.cells (z32.map byt).toArray 23)) (w.heap.size + 1) (z32.map byt) 23 := by
    have := Blk.new (w.alloc (.cells x.cs.toArray 27)) (z32.map byt) 23
    simpa using this
  have be : Below w.heap.size w ((w.alloc (.cells x.cs.toArray 27)).alloc (.cells (z32.map byt).toArray 23)) := by go_grown
  generalize (w.alloc (.cells x.cs.toArray 27)).alloc (.cells (z32.map byt).toArray 23) = w1 at b1 b2 be ⊢
  obtain ⟨n, hn⟩ : ∃ n, w.heap.size = n := ⟨_, rfl⟩
  rw [hn] at b1 b2 be ⊢
  simp only [Act.put, List.setIfInBounds_toArray, List.set_cons_zero, List.set_cons_succ]
  refine lst_newT 2 rfl rfl rfl rfl 3 rfl 25 rfl z5 zero25 rfl rfl (.tmp 5) rfl ?_
  simp only [List.take_succ_cons, List.take_zero]
  refine wpLex_cons _ (uni_row rfl 27 (.tmp 1) rfl n x.cs 27 rfl (fun W hW => b1.on hW) Try.underlying27 rfl (cs_info _)) ?_
  simp only [Act.put, List.setIfInBounds_toArray, List.set_cons_zero, List.set_cons_succ]
  refine wpLex_cons _ (uni_callF (by rfl) 26 [Operand.tmp 4] #[27] rfl [x.v] (.agg (wvs [a, b, c, d, e]).toArray) rfl enter26 (fun W hW => hrd W)) ?_
  simp only [Act.put, List.setIfInBounds_toArray, List.set_cons_zero, List.set_cons_succ]
  refine ⟨wvs [a, b, c, d, e], rfl, by simp, by simp, by kernel_rfl, rfl, wvs_one _, fun g w2 hg hW c1 => ?_⟩
  simp only [Act.put, List.setIfInBounds_toArray, List.set_cons_zero, List.set_cons_succ]
  replace b2 := b2.on hW
  replace be := be.trans (hW.mono (by have := be.size; omega))
  have g0 : w2.cell? ⟨g, 0, none⟩ = some (.int .u64 (wn a)) := c1.cell 0
  have g1 : w2.cell? ⟨g, 1, none⟩ = some (.int .u64 (wn b)) := c1.cell 1
  have g2 : w2.cell? ⟨g, 2, none⟩ = some (.int .u64 (wn c)) := c1.cell 2
  have g3 : w2.cell? ⟨g, 3, none⟩ = some (.int .u64 (wn d)) := c1.cell 3
  have g4 : w2.cell? ⟨g, 4, none⟩ = some (.int .u64 (wn e)) := c1.cell 4
  clear hW hg b1 w1 hrd c1
  have B2 := hide b2
  have BE := hide be
  have HU := hide hun
  have HSZ := hide hsz
  have HLN := hide hlen
  clear b2 be hun hsz hlen
  have h2 := wshl51
  have h3 := wshr13
  have h4 := wshl38
  have h5 := wshr26
  have h6 := wshl25
  have h7 := wshr39
  have h8 := wshl12
  have h9 := wor
  go_wp2_with (first | (go_at_call 27; refine (HU.out _).mono ?_; rintro e w3 ⟨rfl, hb⟩; have B3 := hide hb; clear hb) | (refine wpList_store_row rfl 23 (.tmp 2) (.tmp 34) rfl (n + 1) (R.map byt).toArray rfl rfl 23 (z32.map byt).toArray (B2.out.on B3.out) (by simpa using HSZ.out) (by simp [z32, HLN.out]) (byts_one _) ?_))
  refine bodyPost_ret (results_cell_row Try.results10 _ _ (n + 1) 23 (R.map byt).toArray (0, 0) _ rfl ((B2.out.on B3.out).setRow _) Try.underlying23 rfl (by simpa using HSZ.out)) rfl ?_
  exact ⟨rfl, by rw [hn]; exact below_setRow (BE.out.trans (B3.out.mono (by have := BE.out.size; omega))) _ _ (by omega)⟩
end Go.Proofs.Ytnakeieeopbeiaa
