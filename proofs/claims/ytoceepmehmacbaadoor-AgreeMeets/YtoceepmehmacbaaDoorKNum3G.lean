import Derived.Test.YtoceepmehmacbaaDoorKTellG
import Derived.Test.YtoceepmehmacbaaDoorKNum2G
set_option linter.unusedVariables false
set_option linter.unusedSimpArgs false
namespace Go.Proofs.YtoceepmehmacbaaDoor.Cv
open Go.RowKit

def z32 : List UInt8 := List.replicate 32 0
/-- The words' bytes, the first t of them. -/
def ubk (W : List (BitVec 64)) : Nat → List UInt8
  | 0 => z32
  | t + 1 => (ubk W t).set t (UInt8.ofNat (W.getD (t / 8) 0 >>> (8 * (t % 8))).toNat)
theorem ubk_length (W : List (BitVec 64)) : ∀ t, (ubk W t).length = 32
  | 0 => by rw [ubk, z32, List.length_replicate]
  | t + 1 => by rw [ubk, List.length_set, ubk_length W t]
theorem zero23 (w : World) : (zeroValue 23).run Tryd.prog w = .ok (.agg (z32.map byt).toArray) w := by
  rw [Tryd.zeroValue23]; rfl
theorem byts_one (L : List UInt8) : (L.map byt).toArray.all (·.oneCell') = true :=
  all_oneCell_toArray fun v hv => by
    obtain ⟨x, _, rfl⟩ := List.mem_map.1 hv
    rfl
theorem byt_set (L : List UInt8) (j : Nat) (u : UInt8) : (L.map byt).set j (.int .u8 (u.toNat : Int)) = (L.set j u).map byt := by
  simp [List.map_set]; rfl
theorem w2b (x : BitVec 64) : IntKind.u8.wrap (wn x) = ((UInt8.ofNat x.toNat).toNat : Int) := by
  unfold wn
  rw [IntKind.wrap_u8, UInt8.toNat_ofNat']; omega

structure Unw (n : Nat) (w wx : World) (W : List (BitVec 64)) (L : List UInt8) : Prop where
  wo : Blk wx n (wvs W) 89
  by_ : Blk wx (n + 1) (L.map byt) 23
  be : Below n w wx
theorem Unw.set {n : Nat} {w wx : World} {W : List (BitVec 64)} {L : List UInt8} (h : Unw n w wx W L) (j : Nat) (u : UInt8) : Unw n w (wx.setCell ⟨n + 1, j, none⟩ (.int .u8 (u.toNat : Int))) W (L.set j u) :=
  ⟨h.wo.setOther _ _ _ (by omega), by rw [← byt_set]; exact h.by_.set j _, h.be.setCell (by simp) _⟩

set_option maxRecDepth 100000 in
set_option maxHeartbeats 2000000 in
theorem unworded_any (W : List (BitVec 64)) (hl : W.length = 4) (w : World) :
    Calls Tryd.prog 41 #[.agg (wvs W).toArray] w fun e w' => e = .returned (.agg ((ubk W 32).map byt).toArray) ∧ Below w.heap.size w w' := by
  have HL := hide hl
  clear hl
  go_enter Tryd.func41, Tryd.ntmps41
  go_upto_region 1 with (first | (refine wpList_box rfl 89 _ rfl (wvs W) rfl ?_) | (refine wpList_newAt rfl 23 rfl (z32.map byt) zero23 (w.heap.size + 1) (by simp) ?_))
  have h0 : Hid (Unw w.heap.size w ((w.alloc (.cells (wvs W).toArray 89)).alloc (.cells (z32.map byt).toArray 23)) W (ubk W 0)) := by
    refine ⟨(Blk.new _ _ _).alloc _, ?_, by go_grown⟩
    have := Blk.new (w.alloc (.cells (wvs W).toArray 89)) (z32.map byt) 23
    rw [show ubk W 0 = z32 from rfl]
    simpa using this
  generalize (w.alloc (.cells (wvs W).toArray 89)).alloc (.cells (z32.map byt).toArray 23) = w1 at h0 ⊢
  obtain ⟨n, hn⟩ : ∃ n, w.heap.size = n := ⟨_, rfl⟩
  rw [hn] at h0 ⊢
  go_wp2
  go_loopw [4] (fun i wr => ∃ t : Nat, t ≤ 32 ∧ i = .int .i64 t ∧ Hid (Unw n w wr W (ubk W t))) (fun i _ => 32 - (intOf i).toNat)
  case atStart => exact ⟨0, by omega, rfl, h0⟩
  case round =>
    obtain ⟨t, ht, rfl, hs⟩ := hrel
    have hlen := ubk_length W t
    obtain ⟨L, hL⟩ : ∃ L, ubk W t = L := ⟨_, rfl⟩
    have HL2 := hide hL
    rw [hL] at hs hlen
    clear hL
    by_cases hlt : t < 32
    · have hlz : (t : Int) < 32 := by omega
      obtain ⟨j, hj⟩ : ∃ j, j = t / 8 := ⟨_, rfl⟩
      obtain ⟨r, hr⟩ : ∃ r, r = t % 8 := ⟨_, rfl⟩
      have q1 : (t : Int).tdiv 8 = (j : Int) := by rw [Int.tdiv_eq_ediv_of_nonneg (by omega)]; omega
      have q2 : (t : Int) / 8 = (j : Int) := by omega
      have q3 : (t : Int).tmod 8 = (r : Int) := by rw [Int.tmod_eq_emod_of_nonneg (by omega)]; omega
      have q4 : (t : Int) % 8 = (r : Int) := by omega
      have hj4 : (j : Int) < 4 := by omega
      have hr8 : r < 8 := by omega
      have hc := hs.out.wo.cell j
      rw [wvs_at W j (by rw [HL.out]; omega)] at hc
      have hfz := hs.out.by_.frozen t
      have hold := hs.out.by_.cell t
      have hol2 : (L.map byt)[t]? = some (byt (L.getD t 0)) := by simp [List.getElem?_eq_getElem (show t < L.length by omega)]
      rw [hol2] at hold
      clear hol2
      obtain ⟨x, hx⟩ : ∃ x, W.getD j 0 = x := ⟨_, rfl⟩
      rw [hx] at hc
      obtain ⟨m, hm⟩ : ∃ m, m = 8 * r := ⟨_, rfl⟩
      have q5 : (8 : Int) * (r : Int) = (m : Int) := by omega
      have hm64 : (m : Int) < 64 := by omega
      have e1 := wshr x m
      have e2 := w2b (x >>> m)
      obtain ⟨u, hu⟩ : ∃ u, UInt8.ofNat (x >>> m).toNat = u := ⟨_, rfl⟩
      rw [hu] at e2
      have HU := hide hu
      clear hu
      have HX := hide hx
      have HJ := hide hj
      have HR := hide hr
      have HM := hide hm
      clear hx hj hr hm hlen
      go_wp2
      go_roundw
      case rel =>
        refine ⟨t + 1, by omega, by go_num, ?_⟩
        rw [ubk, ← HJ.out, ← HR.out, ← HM.out, HL2.out, HX.out, HU.out]
        exact hs.out.set t _
      case measure => simp [intOf]; omega
    · obtain rfl : t = 32 := by omega
      have hsz : (Tryd.prog.info? 23).map (·.size) = some (L.map byt).length := by rw [List.length_map, hlen]; kernel_rfl
      have HSZ := hide hsz
      clear hsz hlen
      go_wp2_with (first | (refine wpList_load_row rfl 23 (.tmp 2) rfl (n + 1) rfl 23 (L.map byt).toArray (0, 0) _ hs.out.by_ Tryd.underlying23 rfl (by simpa using HSZ.out) ?_) | (refine wpList_store_row rfl 23 (.tmp 2) (.tmp 19) rfl (n + 1) (L.map byt).toArray rfl rfl 23 (L.map byt).toArray hs.out.by_ (by simpa using HSZ.out) rfl (byts_one L) ?_))
      refine bodyPost_ret (results_cell_row Tryd.results41 _ _ (n + 1) 23 (L.map byt).toArray (0, 0) _ rfl (hs.out.by_.setRow _) Tryd.underlying23 rfl (by simpa using HSZ.out)) rfl ?_
      exact ⟨by rw [HL2.out], by rw [hn]; exact below_setRow hs.out.be _ _ (by omega)⟩

theorem wshl51 (x : BitVec 64) : IntKind.u64.wrap (wn x * (2251799813685248 : Int)) = wn (x <<< 51) := wshl x 51
theorem wshl38 (x : BitVec 64) : IntKind.u64.wrap (wn x * (274877906944 : Int)) = wn (x <<< 38) := wshl x 38
theorem wshl25 (x : BitVec 64) : IntKind.u64.wrap (wn x * (33554432 : Int)) = wn (x <<< 25) := wshl x 25
theorem wshl12 (x : BitVec 64) : IntKind.u64.wrap (wn x * (4096 : Int)) = wn (x <<< 12) := wshl x 12
theorem wshr13 (x : BitVec 64) : wn x / (8192 : Int) = wn (x >>> 13) := wshr x 13
theorem wshr26 (x : BitVec 64) : wn x / (67108864 : Int) = wn (x >>> 26) := wshr x 26
theorem wshr39 (x : BitVec 64) : wn x / (549755813888 : Int) = wn (x >>> 39) := wshr x 39

/-- The words of five limbs. -/
def words5 (a b c d e : BitVec 64) : List (BitVec 64) := [a ||| b <<< 51, b >>> 13 ||| c <<< 38, c >>> 26 ||| d <<< 25, d >>> 39 ||| e <<< 12]
def tellE (x : L5) : List UInt8 := ubk (words5 ((rcL x.list 5).getD 0 0) ((rcL x.list 5).getD 1 0) ((rcL x.list 5).getD 2 0) ((rcL x.list 5).getD 3 0) ((rcL x.list 5).getD 4 0)) 32
theorem tell_length (x : L5) : (tellE x).length = 32 := ubk_length _ _
theorem five {α : Type} {L : List α} (h : L.length = 5) : ∃ a b c d e, L = [a, b, c, d, e] := by
  match L, h with
  | [a, b, c, d, e], _ => exact ⟨a, b, c, d, e, rfl⟩

set_option maxRecDepth 100000 in
set_option maxHeartbeats 2000000 in
theorem bytes_any (x : L5) (w : World) :
    Calls Tryd.prog 28 #[x.v] w fun e w' => e = .returned (.agg ((tellE x).map byt).toArray) ∧ Below w.heap.size w w' := by
  obtain ⟨a, b, c, d, e, hL⟩ := five (show (rcL x.list 5).length = 5 by rw [rcL_length]; rfl)
  have hrd : ∀ W, Calls Tryd.prog 40 #[x.v] W fun e w' => e = .returned (.agg (wvs (rcL x.list 5)).toArray) ∧ Below W.heap.size W w' := fun W => reduced_any x.list rfl W
  rw [hL] at hrd
  have hT : tellE x = ubk (words5 a b c d e) 32 := by
    unfold tellE
    rw [hL]
    rfl
  have hlen := tell_length x
  have hun := fun W => unworded_any (words5 a b c d e) rfl W
  rw [← hT] at hun
  generalize tellE x = R at hT hun hlen ⊢
  clear hL hT
  have hsz : (Tryd.prog.info? 23).map (·.size) = some (R.map byt).length := by rw [List.length_map, hlen]; kernel_rfl
  go_enter Tryd.func28, Tryd.ntmps28
  go_upto_region 1 with (first | (refine wpList_boxAt rfl 71 (.tmp 0) rfl x.cs rfl w.heap.size rfl ?_) | (refine wpList_newAt rfl 23 rfl (z32.map byt) zero23 (w.heap.size + 1) (by simp) ?_))
  have b1 : Blk ((w.alloc (.cells x.cs.toArray 71)).alloc (.cells (z32.map byt).toArray 23)) w.heap.size x.cs 71 := (Blk.new _ _ _).alloc _
  have b2 : Blk ((w.alloc (.cells x.cs.toArray 71)).alloc (.cells (z32.map byt).toArray 23)) (w.heap.size + 1) (z32.map byt) 23 := by
    have := Blk.new (w.alloc (.cells x.cs.toArray 71)) (z32.map byt) 23
    simpa using this
  have be : Below w.heap.size w ((w.alloc (.cells x.cs.toArray 71)).alloc (.cells (z32.map byt).toArray 23)) := by go_grown
  generalize (w.alloc (.cells x.cs.toArray 71)).alloc (.cells (z32.map byt).toArray 23) = w1 at b1 b2 be ⊢
  obtain ⟨n, hn⟩ : ∃ n, w.heap.size = n := ⟨_, rfl⟩
  rw [hn] at b1 b2 be ⊢
  simp only [Act.put, List.setIfInBounds_toArray, List.set_cons_zero, List.set_cons_succ]
  refine lst_newT 2 rfl rfl rfl rfl 3 rfl 69 rfl z5 zero25 rfl rfl (.tmp 5) rfl ?_
  simp only [List.take_succ_cons, List.take_zero]
  refine wpLex_cons _ (uni_row rfl 71 (.tmp 1) rfl n x.cs 71 rfl (fun W hW => b1.on hW) Tryd.underlying71 rfl (cs_info _)) ?_
  simp only [Act.put, List.setIfInBounds_toArray, List.set_cons_zero, List.set_cons_succ]
  refine wpLex_cons _ (uni_callF (by rfl) 40 [Operand.tmp 4] #[71] rfl [x.v] (.agg (wvs [a, b, c, d, e]).toArray) rfl enter40 (fun W hW => hrd W)) ?_
  simp only [Act.put, List.setIfInBounds_toArray, List.set_cons_zero, List.set_cons_succ]
  refine ⟨wvs [a, b, c, d, e], rfl, by simp, by simp, by kernel_rfl, rfl, wvs_one _, fun g w2 hg hW c1 => ?_⟩
  simp only [Act.put, List.setIfInBounds_toArray, List.set_cons_zero, List.set_cons_succ]
  replace b2 := b2.on hW
  replace be := be.trans (hW.mono (by have := be.size; omega))
  have g0 : w2.cell? ⟨g, 0, none⟩ = some (.int .u64 (wn a)) := c1.cell 0
  have g1 : w2.cell? ⟨g, 1, none⟩ = some (.int .u64 (wn b)) := c1.cell 1
  have g2 : w2.cell? ⟨g, 2, none⟩ = some (.int .u64 (wn c)) := c1.cell 2
  have g3 : w2.cell? ⟨g, 3, none⟩ = some (.int .u64 (wn d)) := c1.cell 3
  have g4 : w2.cell? ⟨g, 4, none⟩ = some (.int .u64 (wn e)) := c1.cell 4
  clear hW hg b1 w1 hrd c1
  have B2 := hide b2
  have BE := hide be
  have HU := hide hun
  have HSZ := hide hsz
  have HLN := hide hlen
  clear b2 be hun hsz hlen
  have h2 := wshl51
  have h3 := wshr13
  have h4 := wshl38
  have h5 := wshr26
  have h6 := wshl25
  have h7 := wshr39
  have h8 := wshl12
  have h9 := wor
  go_wp2_with (first | (go_at_call 41; refine (HU.out _).mono ?_; rintro e w3 ⟨rfl, hb⟩; have B3 := hide hb; clear hb) | (refine wpList_store_row rfl 23 (.tmp 2) (.tmp 34) rfl (n + 1) (R.map byt).toArray rfl rfl 23 (z32.map byt).toArray (B2.out.on B3.out) (by simpa using HSZ.out) (by simp [z32, HLN.out]) (byts_one _) ?_))
  refine bodyPost_ret (results_cell_row Tryd.results28 _ _ (n + 1) 23 (R.map byt).toArray (0, 0) _ rfl ((B2.out.on B3.out).setRow _) Tryd.underlying23 rfl (by simpa using HSZ.out)) rfl ?_
  exact ⟨rfl, by rw [hn]; exact below_setRow (BE.out.trans (B3.out.mono (by have := BE.out.size; omega))) _ _ (by omega)⟩
end Go.Proofs.YtoceepmehmacbaaDoor.Cv

set_option linter.unusedVariables false
set_option linter.unusedSimpArgs false
namespace Go.Proofs.YtoceepmehmacbaaDoor.Cv
open Go.RowKit Prm

/-- r bytes from place s on, as a number. -/
def psum (k : List UInt8) (s : Nat) : Nat → Nat
  | 0 => 0
  | r + 1 => psum k s r + (k.getD (s + r) 0).toNat * 256 ^ r
theorem psum_lt (k : List UInt8) (s : Nat) : ∀ r, psum k s r < 256 ^ r
  | 0 => by simp [psum]
  | r + 1 => by
    have h := psum_lt k s r
    have hu := (k.getD (s + r) 0).toNat_lt
    rw [psum, Nat.pow_succ]
    have : (k.getD (s + r) 0).toNat * 256 ^ r ≤ 255 * 256 ^ r := Nat.mul_le_mul_right _ (by omega)
    omega
theorem psum_add (k : List UInt8) (s r : Nat) : ∀ q, psum k s (r + q) = psum k s r + 256 ^ r * psum k (s + r) q
  | 0 => by simp [psum]
  | q + 1 => by
    rw [← Nat.add_assoc, psum, psum_add k s r q, psum, Nat.pow_add, Nat.add_assoc s r q, Nat.mul_add, Nat.add_assoc]
    congr 2
    rw [Nat.mul_left_comm]

theorem or_add (x : BitVec 64) (u : UInt8) (r : Nat) (hr : r < 8) (hx : x.toNat < 256 ^ r) : (x ||| bw u <<< (8 * r)).toNat = x.toNat + u.toNat * 256 ^ r := by
  have hu := u.toNat_lt
  have hp : (256 : Nat) ^ r = 2 ^ (8 * r) := by rw [Nat.pow_mul]
  have hle : u.toNat * 2 ^ (8 * r) < 18446744073709551616 := by
    have h1 : 2 ^ (8 * r) ≤ 2 ^ 56 := Nat.pow_le_pow_right (by decide) (by omega)
    have h2 : u.toNat * 2 ^ (8 * r) ≤ 255 * 2 ^ 56 := Nat.mul_le_mul (by omega) h1
    omega
  rw [BitVec.toNat_or, BitVec.toNat_shiftLeft, bw_nat, Nat.shiftLeft_eq, Nat.mod_eq_of_lt (by omega), hp]
  rw [hp] at hx
  have := Nat.two_pow_add_eq_or_of_lt hx u.toNat
  rw [Nat.or_comm, Nat.mul_comm u.toNat, ← this, Nat.add_comm]

theorem wdk_at (k : List UInt8) : ∀ t, t ≤ 32 → ∀ j, j < 4 → ((wdk k t).getD j 0).toNat = psum k (8 * j) (min 8 (t - 8 * j))
  | 0, _, j, hj => by
    have : j = 0 ∨ j = 1 ∨ j = 2 ∨ j = 3 := by omega
    rcases this with rfl | rfl | rfl | rfl <;> rfl
  | t + 1, ht, j, hj => by
    have ih := wdk_at k t (by omega)
    have hl := wdk_length k t
    rw [wdk]
    by_cases hq : t / 8 = j
    · have hr : t % 8 < 8 := by omega
      have e1 : min 8 (t + 1 - 8 * j) = t % 8 + 1 := by omega
      have e2 : min 8 (t - 8 * j) = t % 8 := by omega
      have e3 : 8 * j + t % 8 = t := by omega
      have hi := ih j hj
      rw [e2] at hi
      rw [hq, List.getD_eq_getElem?_getD, List.getElem?_set_self (by omega), Option.getD_some, or_add _ _ _ hr (by rw [hi]; exact psum_lt _ _ _), hi, e1, psum, e3]
    · rw [List.getD_eq_getElem?_getD, List.getElem?_set_ne hq, ← List.getD_eq_getElem?_getD, ih j hj]
      congr 1
      omega

/-- The number of a key. -/
def kn (k : List UInt8) : Nat := psum k 0 32
theorem kn_words (k : List UInt8) : kn k = psum k 0 8 + 18446744073709551616 * psum k 8 8 + 340282366920938463463374607431768211456 * psum k 16 8 + 6277101735386680763835789423207666416102355444464034512896 * psum k 24 8 := by
  have h1 := psum_add k 0 8 24
  have h2 := psum_add k 8 8 16
  have h3 := psum_add k 16 8 8
  simp only [Nat.zero_add, Nat.reduceAdd, Nat.reducePow] at h1 h2 h3
  unfold kn
  omega
theorem or_small (x y : Nat) (i : Nat) (hx : x < 2 ^ i) : x ||| y * 2 ^ i = x + y * 2 ^ i := by
  have := Nat.two_pow_add_eq_or_of_lt hx y
  rw [Nat.or_comm, Nat.mul_comm, ← this, Nat.add_comm]
theorem sh_or (x y : BitVec 64) (p q : Nat) (hpq : p + q = 64) : (x >>> p ||| y <<< q).toNat = x.toNat / 2 ^ p + y.toNat * 2 ^ q % 18446744073709551616 := by
  have hx := wlt x
  rw [BitVec.toNat_or, BitVec.toNat_ushiftRight, BitVec.toNat_shiftLeft, Nat.shiftRight_eq_div_pow, Nat.shiftLeft_eq]
  have e : y.toNat * 2 ^ q % 2 ^ 64 = y.toNat % 2 ^ p * 2 ^ q := by
    generalize y.toNat = z
    rw [← hpq, Nat.pow_add, Nat.mul_mod_mul_right]
  rw [e, or_small _ _ _ (by
    rw [Nat.div_lt_iff_lt_mul (Nat.two_pow_pos p), ← Nat.pow_add, Nat.add_comm, hpq]; exact hx), ← e]

theorem limbs4_nat (a b c d : BitVec 64) : (limbs4 a b c d).val = (a.toNat + 18446744073709551616 * b.toNat + 340282366920938463463374607431768211456 * c.toNat + 6277101735386680763835789423207666416102355444464034512896 * d.toNat) % 57896044618658097711785492504343953926634992332820282019728792003956564819968 ∧ (limbs4 a b c d).Ok := by
  have ha := wlt a
  have hb := wlt b
  have hc := wlt c
  have hd := wlt d
  have e0 : (a &&& mk51).toNat = a.toNat % 2251799813685248 := lo51 a
  have e1 : ((a >>> 51 ||| b <<< 13) &&& mk51).toNat = (a.toNat / 2251799813685248 + b.toNat * 8192 % 18446744073709551616) % 2251799813685248 := by rw [lo51, sh_or a b 51 13 rfl]
  have e2 : ((b >>> 38 ||| c <<< 26) &&& mk51).toNat = (b.toNat / 274877906944 + c.toNat * 67108864 % 18446744073709551616) % 2251799813685248 := by rw [lo51, sh_or b c 38 26 rfl]
  have e3 : ((c >>> 25 ||| d <<< 39) &&& mk51).toNat = (c.toNat / 33554432 + d.toNat * 549755813888 % 18446744073709551616) % 2251799813685248 := by rw [lo51, sh_or c d 25 39 rfl]
  have e4 : (d >>> 12 &&& mk51).toNat = d.toNat / 4096 % 2251799813685248 := by rw [lo51, BitVec.toNat_ushiftRight, Nat.shiftRight_eq_div_pow]
  refine ⟨?_, ⟨?_, ?_, ?_, ?_, ?_⟩⟩
  · simp only [L5.val, limbs4, e0, e1, e2, e3, e4]
    clear e0 e1 e2 e3 e4
    generalize a.toNat = a at *
    generalize b.toNat = b at *
    generalize c.toNat = c at *
    generalize d.toNat = d at *
    omega
  all_goals (first | (show (a &&& mk51).toNat < _; rw [e0]; omega) | (show ((a >>> 51 ||| b <<< 13) &&& mk51).toNat < _; rw [e1]; omega) | (show ((b >>> 38 ||| c <<< 26) &&& mk51).toNat < _; rw [e2]; omega) | (show ((c >>> 25 ||| d <<< 39) &&& mk51).toNat < _; rw [e3]; omega) | (show (d >>> 12 &&& mk51).toNat < _; rw [e4]; omega))

theorem read_val (k : List UInt8) : (readE k).val = kn k % 57896044618658097711785492504343953926634992332820282019728792003956564819968 := by
  unfold readE
  have w0 : ((wdk k 32).getD 0 0).toNat = psum k 0 8 := wdk_at k 32 (by omega) 0 (by omega)
  have w1 : ((wdk k 32).getD 1 0).toNat = psum k 8 8 := wdk_at k 32 (by omega) 1 (by omega)
  have w2 : ((wdk k 32).getD 2 0).toNat = psum k 16 8 := wdk_at k 32 (by omega) 2 (by omega)
  have w3 : ((wdk k 32).getD 3 0).toNat = psum k 24 8 := wdk_at k 32 (by omega) 3 (by omega)
  rw [(limbs4_nat _ _ _ _).1, w0, w1, w2, w3, kn_words]
theorem read_ok (k : List UInt8) : (readE k).Ok := (limbs4_nat _ _ _ _).2

end Go.Proofs.YtoceepmehmacbaaDoor.Cv
