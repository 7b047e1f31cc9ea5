import Derived.Test.YtnakeieeopbeiaaAdd
import Derived.Test.YtnakeieeopbeiaaEnt
import Derived.Deep.QuietTactic
import Derived.BigQuiet
set_option linter.unusedVariables false
set_option linter.unusedSimpArgs false
namespace Go.Proofs.Ytnakeieeopbeiaa
open Go.RowKit

/-- A number of 128 bits. -/
structure W2 where
  h : BitVec 64
  l : BitVec 64
def W2.cs (s : W2) : List Value := [.int .u64 (wn s.h), .int .u64 (wn s.l)]
def W2.v (s : W2) : Value := .agg s.cs.toArray
def plW (s : W2) (x y : BitVec 64) : W2 := ⟨plh s.h s.l x y, pll s.l x y⟩
def W2.up (s : W2) : BitVec 64 := abv s.h s.l
def w20 : W2 := ⟨0, 0⟩
theorem w2_one (s : W2) : s.cs.toArray.all (·.oneCell') = true := by simp [W2.cs, Value.oneCell']

def ms0 (x y : L5) : W2 := plW (plW (plW (plW (plW w20 x.a y.a) x.b (19#64 * y.e)) x.c (19#64 * y.d)) x.d (19#64 * y.c)) x.e (19#64 * y.b)
def ms1 (x y : L5) : W2 := plW (plW (plW (plW (plW w20 x.a y.b) x.b y.a) x.c (19#64 * y.e)) x.d (19#64 * y.d)) x.e (19#64 * y.c)
def ms2 (x y : L5) : W2 := plW (plW (plW (plW (plW w20 x.a y.c) x.b y.b) x.c y.a) x.d (19#64 * y.e)) x.e (19#64 * y.d)
def ms3 (x y : L5) : W2 := plW (plW (plW (plW (plW w20 x.a y.d) x.b y.c) x.c y.b) x.d y.a) x.e (19#64 * y.e)
def ms4 (x y : L5) : W2 := plW (plW (plW (plW (plW w20 x.a y.e) x.b y.d) x.c y.c) x.d y.b) x.e y.a
def joinW (s0 s1 s2 s3 s4 : W2) : L5 := ⟨(s0.l &&& mk51) + 19#64 * s4.up, (s1.l &&& mk51) + s0.up, (s2.l &&& mk51) + s1.up, (s3.l &&& mk51) + s2.up, (s4.l &&& mk51) + s3.up⟩
def mulE (x y : L5) : L5 := carr (joinW (ms0 x y) (ms1 x y) (ms2 x y) (ms3 x y) (ms4 x y))

end Go.Proofs.Ytnakeieeopbeiaa

set_option linter.unusedVariables false
set_option linter.unusedSimpArgs false
namespace Go.Proofs.Ytnakeieeopbeiaa
open Go.RowKit

/-- A byte as a word. -/
def bw (u : UInt8) : BitVec 64 := BitVec.ofNat 64 u.toNat
theorem bw_nat (u : UInt8) : (bw u).toNat = u.toNat := by
  have := u.toNat_lt
  unfold bw
  rw [BitVec.toNat_ofNat, Nat.mod_eq_of_lt (by omega)]
theorem bw_wn (u : UInt8) : (u.toNat : Int) = wn (bw u) := by
  unfold wn
  rw [bw_nat]

def z4 : List (BitVec 64) := [0, 0, 0, 0]
/-- The words, the first t bytes taken. -/
def wdk (k : List UInt8) : Nat → List (BitVec 64)
  | 0 => z4
  | t + 1 => (wdk k t).set (t / 8) ((wdk k t).getD (t / 8) 0 ||| bw (k.getD t 0) <<< (8 * (t % 8)))
theorem wdk_length (k : List UInt8) : ∀ t, (wdk k t).length = 4
  | 0 => rfl
  | t + 1 => by rw [wdk, List.length_set, wdk_length k t]
theorem wvs_length (L : List (BitVec 64)) : (wvs L).length = L.length := by simp [wvs]
theorem wvs_at (L : List (BitVec 64)) (j : Nat) (h : j < L.length) : (wvs L)[j]? = some (.int .u64 (wn (L.getD j 0))) := by
  simp [wvs, wv, List.getElem?_eq_getElem h]
theorem wvs_set (L : List (BitVec 64)) (j : Nat) (x : BitVec 64) : (wvs L).set j (.int .u64 (wn x)) = wvs (L.set j x) := by
  simp [wvs, List.map_set]; rfl
theorem zero58 (w : World) : (zeroValue 58).run Try.prog w = .ok (.agg (wvs z4).toArray) w := by
  rw [Try.zeroValue58]; rfl

theorem wvs_one (L : List (BitVec 64)) : (wvs L).toArray.all (·.oneCell') = true :=
  all_oneCell_toArray fun v hv => by
    obtain ⟨x, _, rfl⟩ := List.mem_map.1 hv
    rfl
/-- A byte of an array. -/
theorem run_byte (k : List UInt8) (hl : k.length = 32) (i : Nat) (hi : i < 32) (W : World) :
    (Instr.index 23 (.agg (k.map byt).toArray) (.int .i64 (i : Int))).run Try.prog W = .ok (.int .u8 ((k.getD i 0).toNat : Int)) W := by
  have h1 : (k.map byt).toArray[i]? = some (.int .u8 ((k.getD i 0).toNat : Int)) := by
    simp [List.getElem?_eq_getElem (show i < k.length by omega), byt]
  have h2 : (0 : Int) ≤ (i : Int) ∧ (i : Int) < ((32 : Nat) : Int) := by omega
  simp only [Instr.index, asIntOf, Sem.run_bind, Sem.run_pure, Result.andThen_ok, run_underlying Try.underlying23]
  rw [if_pos h2]
  simp only [Sem.run_bind, Result.andThen_ok, part, Try.isAgg5, Try.sizeOf5, Int.toNat_natCast, Nat.mul_one, h1]
  simp

structure Wds (w wx : World) (k : List UInt8) (L : List (BitVec 64)) : Prop where
  ke : Blk wx w.heap.size (k.map byt) 23
  wo : Blk wx (w.heap.size + 1) (wvs L) 58
  be : Below w.heap.size w wx
theorem Wds.set {w wx : World} {k : List UInt8} {L : List (BitVec 64)} (h : Wds w wx k L) (j : Nat) (x : BitVec 64) : Wds w (wx.setCell ⟨w.heap.size + 1, j, none⟩ (.int .u64 (wn x))) k (L.set j x) :=
  ⟨h.ke.setOther _ _ _ (by omega), by rw [← wvs_set]; exact h.wo.set j _, h.be.setCell (by simp) _⟩
theorem Wds.drewN {w wx : World} {k : List UInt8} {L : List (BitVec 64)} (h : Wds w wx k L) (n : Nat) : Wds w (wx.drewN n) k L :=
  ⟨h.ke.drewN n, h.wo.drewN n, below_drewN h.be n⟩
theorem Wds.drew {w wx : World} {k : List UInt8} {L : List (BitVec 64)} (h : Wds w wx k L) : Wds w wx.drew k L := ⟨h.ke.drew, h.wo.drew, h.be.drew⟩
theorem wid (x : BitVec 64) : IntKind.u64.wrap (wn x) = wn x := by
  have := wlt x
  unfold wn
  rw [IntKind.wrap_u64]; omega
theorem Wds.word {w wx : World} {k : List UInt8} {L : List (BitVec 64)} (h : Wds w wx k L) (j : Nat) (hj : j < L.length) : wx.cell? ⟨w.heap.size + 1, j, none⟩ = some (.int .u64 (wn (L.getD j 0))) := by
  rw [h.wo.cell, wvs_at L j hj]

set_option maxRecDepth 100000 in
set_option maxHeartbeats 2000000 in
theorem words_any (k : List UInt8) (hk : k.length = 32) (w : World) :
    Calls Try.prog 25 #[.agg (k.map byt).toArray] w fun e w' => e = .returned (.agg (wvs (wdk k 32)).toArray) ∧ Below w.heap.size w w' := by
  have hks : (Try.prog.info? 23).map (·.size) = some (k.map byt).length := by rw [List.length_map, hk]; kernel_rfl
  have HKS := hide hks
  have HK := hide hk
  clear hks hk
  go_enter Try.func25, Try.ntmps25
  go_wp2_with (first | (refine wpList_box rfl 23 _ rfl (k.map byt) rfl ?_) | (refine wpList_newAt rfl 58 rfl (wvs z4) zero58 (w.heap.size + 1) (by simp) ?_) | (refine wpList_load_row rfl 23 (.tmp 1) rfl w.heap.size rfl 23 (k.map byt).toArray (0, 0) _ ((Blk.new w _ _).alloc _) Try.underlying23 rfl (by simpa using HKS.out) ?_))
  have h0 : Hid (Wds w ((w.alloc (.cells (k.map byt).toArray 23)).alloc (.cells (wvs z4).toArray 58)) k (wdk k 0)) := by
    refine ⟨(Blk.new w _ _).alloc _, ?_, (((Below.refl _ _).alloc (Nat.le_refl _) _).alloc (by simp) _)⟩
    have := Blk.new (w.alloc (.cells (k.map byt).toArray 23)) (wvs z4) 58
    rw [show wdk k 0 = z4 from rfl]
    simpa using this
  go_loopw [6] (fun i wr => ∃ t : Nat, t ≤ 32 ∧ i = .int .i64 t ∧ Hid (Wds w wr k (wdk k t))) (fun i _ => 32 - (intOf i).toNat)
  case atStart => exact ⟨0, by omega, rfl, h0⟩
  case round =>
    obtain ⟨t, ht, rfl, hs⟩ := hrel
    by_cases hlt : t < 32
    · have hlz : (t : Int) < 32 := by omega
      have hidx := fun W => run_byte k HK.out t hlt W
      have hlen := wdk_length k t
      obtain ⟨L, hL⟩ : ∃ L, L = wdk k t := ⟨_, rfl⟩
      rw [← hL] at hs hlen
      have HL := hide hL
      clear hL
      obtain ⟨j, hj⟩ : ∃ j, j = t / 8 := ⟨_, rfl⟩
      obtain ⟨r, hr⟩ : ∃ r, r = t % 8 := ⟨_, rfl⟩
      have q1 : (t : Int).tdiv 8 = (j : Int) := by rw [Int.tdiv_eq_ediv_of_nonneg (by omega)]; omega
      have q2 : (t : Int) / 8 = (j : Int) := by omega
      have q3 : (t : Int).tmod 8 = (r : Int) := by rw [Int.tmod_eq_emod_of_nonneg (by omega)]; omega
      have q4 : (t : Int) % 8 = (r : Int) := by omega
      have hj4 : (j : Int) < 4 := by omega
      have hr8 : r < 8 := by omega
      have hc := hs.out.word j (by omega)
      have hfz := hs.out.wo.frozen j
      obtain ⟨x, hx⟩ : ∃ x, x = L.getD j 0 := ⟨_, rfl⟩
      obtain ⟨u, hu⟩ : ∃ u, u = k.getD t 0 := ⟨_, rfl⟩
      rw [← hx] at hc
      rw [← hu, bw_wn] at hidx
      obtain ⟨m, hm⟩ : ∃ m, m = 8 * r := ⟨_, rfl⟩
      have q5 : (8 : Int) * (r : Int) = (m : Int) := by omega
      have hm64 : (m : Int) < 64 := by omega
      have e1 := wshl (bw u) m
      have e2 := wor x (bw u <<< m)
      have HX := hide hx
      have HU := hide hu
      have HJ := hide hj
      have HR := hide hr
      have HM := hide hm
      clear hx hu hj hr hm
      go_wp2
      go_region
      go_wp2
      go_roundw
      case rel =>
        refine ⟨t + 1, by omega, by go_num, ?_⟩
        rw [wdk, ← HJ.out, ← HR.out, ← HM.out, ← HL.out, ← HX.out, ← HU.out]
        rw [wid, e1, e2]
        exact (hs.out.set j _).drew
      case measure => simp [intOf]; omega
    · obtain rfl : t = 32 := by omega
      have hl := wdk_length k 32
      obtain ⟨L, hL⟩ : ∃ L, wdk k 32 = L := ⟨_, rfl⟩
      have HL := hide hL
      rw [hL] at hs hl
      clear hL
      have hsz : (Try.prog.info? 58).map (·.size) = some (wvs L).length := by rw [wvs_length, hl]; kernel_rfl
      have HSZ := hide hsz
      clear hsz hl
      go_wp2_with (first | (refine wpList_load_row rfl 58 (.tmp 2) rfl (w.heap.size + 1) rfl 58 (wvs L).toArray (0, 0) _ hs.out.wo Try.underlying58 rfl (by simpa using HSZ.out) ?_) | (refine wpList_store_row rfl 58 (.tmp 2) (.tmp 23) rfl (w.heap.size + 1) (wvs L).toArray rfl rfl 58 (wvs L).toArray hs.out.wo (by simpa using HSZ.out) rfl (wvs_one L) ?_))
      refine bodyPost_ret (results_cell_row Try.results25 _ _ (w.heap.size + 1) 58 (wvs L).toArray (0, 0) _ rfl (hs.out.wo.setRow _) Try.underlying58 rfl (by simpa using HSZ.out)) rfl ?_
      exact ⟨by rw [HL.out], below_setRow hs.out.be _ _ (by omega)⟩
end Go.Proofs.Ytnakeieeopbeiaa

set_option linter.unusedVariables false
set_option linter.unusedSimpArgs false
namespace Go.Proofs.Ytnakeieeopbeiaa
open Go.RowKit

theorem wshr38 (x : BitVec 64) : wn x / (274877906944 : Int) = wn (x >>> 38) := wshr x 38
theorem wshr25 (x : BitVec 64) : wn x / (33554432 : Int) = wn (x >>> 25) := wshr x 25
theorem wshr12 (x : BitVec 64) : wn x / (4096 : Int) = wn (x >>> 12) := wshr x 12
theorem wshl26 (x : BitVec 64) : IntKind.u64.wrap (wn x * (67108864 : Int)) = wn (x <<< 26) := wshl x 26
theorem wshl39 (x : BitVec 64) : IntKind.u64.wrap (wn x * (549755813888 : Int)) = wn (x <<< 39) := wshl x 39

/-- The limbs of four words. -/
def limbs4 (a b c d : BitVec 64) : L5 := ⟨a &&& mk51, (a >>> 51 ||| b <<< 13) &&& mk51, (b >>> 38 ||| c <<< 26) &&& mk51, (c >>> 25 ||| d <<< 39) &&& mk51, d >>> 12 &&& mk51⟩
def readE (k : List UInt8) : L5 := limbs4 ((wdk k 32).getD 0 0) ((wdk k 32).getD 1 0) ((wdk k 32).getD 2 0) ((wdk k 32).getD 3 0)

theorem four {α : Type} {L : List α} (h : L.length = 4) : ∃ a b c d, L = [a, b, c, d] := by
  match L, h with
  | [a, b, c, d], _ => exact ⟨a, b, c, d, rfl⟩

set_option maxRecDepth 100000 in
set_option maxHeartbeats 2000000 in
theorem read_any (k : List UInt8) (hk : k.length = 32) (w : World) :
    Calls Try.prog 9 #[.agg (k.map byt).toArray] w fun e w' => e = .returned (readE k).v ∧ Below w.heap.size w w' := by
  have hks : (Try.prog.info? 23).map (·.size) = some (k.map byt).length := by rw [List.length_map, hk]; kernel_rfl
  obtain ⟨a, b, c, d, hL⟩ := four (wdk_length k 32)
  have hwd := fun W => words_any k hk W
  rw [hL] at hwd
  have HR : Hid (readE k = limbs4 a b c d) := by
    unfold readE
    rw [hL]
    rfl
  generalize readE k = R at HR ⊢
  clear hL hk
  go_enter Try.func9, Try.ntmps9
  go_upto_region 1 with (first | (refine wpList_box rfl 23 _ rfl (k.map byt) rfl ?_) | (refine wpList_newAt rfl 27 rfl z5 zero27 (w.heap.size + 1) (by simp) ?_))
  have b1 : Blk ((w.alloc (.cells (k.map byt).toArray 23)).alloc (.cells z5.toArray 27)) w.heap.size (k.map byt) 23 := (Blk.new _ _ _).alloc _
  have b2 : Blk ((w.alloc (.cells (k.map byt).toArray 23)).alloc (.cells z5.toArray 27)) (w.heap.size + 1) z5 27 := by
    have := Blk.new (w.alloc (.cells (k.map byt).toArray 23)) z5 27
    simpa using this
  have be : Below w.heap.size w ((w.alloc (.cells (k.map byt).toArray 23)).alloc (.cells z5.toArray 27)) := by go_grown
  generalize (w.alloc (.cells (k.map byt).toArray 23)).alloc (.cells z5.toArray 27) = w1 at b1 b2 be ⊢
  obtain ⟨n, hn⟩ : ∃ n, w.heap.size = n := ⟨_, rfl⟩
  rw [hn] at b1 b2 be ⊢
  simp only [Act.put, List.setIfInBounds_toArray, List.set_cons_zero, List.set_cons_succ]
  refine lst_newT 2 rfl rfl rfl rfl 3 rfl 58 rfl (wvs z4) zero58 rfl rfl (.tmp 5) rfl ?_
  simp only [List.take_succ_cons, List.take_zero]
  refine wpLex_cons _ (uni_row rfl 23 (.tmp 1) rfl n (k.map byt) 23 rfl (fun W hW => b1.on hW) Try.underlying23 rfl hks) ?_
  simp only [Act.put, List.setIfInBounds_toArray, List.set_cons_zero, List.set_cons_succ]
  refine wpLex_cons _ (uni_callF (by rfl) 25 [Operand.tmp 4] #[23] rfl [.agg (k.map byt).toArray] (.agg (wvs [a, b, c, d]).toArray) rfl enter25 (fun W hW => hwd W)) ?_
  simp only [Act.put, List.setIfInBounds_toArray, List.set_cons_zero, List.set_cons_succ]
  refine ⟨wvs [a, b, c, d], rfl, by simp, by simp, by kernel_rfl, rfl, wvs_one _, fun g w2 hg hW c1 => ?_⟩
  simp only [Act.put, List.setIfInBounds_toArray, List.set_cons_zero, List.set_cons_succ]
  replace b2 := b2.on hW
  replace be := be.trans (hW.mono (by have := be.size; omega))
  have g0 : w2.cell? ⟨g, 0, none⟩ = some (.int .u64 (wn a)) := c1.cell 0
  have g1 : w2.cell? ⟨g, 1, none⟩ = some (.int .u64 (wn b)) := c1.cell 1
  have g2 : w2.cell? ⟨g, 2, none⟩ = some (.int .u64 (wn c)) := c1.cell 2
  have g3 : w2.cell? ⟨g, 3, none⟩ = some (.int .u64 (wn d)) := c1.cell 3
  clear hW hg b1 w1 hks hwd c1
  have B2 := hide b2
  have BE := hide be
  clear b2 be
  have h1 := wand51
  have h2 := wshr51
  have h3 := wshl13
  have h4 := wshr38
  have h5 := wshl26
  have h6 := wshr25
  have h7 := wshl39
  have h8 := wshr12
  have h9 := wor
  go_wp2_with (refine wpList_store_row rfl 27 (.tmp 2) (.tmp 38) rfl (n + 1) (limbs4 a b c d).cs.toArray rfl rfl 27 z5.toArray B2.out (cs_infoA _) (cs_size _) (cs_one _) ?_)
  refine bodyPost_ret (results_cell_row Try.results9 _ _ (n + 1) 27 (limbs4 a b c d).cs.toArray (0, 0) _ rfl (B2.out.setRow _) Try.underlying27 rfl (cs_infoA _)) rfl ?_
  exact ⟨by rw [HR.out]; rfl, by rw [hn]; exact below_setRow BE.out _ _ (by omega)⟩
end Go.Proofs.Ytnakeieeopbeiaa

set_option linter.unusedVariables false
set_option linter.unusedSimpArgs false
namespace Go.Proofs.Ytnakeieeopbeiaa
open Go.RowKit

/-- Does the number, with 19 more, reach 2^255? -/
def ov (l : List (BitVec 64)) : Nat → BitVec 64
  | 0 => 19#64
  | t + 1 => (l.getD t 0 + ov l t) >>> 51
def rcC (l : List (BitVec 64)) : Nat → BitVec 64
  | 0 => 19#64 * ov l 5
  | t + 1 => (l.getD t 0 + rcC l t) >>> 51
def rcL (l : List (BitVec 64)) : Nat → List (BitVec 64)
  | 0 => l
  | t + 1 => (rcL l t).set t ((l.getD t 0 + rcC l t) &&& mk51)
theorem rcL_length (l : List (BitVec 64)) : ∀ t, (rcL l t).length = l.length
  | 0 => rfl
  | t + 1 => by rw [rcL, List.length_set, rcL_length l t]
theorem rcL_at (l : List (BitVec 64)) : ∀ t j, t ≤ j → (rcL l t).getD j 0 = l.getD j 0
  | 0, _, _ => rfl
  | t + 1, j, h => by
    have h1 : t ≠ j := by omega
    rw [rcL, List.getD_eq_getElem?_getD, List.getElem?_set_ne h1, ← List.getD_eq_getElem?_getD]
    exact rcL_at l t j (by omega)

theorem run_limb (L : List (BitVec 64)) (hl : L.length = 5) (i : Nat) (hi : i < 5) (W : World) :
    (Instr.index 25 (.agg (wvs L).toArray) (.int .i64 (i : Int))).run Try.prog W = .ok (.int .u64 (wn (L.getD i 0))) W := by
  have h1 : (wvs L).toArray[i]? = some (.int .u64 (wn (L.getD i 0))) := by
    rw [List.getElem?_toArray, wvs_at L i (by omega)]
  have h2 : (0 : Int) ≤ (i : Int) ∧ (i : Int) < ((5 : Nat) : Int) := by omega
  simp only [Instr.index, asIntOf, Sem.run_bind, Sem.run_pure, Result.andThen_ok, run_underlying Try.underlying25]
  rw [if_pos h2]
  simp only [Sem.run_bind, Result.andThen_ok, part, Try.isAgg24, Try.sizeOf24, Int.toNat_natCast, Nat.mul_one, h1]
  simp

theorem z5_wvs : z5 = wvs [0, 0, 0, 0, 0] := rfl
structure Red (n : Nat) (w wx : World) (g : Nat) (L : List (BitVec 64)) : Prop where
  re : Blk wx (n + 1) z5 25
  li : Blk wx g (wvs L) 25
  be : Below n w wx
  lt : n + 1 < g
theorem Red.set {n : Nat} {w wx : World} {g : Nat} {L : List (BitVec 64)} (h : Red n w wx g L) (j : Nat) (x : BitVec 64) : Red n w (wx.setCell ⟨g, j, none⟩ (.int .u64 (wn x))) g (L.set j x) :=
  ⟨h.re.setOther _ _ _ (by have := h.lt; omega), by rw [← wvs_set]; exact h.li.set j _, h.be.setCell (by have := h.lt; simp; omega) _, h.lt⟩
theorem Red.word {n : Nat} {w wx : World} {g : Nat} {L : List (BitVec 64)} (h : Red n w wx g L) (j : Nat) (hj : j < L.length) : wx.cell? ⟨g, j, none⟩ = some (.int .u64 (wn (L.getD j 0))) := by
  rw [h.li.cell, wvs_at L j hj]

set_option maxRecDepth 100000 in
set_option maxHeartbeats 2000000 in
theorem reduced_any (l : List (BitVec 64)) (hl : l.length = 5) (w : World) :
    Calls Try.prog 26 #[.agg (wvs l).toArray] w fun e w' => e = .returned (.agg (wvs (rcL l 5)).toArray) ∧ Below w.heap.size w w' := by
  have hls : (Try.prog.info? 25).map (·.size) = some (wvs l).length := by rw [wvs_length, hl]; kernel_rfl
  have HLS := hide hls
  have HL := hide hl
  clear hls hl
  go_enter Try.func26, Try.ntmps26
  go_upto_region 2 with (first | (refine wpList_box rfl 27 _ rfl (wvs l) rfl ?_) | (refine wpList_newAt rfl 25 rfl z5 zero25 (w.heap.size + 1) (by simp) ?_))
  have b1 : Blk ((w.alloc (.cells (wvs l).toArray 27)).alloc (.cells z5.toArray 25)) w.heap.size (wvs l) 27 := (Blk.new _ _ _).alloc _
  have b2 : Blk ((w.alloc (.cells (wvs l).toArray 27)).alloc (.cells z5.toArray 25)) (w.heap.size + 1) z5 25 := by
    have := Blk.new (w.alloc (.cells (wvs l).toArray 27)) z5 25
    simpa using this
  have be : Below w.heap.size w ((w.alloc (.cells (wvs l).toArray 27)).alloc (.cells z5.toArray 25)) := by go_grown
  have hs : ((w.alloc (.cells (wvs l).toArray 27)).alloc (.cells z5.toArray 25)).heap.size = w.heap.size + 1 + 1 := by simp
  generalize (w.alloc (.cells (wvs l).toArray 27)).alloc (.cells z5.toArray 25) = w1 at b1 b2 be hs ⊢
  obtain ⟨n, hn⟩ : ∃ n, w.heap.size = n := ⟨_, rfl⟩
  rw [hn] at b1 b2 be hs ⊢
  skip
  have B1 := hide b1
  have B2 := hide b2
  have BE := hide be
  have HS := hide hs
  clear b1 b2 be hs
  go_wp2_with (refine wpList_load_row rfl 25 (.tmp 9) rfl n rfl 27 (wvs l).toArray (0, 0) _ B1.out Try.underlying25 rfl (by simpa using HLS.out) ?_)
  go_loopw [11, 3] (fun i o wr => ∃ t : Nat, t ≤ 5 ∧ i = .int .i64 t ∧ o = .int .u64 (wn (ov l t)) ∧ wr = w1) (fun i _ _ => 5 - (intOf i).toNat)
  case atStart => exact ⟨0, by omega, rfl, rfl, rfl⟩
  case round =>
    obtain ⟨t, ht, rfl, rfl, hw⟩ := hrel
    rw [hw]
    clear hw
    by_cases hlt : t < 5
    · have hlz : (t : Int) < 5 := by omega
      have hidx := fun W => run_limb l HL.out t hlt W
      have h1 := wadd
      have h2 := wshr51
      go_wp2
      go_roundw
      case rel => exact ⟨t + 1, by omega, by go_num, rfl, trivial⟩
      case measure => simp [intOf]; omega
    · obtain rfl : t = 5 := by omega
      have h4 := wmul19
      obtain ⟨o, ho⟩ : ∃ o, ov l 5 = o := ⟨_, rfl⟩
      have HO := hide ho
      rw [ho]
      clear ho
      go_wp2_with (first | (refine wpList_load_row rfl 25 (.tmp 19) rfl n rfl 27 (wvs l).toArray (0, 0) _ B1.out Try.underlying25 rfl (by simpa using HLS.out) ?_) | (refine wpList_newAt rfl 25 rfl z5 zero25 (n + 1 + 1) HS.out ?_) | (refine wpList_store_row rfl 25 (.tmp 6) (.tmp 20) rfl (n + 1 + 1) (wvs l).toArray rfl rfl 25 z5.toArray (HS.out ▸ Blk.new w1 z5 25) (by simpa using HLS.out) (by simp [z5, wvs_length, HL.out]) (wvs_one l) ?_))
      have h0 : Hid (Red n w ((w1.alloc (.cells z5.toArray 25)).setRow (n + 1 + 1) (wvs l).toArray) (n + 1 + 1) (rcL l 0)) := by
        have q := Blk.new w1 z5 25
        rw [HS.out] at q
        exact ⟨(B2.out.alloc _).setRowOther _ _ (by omega), q.setRow _, below_setRow (BE.out.alloc (by have := BE.out.size; omega) _) _ _ (by omega), by omega⟩
      rw [← HO.out]
      generalize (w1.alloc (.cells z5.toArray 25)).setRow (n + 1 + 1) (wvs l).toArray = w2 at h0 ⊢
      have hc0 : 19#64 * ov l 5 = rcC l 0 := rfl
      rw [hc0]
      clear hc0 B1 B2 BE HS
      go_loopw [23, 7] (fun i c wr => ∃ t : Nat, t ≤ 5 ∧ i = .int .i64 t ∧ c = .int .u64 (wn (rcC l t)) ∧ Hid (Red n w wr (n + 1 + 1) (rcL l t))) (fun i _ _ => 5 - (intOf i).toNat)
      case atStart => exact ⟨0, by omega, rfl, rfl, h0⟩
      case round =>
        obtain ⟨t, ht, rfl, rfl, hr⟩ := hrel
        have hlen := rcL_length l t
        have hat := rcL_at l t t (Nat.le_refl _)
        obtain ⟨L, hL⟩ : ∃ L, rcL l t = L := ⟨_, rfl⟩
        have HL2 := hide hL
        rw [hL] at hr hlen hat
        clear hL
        by_cases hlt : t < 5
        · have hlz : (t : Int) < 5 := by omega
          have hcell := hr.out.word t (by rw [hlen, HL.out]; exact hlt)
          have hfz := hr.out.li.frozen t
          rw [hat] at hcell
          obtain ⟨x, hx⟩ : ∃ x, l.getD t 0 = x := ⟨_, rfl⟩
          obtain ⟨c, hc⟩ : ∃ c, rcC l t = c := ⟨_, rfl⟩
          have HX := hide hx
          have HC := hide hc
          rw [hx] at hcell
          rw [hc]
          clear hx hc hlen hat
          have h1 := wadd
          have h2 := wshr51
          have h3 := wand51
          go_wp2
          go_roundw
          case rel =>
            refine ⟨t + 1, by omega, by go_num, by rw [rcC, HX.out, HC.out], ?_⟩
            rw [rcL, HX.out, HC.out, HL2.out]
            have := (hr.out.set t (x + c)).set t ((x + c) &&& mk51)
            rw [List.set_set] at this
            exact this
          case measure => simp [intOf]; omega
        · obtain rfl : t = 5 := by omega
          have hsz : (Try.prog.info? 25).map (·.size) = some (wvs L).length := by rw [wvs_length, hlen, HL.out]; kernel_rfl
          have HSZ := hide hsz
          have hz : z5.toArray.size = (wvs L).toArray.size := by simp [z5, wvs_length, hlen, HL.out]
          have HZ := hide hz
          clear hsz hlen hat hz
          go_wp2_with (first | (refine wpList_load_row rfl 25 (.tmp 6) rfl (n + 1 + 1) rfl 25 (wvs L).toArray (0, 0) _ hr.out.li Try.underlying25 rfl (by simpa using HSZ.out) ?_) | (refine wpList_store_row rfl 25 (.tmp 2) (.tmp 42) rfl (n + 1) (wvs L).toArray rfl rfl 25 z5.toArray hr.out.re (by simpa using HSZ.out) HZ.out (wvs_one L) ?_))
          refine bodyPost_ret (results_cell_row Try.results26 _ _ (n + 1) 25 (wvs L).toArray (0, 0) _ rfl (hr.out.re.setRow _) Try.underlying25 rfl (by simpa using HSZ.out)) rfl ?_
          exact ⟨by rw [HL2.out], by rw [hn]; exact below_setRow hr.out.be _ _ (by omega)⟩
end Go.Proofs.Ytnakeieeopbeiaa
