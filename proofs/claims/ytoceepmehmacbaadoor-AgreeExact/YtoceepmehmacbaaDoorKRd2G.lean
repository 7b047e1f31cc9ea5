import Derived.Test.YtoceepmehmacbaaDoorKLex
import Derived.Test.YtoceepmehmacbaaDoorKNum2G
import Derived.Deep.QuietTactic
import Derived.BigQuiet
set_option linter.unusedVariables false
set_option linter.unusedSimpArgs false
namespace Go.Proofs.YtoceepmehmacbaaDoor.Cv
open Go.RowKit
theorem enter15 (args : Array Value) (W : World) : (callFunc 15 args).run Tryd.prog W = .ok (.enter 15 args) W := run_enter Tryd.func15 (by kernel_rfl) (by kernel_rfl) args W
theorem enter18 (args : Array Value) (W : World) : (callFunc 18 args).run Tryd.prog W = .ok (.enter 18 args) W := run_enter Tryd.func18 (by kernel_rfl) (by kernel_rfl) args W
theorem enter25 (args : Array Value) (W : World) : (callFunc 25 args).run Tryd.prog W = .ok (.enter 25 args) W := run_enter Tryd.func25 (by kernel_rfl) (by kernel_rfl) args W
theorem enter26 (args : Array Value) (W : World) : (callFunc 26 args).run Tryd.prog W = .ok (.enter 26 args) W := run_enter Tryd.func26 (by kernel_rfl) (by kernel_rfl) args W
theorem enter27 (args : Array Value) (W : World) : (callFunc 27 args).run Tryd.prog W = .ok (.enter 27 args) W := run_enter Tryd.func27 (by kernel_rfl) (by kernel_rfl) args W
theorem enter28 (args : Array Value) (W : World) : (callFunc 28 args).run Tryd.prog W = .ok (.enter 28 args) W := run_enter Tryd.func28 (by kernel_rfl) (by kernel_rfl) args W
theorem enter76 (args : Array Value) (W : World) : (callFunc 76 args).run Tryd.prog W = .ok (.enter 76 args) W := run_enter Tryd.func76 (by kernel_rfl) (by kernel_rfl) args W
theorem enter65 (args : Array Value) (W : World) : (callFunc 65 args).run Tryd.prog W = .ok (.enter 65 args) W := run_enter Tryd.func65 (by kernel_rfl) (by kernel_rfl) args W
theorem enter34 (args : Array Value) (W : World) : (callFunc 34 args).run Tryd.prog W = .ok (.enter 34 args) W := run_enter Tryd.func34 (by kernel_rfl) (by kernel_rfl) args W
theorem enter35 (args : Array Value) (W : World) : (callFunc 35 args).run Tryd.prog W = .ok (.enter 35 args) W := run_enter Tryd.func35 (by kernel_rfl) (by kernel_rfl) args W
theorem enter36 (args : Array Value) (W : World) : (callFunc 36 args).run Tryd.prog W = .ok (.enter 36 args) W := run_enter Tryd.func36 (by kernel_rfl) (by kernel_rfl) args W
theorem enter37 (args : Array Value) (W : World) : (callFunc 37 args).run Tryd.prog W = .ok (.enter 37 args) W := run_enter Tryd.func37 (by kernel_rfl) (by kernel_rfl) args W
theorem enter38 (args : Array Value) (W : World) : (callFunc 38 args).run Tryd.prog W = .ok (.enter 38 args) W := run_enter Tryd.func38 (by kernel_rfl) (by kernel_rfl) args W
theorem enter39 (args : Array Value) (W : World) : (callFunc 39 args).run Tryd.prog W = .ok (.enter 39 args) W := run_enter Tryd.func39 (by kernel_rfl) (by kernel_rfl) args W
theorem enter40 (args : Array Value) (W : World) : (callFunc 40 args).run Tryd.prog W = .ok (.enter 40 args) W := run_enter Tryd.func40 (by kernel_rfl) (by kernel_rfl) args W
theorem enter77 (args : Array Value) (W : World) : (callFunc 77 args).run Tryd.prog W = .ok (.enter 77 args) W := run_enter Tryd.func77 (by kernel_rfl) (by kernel_rfl) args W
theorem enter78 (args : Array Value) (W : World) : (callFunc 78 args).run Tryd.prog W = .ok (.enter 78 args) W := run_enter Tryd.func78 (by kernel_rfl) (by kernel_rfl) args W
theorem enter79 (args : Array Value) (W : World) : (callFunc 79 args).run Tryd.prog W = .ok (.enter 79 args) W := run_enter Tryd.func79 (by kernel_rfl) (by kernel_rfl) args W
theorem enter80 (args : Array Value) (W : World) : (callFunc 80 args).run Tryd.prog W = .ok (.enter 80 args) W := run_enter Tryd.func80 (by kernel_rfl) (by kernel_rfl) args W
theorem enter81 (args : Array Value) (W : World) : (callFunc 81 args).run Tryd.prog W = .ok (.enter 81 args) W := run_enter Tryd.func81 (by kernel_rfl) (by kernel_rfl) args W
theorem enter82 (args : Array Value) (W : World) : (callFunc 82 args).run Tryd.prog W = .ok (.enter 82 args) W := run_enter Tryd.func82 (by kernel_rfl) (by kernel_rfl) args W
theorem enter83 (args : Array Value) (W : World) : (callFunc 83 args).run Tryd.prog W = .ok (.enter 83 args) W := run_enter Tryd.func83 (by kernel_rfl) (by kernel_rfl) args W
theorem enter84 (args : Array Value) (W : World) : (callFunc 84 args).run Tryd.prog W = .ok (.enter 84 args) W := run_enter Tryd.func84 (by kernel_rfl) (by kernel_rfl) args W
theorem enter51 (args : Array Value) (W : World) : (callFunc 51 args).run Tryd.prog W = .ok (.enter 51 args) W := run_enter Tryd.func51 (by kernel_rfl) (by kernel_rfl) args W
theorem enter52 (args : Array Value) (W : World) : (callFunc 52 args).run Tryd.prog W = .ok (.enter 52 args) W := run_enter Tryd.func52 (by kernel_rfl) (by kernel_rfl) args W
theorem enter53 (args : Array Value) (W : World) : (callFunc 53 args).run Tryd.prog W = .ok (.enter 53 args) W := run_enter Tryd.func53 (by kernel_rfl) (by kernel_rfl) args W
theorem enter54 (args : Array Value) (W : World) : (callFunc 54 args).run Tryd.prog W = .ok (.enter 54 args) W := run_enter Tryd.func54 (by kernel_rfl) (by kernel_rfl) args W
theorem enter55 (args : Array Value) (W : World) : (callFunc 55 args).run Tryd.prog W = .ok (.enter 55 args) W := run_enter Tryd.func55 (by kernel_rfl) (by kernel_rfl) args W
theorem enter56 (args : Array Value) (W : World) : (callFunc 56 args).run Tryd.prog W = .ok (.enter 56 args) W := run_enter Tryd.func56 (by kernel_rfl) (by kernel_rfl) args W
theorem enter57 (args : Array Value) (W : World) : (callFunc 57 args).run Tryd.prog W = .ok (.enter 57 args) W := run_enter Tryd.func57 (by kernel_rfl) (by kernel_rfl) args W
theorem enter58 (args : Array Value) (W : World) : (callFunc 58 args).run Tryd.prog W = .ok (.enter 58 args) W := run_enter Tryd.func58 (by kernel_rfl) (by kernel_rfl) args W
theorem enter59 (args : Array Value) (W : World) : (callFunc 59 args).run Tryd.prog W = .ok (.enter 59 args) W := run_enter Tryd.func59 (by kernel_rfl) (by kernel_rfl) args W
/-- A byte as a word. -/
def bw (u : UInt8) : BitVec 64 := BitVec.ofNat 64 u.toNat
theorem bw_nat (u : UInt8) : (bw u).toNat = u.toNat := by
  have := u.toNat_lt
  unfold bw
  rw [BitVec.toNat_ofNat, Nat.mod_eq_of_lt (by omega)]
theorem bw_wn (u : UInt8) : (u.toNat : Int) = wn (bw u) := by
  unfold wn
  rw [bw_nat]

def z4 : List (BitVec 64) := [0, 0, 0, 0]
/-- The words, the first t bytes taken. -/
def wdk (k : List UInt8) : Nat → List (BitVec 64)
  | 0 => z4
  | t + 1 => (wdk k t).set (t / 8) ((wdk k t).getD (t / 8) 0 ||| bw (k.getD t 0) <<< (8 * (t % 8)))
theorem wdk_length (k : List UInt8) : ∀ t, (wdk k t).length = 4
  | 0 => rfl
  | t + 1 => by rw [wdk, List.length_set, wdk_length k t]
theorem wvs_length (L : List (BitVec 64)) : (wvs L).length = L.length := by simp [wvs]
theorem wvs_at (L : List (BitVec 64)) (j : Nat) (h : j < L.length) : (wvs L)[j]? = some (.int .u64 (wn (L.getD j 0))) := by
  simp [wvs, wv, List.getElem?_eq_getElem h]
theorem wvs_set (L : List (BitVec 64)) (j : Nat) (x : BitVec 64) : (wvs L).set j (.int .u64 (wn x)) = wvs (L.set j x) := by
  simp [wvs, List.map_set]; rfl
theorem zero58 (w : World) : (zeroValue 89).run Tryd.prog w = .ok (.agg (wvs z4).toArray) w := by
  rw [Tryd.zeroValue89]; rfl

theorem wvs_one (L : List (BitVec 64)) : (wvs L).toArray.all (·.oneCell') = true :=
  all_oneCell_toArray fun v hv => by
    obtain ⟨x, _, rfl⟩ := List.mem_map.1 hv
    rfl
/-- A byte of an array. -/
theorem run_byte (k : List UInt8) (hl : k.length = 32) (i : Nat) (hi : i < 32) (W : World) :
    (Instr.index 23 (.agg (k.map byt).toArray) (.int .i64 (i : Int))).run Tryd.prog W = .ok (.int .u8 ((k.getD i 0).toNat : Int)) W := by
  have h1 : (k.map byt).toArray[i]? = some (.int .u8 ((k.getD i 0).toNat : Int)) := by
    simp [List.getElem?_eq_getElem (show i < k.length by omega), byt]
  have h2 : (0 : Int) ≤ (i : Int) ∧ (i : Int) < ((32 : Nat) : Int) := by omega
  simp only [Instr.index, asIntOf, Sem.run_bind, Sem.run_pure, Result.andThen_ok, run_underlying Tryd.underlying23]
  rw [if_pos h2]
  simp only [Sem.run_bind, Result.andThen_ok, part, Tryd.isAgg5, Tryd.sizeOf5, Int.toNat_natCast, Nat.mul_one, h1]
  simp

structure Wds (w wx : World) (k : List UInt8) (L : List (BitVec 64)) : Prop where
  ke : Blk wx w.heap.size (k.map byt) 23
  wo : Blk wx (w.heap.size + 1) (wvs L) 89
  be : Below w.heap.size w wx
theorem Wds.set {w wx : World} {k : List UInt8} {L : List (BitVec 64)} (h : Wds w wx k L) (j : Nat) (x : BitVec 64) : Wds w (wx.setCell ⟨w.heap.size + 1, j, none⟩ (.int .u64 (wn x))) k (L.set j x) :=
  ⟨h.ke.setOther _ _ _ (by omega), by rw [← wvs_set]; exact h.wo.set j _, h.be.setCell (by simp) _⟩
theorem Wds.drew {w wx : World} {k : List UInt8} {L : List (BitVec 64)} (h : Wds w wx k L) : Wds w wx.drew k L := ⟨h.ke.drew, h.wo.drew, h.be.drew⟩
theorem wid (x : BitVec 64) : IntKind.u64.wrap (wn x) = wn x := by
  have := wlt x
  unfold wn
  rw [IntKind.wrap_u64]; omega
theorem Wds.word {w wx : World} {k : List UInt8} {L : List (BitVec 64)} (h : Wds w wx k L) (j : Nat) (hj : j < L.length) : wx.cell? ⟨w.heap.size + 1, j, none⟩ = some (.int .u64 (wn (L.getD j 0))) := by
  rw [h.wo.cell, wvs_at L j hj]

set_option maxRecDepth 100000 in
set_option maxHeartbeats 2000000 in
theorem words_any (k : List UInt8) (hk : k.length = 32) (w : World) :
    Calls Tryd.prog 37 #[.agg (k.map byt).toArray] w fun e w' => e = .returned (.agg (wvs (wdk k 32)).toArray) ∧ Below w.heap.size w w' := by
  have hks : (Tryd.prog.info? 23).map (·.size) = some (k.map byt).length := by rw [List.length_map, hk]; kernel_rfl
  have HKS := hide hks
  have HK := hide hk
  clear hks hk
  go_enter Tryd.func37, Tryd.ntmps37
  go_wp2_with (first | (refine wpList_box rfl 23 _ rfl (k.map byt) rfl ?_) | (refine wpList_newAt rfl 89 rfl (wvs z4) zero58 (w.heap.size + 1) (by simp) ?_) | (refine wpList_load_row rfl 23 (.tmp 1) rfl w.heap.size rfl 23 (k.map byt).toArray (0, 0) _ ((Blk.new w _ _).alloc _) Tryd.underlying23 rfl (by simpa using HKS.out) ?_))
  have h0 : Hid (Wds w ((w.alloc (.cells (k.map byt).toArray 23)).alloc (.cells (wvs z4).toArray 89)) k (wdk k 0)) := by
    refine ⟨(Blk.new w _ _).alloc _, ?_, (((Below.refl _ _).alloc (Nat.le_refl _) _).alloc (by simp) _)⟩
    have := Blk.new (w.alloc (.cells (k.map byt).toArray 23)) (wvs z4) 89
    rw [show wdk k 0 = z4 from rfl]
    simpa using this
  go_loopw [6] (fun i wr => ∃ t : Nat, t ≤ 32 ∧ i = .int .i64 t ∧ Hid (Wds w wr k (wdk k t))) (fun i _ => 32 - (intOf i).toNat)
  case atStart => exact ⟨0, by omega, rfl, h0⟩
  case round =>
    obtain ⟨t, ht, rfl, hs⟩ := hrel
    by_cases hlt : t < 32
    · have hlz : (t : Int) < 32 := by omega
      have hidx := fun W => run_byte k HK.out t hlt W
      have hlen := wdk_length k t
      obtain ⟨L, hL⟩ : ∃ L, L = wdk k t := ⟨_, rfl⟩
      rw [← hL] at hs hlen
      have HL := hide hL
      clear hL
      obtain ⟨j, hj⟩ : ∃ j, j = t / 8 := ⟨_, rfl⟩
      obtain ⟨r, hr⟩ : ∃ r, r = t % 8 := ⟨_, rfl⟩
      have q1 : (t : Int).tdiv 8 = (j : Int) := by rw [Int.tdiv_eq_ediv_of_nonneg (by omega)]; omega
      have q2 : (t : Int) / 8 = (j : Int) := by omega
      have q3 : (t : Int).tmod 8 = (r : Int) := by rw [Int.tmod_eq_emod_of_nonneg (by omega)]; omega
      have q4 : (t : Int) % 8 = (r : Int) := by omega
      have hj4 : (j : Int) < 4 := by omega
      have hr8 : r < 8 := by omega
      have hc := hs.out.word j (by omega)
      have hfz := hs.out.wo.frozen j
      obtain ⟨x, hx⟩ : ∃ x, x = L.getD j 0 := ⟨_, rfl⟩
      obtain ⟨u, hu⟩ : ∃ u, u = k.getD t 0 := ⟨_, rfl⟩
      rw [← hx] at hc
      rw [← hu, bw_wn] at hidx
      obtain ⟨m, hm⟩ : ∃ m, m = 8 * r := ⟨_, rfl⟩
      have q5 : (8 : Int) * (r : Int) = (m : Int) := by omega
      have hm64 : (m : Int) < 64 := by omega
      have e1 := wshl (bw u) m
      have e2 := wor x (bw u <<< m)
      have HX := hide hx
      have HU := hide hu
      have HJ := hide hj
      have HR := hide hr
      have HM := hide hm
      clear hx hu hj hr hm
      go_wp2
      go_region
      go_wp2
      go_roundw
      case rel =>
        refine ⟨t + 1, by omega, by go_num, ?_⟩
        rw [wdk, ← HJ.out, ← HR.out, ← HM.out, ← HL.out, ← HX.out, ← HU.out]
        rw [wid, e1, e2]
        exact (hs.out.set j _).drew
      case measure => simp [intOf]; omega
    · obtain rfl : t = 32 := by omega
      have hl := wdk_length k 32
      obtain ⟨L, hL⟩ : ∃ L, wdk k 32 = L := ⟨_, rfl⟩
      have HL := hide hL
      rw [hL] at hs hl
      clear hL
      have hsz : (Tryd.prog.info? 89).map (·.size) = some (wvs L).length := by rw [wvs_length, hl]; kernel_rfl
      have HSZ := hide hsz
      clear hsz hl
      go_wp2_with (first | (refine wpList_load_row rfl 89 (.tmp 2) rfl (w.heap.size + 1) rfl 89 (wvs L).toArray (0, 0) _ hs.out.wo Tryd.underlying89 rfl (by simpa using HSZ.out) ?_) | (refine wpList_store_row rfl 89 (.tmp 2) (.tmp 23) rfl (w.heap.size + 1) (wvs L).toArray rfl rfl 89 (wvs L).toArray hs.out.wo (by simpa using HSZ.out) rfl (wvs_one L) ?_))
      refine bodyPost_ret (results_cell_row Tryd.results37 _ _ (w.heap.size + 1) 89 (wvs L).toArray (0, 0) _ rfl (hs.out.wo.setRow _) Tryd.underlying89 rfl (by simpa using HSZ.out)) rfl ?_
      exact ⟨by rw [HL.out], below_setRow hs.out.be _ _ (by omega)⟩
theorem wshr38 (x : BitVec 64) : wn x / (274877906944 : Int) = wn (x >>> 38) := wshr x 38
theorem wshr25 (x : BitVec 64) : wn x / (33554432 : Int) = wn (x >>> 25) := wshr x 25
theorem wshr12 (x : BitVec 64) : wn x / (4096 : Int) = wn (x >>> 12) := wshr x 12
theorem wshl26 (x : BitVec 64) : IntKind.u64.wrap (wn x * (67108864 : Int)) = wn (x <<< 26) := wshl x 26
theorem wshl39 (x : BitVec 64) : IntKind.u64.wrap (wn x * (549755813888 : Int)) = wn (x <<< 39) := wshl x 39

/-- The limbs of four words. -/
def limbs4 (a b c d : BitVec 64) : L5 := ⟨a &&& mk51, (a >>> 51 ||| b <<< 13) &&& mk51, (b >>> 38 ||| c <<< 26) &&& mk51, (c >>> 25 ||| d <<< 39) &&& mk51, d >>> 12 &&& mk51⟩
def readE (k : List UInt8) : L5 := limbs4 ((wdk k 32).getD 0 0) ((wdk k 32).getD 1 0) ((wdk k 32).getD 2 0) ((wdk k 32).getD 3 0)

theorem four {α : Type} {L : List α} (h : L.length = 4) : ∃ a b c d, L = [a, b, c, d] := by
  match L, h with
  | [a, b, c, d], _ => exact ⟨a, b, c, d, rfl⟩

set_option maxRecDepth 100000 in
set_option maxHeartbeats 2000000 in
theorem read_any (k : List UInt8) (hk : k.length = 32) (w : World) :
    Calls Tryd.prog 26 #[.agg (k.map byt).toArray] w fun e w' => e = .returned (readE k).v ∧ Below w.heap.size w w' := by
  have hks : (Tryd.prog.info? 23).map (·.size) = some (k.map byt).length := by rw [List.length_map, hk]; kernel_rfl
  obtain ⟨a, b, c, d, hL⟩ := four (wdk_length k 32)
  have hwd := fun W => words_any k hk W
  rw [hL] at hwd
  have HR : Hid (readE k = limbs4 a b c d) := by
    unfold readE
    rw [hL]
    rfl
  generalize readE k = R at HR ⊢
  clear hL hk
  go_enter Tryd.func26, Tryd.ntmps26
  go_upto_region 1 with (first | (refine wpList_box rfl 23 _ rfl (k.map byt) rfl ?_) | (refine wpList_newAt rfl 71 rfl z5 zero27 (w.heap.size + 1) (by simp) ?_))
  have b1 : Blk ((w.alloc (.cells (k.map byt).toArray 23)).alloc (.cells z5.toArray 71)) w.heap.size (k.map byt) 23 := (Blk.new _ _ _).alloc _
  have b2 : Blk ((w.alloc (.cells (k.map byt).toArray 23)).alloc (.cells z5.toArray 71)) (w.heap.size + 1) z5 71 := by
    have := Blk.new (w.alloc (.cells (k.map byt).toArray 23)) z5 71
    simpa using this
  have be : Below w.heap.size w ((w.alloc (.cells (k.map byt).toArray 23)).alloc (.cells z5.toArray 71)) := by go_grown
  generalize (w.alloc (.cells (k.map byt).toArray 23)).alloc (.cells z5.toArray 71) = w1 at b1 b2 be ⊢
  obtain ⟨n, hn⟩ : ∃ n, w.heap.size = n := ⟨_, rfl⟩
  rw [hn] at b1 b2 be ⊢
  simp only [Act.put, List.setIfInBounds_toArray, List.set_cons_zero, List.set_cons_succ]
  refine lst_newT 2 rfl rfl rfl rfl 3 rfl 89 rfl (wvs z4) zero58 rfl rfl (.tmp 5) rfl ?_
  simp only [List.take_succ_cons, List.take_zero]
  refine wpLex_cons _ (uni_row rfl 23 (.tmp 1) rfl n (k.map byt) 23 rfl (fun W hW => b1.on hW) Tryd.underlying23 rfl hks) ?_
  simp only [Act.put, List.setIfInBounds_toArray, List.set_cons_zero, List.set_cons_succ]
  refine wpLex_cons _ (uni_callF (by rfl) 37 [Operand.tmp 4] #[23] rfl [.agg (k.map byt).toArray] (.agg (wvs [a, b, c, d]).toArray) rfl enter37 (fun W hW => hwd W)) ?_
  simp only [Act.put, List.setIfInBounds_toArray, List.set_cons_zero, List.set_cons_succ]
  refine ⟨wvs [a, b, c, d], rfl, by simp, by simp, by kernel_rfl, rfl, wvs_one _, fun g w2 hg hW c1 => ?_⟩
  simp only [Act.put, List.setIfInBounds_toArray, List.set_cons_zero, List.set_cons_succ]
  replace b2 := b2.on hW
  replace be := be.trans (hW.mono (by have := be.size; omega))
  have g0 : w2.cell? ⟨g, 0, none⟩ = some (.int .u64 (wn a)) := c1.cell 0
  have g1 : w2.cell? ⟨g, 1, none⟩ = some (.int .u64 (wn b)) := c1.cell 1
  have g2 : w2.cell? ⟨g, 2, none⟩ = some (.int .u64 (wn c)) := c1.cell 2
  have g3 : w2.cell? ⟨g, 3, none⟩ = some (.int .u64 (wn d)) := c1.cell 3
  clear hW hg b1 w1 hks hwd c1
  have B2 := hide b2
  have BE := hide be
  clear b2 be
  have h1 := wand51
  have h2 := wshr51
  have h3 := wshl13
  have h4 := wshr38
  have h5 := wshl26
  have h6 := wshr25
  have h7 := wshl39
  have h8 := wshr12
  have h9 := wor
  go_wp2_with (refine wpList_store_row rfl 71 (.tmp 2) (.tmp 38) rfl (n + 1) (limbs4 a b c d).cs.toArray rfl rfl 71 z5.toArray B2.out (cs_infoA _) (cs_size _) (cs_one _) ?_)
  refine bodyPost_ret (results_cell_row Tryd.results26 _ _ (n + 1) 71 (limbs4 a b c d).cs.toArray (0, 0) _ rfl (B2.out.setRow _) Tryd.underlying71 rfl (cs_infoA _)) rfl ?_
  exact ⟨by rw [HR.out]; rfl, by rw [hn]; exact below_setRow BE.out _ _ (by omega)⟩
end Go.Proofs.YtoceepmehmacbaaDoor.Cv
