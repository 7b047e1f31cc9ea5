import Derived.Test.YtnakeieeopbeiaaEqG
import Derived.Test.YtnakeieeopbeiaaMul
set_option linter.unusedVariables false
set_option linter.unusedSimpArgs false
namespace Go.Proofs.Ytnakeieeopbeiaa
open Go.RowKit

set_option maxRecDepth 100000 in
set_option maxHeartbeats 4000000 in
theorem square_any (x : L5) (w : World) :
    Calls Try.prog 20 #[x.v] w fun e w' => e = .returned (mulE x x).v ∧ Below w.heap.size w w' := by
  go_enter Try.func20, Try.ntmps20
  go_upto_region 1 with (first | (refine wpList_boxAt rfl 27 (.tmp 0) rfl (x.cs) rfl (w.heap.size) rfl ?_) | (refine wpList_newAt rfl 27 rfl z5 zero27 (w.heap.size + 1) (by simp) ?_))
  have b0 : Blk ((w.alloc (.cells (x.cs).toArray 27)).alloc (.cells (z5).toArray 27)) (w.heap.size) (x.cs) 27 := by
    have := (Blk.new w (x.cs) 27).alloc (.cells (z5).toArray 27)
    simpa using this
  have b1 : Blk ((w.alloc (.cells (x.cs).toArray 27)).alloc (.cells (z5).toArray 27)) (w.heap.size + 1) (z5) 27 := by
    have := Blk.new (w.alloc (.cells (x.cs).toArray 27)) (z5) 27
    simpa using this
  have be : Below w.heap.size w ((w.alloc (.cells (x.cs).toArray 27)).alloc (.cells (z5).toArray 27)) := by go_grown
  generalize ((w.alloc (.cells (x.cs).toArray 27)).alloc (.cells (z5).toArray 27)) = w1 at b0 b1 be ⊢
  obtain ⟨n, hn⟩ : ∃ n, w.heap.size = n := ⟨_, rfl⟩
  rw [hn] at b0 b1 be ⊢
  try simp only [Act.put, List.setIfInBounds_toArray, List.set_cons_zero, List.set_cons_succ]
  refine lst_putT 3 rfl rfl rfl rfl 27 (.tmp 2) (.tmp 5) rfl ?_
  simp only [List.take_succ_cons, List.take_zero]
  refine wpLex_cons2 _ (uni_row rfl 27 (.tmp 1) rfl n x.cs 27 rfl (fun W hW => b0.on hW) Try.underlying27 rfl (cs_info _)) (by simp only [Act.put, List.setIfInBounds_toArray, List.set_cons_zero, List.set_cons_succ]; rfl) ?_
  refine wpLex_cons2 _ (uni_row rfl 27 (.tmp 1) rfl n x.cs 27 rfl (fun W hW => b0.on hW) Try.underlying27 rfl (cs_info _)) (by simp only [Act.put, List.setIfInBounds_toArray, List.set_cons_zero, List.set_cons_succ]; rfl) ?_
  refine wpLex_cons2 _ (uni_callF (by rfl) 16 [Operand.tmp 3, Operand.tmp 4] #[27, 27] rfl [x.v, x.v] ((mulE x x).v) rfl enter16 (fun W hW => mul_any x x W)) (by simp only [Act.put, List.setIfInBounds_toArray, List.set_cons_zero, List.set_cons_succ]; rfl) ?_
  refine ⟨n + 1, (mulE x x).cs, z5, 27, rfl, rfl, b1, cs_info _, cs_len _, cs_one _, fun wz hW => ?_⟩
  go_wp2
  refine bodyPost_ret (results_cell_row Try.results20 _ _ (n + 1) 27 ((mulE x x).cs).toArray (0, 0) _ rfl ((b1.on hW).setRow _) Try.underlying27 rfl (cs_infoA _)) rfl ?_
  exact ⟨rfl, by rw [hn]; exact below_setRow (be.trans (hW.mono (by have := be.size; omega))) _ _ (by omega)⟩

/-- Squared so many times. -/
def sqN (x : L5) : Nat → L5
  | 0 => x
  | t + 1 => mulE (sqN x t) (sqN x t)

structure Sqd (n : Nat) (w wx : World) (x : L5) : Prop where
  va : Blk wx n x.cs 27
  re : Blk wx (n + 1) z5 27
  be : Below n w wx

set_option maxRecDepth 100000 in
set_option maxHeartbeats 4000000 in
theorem squared_any (x : L5) (m : Nat) (hm : m < 1000) (w : World) :
    Calls Try.prog 31 #[x.v, .int .i64 (m : Int)] w fun e w' => e = .returned (sqN x m).v ∧ Below w.heap.size w w' := by
  go_enter Try.func31, Try.ntmps31
  go_upto_region 1 with (first | (refine wpList_boxAt rfl 27 (.tmp 0) rfl (x.cs) rfl (w.heap.size) rfl ?_) | (refine wpList_newAt rfl 27 rfl z5 zero27 (w.heap.size + 1) (by simp) ?_))
  have b0 : Blk ((w.alloc (.cells (x.cs).toArray 27)).alloc (.cells (z5).toArray 27)) (w.heap.size) (x.cs) 27 := by
    have := (Blk.new w (x.cs) 27).alloc (.cells (z5).toArray 27)
    simpa using this
  have b1 : Blk ((w.alloc (.cells (x.cs).toArray 27)).alloc (.cells (z5).toArray 27)) (w.heap.size + 1) (z5) 27 := by
    have := Blk.new (w.alloc (.cells (x.cs).toArray 27)) (z5) 27
    simpa using this
  have be : Below w.heap.size w ((w.alloc (.cells (x.cs).toArray 27)).alloc (.cells (z5).toArray 27)) := by go_grown
  generalize ((w.alloc (.cells (x.cs).toArray 27)).alloc (.cells (z5).toArray 27)) = w1 at b0 b1 be ⊢
  obtain ⟨n, hn⟩ : ∃ n, w.heap.size = n := ⟨_, rfl⟩
  rw [hn] at b0 b1 be ⊢
  try simp only [Act.put, List.setIfInBounds_toArray, List.set_cons_zero, List.set_cons_succ]
  have h0 : Hid (Sqd n w w1 (sqN x 0)) := ⟨b0, b1, be⟩
  clear b0 b1 be
  go_wp2
  go_loopw [6] (fun i wr => ∃ t : Nat, t ≤ m ∧ i = .int .i64 t ∧ Hid (Sqd n w wr (sqN x t))) (fun i _ => m - (intOf i).toNat)
  case atStart => exact ⟨0, by omega, rfl, h0⟩
  case round =>
    obtain ⟨t, ht, rfl, hs⟩ := hrel
    obtain ⟨y, hy⟩ : ∃ y, sqN x t = y := ⟨_, rfl⟩
    have HY := hide hy
    rw [hy] at hs
    clear hy
    by_cases hlt : t < m
    · have hlz : (t : Int) < (m : Int) := by omega
      go_wp2_with (first | (refine wpList_load_row rfl 27 (.tmp 2) rfl n rfl 27 y.cs.toArray (0, 0) _ hs.out.va Try.underlying27 rfl (cs_infoA _) ?_) | (go_at_call 20; refine (square_any y _).mono ?_; rintro e w3 ⟨rfl, hb⟩; have B3 := hide hb; clear hb) | (refine wpList_store_row rfl 27 (.tmp 2) (.tmp 9) rfl n (mulE y y).cs.toArray rfl rfl 27 y.cs.toArray (hs.out.va.on B3.out) (cs_infoA _) (cs_sz _ _) (cs_one _) ?_))
      go_roundw
      case rel =>
        refine ⟨t + 1, by omega, by go_num, ?_⟩
        rw [sqN, HY.out]
        exact ⟨(hs.out.va.on B3.out).setRow _, (hs.out.re.on B3.out).setRowOther _ _ (by omega), below_setRow (hs.out.be.trans (B3.out.mono (by have := hs.out.be.size; omega))) _ _ (by omega)⟩
      case measure => simp [intOf]; omega
    · obtain rfl : t = m := by omega
      go_wp2_with (first | (refine wpList_load_row rfl 27 (.tmp 2) rfl n rfl 27 y.cs.toArray (0, 0) _ hs.out.va Try.underlying27 rfl (cs_infoA _) ?_) | (refine wpList_store_row rfl 27 (.tmp 4) (.tmp 11) rfl (n + 1) y.cs.toArray rfl rfl 27 z5.toArray hs.out.re (cs_infoA _) (cs_size _) (cs_one _) ?_))
      refine bodyPost_ret (results_cell_row Try.results31 _ _ (n + 1) 27 y.cs.toArray (0, 0) _ rfl (hs.out.re.setRow _) Try.underlying27 rfl (cs_infoA _)) rfl ?_
      exact ⟨by rw [HY.out]; rfl, by rw [hn]; exact below_setRow hs.out.be _ _ (by omega)⟩
theorem squared_at (x : L5) (m : Nat) (w : World) (hm : m < 1000 := by decide) : Calls Try.prog 31 #[x.v, .int .i64 (m : Int)] w fun e w' => e = .returned (sqN x m).v ∧ Below w.heap.size w w' := squared_any x m hm w

def o5 (x : L5) : L5 := mulE (mulE (mulE (mulE (sqN x 4) (sqN x 3)) (sqN x 2)) (sqN x 1)) x
def o10 (x : L5) : L5 := mulE (sqN (o5 x) 5) (o5 x)
def o20 (x : L5) : L5 := mulE (sqN (o10 x) 10) (o10 x)
def o40 (x : L5) : L5 := mulE (sqN (o20 x) 20) (o20 x)
def o50 (x : L5) : L5 := mulE (sqN (o40 x) 10) (o10 x)
def o100 (x : L5) : L5 := mulE (sqN (o50 x) 50) (o50 x)
def o200 (x : L5) : L5 := mulE (sqN (o100 x) 100) (o100 x)
/-- The power 2^250 - 1. -/
def onesE (x : L5) : L5 := mulE (sqN (o200 x) 50) (o50 x)

end Go.Proofs.Ytnakeieeopbeiaa
