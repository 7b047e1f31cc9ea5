import Derived.Test.YtoceepmehmacbaaDoorKNum4G
import Derived.Test.YtoceepmehmacbaaDoorKMul
set_option linter.unusedVariables false
set_option linter.unusedSimpArgs false
namespace Go.Proofs.YtoceepmehmacbaaDoor.Cv
open Go.RowKit

set_option maxRecDepth 100000 in
set_option maxHeartbeats 4000000 in
theorem square_any (x : L5) (w : World) :
    Calls Tryd.prog 54 #[x.v] w fun e w' => e = .returned (mulE x x).v ∧ Below w.heap.size w w' := by
  go_enter Tryd.func54, Tryd.ntmps54
  go_upto_region 1 with (first | (refine wpList_boxAt rfl 71 (.tmp 0) rfl (x.cs) rfl (w.heap.size) rfl ?_) | (refine wpList_newAt rfl 71 rfl z5 zero27 (w.heap.size + 1) (by simp) ?_))
  have b0 : Blk ((w.alloc (.cells (x.cs).toArray 71)).alloc (.cells (z5).toArray 71)) (w.heap.size) (x.cs) 71 := by
    have := (Blk.new w (x.cs) 71).alloc (.cells (z5).toArray 71)
    simpa using this
  have b1 : Blk ((w.alloc (.cells (x.cs).toArray 71)).alloc (.cells (z5).toArray 71)) (w.heap.size + 1) (z5) 71 := by
    have := Blk.new (w.alloc (.cells (x.cs).toArray 71)) (z5) 71
    simpa using this
  have be : Below w.heap.size w ((w.alloc (.cells (x.cs).toArray 71)).alloc (.cells (z5).toArray 71)) := by go_grown
  generalize ((w.alloc (.cells (x.cs).toArray 71)).alloc (.cells (z5).toArray 71)) = w1 at b0 b1 be ⊢
  obtain ⟨n, hn⟩ : ∃ n, w.heap.size = n := ⟨_, rfl⟩
  rw [hn] at b0 b1 be ⊢
  try simp only [Act.put, List.setIfInBounds_toArray, List.set_cons_zero, List.set_cons_succ]
  refine lst_putT 3 rfl rfl rfl rfl 71 (.tmp 2) (.tmp 5) rfl ?_
  simp only [List.take_succ_cons, List.take_zero]
  refine wpLex_cons2 _ (uni_row rfl 71 (.tmp 1) rfl n x.cs 71 rfl (fun W hW => b0.on hW) Tryd.underlying71 rfl (cs_info _)) (by simp only [Act.put, List.setIfInBounds_toArray, List.set_cons_zero, List.set_cons_succ]; rfl) ?_; refine wpLex_cons2 _ (uni_row rfl 71 (.tmp 1) rfl n x.cs 71 rfl (fun W hW => b0.on hW) Tryd.underlying71 rfl (cs_info _)) (by simp only [Act.put, List.setIfInBounds_toArray, List.set_cons_zero, List.set_cons_succ]; rfl) ?_; refine wpLex_cons2 _ (uni_callF (by rfl) 38 [Operand.tmp 3, Operand.tmp 4] #[71, 71] rfl [x.v, x.v] ((mulE x x).v) rfl enter38 (fun W hW => mul_any x x W)) (by simp only [Act.put, List.setIfInBounds_toArray, List.set_cons_zero, List.set_cons_succ]; rfl) ?_; refine ⟨n + 1, (mulE x x).cs, z5, 71, rfl, rfl, b1, cs_info _, cs_len _, cs_one _, fun wz hW => ?_⟩
  go_wp2
  refine bodyPost_ret (results_cell_row Tryd.results54 _ _ (n + 1) 71 ((mulE x x).cs).toArray (0, 0) _ rfl ((b1.on hW).setRow _) Tryd.underlying71 rfl (cs_infoA _)) rfl ?_
  exact ⟨rfl, by rw [hn]; exact below_setRow (be.trans (hW.mono (by have := be.size; omega))) _ _ (by omega)⟩

/-- Squared so many times. -/
def sqN (x : L5) : Nat → L5
  | 0 => x
  | t + 1 => mulE (sqN x t) (sqN x t)

structure Sqd (n : Nat) (w wx : World) (x : L5) : Prop where
  va : Blk wx n x.cs 71
  re : Blk wx (n + 1) z5 71
  be : Below n w wx

set_option maxRecDepth 100000 in
set_option maxHeartbeats 4000000 in
theorem squared_any (x : L5) (m : Nat) (hm : m < 1000) (w : World) :
    Calls Tryd.prog 58 #[x.v, .int .i64 (m : Int)] w fun e w' => e = .returned (sqN x m).v ∧ Below w.heap.size w w' := by
  go_enter Tryd.func58, Tryd.ntmps58
  go_upto_region 1 with (first | (refine wpList_boxAt rfl 71 (.tmp 0) rfl (x.cs) rfl (w.heap.size) rfl ?_) | (refine wpList_newAt rfl 71 rfl z5 zero27 (w.heap.size + 1) (by simp) ?_))
  have b0 : Blk ((w.alloc (.cells (x.cs).toArray 71)).alloc (.cells (z5).toArray 71)) (w.heap.size) (x.cs) 71 := by
    have := (Blk.new w (x.cs) 71).alloc (.cells (z5).toArray 71)
    simpa using this
  have b1 : Blk ((w.alloc (.cells (x.cs).toArray 71)).alloc (.cells (z5).toArray 71)) (w.heap.size + 1) (z5) 71 := by
    have := Blk.new (w.alloc (.cells (x.cs).toArray 71)) (z5) 71
    simpa using this
  have be : Below w.heap.size w ((w.alloc (.cells (x.cs).toArray 71)).alloc (.cells (z5).toArray 71)) := by go_grown
  generalize ((w.alloc (.cells (x.cs).toArray 71)).alloc (.cells (z5).toArray 71)) = w1 at b0 b1 be ⊢
  obtain ⟨n, hn⟩ : ∃ n, w.heap.size = n := ⟨_, rfl⟩
  rw [hn] at b0 b1 be ⊢
  try simp only [Act.put, List.setIfInBounds_toArray, List.set_cons_zero, List.set_cons_succ]
  have h0 : Hid (Sqd n w w1 (sqN x 0)) := ⟨b0, b1, be⟩
  clear b0 b1 be
  go_wp2
  go_loopw [6] (fun i wr => ∃ t : Nat, t ≤ m ∧ i = .int .i64 t ∧ Hid (Sqd n w wr (sqN x t))) (fun i _ => m - (intOf i).toNat)
  case atStart => exact ⟨0, by omega, rfl, h0⟩
  case round =>
    obtain ⟨t, ht, rfl, hs⟩ := hrel
    obtain ⟨y, hy⟩ : ∃ y, sqN x t = y := ⟨_, rfl⟩
    have HY := hide hy
    rw [hy] at hs
    clear hy
    by_cases hlt : t < m
    · have hlz : (t : Int) < (m : Int) := by omega
      go_wp2_with (first | (refine wpList_load_row rfl 71 (.tmp 2) rfl n rfl 71 y.cs.toArray (0, 0) _ hs.out.va Tryd.underlying71 rfl (cs_infoA _) ?_) | (go_at_call 54; refine (square_any y _).mono ?_; rintro e w3 ⟨rfl, hb⟩; have B3 := hide hb; clear hb) | (refine wpList_store_row rfl 71 (.tmp 2) (.tmp 9) rfl n (mulE y y).cs.toArray rfl rfl 71 y.cs.toArray (hs.out.va.on B3.out) (cs_infoA _) (cs_sz _ _) (cs_one _) ?_))
      go_roundw
      case rel =>
        refine ⟨t + 1, by omega, by go_num, ?_⟩
        rw [sqN, HY.out]
        exact ⟨(hs.out.va.on B3.out).setRow _, (hs.out.re.on B3.out).setRowOther _ _ (by omega), below_setRow (hs.out.be.trans (B3.out.mono (by have := hs.out.be.size; omega))) _ _ (by omega)⟩
      case measure => simp [intOf]; omega
    · obtain rfl : t = m := by omega
      go_wp2_with (first | (refine wpList_load_row rfl 71 (.tmp 2) rfl n rfl 71 y.cs.toArray (0, 0) _ hs.out.va Tryd.underlying71 rfl (cs_infoA _) ?_) | (refine wpList_store_row rfl 71 (.tmp 4) (.tmp 11) rfl (n + 1) y.cs.toArray rfl rfl 71 z5.toArray hs.out.re (cs_infoA _) (cs_size _) (cs_one _) ?_))
      refine bodyPost_ret (results_cell_row Tryd.results58 _ _ (n + 1) 71 y.cs.toArray (0, 0) _ rfl (hs.out.re.setRow _) Tryd.underlying71 rfl (cs_infoA _)) rfl ?_
      exact ⟨by rw [HY.out]; rfl, by rw [hn]; exact below_setRow hs.out.be _ _ (by omega)⟩
theorem squared_at (x : L5) (m : Nat) (w : World) (hm : m < 1000 := by decide) : Calls Tryd.prog 58 #[x.v, .int .i64 (m : Int)] w fun e w' => e = .returned (sqN x m).v ∧ Below w.heap.size w w' := squared_any x m hm w

def o5 (x : L5) : L5 := mulE (mulE (mulE (mulE (sqN x 4) (sqN x 3)) (sqN x 2)) (sqN x 1)) x
def o10 (x : L5) : L5 := mulE (sqN (o5 x) 5) (o5 x)
def o20 (x : L5) : L5 := mulE (sqN (o10 x) 10) (o10 x)
def o40 (x : L5) : L5 := mulE (sqN (o20 x) 20) (o20 x)
def o50 (x : L5) : L5 := mulE (sqN (o40 x) 10) (o10 x)
def o100 (x : L5) : L5 := mulE (sqN (o50 x) 50) (o50 x)
def o200 (x : L5) : L5 := mulE (sqN (o100 x) 100) (o100 x)
/-- The power 2^250 - 1. -/
def onesE (x : L5) : L5 := mulE (sqN (o200 x) 50) (o50 x)

set_option maxRecDepth 100000 in
set_option maxHeartbeats 20000000 in
theorem manyOnes_any (x : L5) (w : World) :
    Calls Tryd.prog 59 #[x.v] w fun e w' => e = .returned (onesE x).v ∧ Below w.heap.size w w' := by
  have HR : Hid (onesE x = mulE (sqN (o200 x) 50) (o50 x)) := by rw [onesE]; trivial
  generalize onesE x = R at HR ⊢
  go_enter Tryd.func59, Tryd.ntmps59
  go_upto_region 1 with (first | (refine wpList_boxAt rfl 71 (.tmp 0) rfl (x.cs) rfl (w.heap.size) rfl ?_) | (refine wpList_newAt rfl 71 rfl z5 zero27 (w.heap.size + 1) (by simp) ?_))
  have b0 : Blk ((w.alloc (.cells (x.cs).toArray 71)).alloc (.cells (z5).toArray 71)) (w.heap.size) (x.cs) 71 := by
    have := (Blk.new w (x.cs) 71).alloc (.cells (z5).toArray 71)
    simpa using this
  have b1 : Blk ((w.alloc (.cells (x.cs).toArray 71)).alloc (.cells (z5).toArray 71)) (w.heap.size + 1) (z5) 71 := by
    have := Blk.new (w.alloc (.cells (x.cs).toArray 71)) (z5) 71
    simpa using this
  have be : Below w.heap.size w ((w.alloc (.cells (x.cs).toArray 71)).alloc (.cells (z5).toArray 71)) := by go_grown
  generalize ((w.alloc (.cells (x.cs).toArray 71)).alloc (.cells (z5).toArray 71)) = w1 at b0 b1 be ⊢
  obtain ⟨n, hn⟩ : ∃ n, w.heap.size = n := ⟨_, rfl⟩
  rw [hn] at b0 b1 be ⊢
  try simp only [Act.put, List.setIfInBounds_toArray, List.set_cons_zero, List.set_cons_succ]
  refine reg_newT (by kernel_rfl) 13 rfl rfl rfl (by kernel_rfl) rfl 3 rfl 71 rfl z5 zero27 rfl rfl (.tmp 22) rfl ?_
  simp only [List.take_succ_cons, List.take_zero]
  refine wpLex_cons2 _ (uni_row rfl 71 (.tmp 1) rfl n x.cs 71 rfl (fun W hW => b0.on hW) Tryd.underlying71 rfl (cs_info _)) (by simp only [Act.put, List.setIfInBounds_toArray, List.set_cons_zero, List.set_cons_succ]; rfl) ?_; refine wpLex_cons2 _ (uni_callF (by rfl) 58 [Operand.tmp 10, Operand.const (Value.int IntKind.i64 4)] #[71, 3] rfl [x.v, Value.int IntKind.i64 4] ((sqN x 4).v) rfl enter58 (fun W hW => squared_at x 4 W)) (by simp only [Act.put, List.setIfInBounds_toArray, List.set_cons_zero, List.set_cons_succ]; rfl) ?_; refine wpLex_cons2 _ (uni_row rfl 71 (.tmp 1) rfl n x.cs 71 rfl (fun W hW => b0.on hW) Tryd.underlying71 rfl (cs_info _)) (by simp only [Act.put, List.setIfInBounds_toArray, List.set_cons_zero, List.set_cons_succ]; rfl) ?_; refine wpLex_cons2 _ (uni_callF (by rfl) 58 [Operand.tmp 12, Operand.const (Value.int IntKind.i64 3)] #[71, 3] rfl [x.v, Value.int IntKind.i64 3] ((sqN x 3).v) rfl enter58 (fun W hW => squared_at x 3 W)) (by simp only [Act.put, List.setIfInBounds_toArray, List.set_cons_zero, List.set_cons_succ]; rfl) ?_; refine wpLex_cons2 _ (uni_callF (by rfl) 38 [Operand.tmp 11, Operand.tmp 13] #[71, 71] rfl [((sqN x 4).v), ((sqN x 3).v)] ((mulE (sqN x 4) (sqN x 3)).v) rfl enter38 (fun W hW => mul_any (sqN x 4) (sqN x 3) W)) (by simp only [Act.put, List.setIfInBounds_toArray, List.set_cons_zero, List.set_cons_succ]; rfl) ?_; refine wpLex_cons2 _ (uni_row rfl 71 (.tmp 1) rfl n x.cs 71 rfl (fun W hW => b0.on hW) Tryd.underlying71 rfl (cs_info _)) (by simp only [Act.put, List.setIfInBounds_toArray, List.set_cons_zero, List.set_cons_succ]; rfl) ?_; refine wpLex_cons2 _ (uni_callF (by rfl) 58 [Operand.tmp 15, Operand.const (Value.int IntKind.i64 2)] #[71, 3] rfl [x.v, Value.int IntKind.i64 2] ((sqN x 2).v) rfl enter58 (fun W hW => squared_at x 2 W)) (by simp only [Act.put, List.setIfInBounds_toArray, List.set_cons_zero, List.set_cons_succ]; rfl) ?_; refine wpLex_cons2 _ (uni_callF (by rfl) 38 [Operand.tmp 14, Operand.tmp 16] #[71, 71] rfl [((mulE (sqN x 4) (sqN x 3)).v), ((sqN x 2).v)] ((mulE (mulE (sqN x 4) (sqN x 3)) (sqN x 2)).v) rfl enter38 (fun W hW => mul_any (mulE (sqN x 4) (sqN x 3)) (sqN x 2) W)) (by simp only [Act.put, List.setIfInBounds_toArray, List.set_cons_zero, List.set_cons_succ]; rfl) ?_; refine wpLex_cons2 _ (uni_row rfl 71 (.tmp 1) rfl n x.cs 71 rfl (fun W hW => b0.on hW) Tryd.underlying71 rfl (cs_info _)) (by simp only [Act.put, List.setIfInBounds_toArray, List.set_cons_zero, List.set_cons_succ]; rfl) ?_; refine wpLex_cons2 _ (uni_callF (by rfl) 58 [Operand.tmp 18, Operand.const (Value.int IntKind.i64 1)] #[71, 3] rfl [x.v, Value.int IntKind.i64 1] ((sqN x 1).v) rfl enter58 (fun W hW => squared_at x 1 W)) (by simp only [Act.put, List.setIfInBounds_toArray, List.set_cons_zero, List.set_cons_succ]; rfl) ?_; refine wpLex_cons2 _ (uni_callF (by rfl) 38 [Operand.tmp 17, Operand.tmp 19] #[71, 71] rfl [((mulE (mulE (sqN x 4) (sqN x 3)) (sqN x 2)).v), ((sqN x 1).v)] ((mulE (mulE (mulE (sqN x 4) (sqN x 3)) (sqN x 2)) (sqN x 1)).v) rfl enter38 (fun W hW => mul_any (mulE (mulE (sqN x 4) (sqN x 3)) (sqN x 2)) (sqN x 1) W)) (by simp only [Act.put, List.setIfInBounds_toArray, List.set_cons_zero, List.set_cons_succ]; rfl) ?_; refine wpLex_cons2 _ (uni_row rfl 71 (.tmp 1) rfl n x.cs 71 rfl (fun W hW => b0.on hW) Tryd.underlying71 rfl (cs_info _)) (by simp only [Act.put, List.setIfInBounds_toArray, List.set_cons_zero, List.set_cons_succ]; rfl) ?_; refine wpLex_cons2 _ (uni_callF (by rfl) 38 [Operand.tmp 20, Operand.tmp 21] #[71, 71] rfl [((mulE (mulE (mulE (sqN x 4) (sqN x 3)) (sqN x 2)) (sqN x 1)).v), x.v] ((mulE (mulE (mulE (mulE (sqN x 4) (sqN x 3)) (sqN x 2)) (sqN x 1)) x).v) rfl enter38 (fun W hW => mul_any (mulE (mulE (mulE (sqN x 4) (sqN x 3)) (sqN x 2)) (sqN x 1)) x W)) (by simp only [Act.put, List.setIfInBounds_toArray, List.set_cons_zero, List.set_cons_succ]; rfl) ?_; refine ⟨(mulE (mulE (mulE (mulE (sqN x 4) (sqN x 3)) (sqN x 2)) (sqN x 1)) x).cs, rfl, by simp, by simp, cs_info _, cs_len _, cs_one _, fun gca w2 hg hW ca => ?_⟩
  simp only [Act.put, List.setIfInBounds_toArray, List.set_cons_zero, List.set_cons_succ]
  replace b0 := b0.on hW
  replace b1 := b1.on hW
  replace be := be.trans (hW.mono (by have := be.size; omega))
  clear hW hg w1
  have ha : mulE (mulE (mulE (mulE (sqN x 4) (sqN x 3)) (sqN x 2)) (sqN x 1)) x = o5 x := by rw [o5]
  rw [ha] at ca ⊢
  clear ha
  obtain ⟨a, ka⟩ : ∃ a, o5 x = a := ⟨_, rfl⟩
  rw [ka] at ca ⊢
  have Ha := hide ka
  clear ka
  go_upto_region 2 with fail
  refine reg_newT (by kernel_rfl) 4 rfl rfl rfl (by kernel_rfl) rfl 4 rfl 71 rfl z5 zero27 rfl rfl (.tmp 26) rfl ?_
  simp only [List.take_succ_cons, List.take_zero]
  refine wpLex_cons2 _ (uni_row rfl 71 (.tmp 3) rfl gca a.cs 71 rfl (fun W hW => ca.on hW) Tryd.underlying71 rfl (cs_info _)) (by simp only [Act.put, List.setIfInBounds_toArray, List.set_cons_zero, List.set_cons_succ]; rfl) ?_; refine wpLex_cons2 _ (uni_callF (by rfl) 58 [Operand.tmp 23, Operand.const (Value.int IntKind.i64 5)] #[71, 3] rfl [a.v, Value.int IntKind.i64 5] ((sqN a 5).v) rfl enter58 (fun W hW => squared_at a 5 W)) (by simp only [Act.put, List.setIfInBounds_toArray, List.set_cons_zero, List.set_cons_succ]; rfl) ?_; refine wpLex_cons2 _ (uni_row rfl 71 (.tmp 3) rfl gca a.cs 71 rfl (fun W hW => ca.on hW) Tryd.underlying71 rfl (cs_info _)) (by simp only [Act.put, List.setIfInBounds_toArray, List.set_cons_zero, List.set_cons_succ]; rfl) ?_; refine wpLex_cons2 _ (uni_callF (by rfl) 38 [Operand.tmp 24, Operand.tmp 25] #[71, 71] rfl [((sqN a 5).v), a.v] ((mulE (sqN a 5) a).v) rfl enter38 (fun W hW => mul_any (sqN a 5) a W)) (by simp only [Act.put, List.setIfInBounds_toArray, List.set_cons_zero, List.set_cons_succ]; rfl) ?_; refine ⟨(mulE (sqN a 5) a).cs, rfl, by simp, by simp, cs_info _, cs_len _, cs_one _, fun gcb w3 hg hW cb => ?_⟩
  simp only [Act.put, List.setIfInBounds_toArray, List.set_cons_zero, List.set_cons_succ]
  replace b0 := b0.on hW
  replace b1 := b1.on hW
  replace ca := ca.on hW
  replace be := be.trans (hW.mono (by have := be.size; omega))
  clear hW hg w2
  have hb : mulE (sqN a 5) a = o10 x := by rw [o10, Ha.out]
  rw [hb] at cb ⊢
  clear hb
  obtain ⟨b, kb⟩ : ∃ b, o10 x = b := ⟨_, rfl⟩
  rw [kb] at cb ⊢
  have Hb := hide kb
  clear kb
  go_upto_region 3 with fail
  refine reg_newT (by kernel_rfl) 4 rfl rfl rfl (by kernel_rfl) rfl 5 rfl 71 rfl z5 zero27 rfl rfl (.tmp 30) rfl ?_
  simp only [List.take_succ_cons, List.take_zero]
  refine wpLex_cons2 _ (uni_row rfl 71 (.tmp 4) rfl gcb b.cs 71 rfl (fun W hW => cb.on hW) Tryd.underlying71 rfl (cs_info _)) (by simp only [Act.put, List.setIfInBounds_toArray, List.set_cons_zero, List.set_cons_succ]; rfl) ?_; refine wpLex_cons2 _ (uni_callF (by rfl) 58 [Operand.tmp 27, Operand.const (Value.int IntKind.i64 10)] #[71, 3] rfl [b.v, Value.int IntKind.i64 10] ((sqN b 10).v) rfl enter58 (fun W hW => squared_at b 10 W)) (by simp only [Act.put, List.setIfInBounds_toArray, List.set_cons_zero, List.set_cons_succ]; rfl) ?_; refine wpLex_cons2 _ (uni_row rfl 71 (.tmp 4) rfl gcb b.cs 71 rfl (fun W hW => cb.on hW) Tryd.underlying71 rfl (cs_info _)) (by simp only [Act.put, List.setIfInBounds_toArray, List.set_cons_zero, List.set_cons_succ]; rfl) ?_; refine wpLex_cons2 _ (uni_callF (by rfl) 38 [Operand.tmp 28, Operand.tmp 29] #[71, 71] rfl [((sqN b 10).v), b.v] ((mulE (sqN b 10) b).v) rfl enter38 (fun W hW => mul_any (sqN b 10) b W)) (by simp only [Act.put, List.setIfInBounds_toArray, List.set_cons_zero, List.set_cons_succ]; rfl) ?_; refine ⟨(mulE (sqN b 10) b).cs, rfl, by simp, by simp, cs_info _, cs_len _, cs_one _, fun gcc w4 hg hW cc => ?_⟩
  simp only [Act.put, List.setIfInBounds_toArray, List.set_cons_zero, List.set_cons_succ]
  replace b0 := b0.on hW
  replace b1 := b1.on hW
  replace ca := ca.on hW
  replace cb := cb.on hW
  replace be := be.trans (hW.mono (by have := be.size; omega))
  clear hW hg w3
  have hc : mulE (sqN b 10) b = o20 x := by rw [o20, Hb.out]
  rw [hc] at cc ⊢
  clear hc
  obtain ⟨c, kc⟩ : ∃ c, o20 x = c := ⟨_, rfl⟩
  rw [kc] at cc ⊢
  have Hc := hide kc
  clear kc
  go_upto_region 4 with fail
  refine reg_newT (by kernel_rfl) 4 rfl rfl rfl (by kernel_rfl) rfl 6 rfl 71 rfl z5 zero27 rfl rfl (.tmp 34) rfl ?_
  simp only [List.take_succ_cons, List.take_zero]
  refine wpLex_cons2 _ (uni_row rfl 71 (.tmp 5) rfl gcc c.cs 71 rfl (fun W hW => cc.on hW) Tryd.underlying71 rfl (cs_info _)) (by simp only [Act.put, List.setIfInBounds_toArray, List.set_cons_zero, List.set_cons_succ]; rfl) ?_; refine wpLex_cons2 _ (uni_callF (by rfl) 58 [Operand.tmp 31, Operand.const (Value.int IntKind.i64 20)] #[71, 3] rfl [c.v, Value.int IntKind.i64 20] ((sqN c 20).v) rfl enter58 (fun W hW => squared_at c 20 W)) (by simp only [Act.put, List.setIfInBounds_toArray, List.set_cons_zero, List.set_cons_succ]; rfl) ?_; refine wpLex_cons2 _ (uni_row rfl 71 (.tmp 5) rfl gcc c.cs 71 rfl (fun W hW => cc.on hW) Tryd.underlying71 rfl (cs_info _)) (by simp only [Act.put, List.setIfInBounds_toArray, List.set_cons_zero, List.set_cons_succ]; rfl) ?_; refine wpLex_cons2 _ (uni_callF (by rfl) 38 [Operand.tmp 32, Operand.tmp 33] #[71, 71] rfl [((sqN c 20).v), c.v] ((mulE (sqN c 20) c).v) rfl enter38 (fun W hW => mul_any (sqN c 20) c W)) (by simp only [Act.put, List.setIfInBounds_toArray, List.set_cons_zero, List.set_cons_succ]; rfl) ?_; refine ⟨(mulE (sqN c 20) c).cs, rfl, by simp, by simp, cs_info _, cs_len _, cs_one _, fun gcd w5 hg hW cd => ?_⟩
  simp only [Act.put, List.setIfInBounds_toArray, List.set_cons_zero, List.set_cons_succ]
  replace b0 := b0.on hW
  replace b1 := b1.on hW
  replace ca := ca.on hW
  replace cb := cb.on hW
  replace cc := cc.on hW
  replace be := be.trans (hW.mono (by have := be.size; omega))
  clear hW hg w4
  have hd : mulE (sqN c 20) c = o40 x := by rw [o40, Hc.out]
  rw [hd] at cd ⊢
  clear hd
  obtain ⟨d, kd⟩ : ∃ d, o40 x = d := ⟨_, rfl⟩
  rw [kd] at cd ⊢
  have Hd := hide kd
  clear kd
  go_upto_region 5 with fail
  refine reg_newT (by kernel_rfl) 4 rfl rfl rfl (by kernel_rfl) rfl 7 rfl 71 rfl z5 zero27 rfl rfl (.tmp 38) rfl ?_
  simp only [List.take_succ_cons, List.take_zero]
  refine wpLex_cons2 _ (uni_row rfl 71 (.tmp 6) rfl gcd d.cs 71 rfl (fun W hW => cd.on hW) Tryd.underlying71 rfl (cs_info _)) (by simp only [Act.put, List.setIfInBounds_toArray, List.set_cons_zero, List.set_cons_succ]; rfl) ?_; refine wpLex_cons2 _ (uni_callF (by rfl) 58 [Operand.tmp 35, Operand.const (Value.int IntKind.i64 10)] #[71, 3] rfl [d.v, Value.int IntKind.i64 10] ((sqN d 10).v) rfl enter58 (fun W hW => squared_at d 10 W)) (by simp only [Act.put, List.setIfInBounds_toArray, List.set_cons_zero, List.set_cons_succ]; rfl) ?_; refine wpLex_cons2 _ (uni_row rfl 71 (.tmp 4) rfl gcb b.cs 71 rfl (fun W hW => cb.on hW) Tryd.underlying71 rfl (cs_info _)) (by simp only [Act.put, List.setIfInBounds_toArray, List.set_cons_zero, List.set_cons_succ]; rfl) ?_; refine wpLex_cons2 _ (uni_callF (by rfl) 38 [Operand.tmp 36, Operand.tmp 37] #[71, 71] rfl [((sqN d 10).v), b.v] ((mulE (sqN d 10) b).v) rfl enter38 (fun W hW => mul_any (sqN d 10) b W)) (by simp only [Act.put, List.setIfInBounds_toArray, List.set_cons_zero, List.set_cons_succ]; rfl) ?_; refine ⟨(mulE (sqN d 10) b).cs, rfl, by simp, by simp, cs_info _, cs_len _, cs_one _, fun gce w6 hg hW ce => ?_⟩
  simp only [Act.put, List.setIfInBounds_toArray, List.set_cons_zero, List.set_cons_succ]
  replace b0 := b0.on hW
  replace b1 := b1.on hW
  replace ca := ca.on hW
  replace cb := cb.on hW
  replace cc := cc.on hW
  replace cd := cd.on hW
  replace be := be.trans (hW.mono (by have := be.size; omega))
  clear hW hg w5
  have he : mulE (sqN d 10) b = o50 x := by rw [o50, Hd.out, Hb.out]
  rw [he] at ce ⊢
  clear he
  obtain ⟨e, ke⟩ : ∃ e, o50 x = e := ⟨_, rfl⟩
  rw [ke] at ce ⊢
  have He := hide ke
  clear ke
  go_upto_region 6 with fail
  refine reg_newT (by kernel_rfl) 4 rfl rfl rfl (by kernel_rfl) rfl 8 rfl 71 rfl z5 zero27 rfl rfl (.tmp 42) rfl ?_
  simp only [List.take_succ_cons, List.take_zero]
  refine wpLex_cons2 _ (uni_row rfl 71 (.tmp 7) rfl gce e.cs 71 rfl (fun W hW => ce.on hW) Tryd.underlying71 rfl (cs_info _)) (by simp only [Act.put, List.setIfInBounds_toArray, List.set_cons_zero, List.set_cons_succ]; rfl) ?_; refine wpLex_cons2 _ (uni_callF (by rfl) 58 [Operand.tmp 39, Operand.const (Value.int IntKind.i64 50)] #[71, 3] rfl [e.v, Value.int IntKind.i64 50] ((sqN e 50).v) rfl enter58 (fun W hW => squared_at e 50 W)) (by simp only [Act.put, List.setIfInBounds_toArray, List.set_cons_zero, List.set_cons_succ]; rfl) ?_; refine wpLex_cons2 _ (uni_row rfl 71 (.tmp 7) rfl gce e.cs 71 rfl (fun W hW => ce.on hW) Tryd.underlying71 rfl (cs_info _)) (by simp only [Act.put, List.setIfInBounds_toArray, List.set_cons_zero, List.set_cons_succ]; rfl) ?_; refine wpLex_cons2 _ (uni_callF (by rfl) 38 [Operand.tmp 40, Operand.tmp 41] #[71, 71] rfl [((sqN e 50).v), e.v] ((mulE (sqN e 50) e).v) rfl enter38 (fun W hW => mul_any (sqN e 50) e W)) (by simp only [Act.put, List.setIfInBounds_toArray, List.set_cons_zero, List.set_cons_succ]; rfl) ?_; refine ⟨(mulE (sqN e 50) e).cs, rfl, by simp, by simp, cs_info _, cs_len _, cs_one _, fun gcf w7 hg hW cf => ?_⟩
  simp only [Act.put, List.setIfInBounds_toArray, List.set_cons_zero, List.set_cons_succ]
  replace b0 := b0.on hW
  replace b1 := b1.on hW
  replace ca := ca.on hW
  replace cb := cb.on hW
  replace cc := cc.on hW
  replace cd := cd.on hW
  replace ce := ce.on hW
  replace be := be.trans (hW.mono (by have := be.size; omega))
  clear hW hg w6
  have hf : mulE (sqN e 50) e = o100 x := by rw [o100, He.out]
  rw [hf] at cf ⊢
  clear hf
  obtain ⟨f, kf⟩ : ∃ f, o100 x = f := ⟨_, rfl⟩
  rw [kf] at cf ⊢
  have Hf := hide kf
  clear kf
  go_upto_region 7 with fail
  refine reg_newT (by kernel_rfl) 4 rfl rfl rfl (by kernel_rfl) rfl 9 rfl 71 rfl z5 zero27 rfl rfl (.tmp 46) rfl ?_
  simp only [List.take_succ_cons, List.take_zero]
  refine wpLex_cons2 _ (uni_row rfl 71 (.tmp 8) rfl gcf f.cs 71 rfl (fun W hW => cf.on hW) Tryd.underlying71 rfl (cs_info _)) (by simp only [Act.put, List.setIfInBounds_toArray, List.set_cons_zero, List.set_cons_succ]; rfl) ?_; refine wpLex_cons2 _ (uni_callF (by rfl) 58 [Operand.tmp 43, Operand.const (Value.int IntKind.i64 100)] #[71, 3] rfl [f.v, Value.int IntKind.i64 100] ((sqN f 100).v) rfl enter58 (fun W hW => squared_at f 100 W)) (by simp only [Act.put, List.setIfInBounds_toArray, List.set_cons_zero, List.set_cons_succ]; rfl) ?_; refine wpLex_cons2 _ (uni_row rfl 71 (.tmp 8) rfl gcf f.cs 71 rfl (fun W hW => cf.on hW) Tryd.underlying71 rfl (cs_info _)) (by simp only [Act.put, List.setIfInBounds_toArray, List.set_cons_zero, List.set_cons_succ]; rfl) ?_; refine wpLex_cons2 _ (uni_callF (by rfl) 38 [Operand.tmp 44, Operand.tmp 45] #[71, 71] rfl [((sqN f 100).v), f.v] ((mulE (sqN f 100) f).v) rfl enter38 (fun W hW => mul_any (sqN f 100) f W)) (by simp only [Act.put, List.setIfInBounds_toArray, List.set_cons_zero, List.set_cons_succ]; rfl) ?_; refine ⟨(mulE (sqN f 100) f).cs, rfl, by simp, by simp, cs_info _, cs_len _, cs_one _, fun gcg w8 hg hW cg => ?_⟩
  simp only [Act.put, List.setIfInBounds_toArray, List.set_cons_zero, List.set_cons_succ]
  replace b0 := b0.on hW
  replace b1 := b1.on hW
  replace ca := ca.on hW
  replace cb := cb.on hW
  replace cc := cc.on hW
  replace cd := cd.on hW
  replace ce := ce.on hW
  replace cf := cf.on hW
  replace be := be.trans (hW.mono (by have := be.size; omega))
  clear hW hg w7
  have hg : mulE (sqN f 100) f = o200 x := by rw [o200, Hf.out]
  rw [hg] at cg ⊢
  clear hg
  obtain ⟨g, kg⟩ : ∃ g, o200 x = g := ⟨_, rfl⟩
  rw [kg] at cg ⊢
  have Hg := hide kg
  clear kg
  go_upto_region 8 with fail
  refine reg_putT (by kernel_rfl) 4 rfl rfl (by kernel_rfl) rfl rfl 71 (.tmp 2) (.tmp 50) rfl ?_
  simp only [List.take_succ_cons, List.take_zero]
  refine wpLex_cons2 _ (uni_row rfl 71 (.tmp 9) rfl gcg g.cs 71 rfl (fun W hW => cg.on hW) Tryd.underlying71 rfl (cs_info _)) (by simp only [Act.put, List.setIfInBounds_toArray, List.set_cons_zero, List.set_cons_succ]; rfl) ?_; refine wpLex_cons2 _ (uni_callF (by rfl) 58 [Operand.tmp 47, Operand.const (Value.int IntKind.i64 50)] #[71, 3] rfl [g.v, Value.int IntKind.i64 50] ((sqN g 50).v) rfl enter58 (fun W hW => squared_at g 50 W)) (by simp only [Act.put, List.setIfInBounds_toArray, List.set_cons_zero, List.set_cons_succ]; rfl) ?_; refine wpLex_cons2 _ (uni_row rfl 71 (.tmp 7) rfl gce e.cs 71 rfl (fun W hW => ce.on hW) Tryd.underlying71 rfl (cs_info _)) (by simp only [Act.put, List.setIfInBounds_toArray, List.set_cons_zero, List.set_cons_succ]; rfl) ?_; refine wpLex_cons2 _ (uni_callF (by rfl) 38 [Operand.tmp 48, Operand.tmp 49] #[71, 71] rfl [((sqN g 50).v), e.v] ((mulE (sqN g 50) e).v) rfl enter38 (fun W hW => mul_any (sqN g 50) e W)) (by simp only [Act.put, List.setIfInBounds_toArray, List.set_cons_zero, List.set_cons_succ]; rfl) ?_; refine ⟨n + 1, (mulE (sqN g 50) e).cs, z5, 71, rfl, rfl, b1, cs_info _, cs_len _, cs_one _, fun wz hW => ?_⟩
  go_wp2
  refine bodyPost_ret (results_cell_row Tryd.results59 _ _ (n + 1) 71 ((mulE (sqN g 50) e).cs).toArray (0, 0) _ rfl ((b1.on hW).setRow _) Tryd.underlying71 rfl (cs_infoA _)) rfl ?_
  exact ⟨by rw [HR.out, Hg.out, He.out]; rfl, by rw [hn]; exact below_setRow (be.trans (hW.mono (by have := be.size; omega))) _ _ (by omega)⟩

end Go.Proofs.YtoceepmehmacbaaDoor.Cv
