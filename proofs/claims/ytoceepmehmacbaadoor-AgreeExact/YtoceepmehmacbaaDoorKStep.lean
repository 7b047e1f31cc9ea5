import Derived.Test.YtoceepmehmacbaaDoorKMidG
set_option linter.unusedVariables false
set_option linter.unusedSimpArgs false
namespace Go.Proofs.YtoceepmehmacbaaDoor.Cv
open Go.RowKit

/-- The ladder's step. -/
def stA (r : R2) : L5 := addE r.x r.z
def stB (r : R2) : L5 := subE r.x r.z
def stDA (r s : R2) : L5 := mulE (subE s.x s.z) (stA r)
def stCB (r s : R2) : L5 := mulE (addE s.x s.z) (stB r)
def stF (r : R2) : L5 := subE (mulE (stA r) (stA r)) (mulE (stB r) (stB r))
def dblE (r : R2) : R2 := ⟨mulE (mulE (stA r) (stA r)) (mulE (stB r) (stB r)), mulE (stF r) (addE (mulE (small 121665#32) (stF r)) (mulE (stA r) (stA r)))⟩
def sumE (r s : R2) (u : L5) : R2 := ⟨mulE (addE (stDA r s) (stCB r s)) (addE (stDA r s) (stCB r s)), mulE (mulE (subE (stDA r s) (stCB r s)) (subE (stDA r s) (stCB r s))) u⟩

set_option maxRecDepth 100000 in
set_option maxHeartbeats 4000000 in
theorem step_walk (r s : R2) (u A B D DA E CB F1 SX F2 F3 SZ AA BB F DX C1 C2 C3 DZ : L5)
    (hA : ∀ W, Calls Tryd.prog 52 #[r.x.v, r.z.v] W fun e w' => e = .returned A.v ∧ Below W.heap.size W w')
    (hB : ∀ W, Calls Tryd.prog 53 #[r.x.v, r.z.v] W fun e w' => e = .returned B.v ∧ Below W.heap.size W w')
    (hD : ∀ W, Calls Tryd.prog 53 #[s.x.v, s.z.v] W fun e w' => e = .returned D.v ∧ Below W.heap.size W w')
    (hDA : ∀ W, Calls Tryd.prog 38 #[D.v, A.v] W fun e w' => e = .returned DA.v ∧ Below W.heap.size W w')
    (hE : ∀ W, Calls Tryd.prog 52 #[s.x.v, s.z.v] W fun e w' => e = .returned E.v ∧ Below W.heap.size W w')
    (hCB : ∀ W, Calls Tryd.prog 38 #[E.v, B.v] W fun e w' => e = .returned CB.v ∧ Below W.heap.size W w')
    (hF1 : ∀ W, Calls Tryd.prog 52 #[DA.v, CB.v] W fun e w' => e = .returned F1.v ∧ Below W.heap.size W w')
    (hSX : ∀ W, Calls Tryd.prog 54 #[F1.v] W fun e w' => e = .returned SX.v ∧ Below W.heap.size W w')
    (hF2 : ∀ W, Calls Tryd.prog 53 #[DA.v, CB.v] W fun e w' => e = .returned F2.v ∧ Below W.heap.size W w')
    (hF3 : ∀ W, Calls Tryd.prog 54 #[F2.v] W fun e w' => e = .returned F3.v ∧ Below W.heap.size W w')
    (hSZ : ∀ W, Calls Tryd.prog 38 #[F3.v, u.v] W fun e w' => e = .returned SZ.v ∧ Below W.heap.size W w')
    (hAA : ∀ W, Calls Tryd.prog 54 #[A.v] W fun e w' => e = .returned AA.v ∧ Below W.heap.size W w')
    (hBB : ∀ W, Calls Tryd.prog 54 #[B.v] W fun e w' => e = .returned BB.v ∧ Below W.heap.size W w')
    (hF : ∀ W, Calls Tryd.prog 53 #[AA.v, BB.v] W fun e w' => e = .returned F.v ∧ Below W.heap.size W w')
    (hDX : ∀ W, Calls Tryd.prog 38 #[AA.v, BB.v] W fun e w' => e = .returned DX.v ∧ Below W.heap.size W w')
    (hC1 : ∀ W, Calls Tryd.prog 34 #[.int .u32 121665] W fun e w' => e = .returned C1.v ∧ Below W.heap.size W w')
    (hC2 : ∀ W, Calls Tryd.prog 38 #[C1.v, F.v] W fun e w' => e = .returned C2.v ∧ Below W.heap.size W w')
    (hC3 : ∀ W, Calls Tryd.prog 52 #[C2.v, AA.v] W fun e w' => e = .returned C3.v ∧ Below W.heap.size W w')
    (hDZ : ∀ W, Calls Tryd.prog 38 #[F.v, C3.v] W fun e w' => e = .returned DZ.v ∧ Below W.heap.size W w')
    (w : World) : Calls Tryd.prog 36 #[r.v, s.v, u.v] w fun e w' => e = .returned (.tuple #[(R2.mk DX DZ).v, (R2.mk SX SZ).v]) ∧ Below w.heap.size w w' := by
  go_enter Tryd.func36, Tryd.ntmps36
  go_upto_region 1 with (first | (refine wpList_boxAt rfl 73 (.tmp 0) rfl (r.cs) rfl (w.heap.size) rfl ?_) | (refine wpList_boxAt rfl 73 (.tmp 1) rfl (s.cs) rfl (w.heap.size + 1) (by simp) ?_) | (refine wpList_boxAt rfl 71 (.tmp 2) rfl (u.cs) rfl (w.heap.size + 1 + 1) (by simp) ?_) | (refine wpList_newAt rfl 73 rfl zero10.cs zero55 (w.heap.size + 1 + 1 + 1) (size3 _ _ _ _) ?_) | (refine wpList_newAt rfl 73 rfl zero10.cs zero55 (w.heap.size + 1 + 1 + 1 + 1) (size4 _ _ _ _ _) ?_))
  have b0 : Blk (((((w.alloc (.cells (r.cs).toArray 73)).alloc (.cells (s.cs).toArray 73)).alloc (.cells (u.cs).toArray 71)).alloc (.cells (zero10.cs).toArray 73)).alloc (.cells (zero10.cs).toArray 73)) (w.heap.size) (r.cs) 73 := by
    have := ((((Blk.new w (r.cs) 73).alloc (.cells (s.cs).toArray 73)).alloc (.cells (u.cs).toArray 71)).alloc (.cells (zero10.cs).toArray 73)).alloc (.cells (zero10.cs).toArray 73)
    simpa using this
  have b1 : Blk (((((w.alloc (.cells (r.cs).toArray 73)).alloc (.cells (s.cs).toArray 73)).alloc (.cells (u.cs).toArray 71)).alloc (.cells (zero10.cs).toArray 73)).alloc (.cells (zero10.cs).toArray 73)) (w.heap.size + 1) (s.cs) 73 := by
    have := (((Blk.new (w.alloc (.cells (r.cs).toArray 73)) (s.cs) 73).alloc (.cells (u.cs).toArray 71)).alloc (.cells (zero10.cs).toArray 73)).alloc (.cells (zero10.cs).toArray 73)
    simpa using this
  have b2 : Blk (((((w.alloc (.cells (r.cs).toArray 73)).alloc (.cells (s.cs).toArray 73)).alloc (.cells (u.cs).toArray 71)).alloc (.cells (zero10.cs).toArray 73)).alloc (.cells (zero10.cs).toArray 73)) (w.heap.size + 1 + 1) (u.cs) 71 := by
    have := ((Blk.new ((w.alloc (.cells (r.cs).toArray 73)).alloc (.cells (s.cs).toArray 73)) (u.cs) 71).alloc (.cells (zero10.cs).toArray 73)).alloc (.cells (zero10.cs).toArray 73)
    simpa using this
  have b3 : Blk (((((w.alloc (.cells (r.cs).toArray 73)).alloc (.cells (s.cs).toArray 73)).alloc (.cells (u.cs).toArray 71)).alloc (.cells (zero10.cs).toArray 73)).alloc (.cells (zero10.cs).toArray 73)) (w.heap.size + 1 + 1 + 1) (zero10.cs) 73 := by
    have := (Blk.new (((w.alloc (.cells (r.cs).toArray 73)).alloc (.cells (s.cs).toArray 73)).alloc (.cells (u.cs).toArray 71)) (zero10.cs) 73).alloc (.cells (zero10.cs).toArray 73)
    simpa using this
  have b4 : Blk (((((w.alloc (.cells (r.cs).toArray 73)).alloc (.cells (s.cs).toArray 73)).alloc (.cells (u.cs).toArray 71)).alloc (.cells (zero10.cs).toArray 73)).alloc (.cells (zero10.cs).toArray 73)) (w.heap.size + 1 + 1 + 1 + 1) (zero10.cs) 73 := by
    have := Blk.new ((((w.alloc (.cells (r.cs).toArray 73)).alloc (.cells (s.cs).toArray 73)).alloc (.cells (u.cs).toArray 71)).alloc (.cells (zero10.cs).toArray 73)) (zero10.cs) 73
    simpa using this
  have be : Below w.heap.size w (((((w.alloc (.cells (r.cs).toArray 73)).alloc (.cells (s.cs).toArray 73)).alloc (.cells (u.cs).toArray 71)).alloc (.cells (zero10.cs).toArray 73)).alloc (.cells (zero10.cs).toArray 73)) := by go_grown
  generalize (((((w.alloc (.cells (r.cs).toArray 73)).alloc (.cells (s.cs).toArray 73)).alloc (.cells (u.cs).toArray 71)).alloc (.cells (zero10.cs).toArray 73)).alloc (.cells (zero10.cs).toArray 73)) = w1 at b0 b1 b2 b3 b4 be ⊢
  obtain ⟨n, hn⟩ : ∃ n, w.heap.size = n := ⟨_, rfl⟩
  rw [hn] at b0 b1 b2 b3 b4 be ⊢
  try simp only [Act.put, List.setIfInBounds_toArray, List.set_cons_zero, List.set_cons_succ]
  have hlow := b4.lt
  refine reg_new2 (by kernel_rfl) 10 rfl rfl rfl rfl rfl (by kernel_rfl) (by kernel_rfl) (by kernel_rfl) (by kernel_rfl) (by kernel_rfl) (by kernel_rfl) (by kernel_rfl) (by kernel_rfl) (by kernel_rfl) 71 z5 zero27 (by kernel_rfl) 8 rfl rfl rfl (.tmp 19) rfl rfl rfl 9 rfl rfl rfl (.tmp 24) rfl rfl rfl (by decide) (by simp) ?_
  simp only [List.take_succ_cons, List.take_zero]
  refine wpLex_cons2 _ (uni_val (by rfl) (Op.fieldAddr 73 (Operand.tmp 3) 0) rfl (.pointer (some ⟨n, 0, none⟩)) (fun o' ho W _ => by go_simp)) (by simp only [Act.put, List.setIfInBounds_toArray, List.set_cons_zero, List.set_cons_succ]; rfl) ?_; refine wpLex_cons2 _ (uni_mid rfl 71 (.tmp 15) rfl (n) 0 r.x.cs rfl (fun W hW => (b0.on hW).range (at_x r)) Tryd.underlying71 rfl (cs_info _)) (by simp only [Act.put, List.setIfInBounds_toArray, List.set_cons_zero, List.set_cons_succ]; rfl) ?_; refine wpLex_cons2 _ (uni_val (by rfl) (Op.fieldAddr 73 (Operand.tmp 3) 1) rfl (.pointer (some ⟨n, 5, none⟩)) (fun o' ho W _ => by go_simp)) (by simp only [Act.put, List.setIfInBounds_toArray, List.set_cons_zero, List.set_cons_succ]; rfl) ?_; refine wpLex_cons2 _ (uni_mid rfl 71 (.tmp 17) rfl (n) 5 r.z.cs rfl (fun W hW => (b0.on hW).range (at_z r)) Tryd.underlying71 rfl (cs_info _)) (by simp only [Act.put, List.setIfInBounds_toArray, List.set_cons_zero, List.set_cons_succ]; rfl) ?_; refine wpLex_cons2 _ (uni_callF (by rfl) 52 [Operand.tmp 16, Operand.tmp 18] #[71, 71] rfl [r.x.v, r.z.v] (A.v) rfl enter52 (fun W hW => hA W)) (by simp only [Act.put, List.setIfInBounds_toArray, List.set_cons_zero, List.set_cons_succ]; rfl) ?_; refine wpLex_cons2 _ (uni_val (by rfl) (Op.fieldAddr 73 (Operand.tmp 3) 0) rfl (.pointer (some ⟨n, 0, none⟩)) (fun o' ho W _ => by go_simp)) (by simp only [Act.put, List.setIfInBounds_toArray, List.set_cons_zero, List.set_cons_succ]; rfl) ?_; refine wpLex_cons2 _ (uni_mid rfl 71 (.tmp 20) rfl (n) 0 r.x.cs rfl (fun W hW => (b0.on hW).range (at_x r)) Tryd.underlying71 rfl (cs_info _)) (by simp only [Act.put, List.setIfInBounds_toArray, List.set_cons_zero, List.set_cons_succ]; rfl) ?_; refine wpLex_cons2 _ (uni_val (by rfl) (Op.fieldAddr 73 (Operand.tmp 3) 1) rfl (.pointer (some ⟨n, 5, none⟩)) (fun o' ho W _ => by go_simp)) (by simp only [Act.put, List.setIfInBounds_toArray, List.set_cons_zero, List.set_cons_succ]; rfl) ?_; refine wpLex_cons2 _ (uni_mid rfl 71 (.tmp 22) rfl (n) 5 r.z.cs rfl (fun W hW => (b0.on hW).range (at_z r)) Tryd.underlying71 rfl (cs_info _)) (by simp only [Act.put, List.setIfInBounds_toArray, List.set_cons_zero, List.set_cons_succ]; rfl) ?_; refine wpLex_cons2 _ (uni_callF (by rfl) 53 [Operand.tmp 21, Operand.tmp 23] #[71, 71] rfl [r.x.v, r.z.v] (B.v) rfl enter53 (fun W hW => hB W)) (by simp only [Act.put, List.setIfInBounds_toArray, List.set_cons_zero, List.set_cons_succ]; rfl) ?_; refine ⟨A.cs, B.cs, rfl, cs_len _, cs_one _, by simp, rfl, cs_len _, cs_one _, by simp, fun gca gcb w2 lo0 lo1 ne01 hW ca cb => ?_⟩
  simp only [Act.put, List.setIfInBounds_toArray, List.set_cons_zero, List.set_cons_succ]
  replace b0 := b0.on hW
  replace b1 := b1.on hW
  replace b2 := b2.on hW
  replace b3 := b3.on hW
  replace b4 := b4.on hW
  replace be := be.trans (hW.mono (by have := be.size; omega))
  have lca : n + 1 + 1 + 1 + 1 < gca := Nat.lt_of_lt_of_le hlow lo0
  have lcb : n + 1 + 1 + 1 + 1 < gcb := Nat.lt_of_lt_of_le hlow lo1
  clear hlow hW lo0 lo1 ne01 w1
  go_upto_region 2 with fail
  have hlow := b4.lt
  refine reg_new2 (by kernel_rfl) 14 rfl rfl rfl rfl rfl (by kernel_rfl) (by kernel_rfl) (by kernel_rfl) (by kernel_rfl) (by kernel_rfl) (by kernel_rfl) (by kernel_rfl) (by kernel_rfl) (by kernel_rfl) 71 z5 zero27 (by kernel_rfl) 10 rfl rfl rfl (.tmp 31) rfl rfl rfl 11 rfl rfl rfl (.tmp 38) rfl rfl rfl (by decide) (by simp) ?_
  simp only [List.take_succ_cons, List.take_zero]
  refine wpLex_cons2 _ (uni_val (by rfl) (Op.fieldAddr 73 (Operand.tmp 4) 0) rfl (.pointer (some ⟨n + 1, 0, none⟩)) (fun o' ho W _ => by go_simp)) (by simp only [Act.put, List.setIfInBounds_toArray, List.set_cons_zero, List.set_cons_succ]; rfl) ?_; refine wpLex_cons2 _ (uni_mid rfl 71 (.tmp 25) rfl (n + 1) 0 s.x.cs rfl (fun W hW => (b1.on hW).range (at_x s)) Tryd.underlying71 rfl (cs_info _)) (by simp only [Act.put, List.setIfInBounds_toArray, List.set_cons_zero, List.set_cons_succ]; rfl) ?_; refine wpLex_cons2 _ (uni_val (by rfl) (Op.fieldAddr 73 (Operand.tmp 4) 1) rfl (.pointer (some ⟨n + 1, 5, none⟩)) (fun o' ho W _ => by go_simp)) (by simp only [Act.put, List.setIfInBounds_toArray, List.set_cons_zero, List.set_cons_succ]; rfl) ?_; refine wpLex_cons2 _ (uni_mid rfl 71 (.tmp 27) rfl (n + 1) 5 s.z.cs rfl (fun W hW => (b1.on hW).range (at_z s)) Tryd.underlying71 rfl (cs_info _)) (by simp only [Act.put, List.setIfInBounds_toArray, List.set_cons_zero, List.set_cons_succ]; rfl) ?_; refine wpLex_cons2 _ (uni_callF (by rfl) 53 [Operand.tmp 26, Operand.tmp 28] #[71, 71] rfl [s.x.v, s.z.v] (D.v) rfl enter53 (fun W hW => hD W)) (by simp only [Act.put, List.setIfInBounds_toArray, List.set_cons_zero, List.set_cons_succ]; rfl) ?_; refine wpLex_cons2 _ (uni_row rfl 71 (.tmp 8) rfl (gca) A.cs 71 rfl (fun W hW => ca.on hW) Tryd.underlying71 rfl (cs_info _)) (by simp only [Act.put, List.setIfInBounds_toArray, List.set_cons_zero, List.set_cons_succ]; rfl) ?_; refine wpLex_cons2 _ (uni_callF (by rfl) 38 [Operand.tmp 29, Operand.tmp 30] #[71, 71] rfl [(D.v), A.v] (DA.v) rfl enter38 (fun W hW => hDA W)) (by simp only [Act.put, List.setIfInBounds_toArray, List.set_cons_zero, List.set_cons_succ]; rfl) ?_; refine wpLex_cons2 _ (uni_val (by rfl) (Op.fieldAddr 73 (Operand.tmp 4) 0) rfl (.pointer (some ⟨n + 1, 0, none⟩)) (fun o' ho W _ => by go_simp)) (by simp only [Act.put, List.setIfInBounds_toArray, List.set_cons_zero, List.set_cons_succ]; rfl) ?_; refine wpLex_cons2 _ (uni_mid rfl 71 (.tmp 32) rfl (n + 1) 0 s.x.cs rfl (fun W hW => (b1.on hW).range (at_x s)) Tryd.underlying71 rfl (cs_info _)) (by simp only [Act.put, List.setIfInBounds_toArray, List.set_cons_zero, List.set_cons_succ]; rfl) ?_; refine wpLex_cons2 _ (uni_val (by rfl) (Op.fieldAddr 73 (Operand.tmp 4) 1) rfl (.pointer (some ⟨n + 1, 5, none⟩)) (fun o' ho W _ => by go_simp)) (by simp only [Act.put, List.setIfInBounds_toArray, List.set_cons_zero, List.set_cons_succ]; rfl) ?_; refine wpLex_cons2 _ (uni_mid rfl 71 (.tmp 34) rfl (n + 1) 5 s.z.cs rfl (fun W hW => (b1.on hW).range (at_z s)) Tryd.underlying71 rfl (cs_info _)) (by simp only [Act.put, List.setIfInBounds_toArray, List.set_cons_zero, List.set_cons_succ]; rfl) ?_; refine wpLex_cons2 _ (uni_callF (by rfl) 52 [Operand.tmp 33, Operand.tmp 35] #[71, 71] rfl [s.x.v, s.z.v] (E.v) rfl enter52 (fun W hW => hE W)) (by simp only [Act.put, List.setIfInBounds_toArray, List.set_cons_zero, List.set_cons_succ]; rfl) ?_; refine wpLex_cons2 _ (uni_row rfl 71 (.tmp 9) rfl (gcb) B.cs 71 rfl (fun W hW => cb.on hW) Tryd.underlying71 rfl (cs_info _)) (by simp only [Act.put, List.setIfInBounds_toArray, List.set_cons_zero, List.set_cons_succ]; rfl) ?_; refine wpLex_cons2 _ (uni_callF (by rfl) 38 [Operand.tmp 36, Operand.tmp 37] #[71, 71] rfl [(E.v), B.v] (CB.v) rfl enter38 (fun W hW => hCB W)) (by simp only [Act.put, List.setIfInBounds_toArray, List.set_cons_zero, List.set_cons_succ]; rfl) ?_; refine ⟨DA.cs, CB.cs, rfl, cs_len _, cs_one _, by simp, rfl, cs_len _, cs_one _, by simp, fun gcda gccb w3 lo0 lo1 ne01 hW cda ccb => ?_⟩
  simp only [Act.put, List.setIfInBounds_toArray, List.set_cons_zero, List.set_cons_succ]
  replace b0 := b0.on hW
  replace b1 := b1.on hW
  replace b2 := b2.on hW
  replace b3 := b3.on hW
  replace b4 := b4.on hW
  replace ca := ca.on hW
  replace cb := cb.on hW
  replace be := be.trans (hW.mono (by have := be.size; omega))
  have lcda : n + 1 + 1 + 1 + 1 < gcda := Nat.lt_of_lt_of_le hlow lo0
  have lccb : n + 1 + 1 + 1 + 1 < gccb := Nat.lt_of_lt_of_le hlow lo1
  clear hlow hW lo0 lo1 ne01 w2
  clear hA hB hD hDA hE hCB
  go_upto_region 3 with fail
  refine lst_putM 5 rfl rfl rfl rfl 71 (.tmp 43) (.tmp 42) rfl ?_
  simp only [List.take_succ_cons, List.take_zero]
  refine wpLex_cons2 _ (uni_row rfl 71 (.tmp 10) rfl (gcda) DA.cs 71 rfl (fun W hW => cda.on hW) Tryd.underlying71 rfl (cs_info _)) (by simp only [Act.put, List.setIfInBounds_toArray, List.set_cons_zero, List.set_cons_succ]; rfl) ?_; refine wpLex_cons2 _ (uni_row rfl 71 (.tmp 11) rfl (gccb) CB.cs 71 rfl (fun W hW => ccb.on hW) Tryd.underlying71 rfl (cs_info _)) (by simp only [Act.put, List.setIfInBounds_toArray, List.set_cons_zero, List.set_cons_succ]; rfl) ?_; refine wpLex_cons2 _ (uni_callF (by rfl) 52 [Operand.tmp 39, Operand.tmp 40] #[71, 71] rfl [DA.v, CB.v] (F1.v) rfl enter52 (fun W hW => hF1 W)) (by simp only [Act.put, List.setIfInBounds_toArray, List.set_cons_zero, List.set_cons_succ]; rfl) ?_; refine wpLex_cons2 _ (uni_callF (by rfl) 54 [Operand.tmp 41] #[71] rfl [(F1.v)] (SX.v) rfl enter54 (fun W hW => hSX W)) (by simp only [Act.put, List.setIfInBounds_toArray, List.set_cons_zero, List.set_cons_succ]; rfl) ?_; refine wpLex_cons2 _ (uni_val (by rfl) (Op.fieldAddr 73 (Operand.tmp 7) 0) rfl (.pointer (some ⟨n + 1 + 1 + 1 + 1, 0, none⟩)) (fun o' ho W _ => by go_simp)) (by simp only [Act.put, List.setIfInBounds_toArray, List.set_cons_zero, List.set_cons_succ]; rfl) ?_; refine ⟨n + 1 + 1 + 1 + 1, 0, SX.cs, zero10.cs, 73, rfl, rfl, b4, cs_info _, le_x _ _, cs_one _, fun wy hW => ?_⟩
  replace b0 := b0.on hW
  replace b1 := b1.on hW
  replace b2 := b2.on hW
  replace b3 := b3.on hW
  replace b4 := b4.on hW
  replace ca := ca.on hW
  replace cb := cb.on hW
  replace cda := cda.on hW
  replace ccb := ccb.on hW
  replace be := be.trans (hW.mono (by have := be.size; omega))
  clear hW
  replace b0 := b0.setCellsOther (k := n + 1 + 1 + 1 + 1) (by omega) (SX.cs) 0
  replace b1 := b1.setCellsOther (k := n + 1 + 1 + 1 + 1) (by omega) (SX.cs) 0
  replace b2 := b2.setCellsOther (k := n + 1 + 1 + 1 + 1) (by omega) (SX.cs) 0
  replace b3 := b3.setCellsOther (k := n + 1 + 1 + 1 + 1) (by omega) (SX.cs) 0
  replace b4 := b4.setCells (SX.cs) 0
  rw [over_x zero10 SX] at b4
  replace ca := ca.setCellsOther (k := n + 1 + 1 + 1 + 1) (by omega) (SX.cs) 0
  replace cb := cb.setCellsOther (k := n + 1 + 1 + 1 + 1) (by omega) (SX.cs) 0
  replace cda := cda.setCellsOther (k := n + 1 + 1 + 1 + 1) (by omega) (SX.cs) 0
  replace ccb := ccb.setCellsOther (k := n + 1 + 1 + 1 + 1) (by omega) (SX.cs) 0
  replace be := below_setCells (g := n + 1 + 1 + 1 + 1) (by omega) (SX.cs) 0 be
  generalize wy.setCells (n + 1 + 1 + 1 + 1) 0 (SX.cs) = w4 at b0 b1 b2 b3 b4 ca cb cda ccb be ⊢
  clear w3
  go_upto_region 4 with fail
  refine reg_putM (by kernel_rfl) 7 rfl rfl (by kernel_rfl) rfl rfl 71 (.tmp 50) (.tmp 49) rfl ?_
  simp only [List.take_succ_cons, List.take_zero]
  refine wpLex_cons2 _ (uni_row rfl 71 (.tmp 10) rfl (gcda) DA.cs 71 rfl (fun W hW => cda.on hW) Tryd.underlying71 rfl (cs_info _)) (by simp only [Act.put, List.setIfInBounds_toArray, List.set_cons_zero, List.set_cons_succ]; rfl) ?_; refine wpLex_cons2 _ (uni_row rfl 71 (.tmp 11) rfl (gccb) CB.cs 71 rfl (fun W hW => ccb.on hW) Tryd.underlying71 rfl (cs_info _)) (by simp only [Act.put, List.setIfInBounds_toArray, List.set_cons_zero, List.set_cons_succ]; rfl) ?_; refine wpLex_cons2 _ (uni_callF (by rfl) 53 [Operand.tmp 44, Operand.tmp 45] #[71, 71] rfl [DA.v, CB.v] (F2.v) rfl enter53 (fun W hW => hF2 W)) (by simp only [Act.put, List.setIfInBounds_toArray, List.set_cons_zero, List.set_cons_succ]; rfl) ?_; refine wpLex_cons2 _ (uni_callF (by rfl) 54 [Operand.tmp 46] #[71] rfl [(F2.v)] (F3.v) rfl enter54 (fun W hW => hF3 W)) (by simp only [Act.put, List.setIfInBounds_toArray, List.set_cons_zero, List.set_cons_succ]; rfl) ?_; refine wpLex_cons2 _ (uni_row rfl 71 (.tmp 5) rfl (n + 1 + 1) u.cs 71 rfl (fun W hW => b2.on hW) Tryd.underlying71 rfl (cs_info _)) (by simp only [Act.put, List.setIfInBounds_toArray, List.set_cons_zero, List.set_cons_succ]; rfl) ?_; refine wpLex_cons2 _ (uni_callF (by rfl) 38 [Operand.tmp 47, Operand.tmp 48] #[71, 71] rfl [(F3.v), u.v] (SZ.v) rfl enter38 (fun W hW => hSZ W)) (by simp only [Act.put, List.setIfInBounds_toArray, List.set_cons_zero, List.set_cons_succ]; rfl) ?_; refine wpLex_cons2 _ (uni_val (by rfl) (Op.fieldAddr 73 (Operand.tmp 7) 1) rfl (.pointer (some ⟨n + 1 + 1 + 1 + 1, 5, none⟩)) (fun o' ho W _ => by go_simp)) (by simp only [Act.put, List.setIfInBounds_toArray, List.set_cons_zero, List.set_cons_succ]; rfl) ?_; refine ⟨n + 1 + 1 + 1 + 1, 5, SZ.cs, (R2.mk SX zero10.z).cs, 73, rfl, rfl, b4, cs_info _, le_z _ _, cs_one _, fun wy hW => ?_⟩
  replace b0 := b0.on hW
  replace b1 := b1.on hW
  replace b2 := b2.on hW
  replace b3 := b3.on hW
  replace b4 := b4.on hW
  replace ca := ca.on hW
  replace cb := cb.on hW
  replace cda := cda.on hW
  replace ccb := ccb.on hW
  replace be := be.trans (hW.mono (by have := be.size; omega))
  clear hW
  replace b0 := b0.setCellsOther (k := n + 1 + 1 + 1 + 1) (by omega) (SZ.cs) 5
  replace b1 := b1.setCellsOther (k := n + 1 + 1 + 1 + 1) (by omega) (SZ.cs) 5
  replace b2 := b2.setCellsOther (k := n + 1 + 1 + 1 + 1) (by omega) (SZ.cs) 5
  replace b3 := b3.setCellsOther (k := n + 1 + 1 + 1 + 1) (by omega) (SZ.cs) 5
  replace b4 := b4.setCells (SZ.cs) 5
  rw [over_z (R2.mk SX zero10.z) SZ] at b4
  replace ca := ca.setCellsOther (k := n + 1 + 1 + 1 + 1) (by omega) (SZ.cs) 5
  replace cb := cb.setCellsOther (k := n + 1 + 1 + 1 + 1) (by omega) (SZ.cs) 5
  replace cda := cda.setCellsOther (k := n + 1 + 1 + 1 + 1) (by omega) (SZ.cs) 5
  replace ccb := ccb.setCellsOther (k := n + 1 + 1 + 1 + 1) (by omega) (SZ.cs) 5
  replace be := below_setCells (g := n + 1 + 1 + 1 + 1) (by omega) (SZ.cs) 5 be
  generalize wy.setCells (n + 1 + 1 + 1 + 1) 5 (SZ.cs) = w5 at b0 b1 b2 b3 b4 ca cb cda ccb be ⊢
  clear w4
  clear hF1 hF2 hF3 hSX hSZ
  go_upto_region 5 with fail
  have hlow := b4.lt
  refine reg_new2 (by kernel_rfl) 4 rfl rfl rfl rfl rfl (by kernel_rfl) (by kernel_rfl) (by kernel_rfl) (by kernel_rfl) (by kernel_rfl) (by kernel_rfl) (by kernel_rfl) (by kernel_rfl) (by kernel_rfl) 71 z5 zero27 (by kernel_rfl) 12 rfl rfl rfl (.tmp 52) rfl rfl rfl 13 rfl rfl rfl (.tmp 54) rfl rfl rfl (by decide) (by simp) ?_
  simp only [List.take_succ_cons, List.take_zero]
  refine wpLex_cons2 _ (uni_row rfl 71 (.tmp 8) rfl (gca) A.cs 71 rfl (fun W hW => ca.on hW) Tryd.underlying71 rfl (cs_info _)) (by simp only [Act.put, List.setIfInBounds_toArray, List.set_cons_zero, List.set_cons_succ]; rfl) ?_; refine wpLex_cons2 _ (uni_callF (by rfl) 54 [Operand.tmp 51] #[71] rfl [A.v] (AA.v) rfl enter54 (fun W hW => hAA W)) (by simp only [Act.put, List.setIfInBounds_toArray, List.set_cons_zero, List.set_cons_succ]; rfl) ?_; refine wpLex_cons2 _ (uni_row rfl 71 (.tmp 9) rfl (gcb) B.cs 71 rfl (fun W hW => cb.on hW) Tryd.underlying71 rfl (cs_info _)) (by simp only [Act.put, List.setIfInBounds_toArray, List.set_cons_zero, List.set_cons_succ]; rfl) ?_; refine wpLex_cons2 _ (uni_callF (by rfl) 54 [Operand.tmp 53] #[71] rfl [B.v] (BB.v) rfl enter54 (fun W hW => hBB W)) (by simp only [Act.put, List.setIfInBounds_toArray, List.set_cons_zero, List.set_cons_succ]; rfl) ?_; refine ⟨AA.cs, BB.cs, rfl, cs_len _, cs_one _, by simp, rfl, cs_len _, cs_one _, by simp, fun gcaa gcbb w6 lo0 lo1 ne01 hW caa cbb => ?_⟩
  simp only [Act.put, List.setIfInBounds_toArray, List.set_cons_zero, List.set_cons_succ]
  replace b0 := b0.on hW
  replace b1 := b1.on hW
  replace b2 := b2.on hW
  replace b3 := b3.on hW
  replace b4 := b4.on hW
  replace ca := ca.on hW
  replace cb := cb.on hW
  replace cda := cda.on hW
  replace ccb := ccb.on hW
  replace be := be.trans (hW.mono (by have := be.size; omega))
  have lcaa : n + 1 + 1 + 1 + 1 < gcaa := Nat.lt_of_lt_of_le hlow lo0
  have lcbb : n + 1 + 1 + 1 + 1 < gcbb := Nat.lt_of_lt_of_le hlow lo1
  clear hlow hW lo0 lo1 ne01 w5
  go_upto_region 6 with fail
  have hlow := b4.lt
  refine lst_newT 3 rfl rfl rfl rfl 14 rfl 71 rfl z5 zero27 rfl rfl (.tmp 57) rfl ?_
  simp only [List.take_succ_cons, List.take_zero]
  refine wpLex_cons2 _ (uni_row rfl 71 (.tmp 12) rfl (gcaa) AA.cs 71 rfl (fun W hW => caa.on hW) Tryd.underlying71 rfl (cs_info _)) (by simp only [Act.put, List.setIfInBounds_toArray, List.set_cons_zero, List.set_cons_succ]; rfl) ?_; refine wpLex_cons2 _ (uni_row rfl 71 (.tmp 13) rfl (gcbb) BB.cs 71 rfl (fun W hW => cbb.on hW) Tryd.underlying71 rfl (cs_info _)) (by simp only [Act.put, List.setIfInBounds_toArray, List.set_cons_zero, List.set_cons_succ]; rfl) ?_; refine wpLex_cons2 _ (uni_callF (by rfl) 53 [Operand.tmp 55, Operand.tmp 56] #[71, 71] rfl [AA.v, BB.v] (F.v) rfl enter53 (fun W hW => hF W)) (by simp only [Act.put, List.setIfInBounds_toArray, List.set_cons_zero, List.set_cons_succ]; rfl) ?_; refine ⟨F.cs, rfl, by simp, by simp, cs_info _, cs_len _, cs_one _, fun gcf w7 lo0 hW cf => ?_⟩
  simp only [Act.put, List.setIfInBounds_toArray, List.set_cons_zero, List.set_cons_succ]
  replace b0 := b0.on hW
  replace b1 := b1.on hW
  replace b2 := b2.on hW
  replace b3 := b3.on hW
  replace b4 := b4.on hW
  replace ca := ca.on hW
  replace cb := cb.on hW
  replace cda := cda.on hW
  replace ccb := ccb.on hW
  replace caa := caa.on hW
  replace cbb := cbb.on hW
  replace be := be.trans (hW.mono (by have := be.size; omega))
  have lcf : n + 1 + 1 + 1 + 1 < gcf := Nat.lt_of_lt_of_le hlow lo0
  clear hlow hW lo0  w6
  go_upto_region 7 with fail
  refine lst_putM 4 rfl rfl rfl rfl 71 (.tmp 61) (.tmp 60) rfl ?_
  simp only [List.take_succ_cons, List.take_zero]
  refine wpLex_cons2 _ (uni_row rfl 71 (.tmp 12) rfl (gcaa) AA.cs 71 rfl (fun W hW => caa.on hW) Tryd.underlying71 rfl (cs_info _)) (by simp only [Act.put, List.setIfInBounds_toArray, List.set_cons_zero, List.set_cons_succ]; rfl) ?_; refine wpLex_cons2 _ (uni_row rfl 71 (.tmp 13) rfl (gcbb) BB.cs 71 rfl (fun W hW => cbb.on hW) Tryd.underlying71 rfl (cs_info _)) (by simp only [Act.put, List.setIfInBounds_toArray, List.set_cons_zero, List.set_cons_succ]; rfl) ?_; refine wpLex_cons2 _ (uni_callF (by rfl) 38 [Operand.tmp 58, Operand.tmp 59] #[71, 71] rfl [AA.v, BB.v] (DX.v) rfl enter38 (fun W hW => hDX W)) (by simp only [Act.put, List.setIfInBounds_toArray, List.set_cons_zero, List.set_cons_succ]; rfl) ?_; refine wpLex_cons2 _ (uni_val (by rfl) (Op.fieldAddr 73 (Operand.tmp 6) 0) rfl (.pointer (some ⟨n + 1 + 1 + 1, 0, none⟩)) (fun o' ho W _ => by go_simp)) (by simp only [Act.put, List.setIfInBounds_toArray, List.set_cons_zero, List.set_cons_succ]; rfl) ?_; refine ⟨n + 1 + 1 + 1, 0, DX.cs, zero10.cs, 73, rfl, rfl, b3, cs_info _, le_x _ _, cs_one _, fun wy hW => ?_⟩
  replace b0 := b0.on hW
  replace b1 := b1.on hW
  replace b2 := b2.on hW
  replace b3 := b3.on hW
  replace b4 := b4.on hW
  replace ca := ca.on hW
  replace cb := cb.on hW
  replace cda := cda.on hW
  replace ccb := ccb.on hW
  replace caa := caa.on hW
  replace cbb := cbb.on hW
  replace cf := cf.on hW
  replace be := be.trans (hW.mono (by have := be.size; omega))
  clear hW
  replace b0 := b0.setCellsOther (k := n + 1 + 1 + 1) (by omega) (DX.cs) 0
  replace b1 := b1.setCellsOther (k := n + 1 + 1 + 1) (by omega) (DX.cs) 0
  replace b2 := b2.setCellsOther (k := n + 1 + 1 + 1) (by omega) (DX.cs) 0
  replace b3 := b3.setCells (DX.cs) 0
  rw [over_x zero10 DX] at b3
  replace b4 := b4.setCellsOther (k := n + 1 + 1 + 1) (by omega) (DX.cs) 0
  replace ca := ca.setCellsOther (k := n + 1 + 1 + 1) (by omega) (DX.cs) 0
  replace cb := cb.setCellsOther (k := n + 1 + 1 + 1) (by omega) (DX.cs) 0
  replace cda := cda.setCellsOther (k := n + 1 + 1 + 1) (by omega) (DX.cs) 0
  replace ccb := ccb.setCellsOther (k := n + 1 + 1 + 1) (by omega) (DX.cs) 0
  replace caa := caa.setCellsOther (k := n + 1 + 1 + 1) (by omega) (DX.cs) 0
  replace cbb := cbb.setCellsOther (k := n + 1 + 1 + 1) (by omega) (DX.cs) 0
  replace cf := cf.setCellsOther (k := n + 1 + 1 + 1) (by omega) (DX.cs) 0
  replace be := below_setCells (g := n + 1 + 1 + 1) (by omega) (DX.cs) 0 be
  generalize wy.setCells (n + 1 + 1 + 1) 0 (DX.cs) = w8 at b0 b1 b2 b3 b4 ca cb cda ccb caa cbb cf be ⊢
  clear w7
  go_upto_region 8 with fail
  refine reg_putM (by kernel_rfl) 8 rfl rfl (by kernel_rfl) rfl rfl 71 (.tmp 69) (.tmp 68) rfl ?_
  simp only [List.take_succ_cons, List.take_zero]
  refine wpLex_cons2 _ (uni_row rfl 71 (.tmp 14) rfl (gcf) F.cs 71 rfl (fun W hW => cf.on hW) Tryd.underlying71 rfl (cs_info _)) (by simp only [Act.put, List.setIfInBounds_toArray, List.set_cons_zero, List.set_cons_succ]; rfl) ?_; refine wpLex_cons2 _ (uni_callF (by rfl) 34 [Operand.const (Value.int IntKind.u32 121665)] #[26] rfl [Value.int IntKind.u32 121665] (C1.v) rfl enter34 (fun W hW => hC1 W)) (by simp only [Act.put, List.setIfInBounds_toArray, List.set_cons_zero, List.set_cons_succ]; rfl) ?_; refine wpLex_cons2 _ (uni_row rfl 71 (.tmp 14) rfl (gcf) F.cs 71 rfl (fun W hW => cf.on hW) Tryd.underlying71 rfl (cs_info _)) (by simp only [Act.put, List.setIfInBounds_toArray, List.set_cons_zero, List.set_cons_succ]; rfl) ?_; refine wpLex_cons2 _ (uni_callF (by rfl) 38 [Operand.tmp 63, Operand.tmp 64] #[71, 71] rfl [(C1.v), F.v] (C2.v) rfl enter38 (fun W hW => hC2 W)) (by simp only [Act.put, List.setIfInBounds_toArray, List.set_cons_zero, List.set_cons_succ]; rfl) ?_; refine wpLex_cons2 _ (uni_row rfl 71 (.tmp 12) rfl (gcaa) AA.cs 71 rfl (fun W hW => caa.on hW) Tryd.underlying71 rfl (cs_info _)) (by simp only [Act.put, List.setIfInBounds_toArray, List.set_cons_zero, List.set_cons_succ]; rfl) ?_; refine wpLex_cons2 _ (uni_callF (by rfl) 52 [Operand.tmp 65, Operand.tmp 66] #[71, 71] rfl [(C2.v), AA.v] (C3.v) rfl enter52 (fun W hW => hC3 W)) (by simp only [Act.put, List.setIfInBounds_toArray, List.set_cons_zero, List.set_cons_succ]; rfl) ?_; refine wpLex_cons2 _ (uni_callF (by rfl) 38 [Operand.tmp 62, Operand.tmp 67] #[71, 71] rfl [F.v, (C3.v)] (DZ.v) rfl enter38 (fun W hW => hDZ W)) (by simp only [Act.put, List.setIfInBounds_toArray, List.set_cons_zero, List.set_cons_succ]; rfl) ?_; refine wpLex_cons2 _ (uni_val (by rfl) (Op.fieldAddr 73 (Operand.tmp 6) 1) rfl (.pointer (some ⟨n + 1 + 1 + 1, 5, none⟩)) (fun o' ho W _ => by go_simp)) (by simp only [Act.put, List.setIfInBounds_toArray, List.set_cons_zero, List.set_cons_succ]; rfl) ?_; refine ⟨n + 1 + 1 + 1, 5, DZ.cs, (R2.mk DX zero10.z).cs, 73, rfl, rfl, b3, cs_info _, le_z _ _, cs_one _, fun wy hW => ?_⟩
  replace b0 := b0.on hW
  replace b1 := b1.on hW
  replace b2 := b2.on hW
  replace b3 := b3.on hW
  replace b4 := b4.on hW
  replace ca := ca.on hW
  replace cb := cb.on hW
  replace cda := cda.on hW
  replace ccb := ccb.on hW
  replace caa := caa.on hW
  replace cbb := cbb.on hW
  replace cf := cf.on hW
  replace be := be.trans (hW.mono (by have := be.size; omega))
  clear hW
  replace b0 := b0.setCellsOther (k := n + 1 + 1 + 1) (by omega) (DZ.cs) 5
  replace b1 := b1.setCellsOther (k := n + 1 + 1 + 1) (by omega) (DZ.cs) 5
  replace b2 := b2.setCellsOther (k := n + 1 + 1 + 1) (by omega) (DZ.cs) 5
  replace b3 := b3.setCells (DZ.cs) 5
  rw [over_z (R2.mk DX zero10.z) DZ] at b3
  replace b4 := b4.setCellsOther (k := n + 1 + 1 + 1) (by omega) (DZ.cs) 5
  replace ca := ca.setCellsOther (k := n + 1 + 1 + 1) (by omega) (DZ.cs) 5
  replace cb := cb.setCellsOther (k := n + 1 + 1 + 1) (by omega) (DZ.cs) 5
  replace cda := cda.setCellsOther (k := n + 1 + 1 + 1) (by omega) (DZ.cs) 5
  replace ccb := ccb.setCellsOther (k := n + 1 + 1 + 1) (by omega) (DZ.cs) 5
  replace caa := caa.setCellsOther (k := n + 1 + 1 + 1) (by omega) (DZ.cs) 5
  replace cbb := cbb.setCellsOther (k := n + 1 + 1 + 1) (by omega) (DZ.cs) 5
  replace cf := cf.setCellsOther (k := n + 1 + 1 + 1) (by omega) (DZ.cs) 5
  replace be := below_setCells (g := n + 1 + 1 + 1) (by omega) (DZ.cs) 5 be
  generalize wy.setCells (n + 1 + 1 + 1) 5 (DZ.cs) = w9 at b0 b1 b2 b3 b4 ca cb cda ccb caa cbb cf be ⊢
  clear w8
  go_upto_region 9 with fail
  have rx : ∀ W, (Blk W (n + 1 + 1 + 1) (R2.mk DX DZ).cs 73 ∧ Blk W (n + 1 + 1 + 1 + 1) (R2.mk SX SZ).cs 73) → W.rangeAt (n + 1 + 1 + 1) 0 (R2.mk DX DZ).cs := fun W hW j v hv => by
    rw [hW.1.cell, Nat.zero_add]; exact hv
  have ry : ∀ W, (Blk W (n + 1 + 1 + 1) (R2.mk DX DZ).cs 73 ∧ Blk W (n + 1 + 1 + 1 + 1) (R2.mk SX SZ).cs 73) → W.rangeAt (n + 1 + 1 + 1 + 1) 0 (R2.mk SX SZ).cs := fun W hW j v hv => by
    rw [hW.2.cell, Nat.zero_add]; exact hv
  have H0 : Blk { w9 with drawn := w9.drawn + 1 } (n + 1 + 1 + 1) (R2.mk DX DZ).cs 73 ∧ Blk { w9 with drawn := w9.drawn + 1 } (n + 1 + 1 + 1 + 1) (R2.mk SX SZ).cs 73 := ⟨b3, b4⟩
  have ce : Below n w { w9 with drawn := w9.drawn + 1 } := be.drew
  refine wp_region_noPanic ?_; refine wp_region_held (S := fun W => Blk W (n + 1 + 1 + 1) (R2.mk DX DZ).cs 73 ∧ Blk W (n + 1 + 1 + 1 + 1) (R2.mk SX SZ).cs 73) (by kernel_rfl) ?_; refine takeH_load (i := 0) rfl 70 rfl 73 (.tmp 6) rfl (by kernel_rfl) (by kernel_rfl) (by kernel_rfl) (fun _ _ _ h => h) (by rfl) (n + 1 + 1 + 1) 0 rfl (R2.mk DX DZ).cs rfl rx Tryd.underlying73 rfl (rs_info _) H0 ?_
  simp only [Act.put, List.setIfInBounds_toArray, List.set_cons_zero, List.set_cons_succ]
  refine takeH_load (i := 1) rfl 71 rfl 73 (.tmp 7) rfl (by kernel_rfl) (by kernel_rfl) (by kernel_rfl) (fun _ _ _ h => h) (by rfl) (n + 1 + 1 + 1 + 1) 0 rfl (R2.mk SX SZ).cs rfl ry Tryd.underlying73 rfl (rs_info _) H0 ?_
  simp only [Act.put, List.setIfInBounds_toArray, List.set_cons_zero, List.set_cons_succ]
  generalize ({ w9 with drawn := w9.drawn + 1 } : World) = wd at H0 ce ⊢
  obtain ⟨X, hX⟩ : ∃ X, X = (R2.mk DX DZ) := ⟨_, rfl⟩
  obtain ⟨Y, hY⟩ : ∃ Y, Y = (R2.mk SX SZ) := ⟨_, rfl⟩
  rw [← hX, ← hY] at H0 ⊢
  refine onlyH (i := 2) (by kernel_rfl) ?_; refine op_row rfl (by rfl) rfl 73 (.tmp 6) (.tmp 70) rfl (n + 1 + 1 + 1) X.cs X.cs 73 rfl rfl H0.1 (rs_info _) rfl (rs_one _) ?_
  have H1 : Blk (wd.setRow (n + 1 + 1 + 1) X.cs.toArray) (n + 1 + 1 + 1) X.cs 73 ∧ Blk (wd.setRow (n + 1 + 1 + 1) X.cs.toArray) (n + 1 + 1 + 1 + 1) Y.cs 73 := ⟨H0.1.setRow _, H0.2.setRowOther _ _ (by omega)⟩
  refine ⟨H1, ?_⟩; refine onlyH (i := 3) (by kernel_rfl) ?_; refine op_row rfl (by rfl) rfl 73 (.tmp 7) (.tmp 71) rfl (n + 1 + 1 + 1 + 1) Y.cs Y.cs 73 rfl rfl H1.2 (rs_info _) rfl (rs_one _) ?_
  have H2 : Blk ((wd.setRow (n + 1 + 1 + 1) X.cs.toArray).setRow (n + 1 + 1 + 1 + 1) Y.cs.toArray) (n + 1 + 1 + 1) X.cs 73 ∧ Blk ((wd.setRow (n + 1 + 1 + 1) X.cs.toArray).setRow (n + 1 + 1 + 1 + 1) Y.cs.toArray) (n + 1 + 1 + 1 + 1) Y.cs 73 := ⟨H1.1.setRowOther _ _ (by omega), H1.2.setRow _⟩
  refine ⟨H2, ?_⟩
  have de := below_setRow (below_setRow ce (n + 1 + 1 + 1) X.cs.toArray (by omega)) (n + 1 + 1 + 1 + 1) Y.cs.toArray (by omega)
  generalize (wd.setRow (n + 1 + 1 + 1) X.cs.toArray).setRow (n + 1 + 1 + 1 + 1) Y.cs.toArray = we at H2 de ⊢
  refine wpAnyH_done (by kernel_rfl) ?_ _; refine NoPanic.normal ?_
  go_wp2
  refine bodyPost_ret (results_cells Tryd.results36 _ _ (n + 1 + 1 + 1) (n + 1 + 1 + 1 + 1) 73 X.cs.toArray Y.cs.toArray _ rfl rfl H2.1 H2.2 Tryd.underlying73 rfl (rs_infoA _) (rs_infoA _)) rfl ?_
  exact ⟨by rw [hX, hY]; rfl, by first | (rw [hn]; exact de) | exact de⟩
theorem step_any (r s : R2) (u : L5) (w : World) : Calls Tryd.prog 36 #[r.v, s.v, u.v] w fun e w' => e = .returned (.tuple #[(dblE r).v, (sumE r s u).v]) ∧ Below w.heap.size w w' :=
  step_walk r s u _ _ _ _ _ _ _ _ _ _ _ _ _ _ _ _ _ _ _ (fun W => add_any _ _ W) (fun W => sub_any _ _ W) (fun W => sub_any _ _ W) (fun W => mul_any _ _ W) (fun W => add_any _ _ W) (fun W => mul_any _ _ W) (fun W => add_any _ _ W) (fun W => square_any _ W) (fun W => sub_any _ _ W) (fun W => square_any _ W) (fun W => mul_any _ _ W) (fun W => square_any _ W) (fun W => square_any _ W) (fun W => sub_any _ _ W) (fun W => mul_any _ _ W) (fun W => small_any 121665#32 W) (fun W => mul_any _ _ W) (fun W => add_any _ _ W) (fun W => mul_any _ _ W) w
end Go.Proofs.YtoceepmehmacbaaDoor.Cv
