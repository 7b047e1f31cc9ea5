import Derived.Test.YtnakeieeopbeiaaLaw
set_option linter.unusedVariables false
set_option linter.unusedSimpArgs false
namespace Go.Proofs.Ytnakeieeopbeiaa
open Go.RowKit Prm

set_option maxRecDepth 100000 in
set_option maxHeartbeats 40000000 in
theorem inverts_any (x y : List UInt8) (hx : x.length = 32) (hy : y.length = 32) (w : World) :
    Calls Try.prog 6 #[.agg (x.map byt).toArray, .agg (y.map byt).toArray] w fun e w' => e = .returned (.bool true) ∧ Below w.heap.size w w' := by
  have hA := fun W => read_any x hx W
  have hB := fun W => read_any y hy W
  have oa := read_ok x
  have ob := read_ok y
  generalize readE x = A at hA oa
  generalize readE y = B at hB ob
  obtain ⟨K0, l0, n0, p0⟩ := prime0 w
  obtain ⟨K1, l1, n1, p1⟩ := prime1 w
  have l2 := z32_length
  obtain ⟨Z, hZ⟩ : ∃ Z, z32 = Z := ⟨_, rfl⟩
  have nZ := kn_z32
  have bz := build23
  rw [hZ] at l2 nZ bz
  clear hZ
  have e4 : ∀ W, Calls Try.prog 12 #[A.v, zeroE.v] W fun e w' => e = .returned (.bool (eqE A zeroE)) ∧ Below W.heap.size W w' := fun W => equalE A zeroE W
  obtain ⟨q, hq⟩ : ∃ q, eqE A zeroE = q := ⟨_, rfl⟩
  rw [hq] at e4
  have HQ := hide hq
  have N0 := hide n0
  have N1 := hide n1
  have NZ := hide nZ
  clear hq n0 n1 nZ
  go_enter Try.func6, Try.ntmps6
  go_upto_region 1 with (first | (refine wpList_boxAt rfl 23 (.tmp 0) rfl (x.map byt) rfl (w.heap.size) rfl ?_) | (refine wpList_boxAt rfl 23 (.tmp 1) rfl (y.map byt) rfl (w.heap.size + 1) (by simp) ?_))
  have b0 : Blk ((w.alloc (.cells (x.map byt).toArray 23)).alloc (.cells (y.map byt).toArray 23)) (w.heap.size) (x.map byt) 23 := by
    have := (Blk.new w (x.map byt) 23).alloc (.cells (y.map byt).toArray 23)
    simpa using this
  have b1 : Blk ((w.alloc (.cells (x.map byt).toArray 23)).alloc (.cells (y.map byt).toArray 23)) (w.heap.size + 1) (y.map byt) 23 := by
    have := Blk.new (w.alloc (.cells (x.map byt).toArray 23)) (y.map byt) 23
    simpa using this
  have be : Below w.heap.size w ((w.alloc (.cells (x.map byt).toArray 23)).alloc (.cells (y.map byt).toArray 23)) := by go_grown
  generalize ((w.alloc (.cells (x.map byt).toArray 23)).alloc (.cells (y.map byt).toArray 23)) = w1 at b0 b1 be ⊢
  obtain ⟨n, hn⟩ : ∃ n, w.heap.size = n := ⟨_, rfl⟩
  rw [hn] at b0 b1 be ⊢
  try simp only [Act.put, List.setIfInBounds_toArray, List.set_cons_zero, List.set_cons_succ]
  refine reg_new2 (by kernel_rfl) 4 rfl rfl rfl rfl rfl (by kernel_rfl) (by kernel_rfl) (by kernel_rfl) (by kernel_rfl) (by kernel_rfl) (by kernel_rfl) (by kernel_rfl) (by kernel_rfl) (by kernel_rfl) 27 z5 zero27 (by kernel_rfl) 5 rfl rfl rfl (.tmp 11) rfl rfl rfl 6 rfl rfl rfl (.tmp 13) rfl rfl rfl (by decide) (by simp) ?_
  simp only [List.take_succ_cons, List.take_zero]
  refine wpLex_cons2 _ (uni_row rfl 23 (.tmp 2) rfl (n) (x.map byt) 23 rfl (fun W hW => b0.on hW) Try.underlying23 rfl (key_info hx)) (by simp only [Act.put, List.setIfInBounds_toArray, List.set_cons_zero, List.set_cons_succ]; rfl) ?_
  refine wpLex_cons2 _ (uni_callF (by rfl) 9 [Operand.tmp 10] #[23] rfl [.agg ((x.map byt)).toArray] (A.v) rfl enter9 (fun W hW => hA W)) (by simp only [Act.put, List.setIfInBounds_toArray, List.set_cons_zero, List.set_cons_succ]; rfl) ?_
  refine wpLex_cons2 _ (uni_row rfl 23 (.tmp 3) rfl (n + 1) (y.map byt) 23 rfl (fun W hW => b1.on hW) Try.underlying23 rfl (key_info hy)) (by simp only [Act.put, List.setIfInBounds_toArray, List.set_cons_zero, List.set_cons_succ]; rfl) ?_
  refine wpLex_cons2 _ (uni_callF (by rfl) 9 [Operand.tmp 12] #[23] rfl [.agg ((y.map byt)).toArray] (B.v) rfl enter9 (fun W hW => hB W)) (by simp only [Act.put, List.setIfInBounds_toArray, List.set_cons_zero, List.set_cons_succ]; rfl) ?_
  refine ⟨A.cs, B.cs, rfl, cs_len _, cs_one _, by simp, rfl, cs_len _, cs_one _, by simp, fun gca gcb w2 lo0 lo1 ne01 hW ca cb => ?_⟩
  simp only [Act.put, List.setIfInBounds_toArray, List.set_cons_zero, List.set_cons_succ]
  replace b0 := b0.on hW
  replace b1 := b1.on hW
  replace be := be.trans (hW.mono (by have := be.size; omega))
  clear hW lo0 lo1 ne01 w1
  clear b0 b1 hA hB hx hy
  go_upto_region 2 with fail
  refine lst_new2 2 rfl rfl rfl rfl rfl 27 z5 zero27 (by kernel_rfl) 7 rfl rfl rfl (.tmp 14) rfl rfl rfl 8 rfl rfl rfl (.tmp 15) rfl rfl rfl (by decide) (by simp) ?_
  simp only [List.take_succ_cons, List.take_zero]
  refine wpLex_cons2 _ (uni_val (by rfl) (Op.build 27 #[]) rfl zeroE.v (fun o' ho W _ => by have hbb := build27 W; go_simp <;> rfl)) (by simp only [Act.put, List.setIfInBounds_toArray, List.set_cons_zero, List.set_cons_succ]; rfl) ?_
  refine wpLex_cons2 _ (uni_callF (by rfl) 14 [Operand.const (Value.int IntKind.u32 1)] #[34] rfl [Value.int IntKind.u32 1] ((small 1#32).v) rfl enter14 (fun W hW => small_any 1#32 W)) (by simp only [Act.put, List.setIfInBounds_toArray, List.set_cons_zero, List.set_cons_succ]; rfl) ?_
  refine ⟨zeroE.cs, (small 1#32).cs, rfl, cs_len _, cs_one _, by simp, rfl, cs_len _, cs_one _, by simp, fun gcz gco w3 lo0 lo1 ne01 hW cz co => ?_⟩
  simp only [Act.put, List.setIfInBounds_toArray, List.set_cons_zero, List.set_cons_succ]
  replace ca := ca.on hW
  replace cb := cb.on hW
  replace be := be.trans (hW.mono (by have := be.size; omega))
  clear hW lo0 lo1 ne01 w2
  go_upto_region 3 with fail
  refine lst_newT 2 rfl rfl rfl rfl 9 rfl 27 rfl z5 zero27 rfl rfl (.tmp 17) rfl ?_
  simp only [List.take_succ_cons, List.take_zero]
  refine wpLex_cons2 _ (uni_row rfl 27 (.tmp 5) rfl (gca) A.cs 27 rfl (fun W hW => ca.on hW) Try.underlying27 rfl (cs_info _)) (by simp only [Act.put, List.setIfInBounds_toArray, List.set_cons_zero, List.set_cons_succ]; rfl) ?_
  refine wpLex_cons2 _ (uni_callF (by rfl) 21 [Operand.tmp 16] #[27] rfl [A.v] ((invE A).v) rfl enter21 (fun W hW => inv_any A W)) (by simp only [Act.put, List.setIfInBounds_toArray, List.set_cons_zero, List.set_cons_succ]; rfl) ?_
  refine ⟨(invE A).cs, rfl, by simp, by simp, cs_info _, cs_len _, cs_one _, fun gci w4 hg hW ci => ?_⟩
  simp only [Act.put, List.setIfInBounds_toArray, List.set_cons_zero, List.set_cons_succ]
  replace ca := ca.on hW
  replace cb := cb.on hW
  replace cz := cz.on hW
  replace co := co.on hW
  replace be := be.trans (hW.mono (by have := be.size; omega))
  clear hW hg w3
  go_upto_region 4 with fail
  refine lst_all ?_
  refine wpLex_cons2 _ (uni_row rfl 27 (.tmp 5) rfl (gca) A.cs 27 rfl (fun W hW => ca.on hW) Try.underlying27 rfl (cs_info _)) (by simp only [Act.put, List.setIfInBounds_toArray, List.set_cons_zero, List.set_cons_succ]; rfl) ?_
  refine wpLex_cons2 _ (uni_row rfl 27 (.tmp 7) rfl (gcz) zeroE.cs 27 rfl (fun W hW => cz.on hW) Try.underlying27 rfl (cs_info _)) (by simp only [Act.put, List.setIfInBounds_toArray, List.set_cons_zero, List.set_cons_succ]; rfl) ?_
  refine wpLex_cons2 _ (uni_callF (by rfl) 12 [Operand.tmp 18, Operand.tmp 19] #[27, 27] rfl [A.v, zeroE.v] (.bool q) rfl enter12 (fun W hW => e4 W)) (by simp only [Act.put, List.setIfInBounds_toArray, List.set_cons_zero, List.set_cons_succ]; rfl) ?_
  intro w5 hW
  replace ca := ca.on hW
  replace cb := cb.on hW
  replace cz := cz.on hW
  replace co := co.on hW
  replace ci := ci.on hW
  replace be := be.trans (hW.mono (by have := be.size; omega))
  clear hW w4
  cases q with
  | true =>
    go_upto_region 5 with fail
    refine reg_all (by kernel_rfl) (by kernel_rfl) ?_
    refine wpLex_cons2 _ (uni_row rfl 27 (.tmp 9) rfl (gci) (invE A).cs 27 rfl (fun W hW => ci.on hW) Try.underlying27 rfl (cs_info _)) (by simp only [Act.put, List.setIfInBounds_toArray, List.set_cons_zero, List.set_cons_succ]; rfl) ?_
    refine wpLex_cons2 _ (uni_row rfl 27 (.tmp 7) rfl (gcz) zeroE.cs 27 rfl (fun W hW => cz.on hW) Try.underlying27 rfl (cs_info _)) (by simp only [Act.put, List.setIfInBounds_toArray, List.set_cons_zero, List.set_cons_succ]; rfl) ?_
    refine wpLex_cons2 _ (uni_callF (by rfl) 12 [Operand.tmp 21, Operand.tmp 22] #[27, 27] rfl [(invE A).v, zeroE.v] (.bool true) rfl enter12 (fun W hW => equalT (inv_zero oa HQ.out) W)) (by simp only [Act.put, List.setIfInBounds_toArray, List.set_cons_zero, List.set_cons_succ]; rfl) ?_
    refine wpLex_cons2 _ (uni_val (by rfl) (Op.move (Operand.tmp 23)) rfl ((.bool true)) (fun o' ho W _ => by go_simp)) (by simp only [Act.put, List.setIfInBounds_toArray, List.set_cons_zero, List.set_cons_succ]; rfl) ?_
    refine wpLex_cons2 _ (uni_rowG (by rfl) 27 (.tmp 5) rfl (gca) A.cs 27 rfl (fun W hW => ca.on hW) Try.underlying27 rfl (cs_info _)) (by simp only [Act.put, List.setIfInBounds_toArray, List.set_cons_zero, List.set_cons_succ]; rfl) ?_
    refine wpLex_cons2 _ (uni_callF (by rfl) 13 [Operand.const (Value.int IntKind.u8 1)] #[5] rfl [Value.int IntKind.u8 1] (.agg (K1.map byt).toArray) rfl enter13 (fun W hW => p1 W)) (by simp only [Act.put, List.setIfInBounds_toArray, List.set_cons_zero, List.set_cons_succ]; rfl) ?_
    refine wpLex_cons2 _ (uni_callF (by rfl) 17 [Operand.tmp 25, Operand.tmp 26] #[27, 23] rfl [A.v, (.agg (K1.map byt).toArray)] ((powL A K1 256).v) rfl enter17 (fun W hW => pow_any A K1 l1 W)) (by simp only [Act.put, List.setIfInBounds_toArray, List.set_cons_zero, List.set_cons_succ]; rfl) ?_
    refine wpLex_cons2 _ (uni_rowG (by rfl) 27 (.tmp 7) rfl (gcz) zeroE.cs 27 rfl (fun W hW => cz.on hW) Try.underlying27 rfl (cs_info _)) (by simp only [Act.put, List.setIfInBounds_toArray, List.set_cons_zero, List.set_cons_succ]; rfl) ?_
    refine wpLex_cons2 _ (uni_callF (by rfl) 12 [Operand.tmp 27, Operand.tmp 28] #[27, 27] rfl [((powL A K1 256).v), zeroE.v] (.bool true) rfl enter12 (fun W hW => equalT (pow_p1_zero oa HQ.out N1.out) W)) (by simp only [Act.put, List.setIfInBounds_toArray, List.set_cons_zero, List.set_cons_succ]; rfl) ?_
    refine wpLex_cons2 _ (uni_val (by rfl) (Op.pick (Operand.tmp 24) (Operand.tmp 29) (Operand.const (Value.bool false))) rfl (.bool true) (fun o' ho W _ => by go_simp)) (by simp only [Act.put, List.setIfInBounds_toArray, List.set_cons_zero, List.set_cons_succ]; rfl) ?_
    refine wpLex_cons2 _ (uni_val (by rfl) (Op.move (Operand.tmp 30)) rfl (.bool true) (fun o' ho W _ => by go_simp)) (by simp only [Act.put, List.setIfInBounds_toArray, List.set_cons_zero, List.set_cons_succ]; rfl) ?_
    refine wpLex_cons2 _ (uni_rowG (by rfl) 27 (.tmp 5) rfl (gca) A.cs 27 rfl (fun W hW => ca.on hW) Try.underlying27 rfl (cs_info _)) (by simp only [Act.put, List.setIfInBounds_toArray, List.set_cons_zero, List.set_cons_succ]; rfl) ?_
    refine wpLex_cons2 _ (uni_build0 (by rfl) 23 rfl (.agg (Z.map byt).toArray) bz) (by simp only [Act.put, List.setIfInBounds_toArray, List.set_cons_zero, List.set_cons_succ]; rfl) ?_
    refine wpLex_cons2 _ (uni_callF (by rfl) 17 [Operand.tmp 32, Operand.tmp 33] #[27, 23] rfl [A.v, .agg (Z.map byt).toArray] ((powL A Z 256).v) rfl enter17 (fun W hW => pow_any A Z l2 W)) (by simp only [Act.put, List.setIfInBounds_toArray, List.set_cons_zero, List.set_cons_succ]; rfl) ?_
    refine wpLex_cons2 _ (uni_rowG (by rfl) 27 (.tmp 8) rfl (gco) (small 1#32).cs 27 rfl (fun W hW => co.on hW) Try.underlying27 rfl (cs_info _)) (by simp only [Act.put, List.setIfInBounds_toArray, List.set_cons_zero, List.set_cons_succ]; rfl) ?_
    refine wpLex_cons2 _ (uni_callF (by rfl) 12 [Operand.tmp 34, Operand.tmp 35] #[27, 27] rfl [((powL A Z 256).v), (small 1#32).v] (.bool true) rfl enter12 (fun W hW => equalT (pow_zero_is oa NZ.out) W)) (by simp only [Act.put, List.setIfInBounds_toArray, List.set_cons_zero, List.set_cons_succ]; rfl) ?_
    refine wpLex_cons2 _ (uni_val (by rfl) (Op.pick (Operand.tmp 31) (Operand.tmp 36) (Operand.const (Value.bool false))) rfl (.bool true) (fun o' ho W _ => by go_simp)) (by simp only [Act.put, List.setIfInBounds_toArray, List.set_cons_zero, List.set_cons_succ]; rfl) ?_
    refine wpLex_cons2 _ (uni_val (by rfl) (Op.assign (Operand.tmp 37)) rfl (.bool true) (fun o' ho W _ => by go_simp)) (by simp only [Act.put, List.setIfInBounds_toArray, List.set_cons_zero, List.set_cons_succ]; rfl) ?_
    intro w6 hW
    replace ca := ca.on hW
    replace cb := cb.on hW
    replace cz := cz.on hW
    replace co := co.on hW
    replace ci := ci.on hW
    replace be := be.trans (hW.mono (by have := be.size; omega))
    clear hW w5
    go_wp2
    go_ret
    exact ⟨rfl, by rw [hn]; exact be⟩
  | false =>
    go_upto_region 6 with fail
    refine reg_all (by kernel_rfl) (by kernel_rfl) ?_
    refine wpLex_cons2 _ (uni_row rfl 27 (.tmp 5) rfl (gca) A.cs 27 rfl (fun W hW => ca.on hW) Try.underlying27 rfl (cs_info _)) (by simp only [Act.put, List.setIfInBounds_toArray, List.set_cons_zero, List.set_cons_succ]; rfl) ?_
    refine wpLex_cons2 _ (uni_row rfl 27 (.tmp 9) rfl (gci) (invE A).cs 27 rfl (fun W hW => ci.on hW) Try.underlying27 rfl (cs_info _)) (by simp only [Act.put, List.setIfInBounds_toArray, List.set_cons_zero, List.set_cons_succ]; rfl) ?_
    refine wpLex_cons2 _ (uni_callF (by rfl) 16 [Operand.tmp 38, Operand.tmp 39] #[27, 27] rfl [A.v, (invE A).v] ((mulE A (invE A)).v) rfl enter16 (fun W hW => mul_any A (invE A) W)) (by simp only [Act.put, List.setIfInBounds_toArray, List.set_cons_zero, List.set_cons_succ]; rfl) ?_
    refine wpLex_cons2 _ (uni_row rfl 27 (.tmp 8) rfl (gco) (small 1#32).cs 27 rfl (fun W hW => co.on hW) Try.underlying27 rfl (cs_info _)) (by simp only [Act.put, List.setIfInBounds_toArray, List.set_cons_zero, List.set_cons_succ]; rfl) ?_
    refine wpLex_cons2 _ (uni_callF (by rfl) 12 [Operand.tmp 40, Operand.tmp 41] #[27, 27] rfl [((mulE A (invE A)).v), (small 1#32).v] (.bool true) rfl enter12 (fun W hW => equalT (inv_mul oa HQ.out) W)) (by simp only [Act.put, List.setIfInBounds_toArray, List.set_cons_zero, List.set_cons_succ]; rfl) ?_
    refine wpLex_cons2 _ (uni_val (by rfl) (Op.move (Operand.tmp 42)) rfl ((.bool true)) (fun o' ho W _ => by go_simp)) (by simp only [Act.put, List.setIfInBounds_toArray, List.set_cons_zero, List.set_cons_succ]; rfl) ?_
    refine wpLex_cons2 _ (uni_rowG (by rfl) 27 (.tmp 9) rfl (gci) (invE A).cs 27 rfl (fun W hW => ci.on hW) Try.underlying27 rfl (cs_info _)) (by simp only [Act.put, List.setIfInBounds_toArray, List.set_cons_zero, List.set_cons_succ]; rfl) ?_
    refine wpLex_cons2 _ (uni_callF (by rfl) 21 [Operand.tmp 44] #[27] rfl [(invE A).v] ((invE (invE A)).v) rfl enter21 (fun W hW => inv_any (invE A) W)) (by simp only [Act.put, List.setIfInBounds_toArray, List.set_cons_zero, List.set_cons_succ]; rfl) ?_
    refine wpLex_cons2 _ (uni_rowG (by rfl) 27 (.tmp 5) rfl (gca) A.cs 27 rfl (fun W hW => ca.on hW) Try.underlying27 rfl (cs_info _)) (by simp only [Act.put, List.setIfInBounds_toArray, List.set_cons_zero, List.set_cons_succ]; rfl) ?_
    refine wpLex_cons2 _ (uni_callF (by rfl) 12 [Operand.tmp 45, Operand.tmp 46] #[27, 27] rfl [((invE (invE A)).v), A.v] (.bool true) rfl enter12 (fun W hW => equalT (inv_inv oa HQ.out) W)) (by simp only [Act.put, List.setIfInBounds_toArray, List.set_cons_zero, List.set_cons_succ]; rfl) ?_
    refine wpLex_cons2 _ (uni_val (by rfl) (Op.pick (Operand.tmp 43) (Operand.tmp 47) (Operand.const (Value.bool false))) rfl (.bool true) (fun o' ho W _ => by go_simp)) (by simp only [Act.put, List.setIfInBounds_toArray, List.set_cons_zero, List.set_cons_succ]; rfl) ?_
    refine wpLex_cons2 _ (uni_val (by rfl) (Op.move (Operand.tmp 48)) rfl (.bool true) (fun o' ho W _ => by go_simp)) (by simp only [Act.put, List.setIfInBounds_toArray, List.set_cons_zero, List.set_cons_succ]; rfl) ?_
    refine wpLex_cons2 _ (uni_rowG (by rfl) 27 (.tmp 5) rfl (gca) A.cs 27 rfl (fun W hW => ca.on hW) Try.underlying27 rfl (cs_info _)) (by simp only [Act.put, List.setIfInBounds_toArray, List.set_cons_zero, List.set_cons_succ]; rfl) ?_
    refine wpLex_cons2 _ (uni_callF (by rfl) 13 [Operand.const (Value.int IntKind.u8 1)] #[5] rfl [Value.int IntKind.u8 1] (.agg (K1.map byt).toArray) rfl enter13 (fun W hW => p1 W)) (by simp only [Act.put, List.setIfInBounds_toArray, List.set_cons_zero, List.set_cons_succ]; rfl) ?_
    refine wpLex_cons2 _ (uni_callF (by rfl) 17 [Operand.tmp 50, Operand.tmp 51] #[27, 23] rfl [A.v, (.agg (K1.map byt).toArray)] ((powL A K1 256).v) rfl enter17 (fun W hW => pow_any A K1 l1 W)) (by simp only [Act.put, List.setIfInBounds_toArray, List.set_cons_zero, List.set_cons_succ]; rfl) ?_
    refine wpLex_cons2 _ (uni_rowG (by rfl) 27 (.tmp 8) rfl (gco) (small 1#32).cs 27 rfl (fun W hW => co.on hW) Try.underlying27 rfl (cs_info _)) (by simp only [Act.put, List.setIfInBounds_toArray, List.set_cons_zero, List.set_cons_succ]; rfl) ?_
    refine wpLex_cons2 _ (uni_callF (by rfl) 12 [Operand.tmp 52, Operand.tmp 53] #[27, 27] rfl [((powL A K1 256).v), (small 1#32).v] (.bool true) rfl enter12 (fun W hW => equalT (pow_p1 oa HQ.out N1.out) W)) (by simp only [Act.put, List.setIfInBounds_toArray, List.set_cons_zero, List.set_cons_succ]; rfl) ?_
    refine wpLex_cons2 _ (uni_val (by rfl) (Op.pick (Operand.tmp 49) (Operand.tmp 54) (Operand.const (Value.bool false))) rfl (.bool true) (fun o' ho W _ => by go_simp)) (by simp only [Act.put, List.setIfInBounds_toArray, List.set_cons_zero, List.set_cons_succ]; rfl) ?_
    refine wpLex_cons2 _ (uni_val (by rfl) (Op.move (Operand.tmp 55)) rfl (.bool true) (fun o' ho W _ => by go_simp)) (by simp only [Act.put, List.setIfInBounds_toArray, List.set_cons_zero, List.set_cons_succ]; rfl) ?_
    refine wpLex_cons2 _ (uni_rowG (by rfl) 27 (.tmp 5) rfl (gca) A.cs 27 rfl (fun W hW => ca.on hW) Try.underlying27 rfl (cs_info _)) (by simp only [Act.put, List.setIfInBounds_toArray, List.set_cons_zero, List.set_cons_succ]; rfl) ?_
    refine wpLex_cons2 _ (uni_callF (by rfl) 13 [Operand.const (Value.int IntKind.u8 0)] #[5] rfl [Value.int IntKind.u8 0] (.agg (K0.map byt).toArray) rfl enter13 (fun W hW => p0 W)) (by simp only [Act.put, List.setIfInBounds_toArray, List.set_cons_zero, List.set_cons_succ]; rfl) ?_
    refine wpLex_cons2 _ (uni_callF (by rfl) 17 [Operand.tmp 57, Operand.tmp 58] #[27, 23] rfl [A.v, (.agg (K0.map byt).toArray)] ((powL A K0 256).v) rfl enter17 (fun W hW => pow_any A K0 l0 W)) (by simp only [Act.put, List.setIfInBounds_toArray, List.set_cons_zero, List.set_cons_succ]; rfl) ?_
    refine wpLex_cons2 _ (uni_rowG (by rfl) 27 (.tmp 5) rfl (gca) A.cs 27 rfl (fun W hW => ca.on hW) Try.underlying27 rfl (cs_info _)) (by simp only [Act.put, List.setIfInBounds_toArray, List.set_cons_zero, List.set_cons_succ]; rfl) ?_
    refine wpLex_cons2 _ (uni_callF (by rfl) 12 [Operand.tmp 59, Operand.tmp 60] #[27, 27] rfl [((powL A K0 256).v), A.v] (.bool true) rfl enter12 (fun W hW => equalT (pow_p oa N0.out) W)) (by simp only [Act.put, List.setIfInBounds_toArray, List.set_cons_zero, List.set_cons_succ]; rfl) ?_
    refine wpLex_cons2 _ (uni_val (by rfl) (Op.pick (Operand.tmp 56) (Operand.tmp 61) (Operand.const (Value.bool false))) rfl (.bool true) (fun o' ho W _ => by go_simp)) (by simp only [Act.put, List.setIfInBounds_toArray, List.set_cons_zero, List.set_cons_succ]; rfl) ?_
    refine wpLex_cons2 _ (uni_val (by rfl) (Op.move (Operand.tmp 62)) rfl (.bool true) (fun o' ho W _ => by go_simp)) (by simp only [Act.put, List.setIfInBounds_toArray, List.set_cons_zero, List.set_cons_succ]; rfl) ?_
    refine wpLex_cons2 _ (uni_rowG (by rfl) 27 (.tmp 5) rfl (gca) A.cs 27 rfl (fun W hW => ca.on hW) Try.underlying27 rfl (cs_info _)) (by simp only [Act.put, List.setIfInBounds_toArray, List.set_cons_zero, List.set_cons_succ]; rfl) ?_
    refine wpLex_cons2 _ (uni_rowG (by rfl) 27 (.tmp 6) rfl (gcb) B.cs 27 rfl (fun W hW => cb.on hW) Try.underlying27 rfl (cs_info _)) (by simp only [Act.put, List.setIfInBounds_toArray, List.set_cons_zero, List.set_cons_succ]; rfl) ?_
    refine wpLex_cons2 _ (uni_callF (by rfl) 16 [Operand.tmp 64, Operand.tmp 65] #[27, 27] rfl [A.v, B.v] ((mulE A B).v) rfl enter16 (fun W hW => mul_any A B W)) (by simp only [Act.put, List.setIfInBounds_toArray, List.set_cons_zero, List.set_cons_succ]; rfl) ?_
    refine wpLex_cons2 _ (uni_callF (by rfl) 21 [Operand.tmp 66] #[27] rfl [((mulE A B).v)] ((invE (mulE A B)).v) rfl enter21 (fun W hW => inv_any (mulE A B) W)) (by simp only [Act.put, List.setIfInBounds_toArray, List.set_cons_zero, List.set_cons_succ]; rfl) ?_
    refine wpLex_cons2 _ (uni_rowG (by rfl) 27 (.tmp 9) rfl (gci) (invE A).cs 27 rfl (fun W hW => ci.on hW) Try.underlying27 rfl (cs_info _)) (by simp only [Act.put, List.setIfInBounds_toArray, List.set_cons_zero, List.set_cons_succ]; rfl) ?_
    refine wpLex_cons2 _ (uni_rowG (by rfl) 27 (.tmp 6) rfl (gcb) B.cs 27 rfl (fun W hW => cb.on hW) Try.underlying27 rfl (cs_info _)) (by simp only [Act.put, List.setIfInBounds_toArray, List.set_cons_zero, List.set_cons_succ]; rfl) ?_
    refine wpLex_cons2 _ (uni_callF (by rfl) 21 [Operand.tmp 69] #[27] rfl [B.v] ((invE B).v) rfl enter21 (fun W hW => inv_any B W)) (by simp only [Act.put, List.setIfInBounds_toArray, List.set_cons_zero, List.set_cons_succ]; rfl) ?_
    refine wpLex_cons2 _ (uni_callF (by rfl) 16 [Operand.tmp 68, Operand.tmp 70] #[27, 27] rfl [(invE A).v, ((invE B).v)] ((mulE (invE A) (invE B)).v) rfl enter16 (fun W hW => mul_any (invE A) (invE B) W)) (by simp only [Act.put, List.setIfInBounds_toArray, List.set_cons_zero, List.set_cons_succ]; rfl) ?_
    refine wpLex_cons2 _ (uni_callF (by rfl) 12 [Operand.tmp 67, Operand.tmp 71] #[27, 27] rfl [((invE (mulE A B)).v), ((mulE (invE A) (invE B)).v)] (.bool true) rfl enter12 (fun W hW => equalT (inv_prod oa ob) W)) (by simp only [Act.put, List.setIfInBounds_toArray, List.set_cons_zero, List.set_cons_succ]; rfl) ?_
    refine wpLex_cons2 _ (uni_val (by rfl) (Op.pick (Operand.tmp 63) (Operand.tmp 72) (Operand.const (Value.bool false))) rfl (.bool true) (fun o' ho W _ => by go_simp)) (by simp only [Act.put, List.setIfInBounds_toArray, List.set_cons_zero, List.set_cons_succ]; rfl) ?_
    refine wpLex_cons2 _ (uni_val (by rfl) (Op.assign (Operand.tmp 73)) rfl (.bool true) (fun o' ho W _ => by go_simp)) (by simp only [Act.put, List.setIfInBounds_toArray, List.set_cons_zero, List.set_cons_succ]; rfl) ?_
    intro w6 hW
    replace ca := ca.on hW
    replace cb := cb.on hW
    replace cz := cz.on hW
    replace co := co.on hW
    replace ci := ci.on hW
    replace be := be.trans (hW.mono (by have := be.size; omega))
    clear hW w5
    go_wp2
    go_ret
    exact ⟨rfl, by rw [hn]; exact be⟩

end Go.Proofs.Ytnakeieeopbeiaa
