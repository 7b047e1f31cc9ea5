import Derived.Test.YtnakeieeopbeiaaLaw
set_option linter.unusedVariables false
set_option linter.unusedSimpArgs false
namespace Go.Proofs.Ytnakeieeopbeiaa
open Go.RowKit Prm

set_option maxRecDepth 100000 in
set_option maxHeartbeats 40000000 in
theorem ring_any (x y z : List UInt8) (hx : x.length = 32) (hy : y.length = 32) (hz : z.length = 32) (w : World) :
    Calls Try.prog 5 #[.agg (x.map byt).toArray, .agg (y.map byt).toArray, .agg (z.map byt).toArray] w fun e w' => e = .returned (.bool true) ∧ Below w.heap.size w w' := by
  have hA := fun W => read_any x hx W
  have hB := fun W => read_any y hy W
  have hC := fun W => read_any z hz W
  have oa := read_ok x
  have ob := read_ok y
  have oc := read_ok z
  generalize readE x = A at hA oa
  generalize readE y = B at hB ob
  generalize readE z = C at hC oc
  have e9 : ∀ W, Calls Try.prog 12 #[A.v, B.v] W fun e w' => e = .returned (.bool (eqE A B)) ∧ Below W.heap.size W w' := fun W => equalE A B W
  have eb : ∀ W, (Op.equalIn 10000 23 (.agg ((tellE A).map byt).toArray) (.agg ((tellE B).map byt).toArray)).run Try.prog W = .ok (eqE A B) W := fun W => eq23 (tellE A) (tellE B) (tell_length A) (tell_length B) W
  have ba := fun W => bytes_any A W
  have bb := fun W => bytes_any B W
  generalize eqE A B = q at e9 eb
  generalize tellE A = LA at ba eb
  generalize tellE B = LB at bb eb
  go_enter Try.func5, Try.ntmps5
  go_upto_region 1 with (first | (refine wpList_boxAt rfl 23 (.tmp 0) rfl (x.map byt) rfl (w.heap.size) rfl ?_) | (refine wpList_boxAt rfl 23 (.tmp 1) rfl (y.map byt) rfl (w.heap.size + 1) (by simp) ?_) | (refine wpList_boxAt rfl 23 (.tmp 2) rfl (z.map byt) rfl (w.heap.size + 1 + 1) (by simp) ?_))
  have b0 : Blk (((w.alloc (.cells (x.map byt).toArray 23)).alloc (.cells (y.map byt).toArray 23)).alloc (.cells (z.map byt).toArray 23)) (w.heap.size) (x.map byt) 23 := by
    have := ((Blk.new w (x.map byt) 23).alloc (.cells (y.map byt).toArray 23)).alloc (.cells (z.map byt).toArray 23)
    simpa using this
  have b1 : Blk (((w.alloc (.cells (x.map byt).toArray 23)).alloc (.cells (y.map byt).toArray 23)).alloc (.cells (z.map byt).toArray 23)) (w.heap.size + 1) (y.map byt) 23 := by
    have := (Blk.new (w.alloc (.cells (x.map byt).toArray 23)) (y.map byt) 23).alloc (.cells (z.map byt).toArray 23)
    simpa using this
  have b2 : Blk (((w.alloc (.cells (x.map byt).toArray 23)).alloc (.cells (y.map byt).toArray 23)).alloc (.cells (z.map byt).toArray 23)) (w.heap.size + 1 + 1) (z.map byt) 23 := by
    have := Blk.new ((w.alloc (.cells (x.map byt).toArray 23)).alloc (.cells (y.map byt).toArray 23)) (z.map byt) 23
    simpa using this
  have be : Below w.heap.size w (((w.alloc (.cells (x.map byt).toArray 23)).alloc (.cells (y.map byt).toArray 23)).alloc (.cells (z.map byt).toArray 23)) := by go_grown
  generalize (((w.alloc (.cells (x.map byt).toArray 23)).alloc (.cells (y.map byt).toArray 23)).alloc (.cells (z.map byt).toArray 23)) = w1 at b0 b1 b2 be ⊢
  obtain ⟨n, hn⟩ : ∃ n, w.heap.size = n := ⟨_, rfl⟩
  rw [hn] at b0 b1 b2 be ⊢
  try simp only [Act.put, List.setIfInBounds_toArray, List.set_cons_zero, List.set_cons_succ]
  refine reg_new3 (by kernel_rfl) 6 rfl rfl rfl rfl rfl rfl rfl (by kernel_rfl) (by kernel_rfl) (by kernel_rfl) (by kernel_rfl) (by kernel_rfl) (by kernel_rfl) (by kernel_rfl) (by kernel_rfl) (by kernel_rfl) (by kernel_rfl) (by kernel_rfl) (by kernel_rfl) (by kernel_rfl) (by kernel_rfl) (by kernel_rfl) (by kernel_rfl) (by kernel_rfl) 27 z5 zero27 (by kernel_rfl) 7 rfl rfl rfl (.tmp 13) rfl rfl rfl 8 rfl rfl rfl (.tmp 15) rfl rfl rfl 9 rfl rfl rfl (.tmp 17) rfl rfl rfl (by decide) (by simp) ?_
  simp only [List.take_succ_cons, List.take_zero]
  refine wpLex_cons2 _ (uni_row rfl 23 (.tmp 3) rfl (n) (x.map byt) 23 rfl (fun W hW => b0.on hW) Try.underlying23 rfl (key_info hx)) (by simp only [Act.put, List.setIfInBounds_toArray, List.set_cons_zero, List.set_cons_succ]; rfl) ?_
  refine wpLex_cons2 _ (uni_callF (by rfl) 9 [Operand.tmp 12] #[23] rfl [.agg ((x.map byt)).toArray] (A.v) rfl enter9 (fun W hW => hA W)) (by simp only [Act.put, List.setIfInBounds_toArray, List.set_cons_zero, List.set_cons_succ]; rfl) ?_
  refine wpLex_cons2 _ (uni_row rfl 23 (.tmp 4) rfl (n + 1) (y.map byt) 23 rfl (fun W hW => b1.on hW) Try.underlying23 rfl (key_info hy)) (by simp only [Act.put, List.setIfInBounds_toArray, List.set_cons_zero, List.set_cons_succ]; rfl) ?_
  refine wpLex_cons2 _ (uni_callF (by rfl) 9 [Operand.tmp 14] #[23] rfl [.agg ((y.map byt)).toArray] (B.v) rfl enter9 (fun W hW => hB W)) (by simp only [Act.put, List.setIfInBounds_toArray, List.set_cons_zero, List.set_cons_succ]; rfl) ?_
  refine wpLex_cons2 _ (uni_row rfl 23 (.tmp 5) rfl (n + 1 + 1) (z.map byt) 23 rfl (fun W hW => b2.on hW) Try.underlying23 rfl (key_info hz)) (by simp only [Act.put, List.setIfInBounds_toArray, List.set_cons_zero, List.set_cons_succ]; rfl) ?_
  refine wpLex_cons2 _ (uni_callF (by rfl) 9 [Operand.tmp 16] #[23] rfl [.agg ((z.map byt)).toArray] (C.v) rfl enter9 (fun W hW => hC W)) (by simp only [Act.put, List.setIfInBounds_toArray, List.set_cons_zero, List.set_cons_succ]; rfl) ?_
  refine ⟨A.cs, B.cs, C.cs, rfl, cs_len _, cs_one _, by simp, rfl, cs_len _, cs_one _, by simp, rfl, cs_len _, cs_one _, by simp, fun gca gcb gcc w2 lo0 lo1 lo2 ne01 ne02 ne12 hW ca cb cc => ?_⟩
  simp only [Act.put, List.setIfInBounds_toArray, List.set_cons_zero, List.set_cons_succ]
  replace b0 := b0.on hW
  replace b1 := b1.on hW
  replace b2 := b2.on hW
  replace be := be.trans (hW.mono (by have := be.size; omega))
  clear hW lo0 lo1 lo2 ne01 ne02 ne12 w1
  clear b0 b1 b2 hA hB hC hx hy hz
  go_upto_region 2 with fail
  refine lst_new2 2 rfl rfl rfl rfl rfl 27 z5 zero27 (by kernel_rfl) 10 rfl rfl rfl (.tmp 18) rfl rfl rfl 11 rfl rfl rfl (.tmp 19) rfl rfl rfl (by decide) (by simp) ?_
  simp only [List.take_succ_cons, List.take_zero]
  refine wpLex_cons2 _ (uni_val (by rfl) (Op.build 27 #[]) rfl zeroE.v (fun o' ho W _ => by have hbb := build27 W; go_simp <;> rfl)) (by simp only [Act.put, List.setIfInBounds_toArray, List.set_cons_zero, List.set_cons_succ]; rfl) ?_
  refine wpLex_cons2 _ (uni_callF (by rfl) 14 [Operand.const (Value.int IntKind.u32 1)] #[34] rfl [Value.int IntKind.u32 1] ((small 1#32).v) rfl enter14 (fun W hW => small_any 1#32 W)) (by simp only [Act.put, List.setIfInBounds_toArray, List.set_cons_zero, List.set_cons_succ]; rfl) ?_
  refine ⟨zeroE.cs, (small 1#32).cs, rfl, cs_len _, cs_one _, by simp, rfl, cs_len _, cs_one _, by simp, fun gcz gco w3 lo0 lo1 ne01 hW cz co => ?_⟩
  simp only [Act.put, List.setIfInBounds_toArray, List.set_cons_zero, List.set_cons_succ]
  replace ca := ca.on hW
  replace cb := cb.on hW
  replace cc := cc.on hW
  replace be := be.trans (hW.mono (by have := be.size; omega))
  clear hW lo0 lo1 ne01 w2
  go_upto_region 3 with fail
  refine reg_all (by kernel_rfl) (by kernel_rfl) ?_
  refine wpLex_cons2 _ (uni_row rfl 27 (.tmp 7) rfl (gca) A.cs 27 rfl (fun W hW => ca.on hW) Try.underlying27 rfl (cs_info _)) (by simp only [Act.put, List.setIfInBounds_toArray, List.set_cons_zero, List.set_cons_succ]; rfl) ?_
  refine wpLex_cons2 _ (uni_row rfl 27 (.tmp 8) rfl (gcb) B.cs 27 rfl (fun W hW => cb.on hW) Try.underlying27 rfl (cs_info _)) (by simp only [Act.put, List.setIfInBounds_toArray, List.set_cons_zero, List.set_cons_succ]; rfl) ?_
  refine wpLex_cons2 _ (uni_callF (by rfl) 18 [Operand.tmp 20, Operand.tmp 21] #[27, 27] rfl [A.v, B.v] ((addE A B).v) rfl enter18 (fun W hW => add_any A B W)) (by simp only [Act.put, List.setIfInBounds_toArray, List.set_cons_zero, List.set_cons_succ]; rfl) ?_
  refine wpLex_cons2 _ (uni_row rfl 27 (.tmp 8) rfl (gcb) B.cs 27 rfl (fun W hW => cb.on hW) Try.underlying27 rfl (cs_info _)) (by simp only [Act.put, List.setIfInBounds_toArray, List.set_cons_zero, List.set_cons_succ]; rfl) ?_
  refine wpLex_cons2 _ (uni_row rfl 27 (.tmp 7) rfl (gca) A.cs 27 rfl (fun W hW => ca.on hW) Try.underlying27 rfl (cs_info _)) (by simp only [Act.put, List.setIfInBounds_toArray, List.set_cons_zero, List.set_cons_succ]; rfl) ?_
  refine wpLex_cons2 _ (uni_callF (by rfl) 18 [Operand.tmp 23, Operand.tmp 24] #[27, 27] rfl [B.v, A.v] ((addE B A).v) rfl enter18 (fun W hW => add_any B A W)) (by simp only [Act.put, List.setIfInBounds_toArray, List.set_cons_zero, List.set_cons_succ]; rfl) ?_
  refine wpLex_cons2 _ (uni_callF (by rfl) 12 [Operand.tmp 22, Operand.tmp 25] #[27, 27] rfl [((addE A B).v), ((addE B A).v)] (.bool true) rfl enter12 (fun W hW => equalT (ring1 oa ob) W)) (by simp only [Act.put, List.setIfInBounds_toArray, List.set_cons_zero, List.set_cons_succ]; rfl) ?_
  refine wpLex_cons2 _ (uni_val (by rfl) (Op.unOp UnOp.not 4 (Operand.tmp 26)) rfl (.bool false) (fun o' ho W _ => by go_simp)) (by simp only [Act.put, List.setIfInBounds_toArray, List.set_cons_zero, List.set_cons_succ]; rfl) ?_
  refine wpLex_cons2 _ (uni_val (by rfl) (Op.move (Operand.tmp 27)) rfl (.bool false) (fun o' ho W _ => by go_simp)) (by simp only [Act.put, List.setIfInBounds_toArray, List.set_cons_zero, List.set_cons_succ]; rfl) ?_
  refine wpLex_cons2 _ (uni_rowG (by rfl) 27 (.tmp 7) rfl (gca) A.cs 27 rfl (fun W hW => ca.on hW) Try.underlying27 rfl (cs_info _)) (by simp only [Act.put, List.setIfInBounds_toArray, List.set_cons_zero, List.set_cons_succ]; rfl) ?_
  refine wpLex_cons2 _ (uni_rowG (by rfl) 27 (.tmp 8) rfl (gcb) B.cs 27 rfl (fun W hW => cb.on hW) Try.underlying27 rfl (cs_info _)) (by simp only [Act.put, List.setIfInBounds_toArray, List.set_cons_zero, List.set_cons_succ]; rfl) ?_
  refine wpLex_cons2 _ (uni_rowG (by rfl) 27 (.tmp 9) rfl (gcc) C.cs 27 rfl (fun W hW => cc.on hW) Try.underlying27 rfl (cs_info _)) (by simp only [Act.put, List.setIfInBounds_toArray, List.set_cons_zero, List.set_cons_succ]; rfl) ?_
  refine wpLex_cons2 _ (uni_callF (by rfl) 18 [Operand.tmp 30, Operand.tmp 31] #[27, 27] rfl [B.v, C.v] ((addE B C).v) rfl enter18 (fun W hW => add_any B C W)) (by simp only [Act.put, List.setIfInBounds_toArray, List.set_cons_zero, List.set_cons_succ]; rfl) ?_
  refine wpLex_cons2 _ (uni_callF (by rfl) 18 [Operand.tmp 29, Operand.tmp 32] #[27, 27] rfl [A.v, ((addE B C).v)] ((addE A (addE B C)).v) rfl enter18 (fun W hW => add_any A (addE B C) W)) (by simp only [Act.put, List.setIfInBounds_toArray, List.set_cons_zero, List.set_cons_succ]; rfl) ?_
  refine wpLex_cons2 _ (uni_rowG (by rfl) 27 (.tmp 7) rfl (gca) A.cs 27 rfl (fun W hW => ca.on hW) Try.underlying27 rfl (cs_info _)) (by simp only [Act.put, List.setIfInBounds_toArray, List.set_cons_zero, List.set_cons_succ]; rfl) ?_
  refine wpLex_cons2 _ (uni_rowG (by rfl) 27 (.tmp 8) rfl (gcb) B.cs 27 rfl (fun W hW => cb.on hW) Try.underlying27 rfl (cs_info _)) (by simp only [Act.put, List.setIfInBounds_toArray, List.set_cons_zero, List.set_cons_succ]; rfl) ?_
  refine wpLex_cons2 _ (uni_callF (by rfl) 18 [Operand.tmp 34, Operand.tmp 35] #[27, 27] rfl [A.v, B.v] ((addE A B).v) rfl enter18 (fun W hW => add_any A B W)) (by simp only [Act.put, List.setIfInBounds_toArray, List.set_cons_zero, List.set_cons_succ]; rfl) ?_
  refine wpLex_cons2 _ (uni_rowG (by rfl) 27 (.tmp 9) rfl (gcc) C.cs 27 rfl (fun W hW => cc.on hW) Try.underlying27 rfl (cs_info _)) (by simp only [Act.put, List.setIfInBounds_toArray, List.set_cons_zero, List.set_cons_succ]; rfl) ?_
  refine wpLex_cons2 _ (uni_callF (by rfl) 18 [Operand.tmp 36, Operand.tmp 37] #[27, 27] rfl [((addE A B).v), C.v] ((addE (addE A B) C).v) rfl enter18 (fun W hW => add_any (addE A B) C W)) (by simp only [Act.put, List.setIfInBounds_toArray, List.set_cons_zero, List.set_cons_succ]; rfl) ?_
  refine wpLex_cons2 _ (uni_callF (by rfl) 12 [Operand.tmp 33, Operand.tmp 38] #[27, 27] rfl [((addE A (addE B C)).v), ((addE (addE A B) C).v)] (.bool true) rfl enter12 (fun W hW => equalT (ring2 oa ob oc) W)) (by simp only [Act.put, List.setIfInBounds_toArray, List.set_cons_zero, List.set_cons_succ]; rfl) ?_
  refine wpLex_cons2 _ (uni_val (by rfl) (Op.unOp UnOp.not 4 (Operand.tmp 39)) rfl (.bool false) (fun o' ho W _ => by go_simp)) (by simp only [Act.put, List.setIfInBounds_toArray, List.set_cons_zero, List.set_cons_succ]; rfl) ?_
  refine wpLex_cons2 _ (uni_val (by rfl) (Op.pick (Operand.tmp 28) (Operand.const (Value.bool true)) (Operand.tmp 40)) rfl (.bool false) (fun o' ho W _ => by go_simp)) (by simp only [Act.put, List.setIfInBounds_toArray, List.set_cons_zero, List.set_cons_succ]; rfl) ?_
  refine wpLex_cons2 _ (uni_val (by rfl) (Op.move (Operand.tmp 41)) rfl (.bool false) (fun o' ho W _ => by go_simp)) (by simp only [Act.put, List.setIfInBounds_toArray, List.set_cons_zero, List.set_cons_succ]; rfl) ?_
  refine wpLex_cons2 _ (uni_rowG (by rfl) 27 (.tmp 7) rfl (gca) A.cs 27 rfl (fun W hW => ca.on hW) Try.underlying27 rfl (cs_info _)) (by simp only [Act.put, List.setIfInBounds_toArray, List.set_cons_zero, List.set_cons_succ]; rfl) ?_
  refine wpLex_cons2 _ (uni_rowG (by rfl) 27 (.tmp 8) rfl (gcb) B.cs 27 rfl (fun W hW => cb.on hW) Try.underlying27 rfl (cs_info _)) (by simp only [Act.put, List.setIfInBounds_toArray, List.set_cons_zero, List.set_cons_succ]; rfl) ?_
  refine wpLex_cons2 _ (uni_callF (by rfl) 16 [Operand.tmp 43, Operand.tmp 44] #[27, 27] rfl [A.v, B.v] ((mulE A B).v) rfl enter16 (fun W hW => mul_any A B W)) (by simp only [Act.put, List.setIfInBounds_toArray, List.set_cons_zero, List.set_cons_succ]; rfl) ?_
  refine wpLex_cons2 _ (uni_rowG (by rfl) 27 (.tmp 8) rfl (gcb) B.cs 27 rfl (fun W hW => cb.on hW) Try.underlying27 rfl (cs_info _)) (by simp only [Act.put, List.setIfInBounds_toArray, List.set_cons_zero, List.set_cons_succ]; rfl) ?_
  refine wpLex_cons2 _ (uni_rowG (by rfl) 27 (.tmp 7) rfl (gca) A.cs 27 rfl (fun W hW => ca.on hW) Try.underlying27 rfl (cs_info _)) (by simp only [Act.put, List.setIfInBounds_toArray, List.set_cons_zero, List.set_cons_succ]; rfl) ?_
  refine wpLex_cons2 _ (uni_callF (by rfl) 16 [Operand.tmp 46, Operand.tmp 47] #[27, 27] rfl [B.v, A.v] ((mulE B A).v) rfl enter16 (fun W hW => mul_any B A W)) (by simp only [Act.put, List.setIfInBounds_toArray, List.set_cons_zero, List.set_cons_succ]; rfl) ?_
  refine wpLex_cons2 _ (uni_callF (by rfl) 12 [Operand.tmp 45, Operand.tmp 48] #[27, 27] rfl [((mulE A B).v), ((mulE B A).v)] (.bool true) rfl enter12 (fun W hW => equalT (ring3 oa ob) W)) (by simp only [Act.put, List.setIfInBounds_toArray, List.set_cons_zero, List.set_cons_succ]; rfl) ?_
  refine wpLex_cons2 _ (uni_val (by rfl) (Op.unOp UnOp.not 4 (Operand.tmp 49)) rfl (.bool false) (fun o' ho W _ => by go_simp)) (by simp only [Act.put, List.setIfInBounds_toArray, List.set_cons_zero, List.set_cons_succ]; rfl) ?_
  refine wpLex_cons2 _ (uni_val (by rfl) (Op.pick (Operand.tmp 42) (Operand.const (Value.bool true)) (Operand.tmp 50)) rfl (.bool false) (fun o' ho W _ => by go_simp)) (by simp only [Act.put, List.setIfInBounds_toArray, List.set_cons_zero, List.set_cons_succ]; rfl) ?_
  refine wpLex_cons2 _ (uni_val (by rfl) (Op.move (Operand.tmp 51)) rfl (.bool false) (fun o' ho W _ => by go_simp)) (by simp only [Act.put, List.setIfInBounds_toArray, List.set_cons_zero, List.set_cons_succ]; rfl) ?_
  refine wpLex_cons2 _ (uni_rowG (by rfl) 27 (.tmp 7) rfl (gca) A.cs 27 rfl (fun W hW => ca.on hW) Try.underlying27 rfl (cs_info _)) (by simp only [Act.put, List.setIfInBounds_toArray, List.set_cons_zero, List.set_cons_succ]; rfl) ?_
  refine wpLex_cons2 _ (uni_rowG (by rfl) 27 (.tmp 8) rfl (gcb) B.cs 27 rfl (fun W hW => cb.on hW) Try.underlying27 rfl (cs_info _)) (by simp only [Act.put, List.setIfInBounds_toArray, List.set_cons_zero, List.set_cons_succ]; rfl) ?_
  refine wpLex_cons2 _ (uni_rowG (by rfl) 27 (.tmp 9) rfl (gcc) C.cs 27 rfl (fun W hW => cc.on hW) Try.underlying27 rfl (cs_info _)) (by simp only [Act.put, List.setIfInBounds_toArray, List.set_cons_zero, List.set_cons_succ]; rfl) ?_
  refine wpLex_cons2 _ (uni_callF (by rfl) 16 [Operand.tmp 54, Operand.tmp 55] #[27, 27] rfl [B.v, C.v] ((mulE B C).v) rfl enter16 (fun W hW => mul_any B C W)) (by simp only [Act.put, List.setIfInBounds_toArray, List.set_cons_zero, List.set_cons_succ]; rfl) ?_
  refine wpLex_cons2 _ (uni_callF (by rfl) 16 [Operand.tmp 53, Operand.tmp 56] #[27, 27] rfl [A.v, ((mulE B C).v)] ((mulE A (mulE B C)).v) rfl enter16 (fun W hW => mul_any A (mulE B C) W)) (by simp only [Act.put, List.setIfInBounds_toArray, List.set_cons_zero, List.set_cons_succ]; rfl) ?_
  refine wpLex_cons2 _ (uni_rowG (by rfl) 27 (.tmp 7) rfl (gca) A.cs 27 rfl (fun W hW => ca.on hW) Try.underlying27 rfl (cs_info _)) (by simp only [Act.put, List.setIfInBounds_toArray, List.set_cons_zero, List.set_cons_succ]; rfl) ?_
  refine wpLex_cons2 _ (uni_rowG (by rfl) 27 (.tmp 8) rfl (gcb) B.cs 27 rfl (fun W hW => cb.on hW) Try.underlying27 rfl (cs_info _)) (by simp only [Act.put, List.setIfInBounds_toArray, List.set_cons_zero, List.set_cons_succ]; rfl) ?_
  refine wpLex_cons2 _ (uni_callF (by rfl) 16 [Operand.tmp 58, Operand.tmp 59] #[27, 27] rfl [A.v, B.v] ((mulE A B).v) rfl enter16 (fun W hW => mul_any A B W)) (by simp only [Act.put, List.setIfInBounds_toArray, List.set_cons_zero, List.set_cons_succ]; rfl) ?_
  refine wpLex_cons2 _ (uni_rowG (by rfl) 27 (.tmp 9) rfl (gcc) C.cs 27 rfl (fun W hW => cc.on hW) Try.underlying27 rfl (cs_info _)) (by simp only [Act.put, List.setIfInBounds_toArray, List.set_cons_zero, List.set_cons_succ]; rfl) ?_
  refine wpLex_cons2 _ (uni_callF (by rfl) 16 [Operand.tmp 60, Operand.tmp 61] #[27, 27] rfl [((mulE A B).v), C.v] ((mulE (mulE A B) C).v) rfl enter16 (fun W hW => mul_any (mulE A B) C W)) (by simp only [Act.put, List.setIfInBounds_toArray, List.set_cons_zero, List.set_cons_succ]; rfl) ?_
  refine wpLex_cons2 _ (uni_callF (by rfl) 12 [Operand.tmp 57, Operand.tmp 62] #[27, 27] rfl [((mulE A (mulE B C)).v), ((mulE (mulE A B) C).v)] (.bool true) rfl enter12 (fun W hW => equalT (ring4 oa ob oc) W)) (by simp only [Act.put, List.setIfInBounds_toArray, List.set_cons_zero, List.set_cons_succ]; rfl) ?_
  refine wpLex_cons2 _ (uni_val (by rfl) (Op.unOp UnOp.not 4 (Operand.tmp 63)) rfl (.bool false) (fun o' ho W _ => by go_simp)) (by simp only [Act.put, List.setIfInBounds_toArray, List.set_cons_zero, List.set_cons_succ]; rfl) ?_
  refine wpLex_cons2 _ (uni_val (by rfl) (Op.pick (Operand.tmp 52) (Operand.const (Value.bool true)) (Operand.tmp 64)) rfl (.bool false) (fun o' ho W _ => by go_simp)) (by simp only [Act.put, List.setIfInBounds_toArray, List.set_cons_zero, List.set_cons_succ]; rfl) ?_
  intro w4 hW
  replace ca := ca.on hW
  replace cb := cb.on hW
  replace cc := cc.on hW
  replace cz := cz.on hW
  replace co := co.on hW
  replace be := be.trans (hW.mono (by have := be.size; omega))
  clear hW w3
  go_upto_region 5 with fail
  refine reg_all (by kernel_rfl) (by kernel_rfl) ?_
  refine wpLex_cons2 _ (uni_row rfl 27 (.tmp 7) rfl (gca) A.cs 27 rfl (fun W hW => ca.on hW) Try.underlying27 rfl (cs_info _)) (by simp only [Act.put, List.setIfInBounds_toArray, List.set_cons_zero, List.set_cons_succ]; rfl) ?_
  refine wpLex_cons2 _ (uni_row rfl 27 (.tmp 8) rfl (gcb) B.cs 27 rfl (fun W hW => cb.on hW) Try.underlying27 rfl (cs_info _)) (by simp only [Act.put, List.setIfInBounds_toArray, List.set_cons_zero, List.set_cons_succ]; rfl) ?_
  refine wpLex_cons2 _ (uni_row rfl 27 (.tmp 9) rfl (gcc) C.cs 27 rfl (fun W hW => cc.on hW) Try.underlying27 rfl (cs_info _)) (by simp only [Act.put, List.setIfInBounds_toArray, List.set_cons_zero, List.set_cons_succ]; rfl) ?_
  refine wpLex_cons2 _ (uni_callF (by rfl) 18 [Operand.tmp 67, Operand.tmp 68] #[27, 27] rfl [B.v, C.v] ((addE B C).v) rfl enter18 (fun W hW => add_any B C W)) (by simp only [Act.put, List.setIfInBounds_toArray, List.set_cons_zero, List.set_cons_succ]; rfl) ?_
  refine wpLex_cons2 _ (uni_callF (by rfl) 16 [Operand.tmp 66, Operand.tmp 69] #[27, 27] rfl [A.v, ((addE B C).v)] ((mulE A (addE B C)).v) rfl enter16 (fun W hW => mul_any A (addE B C) W)) (by simp only [Act.put, List.setIfInBounds_toArray, List.set_cons_zero, List.set_cons_succ]; rfl) ?_
  refine wpLex_cons2 _ (uni_row rfl 27 (.tmp 7) rfl (gca) A.cs 27 rfl (fun W hW => ca.on hW) Try.underlying27 rfl (cs_info _)) (by simp only [Act.put, List.setIfInBounds_toArray, List.set_cons_zero, List.set_cons_succ]; rfl) ?_
  refine wpLex_cons2 _ (uni_row rfl 27 (.tmp 8) rfl (gcb) B.cs 27 rfl (fun W hW => cb.on hW) Try.underlying27 rfl (cs_info _)) (by simp only [Act.put, List.setIfInBounds_toArray, List.set_cons_zero, List.set_cons_succ]; rfl) ?_
  refine wpLex_cons2 _ (uni_callF (by rfl) 16 [Operand.tmp 71, Operand.tmp 72] #[27, 27] rfl [A.v, B.v] ((mulE A B).v) rfl enter16 (fun W hW => mul_any A B W)) (by simp only [Act.put, List.setIfInBounds_toArray, List.set_cons_zero, List.set_cons_succ]; rfl) ?_
  refine wpLex_cons2 _ (uni_row rfl 27 (.tmp 7) rfl (gca) A.cs 27 rfl (fun W hW => ca.on hW) Try.underlying27 rfl (cs_info _)) (by simp only [Act.put, List.setIfInBounds_toArray, List.set_cons_zero, List.set_cons_succ]; rfl) ?_
  refine wpLex_cons2 _ (uni_row rfl 27 (.tmp 9) rfl (gcc) C.cs 27 rfl (fun W hW => cc.on hW) Try.underlying27 rfl (cs_info _)) (by simp only [Act.put, List.setIfInBounds_toArray, List.set_cons_zero, List.set_cons_succ]; rfl) ?_
  refine wpLex_cons2 _ (uni_callF (by rfl) 16 [Operand.tmp 74, Operand.tmp 75] #[27, 27] rfl [A.v, C.v] ((mulE A C).v) rfl enter16 (fun W hW => mul_any A C W)) (by simp only [Act.put, List.setIfInBounds_toArray, List.set_cons_zero, List.set_cons_succ]; rfl) ?_
  refine wpLex_cons2 _ (uni_callF (by rfl) 18 [Operand.tmp 73, Operand.tmp 76] #[27, 27] rfl [((mulE A B).v), ((mulE A C).v)] ((addE (mulE A B) (mulE A C)).v) rfl enter18 (fun W hW => add_any (mulE A B) (mulE A C) W)) (by simp only [Act.put, List.setIfInBounds_toArray, List.set_cons_zero, List.set_cons_succ]; rfl) ?_
  refine wpLex_cons2 _ (uni_callF (by rfl) 12 [Operand.tmp 70, Operand.tmp 77] #[27, 27] rfl [((mulE A (addE B C)).v), ((addE (mulE A B) (mulE A C)).v)] (.bool true) rfl enter12 (fun W hW => equalT (ring5 oa ob oc) W)) (by simp only [Act.put, List.setIfInBounds_toArray, List.set_cons_zero, List.set_cons_succ]; rfl) ?_
  refine wpLex_cons2 _ (uni_val (by rfl) (Op.unOp UnOp.not 4 (Operand.tmp 78)) rfl (.bool false) (fun o' ho W _ => by go_simp)) (by simp only [Act.put, List.setIfInBounds_toArray, List.set_cons_zero, List.set_cons_succ]; rfl) ?_
  refine wpLex_cons2 _ (uni_val (by rfl) (Op.move (Operand.tmp 79)) rfl (.bool false) (fun o' ho W _ => by go_simp)) (by simp only [Act.put, List.setIfInBounds_toArray, List.set_cons_zero, List.set_cons_succ]; rfl) ?_
  refine wpLex_cons2 _ (uni_rowG (by rfl) 27 (.tmp 7) rfl (gca) A.cs 27 rfl (fun W hW => ca.on hW) Try.underlying27 rfl (cs_info _)) (by simp only [Act.put, List.setIfInBounds_toArray, List.set_cons_zero, List.set_cons_succ]; rfl) ?_
  refine wpLex_cons2 _ (uni_rowG (by rfl) 27 (.tmp 8) rfl (gcb) B.cs 27 rfl (fun W hW => cb.on hW) Try.underlying27 rfl (cs_info _)) (by simp only [Act.put, List.setIfInBounds_toArray, List.set_cons_zero, List.set_cons_succ]; rfl) ?_
  refine wpLex_cons2 _ (uni_rowG (by rfl) 27 (.tmp 9) rfl (gcc) C.cs 27 rfl (fun W hW => cc.on hW) Try.underlying27 rfl (cs_info _)) (by simp only [Act.put, List.setIfInBounds_toArray, List.set_cons_zero, List.set_cons_succ]; rfl) ?_
  refine wpLex_cons2 _ (uni_callF (by rfl) 19 [Operand.tmp 82, Operand.tmp 83] #[27, 27] rfl [B.v, C.v] ((subE B C).v) rfl enter19 (fun W hW => sub_any B C W)) (by simp only [Act.put, List.setIfInBounds_toArray, List.set_cons_zero, List.set_cons_succ]; rfl) ?_
  refine wpLex_cons2 _ (uni_callF (by rfl) 16 [Operand.tmp 81, Operand.tmp 84] #[27, 27] rfl [A.v, ((subE B C).v)] ((mulE A (subE B C)).v) rfl enter16 (fun W hW => mul_any A (subE B C) W)) (by simp only [Act.put, List.setIfInBounds_toArray, List.set_cons_zero, List.set_cons_succ]; rfl) ?_
  refine wpLex_cons2 _ (uni_rowG (by rfl) 27 (.tmp 7) rfl (gca) A.cs 27 rfl (fun W hW => ca.on hW) Try.underlying27 rfl (cs_info _)) (by simp only [Act.put, List.setIfInBounds_toArray, List.set_cons_zero, List.set_cons_succ]; rfl) ?_
  refine wpLex_cons2 _ (uni_rowG (by rfl) 27 (.tmp 8) rfl (gcb) B.cs 27 rfl (fun W hW => cb.on hW) Try.underlying27 rfl (cs_info _)) (by simp only [Act.put, List.setIfInBounds_toArray, List.set_cons_zero, List.set_cons_succ]; rfl) ?_
  refine wpLex_cons2 _ (uni_callF (by rfl) 16 [Operand.tmp 86, Operand.tmp 87] #[27, 27] rfl [A.v, B.v] ((mulE A B).v) rfl enter16 (fun W hW => mul_any A B W)) (by simp only [Act.put, List.setIfInBounds_toArray, List.set_cons_zero, List.set_cons_succ]; rfl) ?_
  refine wpLex_cons2 _ (uni_rowG (by rfl) 27 (.tmp 7) rfl (gca) A.cs 27 rfl (fun W hW => ca.on hW) Try.underlying27 rfl (cs_info _)) (by simp only [Act.put, List.setIfInBounds_toArray, List.set_cons_zero, List.set_cons_succ]; rfl) ?_
  refine wpLex_cons2 _ (uni_rowG (by rfl) 27 (.tmp 9) rfl (gcc) C.cs 27 rfl (fun W hW => cc.on hW) Try.underlying27 rfl (cs_info _)) (by simp only [Act.put, List.setIfInBounds_toArray, List.set_cons_zero, List.set_cons_succ]; rfl) ?_
  refine wpLex_cons2 _ (uni_callF (by rfl) 16 [Operand.tmp 89, Operand.tmp 90] #[27, 27] rfl [A.v, C.v] ((mulE A C).v) rfl enter16 (fun W hW => mul_any A C W)) (by simp only [Act.put, List.setIfInBounds_toArray, List.set_cons_zero, List.set_cons_succ]; rfl) ?_
  refine wpLex_cons2 _ (uni_callF (by rfl) 19 [Operand.tmp 88, Operand.tmp 91] #[27, 27] rfl [((mulE A B).v), ((mulE A C).v)] ((subE (mulE A B) (mulE A C)).v) rfl enter19 (fun W hW => sub_any (mulE A B) (mulE A C) W)) (by simp only [Act.put, List.setIfInBounds_toArray, List.set_cons_zero, List.set_cons_succ]; rfl) ?_
  refine wpLex_cons2 _ (uni_callF (by rfl) 12 [Operand.tmp 85, Operand.tmp 92] #[27, 27] rfl [((mulE A (subE B C)).v), ((subE (mulE A B) (mulE A C)).v)] (.bool true) rfl enter12 (fun W hW => equalT (ring6 oa ob oc) W)) (by simp only [Act.put, List.setIfInBounds_toArray, List.set_cons_zero, List.set_cons_succ]; rfl) ?_
  refine wpLex_cons2 _ (uni_val (by rfl) (Op.unOp UnOp.not 4 (Operand.tmp 93)) rfl (.bool false) (fun o' ho W _ => by go_simp)) (by simp only [Act.put, List.setIfInBounds_toArray, List.set_cons_zero, List.set_cons_succ]; rfl) ?_
  refine wpLex_cons2 _ (uni_val (by rfl) (Op.pick (Operand.tmp 80) (Operand.const (Value.bool true)) (Operand.tmp 94)) rfl (.bool false) (fun o' ho W _ => by go_simp)) (by simp only [Act.put, List.setIfInBounds_toArray, List.set_cons_zero, List.set_cons_succ]; rfl) ?_
  intro w5 hW
  replace ca := ca.on hW
  replace cb := cb.on hW
  replace cc := cc.on hW
  replace cz := cz.on hW
  replace co := co.on hW
  replace be := be.trans (hW.mono (by have := be.size; omega))
  clear hW w4
  go_upto_region 7 with fail
  refine reg_all (by kernel_rfl) (by kernel_rfl) ?_
  refine wpLex_cons2 _ (uni_row rfl 27 (.tmp 7) rfl (gca) A.cs 27 rfl (fun W hW => ca.on hW) Try.underlying27 rfl (cs_info _)) (by simp only [Act.put, List.setIfInBounds_toArray, List.set_cons_zero, List.set_cons_succ]; rfl) ?_
  refine wpLex_cons2 _ (uni_row rfl 27 (.tmp 10) rfl (gcz) zeroE.cs 27 rfl (fun W hW => cz.on hW) Try.underlying27 rfl (cs_info _)) (by simp only [Act.put, List.setIfInBounds_toArray, List.set_cons_zero, List.set_cons_succ]; rfl) ?_
  refine wpLex_cons2 _ (uni_callF (by rfl) 18 [Operand.tmp 96, Operand.tmp 97] #[27, 27] rfl [A.v, zeroE.v] ((addE A zeroE).v) rfl enter18 (fun W hW => add_any A zeroE W)) (by simp only [Act.put, List.setIfInBounds_toArray, List.set_cons_zero, List.set_cons_succ]; rfl) ?_
  refine wpLex_cons2 _ (uni_row rfl 27 (.tmp 7) rfl (gca) A.cs 27 rfl (fun W hW => ca.on hW) Try.underlying27 rfl (cs_info _)) (by simp only [Act.put, List.setIfInBounds_toArray, List.set_cons_zero, List.set_cons_succ]; rfl) ?_
  refine wpLex_cons2 _ (uni_callF (by rfl) 12 [Operand.tmp 98, Operand.tmp 99] #[27, 27] rfl [((addE A zeroE).v), A.v] (.bool true) rfl enter12 (fun W hW => equalT (ring7 oa) W)) (by simp only [Act.put, List.setIfInBounds_toArray, List.set_cons_zero, List.set_cons_succ]; rfl) ?_
  refine wpLex_cons2 _ (uni_val (by rfl) (Op.unOp UnOp.not 4 (Operand.tmp 100)) rfl (.bool false) (fun o' ho W _ => by go_simp)) (by simp only [Act.put, List.setIfInBounds_toArray, List.set_cons_zero, List.set_cons_succ]; rfl) ?_
  refine wpLex_cons2 _ (uni_val (by rfl) (Op.move (Operand.tmp 101)) rfl (.bool false) (fun o' ho W _ => by go_simp)) (by simp only [Act.put, List.setIfInBounds_toArray, List.set_cons_zero, List.set_cons_succ]; rfl) ?_
  refine wpLex_cons2 _ (uni_rowG (by rfl) 27 (.tmp 7) rfl (gca) A.cs 27 rfl (fun W hW => ca.on hW) Try.underlying27 rfl (cs_info _)) (by simp only [Act.put, List.setIfInBounds_toArray, List.set_cons_zero, List.set_cons_succ]; rfl) ?_
  refine wpLex_cons2 _ (uni_rowG (by rfl) 27 (.tmp 11) rfl (gco) (small 1#32).cs 27 rfl (fun W hW => co.on hW) Try.underlying27 rfl (cs_info _)) (by simp only [Act.put, List.setIfInBounds_toArray, List.set_cons_zero, List.set_cons_succ]; rfl) ?_
  refine wpLex_cons2 _ (uni_callF (by rfl) 16 [Operand.tmp 103, Operand.tmp 104] #[27, 27] rfl [A.v, (small 1#32).v] ((mulE A (small 1#32)).v) rfl enter16 (fun W hW => mul_any A (small 1#32) W)) (by simp only [Act.put, List.setIfInBounds_toArray, List.set_cons_zero, List.set_cons_succ]; rfl) ?_
  refine wpLex_cons2 _ (uni_rowG (by rfl) 27 (.tmp 7) rfl (gca) A.cs 27 rfl (fun W hW => ca.on hW) Try.underlying27 rfl (cs_info _)) (by simp only [Act.put, List.setIfInBounds_toArray, List.set_cons_zero, List.set_cons_succ]; rfl) ?_
  refine wpLex_cons2 _ (uni_callF (by rfl) 12 [Operand.tmp 105, Operand.tmp 106] #[27, 27] rfl [((mulE A (small 1#32)).v), A.v] (.bool true) rfl enter12 (fun W hW => equalT (ring8 oa) W)) (by simp only [Act.put, List.setIfInBounds_toArray, List.set_cons_zero, List.set_cons_succ]; rfl) ?_
  refine wpLex_cons2 _ (uni_val (by rfl) (Op.unOp UnOp.not 4 (Operand.tmp 107)) rfl (.bool false) (fun o' ho W _ => by go_simp)) (by simp only [Act.put, List.setIfInBounds_toArray, List.set_cons_zero, List.set_cons_succ]; rfl) ?_
  refine wpLex_cons2 _ (uni_val (by rfl) (Op.pick (Operand.tmp 102) (Operand.const (Value.bool true)) (Operand.tmp 108)) rfl (.bool false) (fun o' ho W _ => by go_simp)) (by simp only [Act.put, List.setIfInBounds_toArray, List.set_cons_zero, List.set_cons_succ]; rfl) ?_
  refine wpLex_cons2 _ (uni_val (by rfl) (Op.move (Operand.tmp 109)) rfl (.bool false) (fun o' ho W _ => by go_simp)) (by simp only [Act.put, List.setIfInBounds_toArray, List.set_cons_zero, List.set_cons_succ]; rfl) ?_
  refine wpLex_cons2 _ (uni_rowG (by rfl) 27 (.tmp 7) rfl (gca) A.cs 27 rfl (fun W hW => ca.on hW) Try.underlying27 rfl (cs_info _)) (by simp only [Act.put, List.setIfInBounds_toArray, List.set_cons_zero, List.set_cons_succ]; rfl) ?_
  refine wpLex_cons2 _ (uni_rowG (by rfl) 27 (.tmp 10) rfl (gcz) zeroE.cs 27 rfl (fun W hW => cz.on hW) Try.underlying27 rfl (cs_info _)) (by simp only [Act.put, List.setIfInBounds_toArray, List.set_cons_zero, List.set_cons_succ]; rfl) ?_
  refine wpLex_cons2 _ (uni_callF (by rfl) 16 [Operand.tmp 111, Operand.tmp 112] #[27, 27] rfl [A.v, zeroE.v] ((mulE A zeroE).v) rfl enter16 (fun W hW => mul_any A zeroE W)) (by simp only [Act.put, List.setIfInBounds_toArray, List.set_cons_zero, List.set_cons_succ]; rfl) ?_
  refine wpLex_cons2 _ (uni_rowG (by rfl) 27 (.tmp 10) rfl (gcz) zeroE.cs 27 rfl (fun W hW => cz.on hW) Try.underlying27 rfl (cs_info _)) (by simp only [Act.put, List.setIfInBounds_toArray, List.set_cons_zero, List.set_cons_succ]; rfl) ?_
  refine wpLex_cons2 _ (uni_callF (by rfl) 12 [Operand.tmp 113, Operand.tmp 114] #[27, 27] rfl [((mulE A zeroE).v), zeroE.v] (.bool true) rfl enter12 (fun W hW => equalT (ring9 oa) W)) (by simp only [Act.put, List.setIfInBounds_toArray, List.set_cons_zero, List.set_cons_succ]; rfl) ?_
  refine wpLex_cons2 _ (uni_val (by rfl) (Op.unOp UnOp.not 4 (Operand.tmp 115)) rfl (.bool false) (fun o' ho W _ => by go_simp)) (by simp only [Act.put, List.setIfInBounds_toArray, List.set_cons_zero, List.set_cons_succ]; rfl) ?_
  refine wpLex_cons2 _ (uni_val (by rfl) (Op.pick (Operand.tmp 110) (Operand.const (Value.bool true)) (Operand.tmp 116)) rfl (.bool false) (fun o' ho W _ => by go_simp)) (by simp only [Act.put, List.setIfInBounds_toArray, List.set_cons_zero, List.set_cons_succ]; rfl) ?_
  refine wpLex_cons2 _ (uni_val (by rfl) (Op.move (Operand.tmp 117)) rfl (.bool false) (fun o' ho W _ => by go_simp)) (by simp only [Act.put, List.setIfInBounds_toArray, List.set_cons_zero, List.set_cons_succ]; rfl) ?_
  refine wpLex_cons2 _ (uni_rowG (by rfl) 27 (.tmp 7) rfl (gca) A.cs 27 rfl (fun W hW => ca.on hW) Try.underlying27 rfl (cs_info _)) (by simp only [Act.put, List.setIfInBounds_toArray, List.set_cons_zero, List.set_cons_succ]; rfl) ?_
  refine wpLex_cons2 _ (uni_rowG (by rfl) 27 (.tmp 8) rfl (gcb) B.cs 27 rfl (fun W hW => cb.on hW) Try.underlying27 rfl (cs_info _)) (by simp only [Act.put, List.setIfInBounds_toArray, List.set_cons_zero, List.set_cons_succ]; rfl) ?_
  refine wpLex_cons2 _ (uni_callF (by rfl) 19 [Operand.tmp 119, Operand.tmp 120] #[27, 27] rfl [A.v, B.v] ((subE A B).v) rfl enter19 (fun W hW => sub_any A B W)) (by simp only [Act.put, List.setIfInBounds_toArray, List.set_cons_zero, List.set_cons_succ]; rfl) ?_
  refine wpLex_cons2 _ (uni_rowG (by rfl) 27 (.tmp 8) rfl (gcb) B.cs 27 rfl (fun W hW => cb.on hW) Try.underlying27 rfl (cs_info _)) (by simp only [Act.put, List.setIfInBounds_toArray, List.set_cons_zero, List.set_cons_succ]; rfl) ?_
  refine wpLex_cons2 _ (uni_callF (by rfl) 18 [Operand.tmp 121, Operand.tmp 122] #[27, 27] rfl [((subE A B).v), B.v] ((addE (subE A B) B).v) rfl enter18 (fun W hW => add_any (subE A B) B W)) (by simp only [Act.put, List.setIfInBounds_toArray, List.set_cons_zero, List.set_cons_succ]; rfl) ?_
  refine wpLex_cons2 _ (uni_rowG (by rfl) 27 (.tmp 7) rfl (gca) A.cs 27 rfl (fun W hW => ca.on hW) Try.underlying27 rfl (cs_info _)) (by simp only [Act.put, List.setIfInBounds_toArray, List.set_cons_zero, List.set_cons_succ]; rfl) ?_
  refine wpLex_cons2 _ (uni_callF (by rfl) 12 [Operand.tmp 123, Operand.tmp 124] #[27, 27] rfl [((addE (subE A B) B).v), A.v] (.bool true) rfl enter12 (fun W hW => equalT (ring10 oa ob) W)) (by simp only [Act.put, List.setIfInBounds_toArray, List.set_cons_zero, List.set_cons_succ]; rfl) ?_
  refine wpLex_cons2 _ (uni_val (by rfl) (Op.unOp UnOp.not 4 (Operand.tmp 125)) rfl (.bool false) (fun o' ho W _ => by go_simp)) (by simp only [Act.put, List.setIfInBounds_toArray, List.set_cons_zero, List.set_cons_succ]; rfl) ?_
  refine wpLex_cons2 _ (uni_val (by rfl) (Op.pick (Operand.tmp 118) (Operand.const (Value.bool true)) (Operand.tmp 126)) rfl (.bool false) (fun o' ho W _ => by go_simp)) (by simp only [Act.put, List.setIfInBounds_toArray, List.set_cons_zero, List.set_cons_succ]; rfl) ?_
  refine wpLex_cons2 _ (uni_val (by rfl) (Op.move (Operand.tmp 127)) rfl (.bool false) (fun o' ho W _ => by go_simp)) (by simp only [Act.put, List.setIfInBounds_toArray, List.set_cons_zero, List.set_cons_succ]; rfl) ?_
  refine wpLex_cons2 _ (uni_rowG (by rfl) 27 (.tmp 7) rfl (gca) A.cs 27 rfl (fun W hW => ca.on hW) Try.underlying27 rfl (cs_info _)) (by simp only [Act.put, List.setIfInBounds_toArray, List.set_cons_zero, List.set_cons_succ]; rfl) ?_
  refine wpLex_cons2 _ (uni_rowG (by rfl) 27 (.tmp 7) rfl (gca) A.cs 27 rfl (fun W hW => ca.on hW) Try.underlying27 rfl (cs_info _)) (by simp only [Act.put, List.setIfInBounds_toArray, List.set_cons_zero, List.set_cons_succ]; rfl) ?_
  refine wpLex_cons2 _ (uni_callF (by rfl) 19 [Operand.tmp 129, Operand.tmp 130] #[27, 27] rfl [A.v, A.v] ((subE A A).v) rfl enter19 (fun W hW => sub_any A A W)) (by simp only [Act.put, List.setIfInBounds_toArray, List.set_cons_zero, List.set_cons_succ]; rfl) ?_
  refine wpLex_cons2 _ (uni_rowG (by rfl) 27 (.tmp 10) rfl (gcz) zeroE.cs 27 rfl (fun W hW => cz.on hW) Try.underlying27 rfl (cs_info _)) (by simp only [Act.put, List.setIfInBounds_toArray, List.set_cons_zero, List.set_cons_succ]; rfl) ?_
  refine wpLex_cons2 _ (uni_callF (by rfl) 12 [Operand.tmp 131, Operand.tmp 132] #[27, 27] rfl [((subE A A).v), zeroE.v] (.bool true) rfl enter12 (fun W hW => equalT (ring11 oa) W)) (by simp only [Act.put, List.setIfInBounds_toArray, List.set_cons_zero, List.set_cons_succ]; rfl) ?_
  refine wpLex_cons2 _ (uni_val (by rfl) (Op.unOp UnOp.not 4 (Operand.tmp 133)) rfl (.bool false) (fun o' ho W _ => by go_simp)) (by simp only [Act.put, List.setIfInBounds_toArray, List.set_cons_zero, List.set_cons_succ]; rfl) ?_
  refine wpLex_cons2 _ (uni_val (by rfl) (Op.pick (Operand.tmp 128) (Operand.const (Value.bool true)) (Operand.tmp 134)) rfl (.bool false) (fun o' ho W _ => by go_simp)) (by simp only [Act.put, List.setIfInBounds_toArray, List.set_cons_zero, List.set_cons_succ]; rfl) ?_
  intro w6 hW
  replace ca := ca.on hW
  replace cb := cb.on hW
  replace cc := cc.on hW
  replace cz := cz.on hW
  replace co := co.on hW
  replace be := be.trans (hW.mono (by have := be.size; omega))
  clear hW w5
  go_upto_region 9 with fail
  refine reg_all (by kernel_rfl) (by kernel_rfl) ?_
  refine wpLex_cons2 _ (uni_row rfl 27 (.tmp 7) rfl (gca) A.cs 27 rfl (fun W hW => ca.on hW) Try.underlying27 rfl (cs_info _)) (by simp only [Act.put, List.setIfInBounds_toArray, List.set_cons_zero, List.set_cons_succ]; rfl) ?_
  refine wpLex_cons2 _ (uni_callF (by rfl) 20 [Operand.tmp 136] #[27] rfl [A.v] ((mulE A A).v) rfl enter20 (fun W hW => square_any A W)) (by simp only [Act.put, List.setIfInBounds_toArray, List.set_cons_zero, List.set_cons_succ]; rfl) ?_
  refine wpLex_cons2 _ (uni_row rfl 27 (.tmp 7) rfl (gca) A.cs 27 rfl (fun W hW => ca.on hW) Try.underlying27 rfl (cs_info _)) (by simp only [Act.put, List.setIfInBounds_toArray, List.set_cons_zero, List.set_cons_succ]; rfl) ?_
  refine wpLex_cons2 _ (uni_row rfl 27 (.tmp 7) rfl (gca) A.cs 27 rfl (fun W hW => ca.on hW) Try.underlying27 rfl (cs_info _)) (by simp only [Act.put, List.setIfInBounds_toArray, List.set_cons_zero, List.set_cons_succ]; rfl) ?_
  refine wpLex_cons2 _ (uni_callF (by rfl) 16 [Operand.tmp 138, Operand.tmp 139] #[27, 27] rfl [A.v, A.v] ((mulE A A).v) rfl enter16 (fun W hW => mul_any A A W)) (by simp only [Act.put, List.setIfInBounds_toArray, List.set_cons_zero, List.set_cons_succ]; rfl) ?_
  refine wpLex_cons2 _ (uni_callF (by rfl) 12 [Operand.tmp 137, Operand.tmp 140] #[27, 27] rfl [((mulE A A).v), ((mulE A A).v)] (.bool true) rfl enter12 (fun W hW => equalT (ring12 _) W)) (by simp only [Act.put, List.setIfInBounds_toArray, List.set_cons_zero, List.set_cons_succ]; rfl) ?_
  refine wpLex_cons2 _ (uni_val (by rfl) (Op.move (Operand.tmp 141)) rfl ((.bool true)) (fun o' ho W _ => by go_simp)) (by simp only [Act.put, List.setIfInBounds_toArray, List.set_cons_zero, List.set_cons_succ]; rfl) ?_
  refine wpLex_cons2 _ (uni_rowG (by rfl) 27 (.tmp 11) rfl (gco) (small 1#32).cs 27 rfl (fun W hW => co.on hW) Try.underlying27 rfl (cs_info _)) (by simp only [Act.put, List.setIfInBounds_toArray, List.set_cons_zero, List.set_cons_succ]; rfl) ?_
  refine wpLex_cons2 _ (uni_rowG (by rfl) 27 (.tmp 10) rfl (gcz) zeroE.cs 27 rfl (fun W hW => cz.on hW) Try.underlying27 rfl (cs_info _)) (by simp only [Act.put, List.setIfInBounds_toArray, List.set_cons_zero, List.set_cons_succ]; rfl) ?_
  refine wpLex_cons2 _ (uni_callF (by rfl) 12 [Operand.tmp 143, Operand.tmp 144] #[27, 27] rfl [(small 1#32).v, zeroE.v] (.bool false) rfl enter12 (fun W hW => equalF ring13 W)) (by simp only [Act.put, List.setIfInBounds_toArray, List.set_cons_zero, List.set_cons_succ]; rfl) ?_
  refine wpLex_cons2 _ (uni_val (by rfl) (Op.unOp UnOp.not 4 (Operand.tmp 145)) rfl (.bool true) (fun o' ho W _ => by go_simp)) (by simp only [Act.put, List.setIfInBounds_toArray, List.set_cons_zero, List.set_cons_succ]; rfl) ?_
  refine wpLex_cons2 _ (uni_val (by rfl) (Op.pick (Operand.tmp 142) (Operand.tmp 146) (Operand.const (Value.bool false))) rfl (.bool true) (fun o' ho W _ => by go_simp)) (by simp only [Act.put, List.setIfInBounds_toArray, List.set_cons_zero, List.set_cons_succ]; rfl) ?_
  refine wpLex_cons2 _ (uni_val (by rfl) (Op.move (Operand.tmp 147)) rfl (.bool true) (fun o' ho W _ => by go_simp)) (by simp only [Act.put, List.setIfInBounds_toArray, List.set_cons_zero, List.set_cons_succ]; rfl) ?_
  refine wpLex_cons2 _ (uni_rowG (by rfl) 27 (.tmp 10) rfl (gcz) zeroE.cs 27 rfl (fun W hW => cz.on hW) Try.underlying27 rfl (cs_info _)) (by simp only [Act.put, List.setIfInBounds_toArray, List.set_cons_zero, List.set_cons_succ]; rfl) ?_
  refine wpLex_cons2 _ (uni_callF (by rfl) 14 [Operand.const (Value.int IntKind.u32 0)] #[34] rfl [Value.int IntKind.u32 0] ((small 0#32).v) rfl enter14 (fun W hW => small_any 0#32 W)) (by simp only [Act.put, List.setIfInBounds_toArray, List.set_cons_zero, List.set_cons_succ]; rfl) ?_
  refine wpLex_cons2 _ (uni_callF (by rfl) 12 [Operand.tmp 149, Operand.tmp 150] #[27, 27] rfl [zeroE.v, ((small 0#32).v)] (.bool true) rfl enter12 (fun W hW => equalT ring14 W)) (by simp only [Act.put, List.setIfInBounds_toArray, List.set_cons_zero, List.set_cons_succ]; rfl) ?_
  refine wpLex_cons2 _ (uni_val (by rfl) (Op.pick (Operand.tmp 148) (Operand.tmp 151) (Operand.const (Value.bool false))) rfl (.bool true) (fun o' ho W _ => by go_simp)) (by simp only [Act.put, List.setIfInBounds_toArray, List.set_cons_zero, List.set_cons_succ]; rfl) ?_
  refine wpLex_cons2 _ (uni_val (by rfl) (Op.move (Operand.tmp 152)) rfl (.bool true) (fun o' ho W _ => by go_simp)) (by simp only [Act.put, List.setIfInBounds_toArray, List.set_cons_zero, List.set_cons_succ]; rfl) ?_
  refine wpLex_cons2 _ (uni_rowG (by rfl) 27 (.tmp 7) rfl (gca) A.cs 27 rfl (fun W hW => ca.on hW) Try.underlying27 rfl (cs_info _)) (by simp only [Act.put, List.setIfInBounds_toArray, List.set_cons_zero, List.set_cons_succ]; rfl) ?_
  refine wpLex_cons2 _ (uni_rowG (by rfl) 27 (.tmp 8) rfl (gcb) B.cs 27 rfl (fun W hW => cb.on hW) Try.underlying27 rfl (cs_info _)) (by simp only [Act.put, List.setIfInBounds_toArray, List.set_cons_zero, List.set_cons_succ]; rfl) ?_
  refine wpLex_cons2 _ (uni_callF (by rfl) 12 [Operand.tmp 154, Operand.tmp 155] #[27, 27] rfl [A.v, B.v] (.bool q) rfl enter12 (fun W hW => e9 W)) (by simp only [Act.put, List.setIfInBounds_toArray, List.set_cons_zero, List.set_cons_succ]; rfl) ?_
  refine wpLex_cons2 _ (uni_rowG (by rfl) 27 (.tmp 7) rfl (gca) A.cs 27 rfl (fun W hW => ca.on hW) Try.underlying27 rfl (cs_info _)) (by simp only [Act.put, List.setIfInBounds_toArray, List.set_cons_zero, List.set_cons_succ]; rfl) ?_
  refine wpLex_cons2 _ (uni_callF (by rfl) 10 [Operand.tmp 157] #[27] rfl [A.v] (.agg (LA.map byt).toArray) rfl enter10 (fun W hW => ba W)) (by simp only [Act.put, List.setIfInBounds_toArray, List.set_cons_zero, List.set_cons_succ]; rfl) ?_
  refine wpLex_cons2 _ (uni_rowG (by rfl) 27 (.tmp 8) rfl (gcb) B.cs 27 rfl (fun W hW => cb.on hW) Try.underlying27 rfl (cs_info _)) (by simp only [Act.put, List.setIfInBounds_toArray, List.set_cons_zero, List.set_cons_succ]; rfl) ?_
  refine wpLex_cons2 _ (uni_callF (by rfl) 10 [Operand.tmp 159] #[27] rfl [B.v] (.agg (LB.map byt).toArray) rfl enter10 (fun W hW => bb W)) (by simp only [Act.put, List.setIfInBounds_toArray, List.set_cons_zero, List.set_cons_succ]; rfl) ?_
  refine wpLex_cons2 _ (uni_val (by rfl) (Op.binOp BinOp.eql 23 (Operand.tmp 158) (Operand.tmp 160) 23) rfl (.bool q) (fun o' ho W _ => by have hg := guard23; go_simp)) (by simp only [Act.put, List.setIfInBounds_toArray, List.set_cons_zero, List.set_cons_succ]; rfl) ?_
  refine wpLex_cons2 _ (uni_val (by rfl) (Op.binOp BinOp.eql 4 (Operand.tmp 156) (Operand.tmp 161) 4) rfl (.bool true) (fun o' ho W _ => by go_simp)) (by simp only [Act.put, List.setIfInBounds_toArray, List.set_cons_zero, List.set_cons_succ]; rfl) ?_
  refine wpLex_cons2 _ (uni_val (by rfl) (Op.pick (Operand.tmp 153) (Operand.tmp 162) (Operand.const (Value.bool false))) rfl (.bool true) (fun o' ho W _ => by go_simp)) (by simp only [Act.put, List.setIfInBounds_toArray, List.set_cons_zero, List.set_cons_succ]; rfl) ?_
  refine wpLex_cons2 _ (uni_val (by rfl) (Op.assign (Operand.tmp 163)) rfl (.bool true) (fun o' ho W _ => by go_simp)) (by simp only [Act.put, List.setIfInBounds_toArray, List.set_cons_zero, List.set_cons_succ]; rfl) ?_
  intro w7 hW
  replace ca := ca.on hW
  replace cb := cb.on hW
  replace cc := cc.on hW
  replace cz := cz.on hW
  replace co := co.on hW
  replace be := be.trans (hW.mono (by have := be.size; omega))
  clear hW w6
  go_wp2
  go_ret
  exact ⟨rfl, by rw [hn]; exact be⟩

end Go.Proofs.Ytnakeieeopbeiaa
