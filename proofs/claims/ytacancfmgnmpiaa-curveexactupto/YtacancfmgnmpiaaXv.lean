import Derived.Test.YtacancfmgnmpiaaXu
import Derived.Test.YtacancfmgnmpiaaXr
set_option linter.unusedVariables false
set_option linter.unusedSimpArgs false
namespace Go.Proofs.Ytacancfmgnmpiaa
open Go.RowKit

/-- The cells of one call. -/
def stC (kind : Int) (k u : List UInt8) (v : Value) : List Value := .int .i64 kind :: (k.map byt ++ (u.map byt ++ [v]))
theorem stC_len {kind : Int} {k u : List UInt8} {v : Value} (hk : k.length = 32) (hu : u.length = 32) : (stC kind k u v).length = 66 := by simp [stC, hk, hu]
theorem stC_k {kind : Int} {k u : List UInt8} {v : Value} : ∀ j, j < (k.map byt).length → (stC kind k u v)[1 + j]? = (k.map byt)[j]? := fun j hj => by
  unfold stC
  rw [Nat.add_comm, List.getElem?_cons_succ, List.getElem?_append_left hj]
theorem stC_u {kind : Int} {k u : List UInt8} {v : Value} (hk : k.length = 32) : ∀ j, j < (u.map byt).length → (stC kind k u v)[33 + j]? = (u.map byt)[j]? := fun j hj => by
  unfold stC
  rw [show 33 + j = 32 + j + 1 by omega, List.getElem?_cons_succ, List.getElem?_append_right (by rw [List.length_map, hk]; omega), List.length_map, hk, List.getElem?_append_left (by omega)]
  congr 1
  omega
theorem stC_v {kind : Int} {k u : List UInt8} {v : Value} (hk : k.length = 32) (hu : u.length = 32) : (stC kind k u v)[65]? = some v := by
  unfold stC
  rw [List.getElem?_cons_succ, List.getElem?_append_right (by rw [List.length_map, hk]; omega), List.length_map, hk, List.getElem?_append_right (by rw [List.length_map, hu]; omega), List.length_map, hu]
  rfl

set_option maxRecDepth 100000 in
set_option maxHeartbeats 8000000 in
theorem plays_walk (kind : Int) (k u C X B Y bs : List UInt8) (v : Value) (ee : Int) (lk : k.length = 32) (lu : u.length = 32) (lC : C.length = 32) (lX : X.length = 32) (lB : B.length = 32) (lY : Y.length = 32)
    (c11 : ∀ W, Calls Try.prog 11 #[.agg (k.map byt).toArray] W fun e w' => e = .returned (.agg (C.map byt).toArray) ∧ Below W.heap.size W w')
    (c23 : ∀ W, Calls Try.prog 23 #[.agg (k.map byt).toArray] W fun e w' => e = .returned (.agg (C.map byt).toArray) ∧ Below W.heap.size W w')
    (c10 : ∀ W, Calls Try.prog 10 #[.agg (k.map byt).toArray, .agg (u.map byt).toArray] W fun e w' => e = .returned (.agg (X.map byt).toArray) ∧ Below W.heap.size W w')
    (c24 : ∀ W, Calls Try.prog 24 #[.agg (k.map byt).toArray, .agg (u.map byt).toArray] W fun e w' => e = .returned (.agg (X.map byt).toArray) ∧ Below W.heap.size W w')
    (c14 : ∀ W, Calls Try.prog 14 #[.agg (k.map byt).toArray] W fun e w' => e = .returned (.agg (B.map byt).toArray) ∧ Below W.heap.size W w')
    (c25 : ∀ W, Calls Try.prog 25 #[.agg (k.map byt).toArray] W fun e w' => e = .returned (.agg (B.map byt).toArray) ∧ Below W.heap.size W w')
    (c13 : ∀ W, Calls Try.prog 13 #[.agg (k.map byt).toArray, .agg (u.map byt).toArray] W fun e w' => e = .returned (.tuple #[.agg (Y.map byt).toArray, .int .i64 ee]) ∧ Below W.heap.size W w')
    (c26 : ∀ W, Calls Try.prog 26 #[.agg (k.map byt).toArray, .agg (u.map byt).toArray] W fun e w' => e = .returned (.tuple #[.agg (Y.map byt).toArray, .int .i64 ee]) ∧ Below W.heap.size W w')
    (c27 : ∀ W, Has W v bs → Calls Try.prog 27 #[v] W fun e w' => e = .returned (.bool true) ∧ Below W.heap.size W w')
    (w : World) (hv : Has w v bs) : Calls Try.prog 17 #[.agg (stC kind k u v).toArray] w fun e w' => e = .returned (.bool true) ∧ Below w.heap.size w w' := by
  have hg24 := guard24
  have HV := hide hv
  clear hv
  have heq : ∀ L : List UInt8, L.length = 32 → ∀ W, (Op.equalIn 10000 24 (.agg (L.map byt).toArray) (.agg (L.map byt).toArray)).run Try.prog W = .ok true W := fun L hL W => by
    have := eq23 L L hL hL W
    rwa [decide_eq_true rfl] at this
  have eC := heq C lC
  have eX := heq X lX
  have eB := heq B lB
  have eY := heq Y lY
  clear heq
  go_enter Try.func17, Try.ntmps17
  go_upto_region 1 with (refine wpList_boxAt rfl 47 (.tmp 0) rfl (stC kind k u v) rfl w.heap.size rfl ?_)
  have b0 : Blk (w.alloc (.cells (stC kind k u v).toArray 47)) w.heap.size (stC kind k u v) 47 := Blk.new w _ _
  have be : Below w.heap.size w (w.alloc (.cells (stC kind k u v).toArray 47)) := by go_grown
  generalize w.alloc (.cells (stC kind k u v).toArray 47) = w1 at b0 be ⊢
  obtain ⟨n, hn⟩ : ∃ n, w.heap.size = n := ⟨_, rfl⟩
  rw [hn] at b0 be ⊢
  have R1 : ∀ W, Below w1.heap.size w1 W → W.rangeAt n 1 (k.map byt) := fun W hW => (b0.on hW).range stC_k
  have R2 : ∀ W, Below w1.heap.size w1 W → W.rangeAt n 33 (u.map byt) := fun W hW => (b0.on hW).range (stC_u lk)
  have R0 : ∀ W, Below w1.heap.size w1 W → W.cell? ⟨n, 0, none⟩ = some (.int .i64 kind) := fun W hW => ((b0.on hW).cell 0).trans rfl
  have R3 : ∀ W, Below w1.heap.size w1 W → W.cell? ⟨n, 65, none⟩ = some v := fun W hW => ((b0.on hW).cell 65).trans (stC_v lk lu)
  have V3 : ∀ W, Below w1.heap.size w1 W → Has W v bs := fun W hW => HV.out.below (by rw [hn]; exact be.trans (hW.mono (by have := be.size; omega)))
  refine lst_all ?_
  refine wpLex_cons2 _ (uni_val (by rfl) (Op.fieldAddr 47 (Operand.tmp 1) 0) rfl (.pointer (some ⟨n, 0, none⟩)) (fun o' ho W hW => by go_simp)) (by simp only [Act.put, List.setIfInBounds_toArray, List.set_cons_zero, List.set_cons_succ]; rfl) ?_
  refine wpLex_cons2 _ (uni_val (by rfl) (Op.load 3 (Operand.tmp 7)) rfl (.int .i64 kind) (fun o' ho W hW => by have hc := R0 W hW; go_simp)) (by simp only [Act.put, List.setIfInBounds_toArray, List.set_cons_zero, List.set_cons_succ]; rfl) ?_
  intro w2 hW2
  replace be := be.trans (hW2.mono (by have := be.size; omega))
  clear R0 b0
  replace R1 := fun W (hW : Below w2.heap.size w2 W) => R1 W (hW2.trans (hW.mono hW2.size))
  replace R2 := fun W (hW : Below w2.heap.size w2 W) => R2 W (hW2.trans (hW.mono hW2.size))
  replace R3 := fun W (hW : Below w2.heap.size w2 W) => R3 W (hW2.trans (hW.mono hW2.size))
  replace V3 := fun W (hW : Below w2.heap.size w2 W) => V3 W (hW2.trans (hW.mono hW2.size))
  clear hW2
  by_cases h1 : kind = 1
  · subst h1
    go_upto_region 3 with fail
    refine reg_all (by kernel_rfl) (by kernel_rfl) ?_
    refine wpLex_cons2 _ (uni_val (by rfl) (Op.fieldAddr 47 (Operand.tmp 1) 1) rfl (.pointer (some ⟨n, 1, none⟩)) (fun o' ho W hW => by go_simp)) (by simp only [Act.put, List.setIfInBounds_toArray, List.set_cons_zero, List.set_cons_succ]; rfl) ?_
    refine wpLex_cons2 _ (uni_mid rfl 24 (.tmp 11) rfl n 1 (k.map byt) rfl (fun W hW => R1 W hW) Try.underlying24 rfl (key_info lk)) (by simp only [Act.put, List.setIfInBounds_toArray, List.set_cons_zero, List.set_cons_succ]; rfl) ?_
    refine wpLex_cons2 _ (uni_callF (by rfl) 11 [Operand.tmp 12] #[24] rfl [.agg (k.map byt).toArray] (.agg (C.map byt).toArray) rfl enter11 (fun W hW => c11 W)) (by simp only [Act.put, List.setIfInBounds_toArray, List.set_cons_zero, List.set_cons_succ]; rfl) ?_
    refine wpLex_cons2 _ (uni_val (by rfl) (Op.fieldAddr 47 (Operand.tmp 1) 1) rfl (.pointer (some ⟨n, 1, none⟩)) (fun o' ho W hW => by go_simp)) (by simp only [Act.put, List.setIfInBounds_toArray, List.set_cons_zero, List.set_cons_succ]; rfl) ?_
    refine wpLex_cons2 _ (uni_mid rfl 24 (.tmp 14) rfl n 1 (k.map byt) rfl (fun W hW => R1 W hW) Try.underlying24 rfl (key_info lk)) (by simp only [Act.put, List.setIfInBounds_toArray, List.set_cons_zero, List.set_cons_succ]; rfl) ?_
    refine wpLex_cons2 _ (uni_callF (by rfl) 23 [Operand.tmp 15] #[24] rfl [.agg (k.map byt).toArray] (.agg (C.map byt).toArray) rfl enter23 (fun W hW => c23 W)) (by simp only [Act.put, List.setIfInBounds_toArray, List.set_cons_zero, List.set_cons_succ]; rfl) ?_
    refine wpLex_cons2 _ (uni_val (by rfl) (Op.binOp BinOp.eql 24 (Operand.tmp 13) (Operand.tmp 16) 24) rfl (.bool true) (fun o' ho W hW => by have hq := eC W; go_simp)) (by simp only [Act.put, List.setIfInBounds_toArray, List.set_cons_zero, List.set_cons_succ]; rfl) ?_
    refine wpLex_cons2 _ (uni_val (by rfl) (Op.assign (Operand.tmp 17)) rfl (.bool true) (fun o' ho W hW => by go_simp)) (by simp only [Act.put, List.setIfInBounds_toArray, List.set_cons_zero, List.set_cons_succ]; rfl) ?_
    intro w3 hW
    have be := be.trans (hW.mono (by have := be.size; omega))
    clear hW
    go_wp2
    go_ret
    exact ⟨rfl, by first | (rw [hn]; exact be) | exact be⟩
  by_cases h2 : kind = 2
  · subst h2
    go_upto_region 5 with fail
    refine reg_all (by kernel_rfl) (by kernel_rfl) ?_
    refine wpLex_cons2 _ (uni_val (by rfl) (Op.fieldAddr 47 (Operand.tmp 1) 1) rfl (.pointer (some ⟨n, 1, none⟩)) (fun o' ho W hW => by go_simp)) (by simp only [Act.put, List.setIfInBounds_toArray, List.set_cons_zero, List.set_cons_succ]; rfl) ?_
    refine wpLex_cons2 _ (uni_mid rfl 24 (.tmp 20) rfl n 1 (k.map byt) rfl (fun W hW => R1 W hW) Try.underlying24 rfl (key_info lk)) (by simp only [Act.put, List.setIfInBounds_toArray, List.set_cons_zero, List.set_cons_succ]; rfl) ?_
    refine wpLex_cons2 _ (uni_val (by rfl) (Op.fieldAddr 47 (Operand.tmp 1) 2) rfl (.pointer (some ⟨n, 33, none⟩)) (fun o' ho W hW => by go_simp)) (by simp only [Act.put, List.setIfInBounds_toArray, List.set_cons_zero, List.set_cons_succ]; rfl) ?_
    refine wpLex_cons2 _ (uni_mid rfl 24 (.tmp 22) rfl n 33 (u.map byt) rfl (fun W hW => R2 W hW) Try.underlying24 rfl (key_info lu)) (by simp only [Act.put, List.setIfInBounds_toArray, List.set_cons_zero, List.set_cons_succ]; rfl) ?_
    refine wpLex_cons2 _ (uni_callF (by rfl) 10 [Operand.tmp 21, Operand.tmp 23] #[24, 24] rfl [.agg (k.map byt).toArray, .agg (u.map byt).toArray] (.agg (X.map byt).toArray) rfl enter10 (fun W hW => c10 W)) (by simp only [Act.put, List.setIfInBounds_toArray, List.set_cons_zero, List.set_cons_succ]; rfl) ?_
    refine wpLex_cons2 _ (uni_val (by rfl) (Op.fieldAddr 47 (Operand.tmp 1) 1) rfl (.pointer (some ⟨n, 1, none⟩)) (fun o' ho W hW => by go_simp)) (by simp only [Act.put, List.setIfInBounds_toArray, List.set_cons_zero, List.set_cons_succ]; rfl) ?_
    refine wpLex_cons2 _ (uni_mid rfl 24 (.tmp 25) rfl n 1 (k.map byt) rfl (fun W hW => R1 W hW) Try.underlying24 rfl (key_info lk)) (by simp only [Act.put, List.setIfInBounds_toArray, List.set_cons_zero, List.set_cons_succ]; rfl) ?_
    refine wpLex_cons2 _ (uni_val (by rfl) (Op.fieldAddr 47 (Operand.tmp 1) 2) rfl (.pointer (some ⟨n, 33, none⟩)) (fun o' ho W hW => by go_simp)) (by simp only [Act.put, List.setIfInBounds_toArray, List.set_cons_zero, List.set_cons_succ]; rfl) ?_
    refine wpLex_cons2 _ (uni_mid rfl 24 (.tmp 27) rfl n 33 (u.map byt) rfl (fun W hW => R2 W hW) Try.underlying24 rfl (key_info lu)) (by simp only [Act.put, List.setIfInBounds_toArray, List.set_cons_zero, List.set_cons_succ]; rfl) ?_
    refine wpLex_cons2 _ (uni_callF (by rfl) 24 [Operand.tmp 26, Operand.tmp 28] #[24, 24] rfl [.agg (k.map byt).toArray, .agg (u.map byt).toArray] (.agg (X.map byt).toArray) rfl enter24 (fun W hW => c24 W)) (by simp only [Act.put, List.setIfInBounds_toArray, List.set_cons_zero, List.set_cons_succ]; rfl) ?_
    refine wpLex_cons2 _ (uni_val (by rfl) (Op.binOp BinOp.eql 24 (Operand.tmp 24) (Operand.tmp 29) 24) rfl (.bool true) (fun o' ho W hW => by have hq := eX W; go_simp)) (by simp only [Act.put, List.setIfInBounds_toArray, List.set_cons_zero, List.set_cons_succ]; rfl) ?_
    refine wpLex_cons2 _ (uni_val (by rfl) (Op.assign (Operand.tmp 30)) rfl (.bool true) (fun o' ho W hW => by go_simp)) (by simp only [Act.put, List.setIfInBounds_toArray, List.set_cons_zero, List.set_cons_succ]; rfl) ?_
    intro w3 hW
    have be := be.trans (hW.mono (by have := be.size; omega))
    clear hW
    go_wp2
    go_ret
    exact ⟨rfl, by first | (rw [hn]; exact be) | exact be⟩
  by_cases h3 : kind = 3
  · subst h3
    go_upto_region 7 with fail
    refine reg_all (by kernel_rfl) (by kernel_rfl) ?_
    refine wpLex_cons2 _ (uni_val (by rfl) (Op.fieldAddr 47 (Operand.tmp 1) 1) rfl (.pointer (some ⟨n, 1, none⟩)) (fun o' ho W hW => by go_simp)) (by simp only [Act.put, List.setIfInBounds_toArray, List.set_cons_zero, List.set_cons_succ]; rfl) ?_
    refine wpLex_cons2 _ (uni_mid rfl 24 (.tmp 33) rfl n 1 (k.map byt) rfl (fun W hW => R1 W hW) Try.underlying24 rfl (key_info lk)) (by simp only [Act.put, List.setIfInBounds_toArray, List.set_cons_zero, List.set_cons_succ]; rfl) ?_
    refine wpLex_cons2 _ (uni_callF (by rfl) 14 [Operand.tmp 34] #[24] rfl [.agg (k.map byt).toArray] (.agg (B.map byt).toArray) rfl enter14 (fun W hW => c14 W)) (by simp only [Act.put, List.setIfInBounds_toArray, List.set_cons_zero, List.set_cons_succ]; rfl) ?_
    refine wpLex_cons2 _ (uni_val (by rfl) (Op.fieldAddr 47 (Operand.tmp 1) 1) rfl (.pointer (some ⟨n, 1, none⟩)) (fun o' ho W hW => by go_simp)) (by simp only [Act.put, List.setIfInBounds_toArray, List.set_cons_zero, List.set_cons_succ]; rfl) ?_
    refine wpLex_cons2 _ (uni_mid rfl 24 (.tmp 36) rfl n 1 (k.map byt) rfl (fun W hW => R1 W hW) Try.underlying24 rfl (key_info lk)) (by simp only [Act.put, List.setIfInBounds_toArray, List.set_cons_zero, List.set_cons_succ]; rfl) ?_
    refine wpLex_cons2 _ (uni_callF (by rfl) 25 [Operand.tmp 37] #[24] rfl [.agg (k.map byt).toArray] (.agg (B.map byt).toArray) rfl enter25 (fun W hW => c25 W)) (by simp only [Act.put, List.setIfInBounds_toArray, List.set_cons_zero, List.set_cons_succ]; rfl) ?_
    refine wpLex_cons2 _ (uni_val (by rfl) (Op.binOp BinOp.eql 24 (Operand.tmp 35) (Operand.tmp 38) 24) rfl (.bool true) (fun o' ho W hW => by have hq := eB W; go_simp)) (by simp only [Act.put, List.setIfInBounds_toArray, List.set_cons_zero, List.set_cons_succ]; rfl) ?_
    refine wpLex_cons2 _ (uni_val (by rfl) (Op.assign (Operand.tmp 39)) rfl (.bool true) (fun o' ho W hW => by go_simp)) (by simp only [Act.put, List.setIfInBounds_toArray, List.set_cons_zero, List.set_cons_succ]; rfl) ?_
    intro w3 hW
    have be := be.trans (hW.mono (by have := be.size; omega))
    clear hW
    go_wp2
    go_ret
    exact ⟨rfl, by first | (rw [hn]; exact be) | exact be⟩
  by_cases h4 : kind = 4
  · subst h4
    go_upto_region 9 with fail
    refine lst_then 8 ?_
    simp only [List.take_succ_cons, List.take_zero]
    refine wpLex_cons2 _ (uni_val (by rfl) (Op.fieldAddr 47 (Operand.tmp 1) 1) rfl (.pointer (some ⟨n, 1, none⟩)) (fun o' ho W hW => by go_simp)) (by simp only [Act.put, List.setIfInBounds_toArray, List.set_cons_zero, List.set_cons_succ]; rfl) ?_
    refine wpLex_cons2 _ (uni_mid rfl 24 (.tmp 43) rfl n 1 (k.map byt) rfl (fun W hW => R1 W hW) Try.underlying24 rfl (key_info lk)) (by simp only [Act.put, List.setIfInBounds_toArray, List.set_cons_zero, List.set_cons_succ]; rfl) ?_
    refine wpLex_cons2 _ (uni_val (by rfl) (Op.fieldAddr 47 (Operand.tmp 1) 2) rfl (.pointer (some ⟨n, 33, none⟩)) (fun o' ho W hW => by go_simp)) (by simp only [Act.put, List.setIfInBounds_toArray, List.set_cons_zero, List.set_cons_succ]; rfl) ?_
    refine wpLex_cons2 _ (uni_mid rfl 24 (.tmp 45) rfl n 33 (u.map byt) rfl (fun W hW => R2 W hW) Try.underlying24 rfl (key_info lu)) (by simp only [Act.put, List.setIfInBounds_toArray, List.set_cons_zero, List.set_cons_succ]; rfl) ?_
    refine wpLex_cons2 _ (uni_callF (by rfl) 13 [Operand.tmp 44, Operand.tmp 46] #[24, 24] rfl [.agg (k.map byt).toArray, .agg (u.map byt).toArray] (.tuple #[.agg (Y.map byt).toArray, .int .i64 ee]) rfl enter13 (fun W hW => c13 W)) (by simp only [Act.put, List.setIfInBounds_toArray, List.set_cons_zero, List.set_cons_succ]; rfl) ?_
    refine wpLex_cons2 _ (uni_val (by rfl) (Op.move (Operand.tmp 47)) rfl (.tuple #[.agg (Y.map byt).toArray, .int .i64 ee]) (fun o' ho W hW => by go_simp)) (by simp only [Act.put, List.setIfInBounds_toArray, List.set_cons_zero, List.set_cons_succ]; rfl) ?_
    refine wpLex_cons2 _ (uni_val (by rfl) (Op.extract (Operand.tmp 42) 0) rfl (.agg (Y.map byt).toArray) (fun o' ho W hW => by go_simp)) (by simp only [Act.put, List.setIfInBounds_toArray, List.set_cons_zero, List.set_cons_succ]; rfl) ?_
    refine wpLex_cons2 _ (uni_val (by rfl) (Op.extract (Operand.tmp 42) 1) rfl (.int .i64 ee) (fun o' ho W hW => by go_simp)) (by simp only [Act.put, List.setIfInBounds_toArray, List.set_cons_zero, List.set_cons_succ]; rfl) ?_
    intro w3 hW
    simp only [List.drop_succ_cons, List.drop_zero]
    replace be := be.trans (hW.mono (by have := be.size; omega))
    replace R1 := fun W (hW' : Below w3.heap.size w3 W) => R1 W (hW.trans (hW'.mono hW.size))
    replace R2 := fun W (hW' : Below w3.heap.size w3 W) => R2 W (hW.trans (hW'.mono hW.size))
    clear hW
    obtain ⟨ga, hga⟩ : ∃ g, w3.heap.size = g := ⟨_, rfl⟩
    refine wpList_newAt rfl 24 rfl (z32.map byt) zero23 ga hga ?_
    have ba : Blk (w3.alloc (.cells (z32.map byt).toArray 24)) ga (z32.map byt) 24 := by rw [← hga]; exact Blk.new w3 (z32.map byt) 24
    have al : Below w3.heap.size w3 (w3.alloc (.cells (z32.map byt).toArray 24)) := by go_grown
    simp only [Act.put, List.setIfInBounds_toArray, List.set_cons_zero, List.set_cons_succ]
    refine lst_row rfl rfl 24 (.tmp 3) (.tmp 48) rfl ga (Y.map byt) (z32.map byt) 24 rfl rfl ba (key_info lY) (key_len lY) (byts_one _) ?_
    have al2 : Below w3.heap.size w3 ((w3.alloc (.cells (z32.map byt).toArray 24)).setRow ga (Y.map byt).toArray) := below_setRow al _ _ (by omega)
    replace ba := ba.setRow (Y.map byt)
    generalize (w3.alloc (.cells (z32.map byt).toArray 24)).setRow ga (Y.map byt).toArray = w3x at ba al2 ⊢
    refine lst_val rfl (Op.assign (Operand.tmp 49)) rfl (.int .i64 ee) (fun o' ho => by go_simp) (by simp only [Act.put, List.setIfInBounds_toArray, List.set_cons_zero, List.set_cons_succ]; rfl) ?_
    refine wpList_nil ?_
    replace be := be.trans (al2.mono (by have := be.size; omega))
    replace R1 := fun W (hW' : Below w3x.heap.size w3x W) => R1 W (al2.trans (hW'.mono al2.size))
    replace R2 := fun W (hW' : Below w3x.heap.size w3x W) => R2 W (al2.trans (hW'.mono al2.size))
    clear al al2
    go_upto_region 10 with fail
    refine lst_then 8 ?_
    simp only [List.take_succ_cons, List.take_zero]
    refine wpLex_cons2 _ (uni_val (by rfl) (Op.fieldAddr 47 (Operand.tmp 1) 1) rfl (.pointer (some ⟨n, 1, none⟩)) (fun o' ho W hW => by go_simp)) (by simp only [Act.put, List.setIfInBounds_toArray, List.set_cons_zero, List.set_cons_succ]; rfl) ?_
    refine wpLex_cons2 _ (uni_mid rfl 24 (.tmp 51) rfl n 1 (k.map byt) rfl (fun W hW => R1 W hW) Try.underlying24 rfl (key_info lk)) (by simp only [Act.put, List.setIfInBounds_toArray, List.set_cons_zero, List.set_cons_succ]; rfl) ?_
    refine wpLex_cons2 _ (uni_val (by rfl) (Op.fieldAddr 47 (Operand.tmp 1) 2) rfl (.pointer (some ⟨n, 33, none⟩)) (fun o' ho W hW => by go_simp)) (by simp only [Act.put, List.setIfInBounds_toArray, List.set_cons_zero, List.set_cons_succ]; rfl) ?_
    refine wpLex_cons2 _ (uni_mid rfl 24 (.tmp 53) rfl n 33 (u.map byt) rfl (fun W hW => R2 W hW) Try.underlying24 rfl (key_info lu)) (by simp only [Act.put, List.setIfInBounds_toArray, List.set_cons_zero, List.set_cons_succ]; rfl) ?_
    refine wpLex_cons2 _ (uni_callF (by rfl) 26 [Operand.tmp 52, Operand.tmp 54] #[24, 24] rfl [.agg (k.map byt).toArray, .agg (u.map byt).toArray] (.tuple #[.agg (Y.map byt).toArray, .int .i64 ee]) rfl enter26 (fun W hW => c26 W)) (by simp only [Act.put, List.setIfInBounds_toArray, List.set_cons_zero, List.set_cons_succ]; rfl) ?_
    refine wpLex_cons2 _ (uni_val (by rfl) (Op.move (Operand.tmp 55)) rfl (.tuple #[.agg (Y.map byt).toArray, .int .i64 ee]) (fun o' ho W hW => by go_simp)) (by simp only [Act.put, List.setIfInBounds_toArray, List.set_cons_zero, List.set_cons_succ]; rfl) ?_
    refine wpLex_cons2 _ (uni_val (by rfl) (Op.extract (Operand.tmp 50) 0) rfl (.agg (Y.map byt).toArray) (fun o' ho W hW => by go_simp)) (by simp only [Act.put, List.setIfInBounds_toArray, List.set_cons_zero, List.set_cons_succ]; rfl) ?_
    refine wpLex_cons2 _ (uni_val (by rfl) (Op.extract (Operand.tmp 50) 1) rfl (.int .i64 ee) (fun o' ho W hW => by go_simp)) (by simp only [Act.put, List.setIfInBounds_toArray, List.set_cons_zero, List.set_cons_succ]; rfl) ?_
    intro w4 hW
    simp only [List.drop_succ_cons, List.drop_zero]
    replace be := be.trans (hW.mono (by have := be.size; omega))
    replace R1 := fun W (hW' : Below w4.heap.size w4 W) => R1 W (hW.trans (hW'.mono hW.size))
    replace R2 := fun W (hW' : Below w4.heap.size w4 W) => R2 W (hW.trans (hW'.mono hW.size))
    replace ba := ba.on hW
    clear hW
    obtain ⟨gb, hgb⟩ : ∃ g, w4.heap.size = g := ⟨_, rfl⟩
    refine wpList_newAt rfl 24 rfl (z32.map byt) zero23 gb hgb ?_
    have bb : Blk (w4.alloc (.cells (z32.map byt).toArray 24)) gb (z32.map byt) 24 := by rw [← hgb]; exact Blk.new w4 (z32.map byt) 24
    have al : Below w4.heap.size w4 (w4.alloc (.cells (z32.map byt).toArray 24)) := by go_grown
    simp only [Act.put, List.setIfInBounds_toArray, List.set_cons_zero, List.set_cons_succ]
    refine lst_row rfl rfl 24 (.tmp 5) (.tmp 56) rfl gb (Y.map byt) (z32.map byt) 24 rfl rfl bb (key_info lY) (key_len lY) (byts_one _) ?_
    have al2 : Below w4.heap.size w4 ((w4.alloc (.cells (z32.map byt).toArray 24)).setRow gb (Y.map byt).toArray) := below_setRow al _ _ (by omega)
    replace bb := bb.setRow (Y.map byt)
    generalize (w4.alloc (.cells (z32.map byt).toArray 24)).setRow gb (Y.map byt).toArray = w4x at bb al2 ⊢
    refine lst_val rfl (Op.assign (Operand.tmp 57)) rfl (.int .i64 ee) (fun o' ho => by go_simp) (by simp only [Act.put, List.setIfInBounds_toArray, List.set_cons_zero, List.set_cons_succ]; rfl) ?_
    refine wpList_nil ?_
    replace be := be.trans (al2.mono (by have := be.size; omega))
    replace ba := ba.on al2
    replace R1 := fun W (hW' : Below w4x.heap.size w4x W) => R1 W (al2.trans (hW'.mono al2.size))
    replace R2 := fun W (hW' : Below w4x.heap.size w4x W) => R2 W (al2.trans (hW'.mono al2.size))
    clear al al2
    go_upto_region 11 with fail
    refine lst_all ?_
    refine wpLex_cons2 _ (uni_row rfl 24 (.tmp 3) rfl ga (Y.map byt) 24 rfl (fun W hW => ba.on hW) Try.underlying24 rfl (key_info lY)) (by simp only [Act.put, List.setIfInBounds_toArray, List.set_cons_zero, List.set_cons_succ]; rfl) ?_
    refine wpLex_cons2 _ (uni_row rfl 24 (.tmp 5) rfl gb (Y.map byt) 24 rfl (fun W hW => bb.on hW) Try.underlying24 rfl (key_info lY)) (by simp only [Act.put, List.setIfInBounds_toArray, List.set_cons_zero, List.set_cons_succ]; rfl) ?_
    refine wpLex_cons2 _ (uni_val (by rfl) (Op.binOp BinOp.eql 24 (Operand.tmp 58) (Operand.tmp 59) 24) rfl (.bool true) (fun o' ho W hW => by have hq := eY W; go_simp)) (by simp only [Act.put, List.setIfInBounds_toArray, List.set_cons_zero, List.set_cons_succ]; rfl) ?_
    refine wpLex_cons2 _ (uni_val (by rfl) (Op.move (Operand.tmp 60)) rfl (.bool true) (fun o' ho W hW => by go_simp)) (by simp only [Act.put, List.setIfInBounds_toArray, List.set_cons_zero, List.set_cons_succ]; rfl) ?_
    refine wpLex_cons2 _ (uni_val (by rfl) (Op.move (Operand.tmp 4)) rfl (.int .i64 ee) (fun o' ho W hW => by go_simp)) (by simp only [Act.put, List.setIfInBounds_toArray, List.set_cons_zero, List.set_cons_succ]; rfl) ?_
    refine wpLex_cons2 _ (uni_val (by rfl) (Op.move (Operand.tmp 6)) rfl (.int .i64 ee) (fun o' ho W hW => by go_simp)) (by simp only [Act.put, List.setIfInBounds_toArray, List.set_cons_zero, List.set_cons_succ]; rfl) ?_
    refine wpLex_cons2 _ (uni_val (by rfl) (Op.binOp BinOp.eql 3 (Operand.tmp 62) (Operand.tmp 63) 3) rfl (.bool true) (fun o' ho W hW => by go_simp)) (by simp only [Act.put, List.setIfInBounds_toArray, List.set_cons_zero, List.set_cons_succ]; rfl) ?_
    refine wpLex_cons2 _ (uni_val (by rfl) (Op.pick (Operand.tmp 61) (Operand.tmp 64) (Operand.const (Value.bool false))) rfl (.bool true) (fun o' ho W hW => by go_simp)) (by simp only [Act.put, List.setIfInBounds_toArray, List.set_cons_zero, List.set_cons_succ]; rfl) ?_
    refine wpLex_cons2 _ (uni_val (by rfl) (Op.assign (Operand.tmp 65)) rfl (.bool true) (fun o' ho W hW => by go_simp)) (by simp only [Act.put, List.setIfInBounds_toArray, List.set_cons_zero, List.set_cons_succ]; rfl) ?_
    intro w5 hW
    have be := be.trans (hW.mono (by have := be.size; omega))
    clear hW
    go_wp2
    go_ret
    exact ⟨rfl, by first | (rw [hn]; exact be) | exact be⟩
  by_cases h5 : kind = 5
  · subst h5
    go_upto_region 13 with fail
    refine lst_all ?_
    refine wpLex_cons2 _ (uni_val (by rfl) (Op.fieldAddr 47 (Operand.tmp 1) 3) rfl (.pointer (some ⟨n, 65, none⟩)) (fun o' ho W hW => by go_simp)) (by simp only [Act.put, List.setIfInBounds_toArray, List.set_cons_zero, List.set_cons_succ]; rfl) ?_
    refine wpLex_cons2 _ (uni_val (by rfl) (Op.load 33 (Operand.tmp 68)) rfl (v) (fun o' ho W hW => by have hc := R3 W hW; go_simp)) (by simp only [Act.put, List.setIfInBounds_toArray, List.set_cons_zero, List.set_cons_succ]; rfl) ?_
    refine wpLex_cons2 _ (uni_callF (by rfl) 27 [Operand.tmp 69] #[33] rfl [v] (.bool true) rfl enter27 (fun W hW => c27 W (V3 W hW))) (by simp only [Act.put, List.setIfInBounds_toArray, List.set_cons_zero, List.set_cons_succ]; rfl) ?_
    refine wpLex_cons2 _ (uni_val (by rfl) (Op.assign (Operand.tmp 70)) rfl (.bool true) (fun o' ho W hW => by go_simp)) (by simp only [Act.put, List.setIfInBounds_toArray, List.set_cons_zero, List.set_cons_succ]; rfl) ?_
    intro w3 hW
    have be := be.trans (hW.mono (by have := be.size; omega))
    clear hW
    go_wp2
    go_ret
    exact ⟨rfl, by first | (rw [hn]; exact be) | exact be⟩
  go_wp2
  go_ret
  exact ⟨rfl, by first | (rw [hn]; exact be) | exact be⟩
theorem plays_any (kind : Int) (k u bs : List UInt8) (v : Value) (lk : k.length = 32) (lu : u.length = 32) (hb : bs.length < 9223372036854775800) (w : World) (hv : Has w v bs) :
    Calls Try.prog 17 #[.agg (stC kind k u v).toArray] w fun e w' => e = .returned (.bool true) ∧ Below w.heap.size w w' := by
  have lC : (clampL k).length = 32 := by rw [clamp_length]; exact lk
  have rp : ∀ k : List UInt8, k.length = 32 → ∀ W, Calls Try.prog 25 #[.agg (k.map byt).toArray] W fun e w' => e = .returned (.agg ((publicL k).map byt).toArray) ∧ Below W.heap.size W w' := fun k lk W =>
    refpublic_walk k (publicL k) lk (public_length k) (fun W => reftimes_any k (keyN 9) lk (keyN_length 9) W) W
  refine plays_walk kind k u (clampL k) (timesL k u) (publicL k) (timesL k u) bs v (if timesL k u = z32 then 70 else 0) lk lu lC (times_length k u) (public_length k) (times_length k u)
    (fun W => clamp_any k lk W) (fun W => refclamp_any k lk W) (fun W => times_any k u lk lu W) (fun W => reftimes_any k u lk lu W) (fun W => public_any k lk W) (rp k lk) (fun W => shared_walk k u lk lu W)
    (fun W => refshared_walk k u (timesL k u) lk lu (times_length k u) (fun W => reftimes_any k u lk lu W) W) (fun W hW => ?_) w hv
  refine pair_walk v bs (npL bs) (npE bs) hb (np_length bs) (fun g c W hc hg hr => newpair_both g c bs hc (by omega) W hg hr) (fun W hW => ?_) W hW
  unfold npL npE
  by_cases h : bs.length = 32
  · rw [if_pos h, if_pos h]
    have lC : (clampL bs).length = 32 := by rw [clamp_length]; exact h
    exact refpair_walk v bs (clampL bs) (publicL (clampL bs)) (pairL bs) h lC (public_length _) (pair_length bs h) (fun W => refclamp_any bs h W) (rp _ lC) (fun W => build29 _ _ lC (public_length _) W) W hW
  · rw [if_neg h, if_neg h]
    exact refpair_no v bs h (by omega) W hW

end Go.Proofs.Ytacancfmgnmpiaa
