import Derived.Test.YtacancfmgnmpiaaCalG
set_option linter.unusedVariables false
set_option linter.unusedSimpArgs false
namespace Go.Proofs.Ytacancfmgnmpiaa
open Go.RowKit

set_option maxRecDepth 100000 in
set_option maxHeartbeats 8000000 in
theorem fixed_walk (A B PA PB X Z : List UInt8) (lA : A.length = 32) (lB : B.length = 32) (lPA : PA.length = 32) (lPB : PB.length = 32) (lX : X.length = 32) (lZ : Z.length = 32)
    (c1 : ∀ W, Calls Try.prog 18 #[.int .i64 0, .int .i64 1] W fun e w' => e = .returned (.agg (A.map byt).toArray) ∧ Below W.heap.size W w')
    (c2 : ∀ W, Calls Try.prog 18 #[.int .i64 255, .int .i64 (-1)] W fun e w' => e = .returned (.agg (B.map byt).toArray) ∧ Below W.heap.size W w')
    (c3 : ∀ W, Calls Try.prog 14 #[.agg (A.map byt).toArray] W fun e w' => e = .returned (.agg (PA.map byt).toArray) ∧ Below W.heap.size W w') (c4 : ∀ W, Calls Try.prog 14 #[.agg (B.map byt).toArray] W fun e w' => e = .returned (.agg (PB.map byt).toArray) ∧ Below W.heap.size W w')
    (c5 : ∀ W, Calls Try.prog 13 #[.agg (A.map byt).toArray, .agg (PB.map byt).toArray] W fun e w' => e = .returned (.tuple #[.agg (X.map byt).toArray, .int .i64 0]) ∧ Below W.heap.size W w')
    (c6 : ∀ W, Calls Try.prog 13 #[.agg (B.map byt).toArray, .agg (PA.map byt).toArray] W fun e w' => e = .returned (.tuple #[.agg (X.map byt).toArray, .int .i64 0]) ∧ Below W.heap.size W w')
    (hbz : ∀ W, (Instr.build 24 #[]).run Try.prog W = .ok (.agg (Z.map byt).toArray) W)
    (c7 : ∀ W, Calls Try.prog 13 #[.agg (A.map byt).toArray, .agg (Z.map byt).toArray] W fun e w' => e = .returned (.tuple #[.agg (Z.map byt).toArray, .int .i64 70]) ∧ Below W.heap.size W w')
    (he : ∀ W, (Op.equalIn 10000 24 (.agg (X.map byt).toArray) (.agg (X.map byt).toArray)).run Try.prog W = .ok true W)
    (p0 : (PA.map byt)[0]? = some (.int .u8 143)) (p1 : (PA.map byt)[31]? = some (.int .u8 95)) (q0 : (PB.map byt)[0]? = some (.int .u8 62)) (q1 : (PB.map byt)[31]? = some (.int .u8 21)) (x0 : (X.map byt)[0]? = some (.int .u8 48)) (x1 : (X.map byt)[31]? = some (.int .u8 61))
    (w : World) : Calls Try.prog 9 #[] w fun e w' => e = .returned (.bool true) ∧ Below w.heap.size w w' := by
  go_enter Try.func9, Try.ntmps9
  obtain ⟨n, hn⟩ : ∃ n, w.heap.size = n := ⟨_, rfl⟩
  have be : Below n w w := by rw [← hn]; exact Below.refl _ _
  go_upto_region 1 with fail
  refine lst_new2 2 rfl rfl rfl rfl rfl 24 (z32.map byt) zero23 (by kernel_rfl) 1 rfl rfl rfl (.tmp 11) rfl rfl rfl 2 rfl rfl rfl (.tmp 12) rfl rfl rfl (by decide) (by simp) ?_
  simp only [List.take_succ_cons, List.take_zero]
  refine wpLex_cons2 _ (uni_callF (by rfl) 18 [Operand.const (Value.int IntKind.i64 0), Operand.const (Value.int IntKind.i64 1)] #[3, 3] rfl [Value.int IntKind.i64 0, Value.int IntKind.i64 1] (.agg (A.map byt).toArray) rfl enter18 (fun W hW => c1 W)) (by simp only [Act.put, List.setIfInBounds_toArray, List.set_cons_zero, List.set_cons_succ]; rfl) ?_
  refine wpLex_cons2 _ (uni_callF (by rfl) 18 [Operand.const (Value.int IntKind.i64 255), Operand.const (Value.int IntKind.i64 (-1))] #[3, 3] rfl [Value.int IntKind.i64 255, Value.int IntKind.i64 (-1)] (.agg (B.map byt).toArray) rfl enter18 (fun W hW => c2 W)) (by simp only [Act.put, List.setIfInBounds_toArray, List.set_cons_zero, List.set_cons_succ]; rfl) ?_
  refine ⟨A.map byt, B.map byt, rfl, key_len lA, byts_one _, by simp, rfl, key_len lB, byts_one _, by simp, fun gka gkb w2 lo0 lo1 ne01 hW ka kb => ?_⟩
  simp only [Act.put, List.setIfInBounds_toArray, List.set_cons_zero, List.set_cons_succ]
  replace be := be.trans (hW.mono (by have := be.size; omega))
  clear hW lo0 lo1 ne01 
  clear c1 c2
  go_upto_region 2 with fail
  refine reg_new2S (by kernel_rfl) 4 rfl rfl rfl rfl rfl (by kernel_rfl) (by kernel_rfl) (by kernel_rfl) (by kernel_rfl) (by kernel_rfl) (by kernel_rfl) (by kernel_rfl) (by kernel_rfl) 24 (z32.map byt) zero23 (by kernel_rfl) 3 rfl rfl rfl (.tmp 14) rfl rfl rfl 4 rfl rfl rfl (.tmp 16) rfl rfl rfl (by decide) (by simp) ?_
  simp only [List.take_succ_cons, List.take_zero]
  refine wpLex_cons2 _ (uni_row rfl 24 (.tmp 1) rfl (gka) (A.map byt) 24 rfl (fun W hW => ka.on hW) Try.underlying24 rfl (key_info lA)) (by simp only [Act.put, List.setIfInBounds_toArray, List.set_cons_zero, List.set_cons_succ]; rfl) ?_
  refine wpLex_cons2 _ (uni_callF (by rfl) 14 [Operand.tmp 13] #[24] rfl [.agg (A.map byt).toArray] (.agg (PA.map byt).toArray) rfl enter14 (fun W hW => c3 W)) (by simp only [Act.put, List.setIfInBounds_toArray, List.set_cons_zero, List.set_cons_succ]; rfl) ?_
  refine wpLex_cons2 _ (uni_row rfl 24 (.tmp 2) rfl (gkb) (B.map byt) 24 rfl (fun W hW => kb.on hW) Try.underlying24 rfl (key_info lB)) (by simp only [Act.put, List.setIfInBounds_toArray, List.set_cons_zero, List.set_cons_succ]; rfl) ?_
  refine wpLex_cons2 _ (uni_callF (by rfl) 14 [Operand.tmp 15] #[24] rfl [.agg (B.map byt).toArray] (.agg (PB.map byt).toArray) rfl enter14 (fun W hW => c4 W)) (by simp only [Act.put, List.setIfInBounds_toArray, List.set_cons_zero, List.set_cons_succ]; rfl) ?_
  refine ⟨PA.map byt, PB.map byt, rfl, key_len lPA, byts_one _, by simp, rfl, key_len lPB, byts_one _, by simp, fun gkc gkd w3 lo0 lo1 ne01 hW kc kd => ?_⟩
  simp only [Act.put, List.setIfInBounds_toArray, List.set_cons_zero, List.set_cons_succ]
  replace ka := ka.on hW
  replace kb := kb.on hW
  replace be := be.trans (hW.mono (by have := be.size; omega))
  clear hW lo0 lo1 ne01 w2
  clear c3 c4
  go_upto_region 3 with fail
  refine lst_then 6 ?_
  simp only [List.take_succ_cons, List.take_zero]
  refine wpLex_cons2 _ (uni_row rfl 24 (.tmp 1) rfl (gka) (A.map byt) 24 rfl (fun W hW => ka.on hW) Try.underlying24 rfl (key_info lA)) (by simp only [Act.put, List.setIfInBounds_toArray, List.set_cons_zero, List.set_cons_succ]; rfl) ?_
  refine wpLex_cons2 _ (uni_row rfl 24 (.tmp 4) rfl (gkd) (PB.map byt) 24 rfl (fun W hW => kd.on hW) Try.underlying24 rfl (key_info lPB)) (by simp only [Act.put, List.setIfInBounds_toArray, List.set_cons_zero, List.set_cons_succ]; rfl) ?_
  refine wpLex_cons2 _ (uni_callF (by rfl) 13 [Operand.tmp 18, Operand.tmp 19] #[24, 24] rfl [.agg (A.map byt).toArray, .agg (PB.map byt).toArray] (.tuple #[.agg (X.map byt).toArray, .int .i64 0]) rfl enter13 (fun W hW => c5 W)) (by simp only [Act.put, List.setIfInBounds_toArray, List.set_cons_zero, List.set_cons_succ]; rfl) ?_
  refine wpLex_cons2 _ (uni_val (by rfl) (Op.move (Operand.tmp 20)) rfl ((.tuple #[.agg (X.map byt).toArray, .int .i64 0])) (fun o' ho W _ => by go_simp)) (by simp only [Act.put, List.setIfInBounds_toArray, List.set_cons_zero, List.set_cons_succ]; rfl) ?_
  refine wpLex_cons2 _ (uni_val (by rfl) (Op.extract (Operand.tmp 17) 0) rfl (.agg (X.map byt).toArray) (fun o' ho W _ => by go_simp)) (by simp only [Act.put, List.setIfInBounds_toArray, List.set_cons_zero, List.set_cons_succ]; rfl) ?_
  refine wpLex_cons2 _ (uni_val (by rfl) (Op.extract (Operand.tmp 17) 1) rfl (.int .i64 0) (fun o' ho W _ => by go_simp)) (by simp only [Act.put, List.setIfInBounds_toArray, List.set_cons_zero, List.set_cons_succ]; rfl) ?_
  intro wy hW
  simp only [List.drop_succ_cons, List.drop_zero]
  replace ka := ka.on hW
  replace kb := kb.on hW
  replace kc := kc.on hW
  replace kd := kd.on hW
  replace be := be.trans (hW.mono (by have := be.size; omega))
  clear hW
  obtain ⟨gkx, hgkx⟩ : ∃ g, wy.heap.size = g := ⟨_, rfl⟩
  refine wpList_newAt rfl 24 rfl (z32.map byt) zero23 gkx hgkx ?_
  simp only [Act.put, List.setIfInBounds_toArray, List.set_cons_zero, List.set_cons_succ]
  have ltka := ka.lt
  have ltkb := kb.lt
  have ltkc := kc.lt
  have ltkd := kd.lt
  have kx := Blk.new wy (z32.map byt) 24
  rw [hgkx] at kx ltka ltkb ltkc ltkd
  have hsz := be.size
  rw [hgkx, hn] at hsz
  replace ka := ka.alloc (.cells (z32.map byt).toArray 24)
  replace kb := kb.alloc (.cells (z32.map byt).toArray 24)
  replace kc := kc.alloc (.cells (z32.map byt).toArray 24)
  replace kd := kd.alloc (.cells (z32.map byt).toArray 24)
  replace be := be.alloc (by rw [hgkx]; exact hsz) (.cells (z32.map byt).toArray 24)
  generalize wy.alloc (.cells (z32.map byt).toArray 24) = wv at kx be ⊢ ka kb kc kd
  refine lst_row rfl rfl 24 (.tmp 5) (.tmp 21) rfl gkx (X.map byt) (z32.map byt) 24 rfl rfl kx (key_info lX) (key_len lX) (byts_one _) ?_
  replace kx := kx.setRow (X.map byt)
  replace ka := ka.setRowOther gkx (X.map byt).toArray (by omega)
  replace kb := kb.setRowOther gkx (X.map byt).toArray (by omega)
  replace kc := kc.setRowOther gkx (X.map byt).toArray (by omega)
  replace kd := kd.setRowOther gkx (X.map byt).toArray (by omega)
  replace be := below_setRow be gkx (X.map byt).toArray hsz
  generalize wv.setRow gkx (X.map byt).toArray = w4 at kx be ⊢ ka kb kc kd
  clear hgkx hsz ltka ltkb ltkc ltkd wv wy w3
  refine lst_val rfl (Op.assign (Operand.tmp 22)) rfl (.int .i64 0) (fun o' ho => by go_simp) (by simp only [Act.put, List.setIfInBounds_toArray, List.set_cons_zero, List.set_cons_succ]; rfl) ?_
  refine wpList_nil ?_
  clear c5
  go_upto_region 4 with fail
  refine lst_then 6 ?_
  simp only [List.take_succ_cons, List.take_zero]
  refine wpLex_cons2 _ (uni_row rfl 24 (.tmp 2) rfl (gkb) (B.map byt) 24 rfl (fun W hW => kb.on hW) Try.underlying24 rfl (key_info lB)) (by simp only [Act.put, List.setIfInBounds_toArray, List.set_cons_zero, List.set_cons_succ]; rfl) ?_
  refine wpLex_cons2 _ (uni_row rfl 24 (.tmp 3) rfl (gkc) (PA.map byt) 24 rfl (fun W hW => kc.on hW) Try.underlying24 rfl (key_info lPA)) (by simp only [Act.put, List.setIfInBounds_toArray, List.set_cons_zero, List.set_cons_succ]; rfl) ?_
  refine wpLex_cons2 _ (uni_callF (by rfl) 13 [Operand.tmp 24, Operand.tmp 25] #[24, 24] rfl [.agg (B.map byt).toArray, .agg (PA.map byt).toArray] (.tuple #[.agg (X.map byt).toArray, .int .i64 0]) rfl enter13 (fun W hW => c6 W)) (by simp only [Act.put, List.setIfInBounds_toArray, List.set_cons_zero, List.set_cons_succ]; rfl) ?_
  refine wpLex_cons2 _ (uni_val (by rfl) (Op.move (Operand.tmp 26)) rfl ((.tuple #[.agg (X.map byt).toArray, .int .i64 0])) (fun o' ho W _ => by go_simp)) (by simp only [Act.put, List.setIfInBounds_toArray, List.set_cons_zero, List.set_cons_succ]; rfl) ?_
  refine wpLex_cons2 _ (uni_val (by rfl) (Op.extract (Operand.tmp 23) 0) rfl (.agg (X.map byt).toArray) (fun o' ho W _ => by go_simp)) (by simp only [Act.put, List.setIfInBounds_toArray, List.set_cons_zero, List.set_cons_succ]; rfl) ?_
  refine wpLex_cons2 _ (uni_val (by rfl) (Op.extract (Operand.tmp 23) 1) rfl (.int .i64 0) (fun o' ho W _ => by go_simp)) (by simp only [Act.put, List.setIfInBounds_toArray, List.set_cons_zero, List.set_cons_succ]; rfl) ?_
  intro wy hW
  simp only [List.drop_succ_cons, List.drop_zero]
  replace ka := ka.on hW
  replace kb := kb.on hW
  replace kc := kc.on hW
  replace kd := kd.on hW
  replace kx := kx.on hW
  replace be := be.trans (hW.mono (by have := be.size; omega))
  clear hW
  obtain ⟨gky, hgky⟩ : ∃ g, wy.heap.size = g := ⟨_, rfl⟩
  refine wpList_newAt rfl 24 rfl (z32.map byt) zero23 gky hgky ?_
  simp only [Act.put, List.setIfInBounds_toArray, List.set_cons_zero, List.set_cons_succ]
  have ltka := ka.lt
  have ltkb := kb.lt
  have ltkc := kc.lt
  have ltkd := kd.lt
  have ltkx := kx.lt
  have ky := Blk.new wy (z32.map byt) 24
  rw [hgky] at ky ltka ltkb ltkc ltkd ltkx
  have hsz := be.size
  rw [hgky, hn] at hsz
  replace ka := ka.alloc (.cells (z32.map byt).toArray 24)
  replace kb := kb.alloc (.cells (z32.map byt).toArray 24)
  replace kc := kc.alloc (.cells (z32.map byt).toArray 24)
  replace kd := kd.alloc (.cells (z32.map byt).toArray 24)
  replace kx := kx.alloc (.cells (z32.map byt).toArray 24)
  replace be := be.alloc (by rw [hgky]; exact hsz) (.cells (z32.map byt).toArray 24)
  generalize wy.alloc (.cells (z32.map byt).toArray 24) = wv at ky be ⊢ ka kb kc kd kx
  refine lst_row rfl rfl 24 (.tmp 7) (.tmp 27) rfl gky (X.map byt) (z32.map byt) 24 rfl rfl ky (key_info lX) (key_len lX) (byts_one _) ?_
  replace ky := ky.setRow (X.map byt)
  replace ka := ka.setRowOther gky (X.map byt).toArray (by omega)
  replace kb := kb.setRowOther gky (X.map byt).toArray (by omega)
  replace kc := kc.setRowOther gky (X.map byt).toArray (by omega)
  replace kd := kd.setRowOther gky (X.map byt).toArray (by omega)
  replace kx := kx.setRowOther gky (X.map byt).toArray (by omega)
  replace be := below_setRow be gky (X.map byt).toArray hsz
  generalize wv.setRow gky (X.map byt).toArray = w5 at ky be ⊢ ka kb kc kd kx
  clear hgky hsz ltka ltkb ltkc ltkd ltkx wv wy w4
  refine lst_val rfl (Op.assign (Operand.tmp 28)) rfl (.int .i64 0) (fun o' ho => by go_simp) (by simp only [Act.put, List.setIfInBounds_toArray, List.set_cons_zero, List.set_cons_succ]; rfl) ?_
  refine wpList_nil ?_
  clear c6
  go_upto_region 5 with fail
  refine lst_then 6 ?_
  simp only [List.take_succ_cons, List.take_zero]
  refine wpLex_cons2 _ (uni_row rfl 24 (.tmp 1) rfl (gka) (A.map byt) 24 rfl (fun W hW => ka.on hW) Try.underlying24 rfl (key_info lA)) (by simp only [Act.put, List.setIfInBounds_toArray, List.set_cons_zero, List.set_cons_succ]; rfl) ?_
  refine wpLex_cons2 _ (uni_build0 (by rfl) 24 rfl (.agg (Z.map byt).toArray) hbz) (by simp only [Act.put, List.setIfInBounds_toArray, List.set_cons_zero, List.set_cons_succ]; rfl) ?_
  refine wpLex_cons2 _ (uni_callF (by rfl) 13 [Operand.tmp 30, Operand.tmp 31] #[24, 24] rfl [.agg (A.map byt).toArray, .agg (Z.map byt).toArray] (.tuple #[.agg (Z.map byt).toArray, .int .i64 70]) rfl enter13 (fun W hW => c7 W)) (by simp only [Act.put, List.setIfInBounds_toArray, List.set_cons_zero, List.set_cons_succ]; rfl) ?_
  refine wpLex_cons2 _ (uni_val (by rfl) (Op.move (Operand.tmp 32)) rfl ((.tuple #[.agg (Z.map byt).toArray, .int .i64 70])) (fun o' ho W _ => by go_simp)) (by simp only [Act.put, List.setIfInBounds_toArray, List.set_cons_zero, List.set_cons_succ]; rfl) ?_
  refine wpLex_cons2 _ (uni_val (by rfl) (Op.extract (Operand.tmp 29) 0) rfl (.agg (Z.map byt).toArray) (fun o' ho W _ => by go_simp)) (by simp only [Act.put, List.setIfInBounds_toArray, List.set_cons_zero, List.set_cons_succ]; rfl) ?_
  refine wpLex_cons2 _ (uni_val (by rfl) (Op.extract (Operand.tmp 29) 1) rfl (.int .i64 70) (fun o' ho W _ => by go_simp)) (by simp only [Act.put, List.setIfInBounds_toArray, List.set_cons_zero, List.set_cons_succ]; rfl) ?_
  intro wy hW
  simp only [List.drop_succ_cons, List.drop_zero]
  replace ka := ka.on hW
  replace kb := kb.on hW
  replace kc := kc.on hW
  replace kd := kd.on hW
  replace kx := kx.on hW
  replace ky := ky.on hW
  replace be := be.trans (hW.mono (by have := be.size; omega))
  clear hW
  obtain ⟨gkz, hgkz⟩ : ∃ g, wy.heap.size = g := ⟨_, rfl⟩
  refine wpList_newAt rfl 24 rfl (z32.map byt) zero23 gkz hgkz ?_
  simp only [Act.put, List.setIfInBounds_toArray, List.set_cons_zero, List.set_cons_succ]
  have ltka := ka.lt
  have ltkb := kb.lt
  have ltkc := kc.lt
  have ltkd := kd.lt
  have ltkx := kx.lt
  have ltky := ky.lt
  have kz := Blk.new wy (z32.map byt) 24
  rw [hgkz] at kz ltka ltkb ltkc ltkd ltkx ltky
  have hsz := be.size
  rw [hgkz, hn] at hsz
  replace ka := ka.alloc (.cells (z32.map byt).toArray 24)
  replace kb := kb.alloc (.cells (z32.map byt).toArray 24)
  replace kc := kc.alloc (.cells (z32.map byt).toArray 24)
  replace kd := kd.alloc (.cells (z32.map byt).toArray 24)
  replace kx := kx.alloc (.cells (z32.map byt).toArray 24)
  replace ky := ky.alloc (.cells (z32.map byt).toArray 24)
  replace be := be.alloc (by rw [hgkz]; exact hsz) (.cells (z32.map byt).toArray 24)
  generalize wy.alloc (.cells (z32.map byt).toArray 24) = wv at kz be ⊢ ka kb kc kd kx ky
  refine lst_row rfl rfl 24 (.tmp 9) (.tmp 33) rfl gkz (Z.map byt) (z32.map byt) 24 rfl rfl kz (key_info lZ) (key_len lZ) (byts_one _) ?_
  replace kz := kz.setRow (Z.map byt)
  replace ka := ka.setRowOther gkz (Z.map byt).toArray (by omega)
  replace kb := kb.setRowOther gkz (Z.map byt).toArray (by omega)
  replace kc := kc.setRowOther gkz (Z.map byt).toArray (by omega)
  replace kd := kd.setRowOther gkz (Z.map byt).toArray (by omega)
  replace kx := kx.setRowOther gkz (Z.map byt).toArray (by omega)
  replace ky := ky.setRowOther gkz (Z.map byt).toArray (by omega)
  replace be := below_setRow be gkz (Z.map byt).toArray hsz
  generalize wv.setRow gkz (Z.map byt).toArray = w6 at kz be ⊢ ka kb kc kd kx ky
  clear hgkz hsz ltka ltkb ltkc ltkd ltkx ltky wv wy w5
  refine lst_val rfl (Op.assign (Operand.tmp 34)) rfl (.int .i64 70) (fun o' ho => by go_simp) (by simp only [Act.put, List.setIfInBounds_toArray, List.set_cons_zero, List.set_cons_succ]; rfl) ?_
  refine wpList_nil ?_
  clear c7
  go_upto_region 6 with fail
  refine lst_all ?_
  refine wpLex_cons2 _ (uni_val (by rfl) (Op.move (Operand.tmp 6)) rfl (.int .i64 0) (fun o' ho W _ => by go_simp)) (by simp only [Act.put, List.setIfInBounds_toArray, List.set_cons_zero, List.set_cons_succ]; rfl) ?_
  refine wpLex_cons2 _ (uni_val (by rfl) (Op.binOp BinOp.eql 30 (Operand.tmp 35) (Operand.const (Value.int IntKind.i64 0)) 30) rfl (.bool true) (fun o' ho W _ => by go_simp)) (by simp only [Act.put, List.setIfInBounds_toArray, List.set_cons_zero, List.set_cons_succ]; rfl) ?_
  refine wpLex_cons2 _ (uni_val (by rfl) (Op.move (Operand.tmp 36)) rfl (.bool true) (fun o' ho W _ => by go_simp)) (by simp only [Act.put, List.setIfInBounds_toArray, List.set_cons_zero, List.set_cons_succ]; rfl) ?_
  refine wpLex_cons2 _ (uni_val (by rfl) (Op.move (Operand.tmp 8)) rfl (.int .i64 0) (fun o' ho W _ => by go_simp)) (by simp only [Act.put, List.setIfInBounds_toArray, List.set_cons_zero, List.set_cons_succ]; rfl) ?_
  refine wpLex_cons2 _ (uni_val (by rfl) (Op.binOp BinOp.eql 30 (Operand.tmp 38) (Operand.const (Value.int IntKind.i64 0)) 30) rfl (.bool true) (fun o' ho W _ => by go_simp)) (by simp only [Act.put, List.setIfInBounds_toArray, List.set_cons_zero, List.set_cons_succ]; rfl) ?_
  refine wpLex_cons2 _ (uni_val (by rfl) (Op.pick (Operand.tmp 37) (Operand.tmp 39) (Operand.const (Value.bool false))) rfl (.bool true) (fun o' ho W _ => by go_simp)) (by simp only [Act.put, List.setIfInBounds_toArray, List.set_cons_zero, List.set_cons_succ]; rfl) ?_
  refine wpLex_cons2 _ (uni_val (by rfl) (Op.move (Operand.tmp 40)) rfl (.bool true) (fun o' ho W _ => by go_simp)) (by simp only [Act.put, List.setIfInBounds_toArray, List.set_cons_zero, List.set_cons_succ]; rfl) ?_
  refine wpLex_cons2 _ (uni_val (by rfl) (Op.move (Operand.tmp 10)) rfl (.int .i64 70) (fun o' ho W _ => by go_simp)) (by simp only [Act.put, List.setIfInBounds_toArray, List.set_cons_zero, List.set_cons_succ]; rfl) ?_
  refine wpLex_cons2 _ (uni_val (by rfl) (Op.binOp BinOp.eql 30 (Operand.tmp 42) (Operand.const (Value.int IntKind.i64 70)) 30) rfl (.bool true) (fun o' ho W _ => by go_simp)) (by simp only [Act.put, List.setIfInBounds_toArray, List.set_cons_zero, List.set_cons_succ]; rfl) ?_
  refine wpLex_cons2 _ (uni_val (by rfl) (Op.pick (Operand.tmp 41) (Operand.tmp 43) (Operand.const (Value.bool false))) rfl (.bool true) (fun o' ho W _ => by go_simp)) (by simp only [Act.put, List.setIfInBounds_toArray, List.set_cons_zero, List.set_cons_succ]; rfl) ?_
  refine wpLex_cons2 _ (uni_val (by rfl) (Op.move (Operand.tmp 44)) rfl (.bool true) (fun o' ho W _ => by go_simp)) (by simp only [Act.put, List.setIfInBounds_toArray, List.set_cons_zero, List.set_cons_succ]; rfl) ?_
  refine wpLex_cons2 _ (uni_rowG (by rfl) 24 (.tmp 5) rfl (gkx) (X.map byt) 24 rfl (fun W hW => kx.on hW) Try.underlying24 rfl (key_info lX)) (by simp only [Act.put, List.setIfInBounds_toArray, List.set_cons_zero, List.set_cons_succ]; rfl) ?_
  refine wpLex_cons2 _ (uni_rowG (by rfl) 24 (.tmp 7) rfl (gky) (X.map byt) 24 rfl (fun W hW => ky.on hW) Try.underlying24 rfl (key_info lX)) (by simp only [Act.put, List.setIfInBounds_toArray, List.set_cons_zero, List.set_cons_succ]; rfl) ?_
  refine wpLex_cons2 _ (uni_val (by rfl) (Op.binOp BinOp.eql 24 (Operand.tmp 46) (Operand.tmp 47) 24) rfl (.bool true) (fun o' ho W _ => by have hg := guard24; go_simp)) (by simp only [Act.put, List.setIfInBounds_toArray, List.set_cons_zero, List.set_cons_succ]; rfl) ?_
  refine wpLex_cons2 _ (uni_val (by rfl) (Op.pick (Operand.tmp 45) (Operand.tmp 48) (Operand.const (Value.bool false))) rfl (.bool true) (fun o' ho W _ => by go_simp)) (by simp only [Act.put, List.setIfInBounds_toArray, List.set_cons_zero, List.set_cons_succ]; rfl) ?_
  refine wpLex_cons2 _ (uni_val (by rfl) (Op.move (Operand.tmp 49)) rfl (.bool true) (fun o' ho W _ => by go_simp)) (by simp only [Act.put, List.setIfInBounds_toArray, List.set_cons_zero, List.set_cons_succ]; rfl) ?_
  refine wpLex_cons2 _ (uni_val (by rfl) (Op.indexAddr 24 (Operand.tmp 3) (Operand.const (Value.int IntKind.i64 0))) rfl (.pointer (some ⟨gkc, 0, none⟩)) (fun o' ho W _ => by go_simp)) (by simp only [Act.put, List.setIfInBounds_toArray, List.set_cons_zero, List.set_cons_succ]; rfl) ?_
  refine wpLex_cons2 _ (uni_cell (by rfl) 5 (.tmp 51) rfl (gkc) 0 (.int .u8 143) rfl (fun W hW => ((kc.on hW).cell 0).trans p0) Try.underlying5 rfl) (by simp only [Act.put, List.setIfInBounds_toArray, List.set_cons_zero, List.set_cons_succ]; rfl) ?_
  refine wpLex_cons2 _ (uni_val (by rfl) (Op.binOp BinOp.eql 5 (Operand.tmp 52) (Operand.const (Value.int IntKind.u8 143)) 5) rfl (.bool true) (fun o' ho W _ => by go_simp)) (by simp only [Act.put, List.setIfInBounds_toArray, List.set_cons_zero, List.set_cons_succ]; rfl) ?_
  refine wpLex_cons2 _ (uni_val (by rfl) (Op.pick (Operand.tmp 50) (Operand.tmp 53) (Operand.const (Value.bool false))) rfl (.bool true) (fun o' ho W _ => by go_simp)) (by simp only [Act.put, List.setIfInBounds_toArray, List.set_cons_zero, List.set_cons_succ]; rfl) ?_
  refine wpLex_cons2 _ (uni_val (by rfl) (Op.move (Operand.tmp 54)) rfl (.bool true) (fun o' ho W _ => by go_simp)) (by simp only [Act.put, List.setIfInBounds_toArray, List.set_cons_zero, List.set_cons_succ]; rfl) ?_
  refine wpLex_cons2 _ (uni_val (by rfl) (Op.indexAddr 24 (Operand.tmp 3) (Operand.const (Value.int IntKind.i64 31))) rfl (.pointer (some ⟨gkc, 31, none⟩)) (fun o' ho W _ => by go_simp)) (by simp only [Act.put, List.setIfInBounds_toArray, List.set_cons_zero, List.set_cons_succ]; rfl) ?_
  refine wpLex_cons2 _ (uni_cell (by rfl) 5 (.tmp 56) rfl (gkc) 31 (.int .u8 95) rfl (fun W hW => ((kc.on hW).cell 31).trans p1) Try.underlying5 rfl) (by simp only [Act.put, List.setIfInBounds_toArray, List.set_cons_zero, List.set_cons_succ]; rfl) ?_
  refine wpLex_cons2 _ (uni_val (by rfl) (Op.binOp BinOp.eql 5 (Operand.tmp 57) (Operand.const (Value.int IntKind.u8 95)) 5) rfl (.bool true) (fun o' ho W _ => by go_simp)) (by simp only [Act.put, List.setIfInBounds_toArray, List.set_cons_zero, List.set_cons_succ]; rfl) ?_
  refine wpLex_cons2 _ (uni_val (by rfl) (Op.pick (Operand.tmp 55) (Operand.tmp 58) (Operand.const (Value.bool false))) rfl (.bool true) (fun o' ho W _ => by go_simp)) (by simp only [Act.put, List.setIfInBounds_toArray, List.set_cons_zero, List.set_cons_succ]; rfl) ?_
  refine wpLex_cons2 _ (uni_val (by rfl) (Op.move (Operand.tmp 59)) rfl (.bool true) (fun o' ho W _ => by go_simp)) (by simp only [Act.put, List.setIfInBounds_toArray, List.set_cons_zero, List.set_cons_succ]; rfl) ?_
  refine wpLex_cons2 _ (uni_val (by rfl) (Op.indexAddr 24 (Operand.tmp 4) (Operand.const (Value.int IntKind.i64 0))) rfl (.pointer (some ⟨gkd, 0, none⟩)) (fun o' ho W _ => by go_simp)) (by simp only [Act.put, List.setIfInBounds_toArray, List.set_cons_zero, List.set_cons_succ]; rfl) ?_
  refine wpLex_cons2 _ (uni_cell (by rfl) 5 (.tmp 61) rfl (gkd) 0 (.int .u8 62) rfl (fun W hW => ((kd.on hW).cell 0).trans q0) Try.underlying5 rfl) (by simp only [Act.put, List.setIfInBounds_toArray, List.set_cons_zero, List.set_cons_succ]; rfl) ?_
  refine wpLex_cons2 _ (uni_val (by rfl) (Op.binOp BinOp.eql 5 (Operand.tmp 62) (Operand.const (Value.int IntKind.u8 62)) 5) rfl (.bool true) (fun o' ho W _ => by go_simp)) (by simp only [Act.put, List.setIfInBounds_toArray, List.set_cons_zero, List.set_cons_succ]; rfl) ?_
  refine wpLex_cons2 _ (uni_val (by rfl) (Op.pick (Operand.tmp 60) (Operand.tmp 63) (Operand.const (Value.bool false))) rfl (.bool true) (fun o' ho W _ => by go_simp)) (by simp only [Act.put, List.setIfInBounds_toArray, List.set_cons_zero, List.set_cons_succ]; rfl) ?_
  refine wpLex_cons2 _ (uni_val (by rfl) (Op.move (Operand.tmp 64)) rfl (.bool true) (fun o' ho W _ => by go_simp)) (by simp only [Act.put, List.setIfInBounds_toArray, List.set_cons_zero, List.set_cons_succ]; rfl) ?_
  refine wpLex_cons2 _ (uni_val (by rfl) (Op.indexAddr 24 (Operand.tmp 4) (Operand.const (Value.int IntKind.i64 31))) rfl (.pointer (some ⟨gkd, 31, none⟩)) (fun o' ho W _ => by go_simp)) (by simp only [Act.put, List.setIfInBounds_toArray, List.set_cons_zero, List.set_cons_succ]; rfl) ?_
  refine wpLex_cons2 _ (uni_cell (by rfl) 5 (.tmp 66) rfl (gkd) 31 (.int .u8 21) rfl (fun W hW => ((kd.on hW).cell 31).trans q1) Try.underlying5 rfl) (by simp only [Act.put, List.setIfInBounds_toArray, List.set_cons_zero, List.set_cons_succ]; rfl) ?_
  refine wpLex_cons2 _ (uni_val (by rfl) (Op.binOp BinOp.eql 5 (Operand.tmp 67) (Operand.const (Value.int IntKind.u8 21)) 5) rfl (.bool true) (fun o' ho W _ => by go_simp)) (by simp only [Act.put, List.setIfInBounds_toArray, List.set_cons_zero, List.set_cons_succ]; rfl) ?_
  refine wpLex_cons2 _ (uni_val (by rfl) (Op.pick (Operand.tmp 65) (Operand.tmp 68) (Operand.const (Value.bool false))) rfl (.bool true) (fun o' ho W _ => by go_simp)) (by simp only [Act.put, List.setIfInBounds_toArray, List.set_cons_zero, List.set_cons_succ]; rfl) ?_
  refine wpLex_cons2 _ (uni_val (by rfl) (Op.move (Operand.tmp 69)) rfl (.bool true) (fun o' ho W _ => by go_simp)) (by simp only [Act.put, List.setIfInBounds_toArray, List.set_cons_zero, List.set_cons_succ]; rfl) ?_
  refine wpLex_cons2 _ (uni_val (by rfl) (Op.indexAddr 24 (Operand.tmp 5) (Operand.const (Value.int IntKind.i64 0))) rfl (.pointer (some ⟨gkx, 0, none⟩)) (fun o' ho W _ => by go_simp)) (by simp only [Act.put, List.setIfInBounds_toArray, List.set_cons_zero, List.set_cons_succ]; rfl) ?_
  refine wpLex_cons2 _ (uni_cell (by rfl) 5 (.tmp 71) rfl (gkx) 0 (.int .u8 48) rfl (fun W hW => ((kx.on hW).cell 0).trans x0) Try.underlying5 rfl) (by simp only [Act.put, List.setIfInBounds_toArray, List.set_cons_zero, List.set_cons_succ]; rfl) ?_
  refine wpLex_cons2 _ (uni_val (by rfl) (Op.binOp BinOp.eql 5 (Operand.tmp 72) (Operand.const (Value.int IntKind.u8 48)) 5) rfl (.bool true) (fun o' ho W _ => by go_simp)) (by simp only [Act.put, List.setIfInBounds_toArray, List.set_cons_zero, List.set_cons_succ]; rfl) ?_
  refine wpLex_cons2 _ (uni_val (by rfl) (Op.pick (Operand.tmp 70) (Operand.tmp 73) (Operand.const (Value.bool false))) rfl (.bool true) (fun o' ho W _ => by go_simp)) (by simp only [Act.put, List.setIfInBounds_toArray, List.set_cons_zero, List.set_cons_succ]; rfl) ?_
  refine wpLex_cons2 _ (uni_val (by rfl) (Op.move (Operand.tmp 74)) rfl (.bool true) (fun o' ho W _ => by go_simp)) (by simp only [Act.put, List.setIfInBounds_toArray, List.set_cons_zero, List.set_cons_succ]; rfl) ?_
  refine wpLex_cons2 _ (uni_val (by rfl) (Op.indexAddr 24 (Operand.tmp 5) (Operand.const (Value.int IntKind.i64 31))) rfl (.pointer (some ⟨gkx, 31, none⟩)) (fun o' ho W _ => by go_simp)) (by simp only [Act.put, List.setIfInBounds_toArray, List.set_cons_zero, List.set_cons_succ]; rfl) ?_
  refine wpLex_cons2 _ (uni_cell (by rfl) 5 (.tmp 76) rfl (gkx) 31 (.int .u8 61) rfl (fun W hW => ((kx.on hW).cell 31).trans x1) Try.underlying5 rfl) (by simp only [Act.put, List.setIfInBounds_toArray, List.set_cons_zero, List.set_cons_succ]; rfl) ?_
  refine wpLex_cons2 _ (uni_val (by rfl) (Op.binOp BinOp.eql 5 (Operand.tmp 77) (Operand.const (Value.int IntKind.u8 61)) 5) rfl (.bool true) (fun o' ho W _ => by go_simp)) (by simp only [Act.put, List.setIfInBounds_toArray, List.set_cons_zero, List.set_cons_succ]; rfl) ?_
  refine wpLex_cons2 _ (uni_val (by rfl) (Op.pick (Operand.tmp 75) (Operand.tmp 78) (Operand.const (Value.bool false))) rfl (.bool true) (fun o' ho W _ => by go_simp)) (by simp only [Act.put, List.setIfInBounds_toArray, List.set_cons_zero, List.set_cons_succ]; rfl) ?_
  refine wpLex_cons2 _ (uni_val (by rfl) (Op.assign (Operand.tmp 79)) rfl (.bool true) (fun o' ho W _ => by go_simp)) (by simp only [Act.put, List.setIfInBounds_toArray, List.set_cons_zero, List.set_cons_succ]; rfl) ?_
  intro w9 hW
  replace ka := ka.on hW
  replace kb := kb.on hW
  replace kc := kc.on hW
  replace kd := kd.on hW
  replace kx := kx.on hW
  replace ky := ky.on hW
  replace kz := kz.on hW
  replace be := be.trans (hW.mono (by have := be.size; omega))
  go_wp2
  go_ret
  exact ⟨rfl, by first | (rw [hn]; exact be) | exact be⟩
theorem cell_at {L : List UInt8} {i : Nat} {u : UInt8} (hl : i < L.length) (h : L.getD i 0 = u) : (L.map byt)[i]? = some (.int .u8 (u.toNat : Int)) := by rw [byts_at L i hl, h]
theorem exA_length : exA.length = 32 := cnt_length _ _
theorem exB_length : exB.length = 32 := cnt_length _ _
theorem fixed_any (w : World) : Calls Try.prog 9 #[] w fun e w' => e = .returned (.bool true) ∧ Below w.heap.size w w' := by
  have lA := nb_length nPA
  have lB := nb_length nPB
  have lX := nb_length nX
  refine fixed_walk exA exB (nb nPA) (nb nPB) (nb nX) z32 exA_length exB_length lA lB lX z32_length exA_call exB_call ?_ ?_ ?_ ?_ build24 ?_ ?_
    (cell_at (by omega) bytes_PA.1) (cell_at (by omega) bytes_PA.2) (cell_at (by omega) bytes_PB.1) (cell_at (by omega) bytes_PB.2) (cell_at (by omega) bytes_X.1) (cell_at (by omega) bytes_X.2) w
  · intro W; have := public_any exA exA_length W; rwa [pub_A] at this
  · intro W; have := public_any exB exB_length W; rwa [pub_B] at this
  · intro W; have := shared_walk exA (nb nPB) exA_length lB W; rwa [shr_A, if_neg nX_ne] at this
  · intro W; have := shared_walk exB (nb nPA) exB_length lA W; rwa [shr_B, if_neg nX_ne] at this
  · intro W; have := shared_walk exA z32 exA_length z32_length W; rwa [shr_0, if_pos rfl] at this
  · intro W; have := eq23 (nb nX) (nb nX) lX lX W; rwa [decide_eq_true rfl] at this

end Go.Proofs.Ytacancfmgnmpiaa
