import Derived.Test.YtoceepmehmacbaaDoorKMid
set_option linter.unusedVariables false
set_option linter.unusedSimpArgs false
namespace Go.Proofs.YtoceepmehmacbaaDoor.Cv
open Go.RowKit

set_option maxRecDepth 100000 in
set_option maxHeartbeats 4000000 in
theorem exch_walk (z : Int) (r s : R2) (A B C D : L5)
    (h1 : ∀ W, Calls Tryd.prog 51 #[.int .i64 z, r.x.v, s.x.v] W fun e w' => e = .returned (.tuple #[A.v, B.v]) ∧ Below W.heap.size W w')
    (h2 : ∀ W, Calls Tryd.prog 51 #[.int .i64 z, r.z.v, s.z.v] W fun e w' => e = .returned (.tuple #[C.v, D.v]) ∧ Below W.heap.size W w')
    (w : World) : Calls Tryd.prog 35 #[.int .i64 z, r.v, s.v] w fun e w' => e = .returned (.tuple #[(R2.mk A C).v, (R2.mk B D).v]) ∧ Below w.heap.size w w' := by
  go_enter Tryd.func35, Tryd.ntmps35
  go_upto_region 1 with (first | (refine wpList_boxAt rfl 73 (.tmp 1) rfl (r.cs) rfl (w.heap.size) rfl ?_) | (refine wpList_boxAt rfl 73 (.tmp 2) rfl (s.cs) rfl (w.heap.size + 1) (by simp) ?_) | (refine wpList_newAt rfl 73 rfl zero10.cs zero55 (w.heap.size + 1 + 1) (size2 _ _ _) ?_) | (refine wpList_newAt rfl 73 rfl zero10.cs zero55 (w.heap.size + 1 + 1 + 1) (size3 _ _ _ _) ?_))
  have b0 : Blk ((((w.alloc (.cells (r.cs).toArray 73)).alloc (.cells (s.cs).toArray 73)).alloc (.cells (zero10.cs).toArray 73)).alloc (.cells (zero10.cs).toArray 73)) (w.heap.size) (r.cs) 73 := by
    have := (((Blk.new w (r.cs) 73).alloc (.cells (s.cs).toArray 73)).alloc (.cells (zero10.cs).toArray 73)).alloc (.cells (zero10.cs).toArray 73)
    simpa using this
  have b1 : Blk ((((w.alloc (.cells (r.cs).toArray 73)).alloc (.cells (s.cs).toArray 73)).alloc (.cells (zero10.cs).toArray 73)).alloc (.cells (zero10.cs).toArray 73)) (w.heap.size + 1) (s.cs) 73 := by
    have := ((Blk.new (w.alloc (.cells (r.cs).toArray 73)) (s.cs) 73).alloc (.cells (zero10.cs).toArray 73)).alloc (.cells (zero10.cs).toArray 73)
    simpa using this
  have b2 : Blk ((((w.alloc (.cells (r.cs).toArray 73)).alloc (.cells (s.cs).toArray 73)).alloc (.cells (zero10.cs).toArray 73)).alloc (.cells (zero10.cs).toArray 73)) (w.heap.size + 1 + 1) (zero10.cs) 73 := by
    have := (Blk.new ((w.alloc (.cells (r.cs).toArray 73)).alloc (.cells (s.cs).toArray 73)) (zero10.cs) 73).alloc (.cells (zero10.cs).toArray 73)
    simpa using this
  have b3 : Blk ((((w.alloc (.cells (r.cs).toArray 73)).alloc (.cells (s.cs).toArray 73)).alloc (.cells (zero10.cs).toArray 73)).alloc (.cells (zero10.cs).toArray 73)) (w.heap.size + 1 + 1 + 1) (zero10.cs) 73 := by
    have := Blk.new (((w.alloc (.cells (r.cs).toArray 73)).alloc (.cells (s.cs).toArray 73)).alloc (.cells (zero10.cs).toArray 73)) (zero10.cs) 73
    simpa using this
  have be : Below w.heap.size w ((((w.alloc (.cells (r.cs).toArray 73)).alloc (.cells (s.cs).toArray 73)).alloc (.cells (zero10.cs).toArray 73)).alloc (.cells (zero10.cs).toArray 73)) := by go_grown
  generalize ((((w.alloc (.cells (r.cs).toArray 73)).alloc (.cells (s.cs).toArray 73)).alloc (.cells (zero10.cs).toArray 73)).alloc (.cells (zero10.cs).toArray 73)) = w1 at b0 b1 b2 b3 be ⊢
  obtain ⟨n, hn⟩ : ∃ n, w.heap.size = n := ⟨_, rfl⟩
  rw [hn] at b0 b1 b2 b3 be ⊢
  try simp only [Act.put, List.setIfInBounds_toArray, List.set_cons_zero, List.set_cons_succ]
  refine lst_then 10 ?_
  simp only [List.take_succ_cons, List.take_zero]
  refine wpLex_cons2 _ (uni_val (by rfl) (Op.move (Operand.tmp 0)) rfl (.int .i64 z) (fun o' ho W _ => by go_simp)) (by simp only [Act.put, List.setIfInBounds_toArray, List.set_cons_zero, List.set_cons_succ]; rfl) ?_
  refine wpLex_cons2 _ (uni_val (by rfl) (Op.fieldAddr 73 (Operand.tmp 4) 0) rfl (.pointer (some ⟨n, 0, none⟩)) (fun o' ho W _ => by go_simp)) (by simp only [Act.put, List.setIfInBounds_toArray, List.set_cons_zero, List.set_cons_succ]; rfl) ?_
  refine wpLex_cons2 _ (uni_mid rfl 71 (.tmp 10) rfl (n) 0 r.x.cs rfl (fun W hW => (b0.on hW).range (at_x r)) Tryd.underlying71 rfl (cs_info _)) (by simp only [Act.put, List.setIfInBounds_toArray, List.set_cons_zero, List.set_cons_succ]; rfl) ?_
  refine wpLex_cons2 _ (uni_val (by rfl) (Op.fieldAddr 73 (Operand.tmp 5) 0) rfl (.pointer (some ⟨n + 1, 0, none⟩)) (fun o' ho W _ => by go_simp)) (by simp only [Act.put, List.setIfInBounds_toArray, List.set_cons_zero, List.set_cons_succ]; rfl) ?_
  refine wpLex_cons2 _ (uni_mid rfl 71 (.tmp 12) rfl (n + 1) 0 s.x.cs rfl (fun W hW => (b1.on hW).range (at_x s)) Tryd.underlying71 rfl (cs_info _)) (by simp only [Act.put, List.setIfInBounds_toArray, List.set_cons_zero, List.set_cons_succ]; rfl) ?_
  refine wpLex_cons2 _ (uni_callF (by rfl) 51 [Operand.tmp 9, Operand.tmp 11, Operand.tmp 13] #[3, 71, 71] rfl [.int .i64 z, r.x.v, s.x.v] (.tuple #[A.v, B.v]) rfl enter51 (fun W hW => h1 W)) (by simp only [Act.put, List.setIfInBounds_toArray, List.set_cons_zero, List.set_cons_succ]; rfl) ?_
  refine wpLex_cons2 _ (uni_val (by rfl) (Op.move (Operand.tmp 14)) rfl ((.tuple #[A.v, B.v])) (fun o' ho W _ => by go_simp)) (by simp only [Act.put, List.setIfInBounds_toArray, List.set_cons_zero, List.set_cons_succ]; rfl) ?_
  refine wpLex_cons2 _ (uni_val (by rfl) (Op.extract (Operand.tmp 8) 0) rfl (A.v) (fun o' ho W _ => by go_simp)) (by simp only [Act.put, List.setIfInBounds_toArray, List.set_cons_zero, List.set_cons_succ]; rfl) ?_
  refine wpLex_cons2 _ (uni_val (by rfl) (Op.extract (Operand.tmp 8) 1) rfl (B.v) (fun o' ho W _ => by go_simp)) (by simp only [Act.put, List.setIfInBounds_toArray, List.set_cons_zero, List.set_cons_succ]; rfl) ?_
  refine wpLex_cons2 _ (uni_val (by rfl) (Op.fieldAddr 73 (Operand.tmp 4) 0) rfl (.pointer (some ⟨n, 0, none⟩)) (fun o' ho W _ => by go_simp)) (by simp only [Act.put, List.setIfInBounds_toArray, List.set_cons_zero, List.set_cons_succ]; rfl) ?_
  intro wy hW
  simp only [List.drop_succ_cons, List.drop_zero]
  replace b0 := b0.on hW
  replace b1 := b1.on hW
  replace b2 := b2.on hW
  replace b3 := b3.on hW
  replace be := be.trans (hW.mono (by have := be.size; omega))
  clear hW
  refine lst_store rfl rfl 71 (.tmp 17) (.tmp 15) rfl n 0 A.cs rfl rfl (b0.there (le_x _ _)) (cs_info _) (cs_one _) ?_
  refine lst_val rfl (Op.fieldAddr 73 (Operand.tmp 5) 0) rfl (.pointer (some ⟨n + 1, 0, none⟩)) (fun o' ho => by go_simp) (by simp only [Act.put, List.setIfInBounds_toArray, List.set_cons_zero, List.set_cons_succ]; rfl) ?_
  replace b0 := b0.setCells A.cs 0
  rw [over_x r A] at b0
  replace b1 := b1.setCellsOther (k := n) (by omega) A.cs 0
  replace b2 := b2.setCellsOther (k := n) (by omega) A.cs 0
  replace b3 := b3.setCellsOther (k := n) (by omega) A.cs 0
  replace be := below_setCells (g := n) (by omega) A.cs 0 be
  generalize wy.setCells n 0 A.cs = wv at b0 b1 b2 b3 be ⊢
  refine lst_store rfl rfl 71 (.tmp 18) (.tmp 16) rfl (n + 1) 0 B.cs rfl rfl (b1.there (le_x _ _)) (cs_info _) (cs_one _) ?_
  replace b1 := b1.setCells B.cs 0
  rw [over_x s B] at b1
  replace b0 := b0.setCellsOther (k := n + 1) (by omega) B.cs 0
  replace b2 := b2.setCellsOther (k := n + 1) (by omega) B.cs 0
  replace b3 := b3.setCellsOther (k := n + 1) (by omega) B.cs 0
  replace be := below_setCells (g := n + 1) (by omega) B.cs 0 be
  generalize wv.setCells (n + 1) 0 B.cs = w2 at b0 b1 b2 b3 be ⊢
  clear wv wy w1
  refine wpList_nil ?_
  go_upto_region 2 with fail
  refine lst_then 10 ?_
  simp only [List.take_succ_cons, List.take_zero]
  refine wpLex_cons2 _ (uni_val (by rfl) (Op.move (Operand.tmp 0)) rfl (.int .i64 z) (fun o' ho W _ => by go_simp)) (by simp only [Act.put, List.setIfInBounds_toArray, List.set_cons_zero, List.set_cons_succ]; rfl) ?_
  refine wpLex_cons2 _ (uni_val (by rfl) (Op.fieldAddr 73 (Operand.tmp 4) 1) rfl (.pointer (some ⟨n, 5, none⟩)) (fun o' ho W _ => by go_simp)) (by simp only [Act.put, List.setIfInBounds_toArray, List.set_cons_zero, List.set_cons_succ]; rfl) ?_
  refine wpLex_cons2 _ (uni_mid rfl 71 (.tmp 21) rfl (n) 5 (R2.mk A r.z).z.cs rfl (fun W hW => (b0.on hW).range (at_z (R2.mk A r.z))) Tryd.underlying71 rfl (cs_info _)) (by simp only [Act.put, List.setIfInBounds_toArray, List.set_cons_zero, List.set_cons_succ]; rfl) ?_
  refine wpLex_cons2 _ (uni_val (by rfl) (Op.fieldAddr 73 (Operand.tmp 5) 1) rfl (.pointer (some ⟨n + 1, 5, none⟩)) (fun o' ho W _ => by go_simp)) (by simp only [Act.put, List.setIfInBounds_toArray, List.set_cons_zero, List.set_cons_succ]; rfl) ?_
  refine wpLex_cons2 _ (uni_mid rfl 71 (.tmp 23) rfl (n + 1) 5 (R2.mk B s.z).z.cs rfl (fun W hW => (b1.on hW).range (at_z (R2.mk B s.z))) Tryd.underlying71 rfl (cs_info _)) (by simp only [Act.put, List.setIfInBounds_toArray, List.set_cons_zero, List.set_cons_succ]; rfl) ?_
  refine wpLex_cons2 _ (uni_callF (by rfl) 51 [Operand.tmp 20, Operand.tmp 22, Operand.tmp 24] #[3, 71, 71] rfl [.int .i64 z, (R2.mk A r.z).z.v, (R2.mk B s.z).z.v] (.tuple #[C.v, D.v]) rfl enter51 (fun W hW => h2 W)) (by simp only [Act.put, List.setIfInBounds_toArray, List.set_cons_zero, List.set_cons_succ]; rfl) ?_
  refine wpLex_cons2 _ (uni_val (by rfl) (Op.move (Operand.tmp 25)) rfl ((.tuple #[C.v, D.v])) (fun o' ho W _ => by go_simp)) (by simp only [Act.put, List.setIfInBounds_toArray, List.set_cons_zero, List.set_cons_succ]; rfl) ?_
  refine wpLex_cons2 _ (uni_val (by rfl) (Op.extract (Operand.tmp 19) 0) rfl (C.v) (fun o' ho W _ => by go_simp)) (by simp only [Act.put, List.setIfInBounds_toArray, List.set_cons_zero, List.set_cons_succ]; rfl) ?_
  refine wpLex_cons2 _ (uni_val (by rfl) (Op.extract (Operand.tmp 19) 1) rfl (D.v) (fun o' ho W _ => by go_simp)) (by simp only [Act.put, List.setIfInBounds_toArray, List.set_cons_zero, List.set_cons_succ]; rfl) ?_
  refine wpLex_cons2 _ (uni_val (by rfl) (Op.fieldAddr 73 (Operand.tmp 4) 1) rfl (.pointer (some ⟨n, 5, none⟩)) (fun o' ho W _ => by go_simp)) (by simp only [Act.put, List.setIfInBounds_toArray, List.set_cons_zero, List.set_cons_succ]; rfl) ?_
  intro wy hW
  simp only [List.drop_succ_cons, List.drop_zero]
  replace b0 := b0.on hW
  replace b1 := b1.on hW
  replace b2 := b2.on hW
  replace b3 := b3.on hW
  replace be := be.trans (hW.mono (by have := be.size; omega))
  clear hW
  refine lst_store rfl rfl 71 (.tmp 28) (.tmp 26) rfl n 5 C.cs rfl rfl (b0.there (le_z _ _)) (cs_info _) (cs_one _) ?_
  refine lst_val rfl (Op.fieldAddr 73 (Operand.tmp 5) 1) rfl (.pointer (some ⟨n + 1, 5, none⟩)) (fun o' ho => by go_simp) (by simp only [Act.put, List.setIfInBounds_toArray, List.set_cons_zero, List.set_cons_succ]; rfl) ?_
  replace b0 := b0.setCells C.cs 5
  rw [over_z (R2.mk A r.z) C] at b0
  replace b1 := b1.setCellsOther (k := n) (by omega) C.cs 5
  replace b2 := b2.setCellsOther (k := n) (by omega) C.cs 5
  replace b3 := b3.setCellsOther (k := n) (by omega) C.cs 5
  replace be := below_setCells (g := n) (by omega) C.cs 5 be
  generalize wy.setCells n 5 C.cs = wv at b0 b1 b2 b3 be ⊢
  refine lst_store rfl rfl 71 (.tmp 29) (.tmp 27) rfl (n + 1) 5 D.cs rfl rfl (b1.there (le_z _ _)) (cs_info _) (cs_one _) ?_
  replace b1 := b1.setCells D.cs 5
  rw [over_z (R2.mk B s.z) D] at b1
  replace b0 := b0.setCellsOther (k := n + 1) (by omega) D.cs 5
  replace b2 := b2.setCellsOther (k := n + 1) (by omega) D.cs 5
  replace b3 := b3.setCellsOther (k := n + 1) (by omega) D.cs 5
  replace be := below_setCells (g := n + 1) (by omega) D.cs 5 be
  generalize wv.setCells (n + 1) 5 D.cs = w3 at b0 b1 b2 b3 be ⊢
  clear wv wy w2
  refine wpList_nil ?_
  go_upto_region 3 with fail
  obtain ⟨X, hX⟩ : ∃ X, X = (R2.mk A C) := ⟨_, rfl⟩
  obtain ⟨Y, hY⟩ : ∃ Y, Y = (R2.mk B D) := ⟨_, rfl⟩
  replace b0 : Blk w3 n X.cs 73 := by rw [hX]; exact b0
  replace b1 : Blk w3 (n + 1) Y.cs 73 := by rw [hY]; exact b1
  have rx : ∀ W, (Blk W n X.cs 73 ∧ Blk W (n + 1) Y.cs 73) → W.rangeAt n 0 X.cs := fun W hW j v hv => by
    rw [hW.1.cell, Nat.zero_add]; exact hv
  have ry : ∀ W, (Blk W n X.cs 73 ∧ Blk W (n + 1) Y.cs 73) → W.rangeAt (n + 1) 0 Y.cs := fun W hW j v hv => by
    rw [hW.2.cell, Nat.zero_add]; exact hv
  have H0 : Blk { w3 with drawn := w3.drawn + 1 } n X.cs 73 ∧ Blk { w3 with drawn := w3.drawn + 1 } (n + 1) Y.cs 73 := ⟨b0, b1⟩
  have ce : Below n w { w3 with drawn := w3.drawn + 1 } := be.drew
  have c2 : Blk { w3 with drawn := w3.drawn + 1 } (n + 1 + 1) zero10.cs 73 := b2
  have c3 : Blk { w3 with drawn := w3.drawn + 1 } (n + 1 + 1 + 1) zero10.cs 73 := b3
  refine wp_region_noPanic ?_
  refine wp_region_held (S := fun W => Blk W n X.cs 73 ∧ Blk W (n + 1) Y.cs 73) (by kernel_rfl) ?_
  refine takeH_load (i := 0) rfl 30 rfl 73 (.tmp 4) rfl (by kernel_rfl) (by kernel_rfl) (by kernel_rfl) (fun _ _ _ h => h) (by rfl) n 0 rfl X.cs rfl rx Tryd.underlying73 rfl (rs_info _) H0 ?_
  simp only [Act.put, List.setIfInBounds_toArray, List.set_cons_zero, List.set_cons_succ]
  refine takeH_load (i := 1) rfl 31 rfl 73 (.tmp 5) rfl (by kernel_rfl) (by kernel_rfl) (by kernel_rfl) (fun _ _ _ h => h) (by rfl) (n + 1) 0 rfl Y.cs rfl ry Tryd.underlying73 rfl (rs_info _) H0 ?_
  simp only [Act.put, List.setIfInBounds_toArray, List.set_cons_zero, List.set_cons_succ]
  generalize ({ w3 with drawn := w3.drawn + 1 } : World) = wd at H0 c2 c3 ce ⊢
  refine onlyH (i := 2) (by kernel_rfl) ?_
  refine op_row rfl (by rfl) rfl 73 (.tmp 6) (.tmp 30) rfl (n + 1 + 1) X.cs zero10.cs 73 rfl rfl c2 (rs_info _) (rs_len _ _) (rs_one _) ?_
  have H1 : Blk (wd.setRow (n + 1 + 1) X.cs.toArray) n X.cs 73 ∧ Blk (wd.setRow (n + 1 + 1) X.cs.toArray) (n + 1) Y.cs 73 := ⟨H0.1.setRowOther _ _ (by omega), H0.2.setRowOther _ _ (by omega)⟩
  refine ⟨H1, ?_⟩
  refine onlyH (i := 3) (by kernel_rfl) ?_
  refine op_row rfl (by rfl) rfl 73 (.tmp 7) (.tmp 31) rfl (n + 1 + 1 + 1) Y.cs zero10.cs 73 rfl rfl (c3.setRowOther _ _ (by omega)) (rs_info _) (rs_len _ _) (rs_one _) ?_
  have d2 := (c2.setRow X.cs).setRowOther (n + 1 + 1 + 1) Y.cs.toArray (by omega)
  have d3 := (c3.setRowOther (n + 1 + 1) X.cs.toArray (by omega)).setRow Y.cs
  have de := below_setRow (below_setRow ce (n + 1 + 1) X.cs.toArray (by omega)) (n + 1 + 1 + 1) Y.cs.toArray (by omega)
  refine ⟨⟨H1.1.setRowOther _ _ (by omega), H1.2.setRowOther _ _ (by omega)⟩, ?_⟩
  generalize (wd.setRow (n + 1 + 1) X.cs.toArray).setRow (n + 1 + 1 + 1) Y.cs.toArray = we at d2 d3 de ⊢
  refine wpAnyH_done (by kernel_rfl) ?_ _
  refine NoPanic.normal ?_
  go_wp2
  refine bodyPost_ret (results_cells Tryd.results35 _ _ (n + 1 + 1) (n + 1 + 1 + 1) 73 X.cs.toArray Y.cs.toArray _ rfl rfl d2 d3 Tryd.underlying73 rfl (rs_infoA _) (rs_infoA _)) rfl ?_
  exact ⟨by rw [hX, hY]; rfl, by first | (rw [hn]; exact de) | exact de⟩
theorem exch_odd {z : Int} (h : z % 2 = 1) (r s : R2) (w : World) : Calls Tryd.prog 35 #[.int .i64 z, r.v, s.v] w fun e w' => e = .returned (.tuple #[s.v, r.v]) ∧ Below w.heap.size w w' :=
  exch_walk z r s s.x r.x s.z r.z (fun W => swap_odd h r.x s.x W) (fun W => swap_odd h r.z s.z W) w
theorem exch_even {z : Int} (h : z % 2 = 0) (r s : R2) (w : World) : Calls Tryd.prog 35 #[.int .i64 z, r.v, s.v] w fun e w' => e = .returned (.tuple #[r.v, s.v]) ∧ Below w.heap.size w w' :=
  exch_walk z r s r.x s.x r.z s.z (fun W => swap_even h r.x s.x W) (fun W => swap_even h r.z s.z W) w

set_option maxRecDepth 100000 in
set_option maxHeartbeats 4000000 in
theorem whole_any (r : R2) (w : World) : Calls Tryd.prog 27 #[r.v] w fun e w' => e = .returned (mulE r.x (invE r.z)).v ∧ Below w.heap.size w w' := by
  obtain ⟨I, hI⟩ : ∃ I, I = invE r.z := ⟨_, rfl⟩
  obtain ⟨M, hM⟩ : ∃ M, M = mulE r.x I := ⟨_, rfl⟩
  have h1 : ∀ W, Calls Tryd.prog 39 #[r.z.v] W fun e w' => e = .returned I.v ∧ Below W.heap.size W w' := fun W => by rw [hI]; exact inv_any r.z W
  have h2 : ∀ W, Calls Tryd.prog 38 #[r.x.v, I.v] W fun e w' => e = .returned M.v ∧ Below W.heap.size W w' := fun W => by rw [hM]; exact mul_any r.x I W
  have HM := hide hM
  have HI := hide hI
  rw [← hI, ← hM]
  clear hI hM
  go_enter Tryd.func27, Tryd.ntmps27
  go_upto_region 1 with (first | (refine wpList_boxAt rfl 73 (.tmp 0) rfl (r.cs) rfl (w.heap.size) rfl ?_) | (refine wpList_newAt rfl 71 rfl z5 zero27 (w.heap.size + 1) (size1 _ _) ?_))
  have b0 : Blk ((w.alloc (.cells (r.cs).toArray 73)).alloc (.cells (z5).toArray 71)) (w.heap.size) (r.cs) 73 := by
    have := (Blk.new w (r.cs) 73).alloc (.cells (z5).toArray 71)
    simpa using this
  have b1 : Blk ((w.alloc (.cells (r.cs).toArray 73)).alloc (.cells (z5).toArray 71)) (w.heap.size + 1) (z5) 71 := by
    have := Blk.new (w.alloc (.cells (r.cs).toArray 73)) (z5) 71
    simpa using this
  have be : Below w.heap.size w ((w.alloc (.cells (r.cs).toArray 73)).alloc (.cells (z5).toArray 71)) := by go_grown
  generalize ((w.alloc (.cells (r.cs).toArray 73)).alloc (.cells (z5).toArray 71)) = w1 at b0 b1 be ⊢
  obtain ⟨n, hn⟩ : ∃ n, w.heap.size = n := ⟨_, rfl⟩
  rw [hn] at b0 b1 be ⊢
  try simp only [Act.put, List.setIfInBounds_toArray, List.set_cons_zero, List.set_cons_succ]
  refine reg_putT (by kernel_rfl) 6 rfl rfl (by kernel_rfl) rfl rfl 71 (.tmp 2) (.tmp 8) rfl ?_
  simp only [List.take_succ_cons, List.take_zero]
  refine wpLex_cons2 _ (uni_val (by rfl) (Op.fieldAddr 73 (Operand.tmp 1) 0) rfl (.pointer (some ⟨n, 0, none⟩)) (fun o' ho W _ => by go_simp)) (by simp only [Act.put, List.setIfInBounds_toArray, List.set_cons_zero, List.set_cons_succ]; rfl) ?_
  refine wpLex_cons2 _ (uni_mid rfl 71 (.tmp 3) rfl (n) 0 r.x.cs rfl (fun W hW => (b0.on hW).range (at_x r)) Tryd.underlying71 rfl (cs_info _)) (by simp only [Act.put, List.setIfInBounds_toArray, List.set_cons_zero, List.set_cons_succ]; rfl) ?_
  refine wpLex_cons2 _ (uni_val (by rfl) (Op.fieldAddr 73 (Operand.tmp 1) 1) rfl (.pointer (some ⟨n, 5, none⟩)) (fun o' ho W _ => by go_simp)) (by simp only [Act.put, List.setIfInBounds_toArray, List.set_cons_zero, List.set_cons_succ]; rfl) ?_
  refine wpLex_cons2 _ (uni_mid rfl 71 (.tmp 5) rfl (n) 5 r.z.cs rfl (fun W hW => (b0.on hW).range (at_z r)) Tryd.underlying71 rfl (cs_info _)) (by simp only [Act.put, List.setIfInBounds_toArray, List.set_cons_zero, List.set_cons_succ]; rfl) ?_
  refine wpLex_cons2 _ (uni_callF (by rfl) 39 [Operand.tmp 6] #[71] rfl [r.z.v] (I.v) rfl enter39 (fun W hW => h1 W)) (by simp only [Act.put, List.setIfInBounds_toArray, List.set_cons_zero, List.set_cons_succ]; rfl) ?_
  refine wpLex_cons2 _ (uni_callF (by rfl) 38 [Operand.tmp 4, Operand.tmp 7] #[71, 71] rfl [r.x.v, (I.v)] (M.v) rfl enter38 (fun W hW => h2 W)) (by simp only [Act.put, List.setIfInBounds_toArray, List.set_cons_zero, List.set_cons_succ]; rfl) ?_
  refine ⟨n + 1, M.cs, z5, 71, rfl, rfl, b1, cs_info _, cs_len _, cs_one _, fun wz hW => ?_⟩
  go_wp2
  refine bodyPost_ret (results_cell_row Tryd.results27 _ _ (n + 1) 71 M.cs.toArray (0, 0) _ rfl ((b1.on hW).setRow _) Tryd.underlying71 rfl (cs_infoA _)) rfl ?_
  exact ⟨rfl, by first | (rw [hn]; exact below_setRow (be.trans (hW.mono (by have := be.size; omega))) _ _ (by omega)) | exact below_setRow (be.trans (hW.mono (by have := be.size; omega))) _ _ (by omega)⟩
end Go.Proofs.YtoceepmehmacbaaDoor.Cv
