import Derived.Test.YtacancfmgnmpiaaXt
import Derived.Lib.ConvBytes
import Derived.Laws.StructEq
set_option linter.unusedVariables false
set_option linter.unusedSimpArgs false
namespace Go.Proofs.Ytacancfmgnmpiaa
open Go.RowKit

theorem str_map (bs : List UInt8) : strOfNums (bs.map fun b => (b.toNat : Int)) = ⟨bs.toArray⟩ := by
  unfold strOfNums
  simp only [List.map_map]
  congr 2
  conv => rhs; rw [← List.map_id bs]
  apply List.map_congr_left
  intro x _
  simp
theorem Has.convert {w : World} {v : Value} {bs : List UInt8} (h : Has w v bs) : (Go.convert 33 9 v).run Try.prog w = .ok (.string ⟨bs.toArray⟩) w := by
  rcases h with ⟨rfl, rfl⟩ | ⟨ad, cap, rfl, h2, h3⟩
  · exact run_convert_bytes_nil w 33 5 Try.underlying33 Try.underlying5 0 0 9 Try.underlying9
  · have hl : (loadCells ad bs.length).run Try.prog w = .ok ((bs.map fun b => (b.toNat : Int)).map (Value.int .u8)).toArray w := by
      have := run_loadCells_list (P := Try.prog) w ad ((bs.map fun b => (b.toNat : Int)).map (Value.int .u8)) (fun j v hj => by
        simp only [List.getElem?_map, Option.map_map, Option.map_eq_some_iff] at hj
        obtain ⟨u, hu, rfl⟩ := hj
        exact h3 j u hu)
      simpa using this
    rw [run_convert_bytes_string w 33 9 5 _ bs.length cap Try.underlying33 Try.underlying5 Try.underlying9, run_bytesToString w _ bs.length cap _ hl, foldl_push_bytes]
    have := str_map bs
    unfold strOfNums at this
    simp only [ByteArray.empty, ByteArray.emptyWithCapacity]
    rw [← this]
    simp
    rfl
section
variable {P : Program} {ops : Array Oper} {Q : Exit → Act → World → Prop}
theorem wpList_conv {o : Oper} {rest : List Oper} {a a' : Act} {w w' : World} (hgd : o.guard = none) (src dst : TypeId) (x : Operand) (ho : o.op = .convert src dst x) (v r : Value) (hx : a.eval x = v)
    (hr : (Go.convert src dst v).run P w = .ok r w') (ha : a.put o.dst r = a') (h : wpList P ops Q rest a' w') : wpList P ops Q (o :: rest) a w := by
  refine wpList_plain hgd fun K hK => ?_
  unfold Oper.wp execOp
  simp only [ho, hx, Sem.run_bind, hr, Result.andThen_ok, Sem.run_pure]
  subst ha
  exact hK _ _ h
end
theorem eqArr (d : Nat) (L M : List UInt8) (h1 : L.length = 32) (h2 : M.length = 32) (W : World) : (Op.equalIn (d + 3) 24 (.agg (L.map byt).toArray) (.agg (M.map byt).toArray)).run Try.prog W = .ok (decide (L = M)) W := by
  obtain ⟨i0, hi, _⟩ := info_parts Try.info5
  rw [run_equalIn_array W (d + 2) (L.map byt).toArray (M.map byt).toArray Try.underlying24 hi]
  have hc : Try.prog.cellsOf 5 = 1 := by kernel_rfl
  rw [hc, eqItems_is L M (d + 1) W _ (fun i hi => by have := List.mem_range.1 hi; omega)]
  congr 1
  by_cases hq : L = M
  · subst hq
    simp
  · rw [decide_eq_false hq, List.all_eq_false]
    refine Classical.byContradiction fun hn => hq (getD_ext h1 h2 fun i hi => ?_)
    refine Classical.byContradiction fun hne => hn ⟨i, List.mem_range.2 hi, ?_⟩
    simpa using hne
theorem part24 (L : List UInt8) (off : Nat) (W : World) : (part 24 (L.map byt).toArray off).run Try.prog W = .ok (.agg (((L.drop off).take 32).map byt).toArray) W := by
  have hagg : (isAgg 24).run Try.prog W = .ok true W := by
    unfold isAgg
    rw [Sem.run_bind, run_underlying Try.underlying24 W]
    rfl
  have hs : (sizeOf 24).run Try.prog W = .ok 32 W := by kernel_rfl
  simp only [part, Sem.run_bind, hagg, Result.andThen_ok, if_true, hs, Sem.run_pure]
  congr 2
  simp [List.map_take, List.map_drop]
theorem fields29 : (Try.prog.fieldsOf 29).toList.map (fun f => (f.name, f.type, f.offset)) = [("Priv", 24, 0), ("Pub", 24, 32)] := by kernel_rfl
theorem eqPair (L : List UInt8) (h : L.length = 64) (W : World) : (Op.equalIn 10000 29 (.agg (L.map byt).toArray) (.agg (L.map byt).toArray)).run Try.prog W = .ok true W := by
  rw [run_equalIn_struct W 9999 29 _ _ (by kernel_rfl) (by kernel_rfl)]
  have hf := fields29
  generalize (Try.prog.fieldsOf 29).toList = fs at hf
  have hl2 : fs.length = 2 := by have := congrArg List.length hf; simpa using this
  match fs, hl2 with
  | [f0, f1], _ =>
    simp only [List.map_cons, List.map_nil, List.cons.injEq, Prod.mk.injEq, and_true] at hf
    obtain ⟨⟨a1, a2, a3⟩, b1, b2, b3⟩ := hf
    have e0 := eqArr 9996 ((L.drop 0).take 32) ((L.drop 0).take 32) (by simp [h]) (by simp [h]) W
    have e1 := eqArr 9996 ((L.drop 32).take 32) ((L.drop 32).take 32) (by simp [h]) (by simp [h]) W
    have n0 : f0.name ≠ "_" := by rw [a1]; decide
    have n1 : f1.name ≠ "_" := by rw [b1]; decide
    simp only [Op.eqFields, n0, n1, ne_eq, not_false_eq_true, if_true, Sem.run_bind, a2, a3, b2, b3, part24, Result.andThen_ok, e0, e1, decide_true, Bool.not_true, Bool.false_eq_true, if_false, Sem.run_pure]
theorem guard29 : Try.prog.eqGuardType Try.prog.depth 29 = false := by kernel_rfl
/-- What NewPair answers. -/
def npL (bs : List UInt8) : List UInt8 := if bs.length = 32 then pairL bs else z64
def npE (bs : List UInt8) : Int := if bs.length = 32 then 0 else 71
theorem np_length (bs : List UInt8) : (npL bs).length = 64 := by
  unfold npL
  split
  · rename_i h; exact pair_length bs h
  · exact z64_length
theorem newpair_both (g c : Nat) (bs : List UInt8) (hc : bs.length ≤ c) (hb : bs.length < 9223372036854775808) (w : World) (hg : g < w.heap.size) (hr : w.rangeAt g 0 (bs.map byt)) :
    Calls Try.prog 12 #[.slice (some ⟨g, 0, none⟩) bs.length c] w fun e w' => e = .returned (.tuple #[.agg ((npL bs).map byt).toArray, .int .i64 (npE bs)]) ∧ Below w.heap.size w w' := by
  unfold npL npE
  by_cases h : bs.length = 32
  · rw [if_pos h, if_pos h, h]
    exact newpair_any g c bs h w hg hr
  · rw [if_neg h, if_neg h]
    refine newpair_no _ bs h hb w (.inr ⟨_, c, rfl, hc, fun i u hu => ?_⟩)
    have := hr i (byt u) (by simp [hu])
    rw [show (⟨g, 0, none⟩ : Addr).add i = ⟨g, i, none⟩ by unfold Addr.add; split <;> simp_all]
    simpa using this
theorem bytesW_below (w : World) (e : TypeId) (s : ByteArray) {n : Nat} (h : n ≤ w.heap.size) : Below n w (Lib.bytesWorld w e s) := by
  refine ⟨?_, ?_, ?_, by rw [Lib.bytesWorld_size]; omega, fun k hk => Lib.bytesWorld_at_old w e s k (by omega)⟩ <;> simp [Lib.bytesWorld, World.freeze, World.alloc, World.drew, -World.alloc_eq, -World.drew_eq]
theorem rangeOn {w w' : World} {g o : Nat} {cs : List Value} (h : w.rangeAt g o cs) (hg : g < w.heap.size) (hb : Below w.heap.size w w') : w'.rangeAt g o cs := fun j v hv => by
  rw [hb.cell hg]; exact h j v hv

set_option maxRecDepth 100000 in
set_option maxHeartbeats 4000000 in
theorem pair_walk (v : Value) (bs PL : List UInt8) (ee : Int) (hb : bs.length < 9223372036854775800) (lP : PL.length = 64)
    (cn : ∀ (g c : Nat) (W : World), bs.length ≤ c → g < W.heap.size → W.rangeAt g 0 (bs.map byt) → Calls Try.prog 12 #[.slice (some ⟨g, 0, none⟩) bs.length c] W fun e w' => e = .returned (.tuple #[.agg (PL.map byt).toArray, .int .i64 ee]) ∧ Below W.heap.size W w')
    (cr : ∀ (W : World), Has W v bs → Calls Try.prog 44 #[v] W fun e w' => e = .returned (.tuple #[.agg (PL.map byt).toArray, .int .i64 ee]) ∧ Below W.heap.size W w')
    (w : World) (hv : Has w v bs) : Calls Try.prog 27 #[v] w fun e w' => e = .returned (.bool true) ∧ Below w.heap.size w w' := by
  have he29 := fun W => eqPair PL lP W
  have hg29 := guard29
  have CN := hide cn
  have CR := hide cr
  have HV := hide hv
  have HB := hide hb
  have hlen := hv.len
  clear cn cr hb hv
  obtain ⟨S, hS⟩ : ∃ S : ByteArray, S = ⟨(bs ++ [85, 170]).toArray⟩ := ⟨_, rfl⟩
  have hap : (⟨bs.toArray⟩ : ByteArray) ++ ⟨#[85, 170]⟩ = S := by rw [hS]; apply ByteArray.ext; simp
  have hnl : ¬ 9223372036854775807 < bs.length + 2 := by have := HB.out; omega
  have HS := hide hS
  clear hS
  go_enter Try.func27, Try.ntmps27
  go_upto_region 1 with fail
  refine lst_then 3 ?_
  simp only [List.take_succ_cons, List.take_zero]
  refine wpLex_cons2 _ (uni_val (by rfl) (Op.move (Operand.tmp 0)) rfl (v) (fun o' ho W hW => by go_simp)) (by simp only [Act.put, List.setIfInBounds_toArray, List.set_cons_zero, List.set_cons_succ]; rfl) ?_
  refine wpLex_cons2 _ (uni_val (by rfl) (Op.convert 33 9 (Operand.tmp 8)) rfl (.string ⟨bs.toArray⟩) (fun o' ho W hW => by have hcv := (HV.out.below hW).convert; go_simp)) (by simp only [Act.put, List.setIfInBounds_toArray, List.set_cons_zero, List.set_cons_succ]; rfl) ?_
  refine wpLex_cons2 _ (uni_val (by rfl) (Op.binOp BinOp.add 9 (Operand.tmp 9) (Operand.const (Value.string { data := #[85, 170] })) 9) rfl (.string S) (fun o' ho W hW => by first | (go_simp; done) | (go_simp; rw [if_neg hnl, hap]))) (by simp only [Act.put, List.setIfInBounds_toArray, List.set_cons_zero, List.set_cons_succ]; rfl) ?_
  intro w1 hW
  simp only [List.drop_succ_cons, List.drop_zero]
  have be : Below w.heap.size w w1 := hW
  clear hW
  obtain ⟨c, hc⟩ : ∃ c, grownCap w1 S.size 0 5 = c := ⟨_, rfl⟩
  have hcv := Lib.run_convert_string_bytes (P := Try.prog) w1 9 33 5 S Try.underlying9 Try.underlying33 Try.underlying5
  have hge := grownCap_ge w1 S.size 0 5
  have hsz : S.size = bs.length + 2 := by rw [HS.out]; simp [ByteArray.size]
  rw [hc] at hcv hge
  rw [hsz] at hcv hge
  obtain ⟨g, hg⟩ : ∃ g, w1.heap.size = g := ⟨_, rfl⟩
  obtain ⟨w2, hw2⟩ : ∃ w2, Lib.bytesWorld w1 5 S = w2 := ⟨_, rfl⟩
  have hcell : ∀ j, j < bs.length + 2 → w2.cell? ⟨g, j, none⟩ = some (byt ((bs ++ [85, 170]).getD j 0)) := fun j hj => by
    have := Lib.bytesWorld_cell w1 5 S j (by rw [hsz]; exact hj)
    rw [hw2, hg] at this
    rw [this, HS.out]
    rfl
  have be2 : Below w.heap.size w w2 := by
    rw [← hw2]
    exact be.trans (bytesW_below w1 5 S (by have := be.size; omega))
  have hg2 : g < w2.heap.size := by rw [← hw2, Lib.bytesWorld_size, hg]; omega
  rw [hw2, hg] at hcv
  have HD : Hid (Has w2 (.slice (some ⟨g, 0, none⟩) (bs.length + 2) c) (bs ++ [85, 170])) := hide (.inr ⟨⟨g, 0, none⟩, c, by simp, by simpa using hge, fun i u hu => by
    have hi : i < bs.length + 2 := by have := (List.getElem?_eq_some_iff.1 hu).1; simpa using this
    rw [show (⟨g, 0, none⟩ : Addr).add i = ⟨g, i, none⟩ by unfold Addr.add; split <;> simp_all, hcell i hi, List.getD_eq_getElem?_getD, hu]; rfl⟩)
  have HR : Hid (w2.rangeAt g 0 (bs.map byt)) := hide (fun j x hj => by
    have hj2 : j < bs.length := by have := (List.getElem?_eq_some_iff.1 hj).1; simpa using this
    rw [List.getElem?_map, List.getElem?_eq_getElem hj2] at hj
    rw [Nat.zero_add, hcell j (by omega), List.getD_eq_getElem?_getD, List.getElem?_append_left hj2, List.getElem?_eq_getElem hj2]; simpa using hj)
  have HG2 := hide hg2
  have BE := hide be2
  have HGE := hide hge
  clear hcell be be2 hg2 hw2 hg hc hsz
  refine wpList_conv rfl 9 33 (.tmp 10) rfl (.string S) _ rfl hcv (by simp only [Act.put, List.setIfInBounds_toArray, List.set_cons_zero, List.set_cons_succ]; rfl) ?_
  refine lst_val rfl (Op.assign (Operand.tmp 11)) rfl (.slice (some ⟨g, 0, none⟩) (bs.length + 2) c) (fun o' ho => by go_simp) (by simp only [Act.put, List.setIfInBounds_toArray, List.set_cons_zero, List.set_cons_succ]; rfl) ?_
  refine wpList_nil ?_
  clear hcv w1
  go_upto_region 2 with fail
  refine lst_then 8 ?_
  simp only [List.take_succ_cons, List.take_zero]
  refine wpLex_cons2 _ (uni_val (by rfl) (Op.move (Operand.tmp 3)) rfl (.slice (some ⟨g, 0, none⟩) (bs.length + 2) c) (fun o' ho W hW => by go_simp)) (by simp only [Act.put, List.setIfInBounds_toArray, List.set_cons_zero, List.set_cons_succ]; rfl) ?_
  refine wpLex_cons2 _ (uni_val (by rfl) (Op.move (Operand.tmp 0)) rfl (v) (fun o' ho W hW => by go_simp)) (by simp only [Act.put, List.setIfInBounds_toArray, List.set_cons_zero, List.set_cons_succ]; rfl) ?_
  refine wpLex_cons2 _ (uni_val (by rfl) (Op.call { callee := Callee.builtin Builtin.len, args := #[Operand.tmp 14], argTypes := #[33] }) rfl (.int .i64 (bs.length : Int)) (fun o' ho W hW => by go_simp)) (by simp only [Act.put, List.setIfInBounds_toArray, List.set_cons_zero, List.set_cons_succ]; rfl) ?_
  refine wpLex_cons2 _ (uni_val (by rfl) (Op.slice 33 (Operand.tmp 13) none (some (Operand.tmp 15)) none) rfl (.slice (some ⟨g, 0, none⟩) bs.length c) (fun o' ho W hW => by have h1 : bs.length ≤ c := Nat.le_trans (Nat.le_add_right _ 2) HGE.out; have h2 : (bs.length : Int) ≤ (c : Int) := Int.ofNat_le.2 h1; go_simp)) (by simp only [Act.put, List.setIfInBounds_toArray, List.set_cons_zero, List.set_cons_succ]; rfl) ?_
  refine wpLex_cons2 _ (uni_callF (by rfl) 12 [Operand.tmp 16] #[33] rfl [.slice (some ⟨g, 0, none⟩) bs.length c] (.tuple #[.agg (PL.map byt).toArray, .int .i64 ee]) rfl enter12 (fun W hW => CN.out g c W (Nat.le_trans (Nat.le_add_right _ 2) HGE.out) (Nat.lt_of_lt_of_le HG2.out hW.size) (rangeOn HR.out HG2.out hW))) (by simp only [Act.put, List.setIfInBounds_toArray, List.set_cons_zero, List.set_cons_succ]; rfl) ?_
  refine wpLex_cons2 _ (uni_val (by rfl) (Op.move (Operand.tmp 17)) rfl (.tuple #[.agg (PL.map byt).toArray, .int .i64 ee]) (fun o' ho W hW => by go_simp)) (by simp only [Act.put, List.setIfInBounds_toArray, List.set_cons_zero, List.set_cons_succ]; rfl) ?_
  refine wpLex_cons2 _ (uni_val (by rfl) (Op.extract (Operand.tmp 12) 0) rfl (.agg (PL.map byt).toArray) (fun o' ho W hW => by go_simp)) (by simp only [Act.put, List.setIfInBounds_toArray, List.set_cons_zero, List.set_cons_succ]; rfl) ?_
  refine wpLex_cons2 _ (uni_val (by rfl) (Op.extract (Operand.tmp 12) 1) rfl (.int .i64 ee) (fun o' ho W hW => by go_simp)) (by simp only [Act.put, List.setIfInBounds_toArray, List.set_cons_zero, List.set_cons_succ]; rfl) ?_
  intro w3 hW
  simp only [List.drop_succ_cons, List.drop_zero]
  have BE := hide (BE.out.trans (hW.mono (by have := BE.out.size; omega)))
  have HD := hide (HD.out.below hW)
  clear hW HG2 HR HGE
  obtain ⟨g4, hg4⟩ : ∃ g, w3.heap.size = g := ⟨_, rfl⟩
  refine wpList_newAt rfl 29 rfl (z64.map byt) zero29 g4 hg4 ?_
  have b4 : Blk (w3.alloc (.cells (z64.map byt).toArray 29)) g4 (z64.map byt) 29 := by rw [← hg4]; exact Blk.new w3 (z64.map byt) 29
  have al : Below w3.heap.size w3 (w3.alloc (.cells (z64.map byt).toArray 29)) := by go_grown
  simp only [Act.put, List.setIfInBounds_toArray, List.set_cons_zero, List.set_cons_succ]
  refine lst_row rfl rfl 29 (.tmp 4) (.tmp 18) rfl g4 (PL.map byt) (z64.map byt) 29 rfl rfl b4 (pair_info lP) (pair_len lP) (byts_one _) ?_
  have al2 : Below w3.heap.size w3 ((w3.alloc (.cells (z64.map byt).toArray 29)).setRow g4 (PL.map byt).toArray) := below_setRow al _ _ (by omega)
  replace b4 := b4.setRow (PL.map byt)
  generalize (w3.alloc (.cells (z64.map byt).toArray 29)).setRow g4 (PL.map byt).toArray = w3x at b4 al2 ⊢
  refine lst_val rfl (Op.assign (Operand.tmp 19)) rfl (.int .i64 ee) (fun o' ho => by go_simp) (by simp only [Act.put, List.setIfInBounds_toArray, List.set_cons_zero, List.set_cons_succ]; rfl) ?_
  refine wpList_nil ?_
  have BE := hide (BE.out.trans (al2.mono (by have := BE.out.size; omega)))
  have HD := hide (HD.out.below al2)
  clear al al2 hg4
  go_upto_region 3 with fail
  refine lst_then 5 ?_
  simp only [List.take_succ_cons, List.take_zero]
  refine wpLex_cons2 _ (uni_val (by rfl) (Op.move (Operand.tmp 0)) rfl (v) (fun o' ho W hW => by go_simp)) (by simp only [Act.put, List.setIfInBounds_toArray, List.set_cons_zero, List.set_cons_succ]; rfl) ?_
  refine wpLex_cons2 _ (uni_callF (by rfl) 44 [Operand.tmp 21] #[33] rfl [v] (.tuple #[.agg (PL.map byt).toArray, .int .i64 ee]) rfl enter44 (fun W hW => CR.out W (HV.out.below (BE.out.trans (hW.mono (by have := BE.out.size; omega)))))) (by simp only [Act.put, List.setIfInBounds_toArray, List.set_cons_zero, List.set_cons_succ]; rfl) ?_
  refine wpLex_cons2 _ (uni_val (by rfl) (Op.move (Operand.tmp 22)) rfl (.tuple #[.agg (PL.map byt).toArray, .int .i64 ee]) (fun o' ho W hW => by go_simp)) (by simp only [Act.put, List.setIfInBounds_toArray, List.set_cons_zero, List.set_cons_succ]; rfl) ?_
  refine wpLex_cons2 _ (uni_val (by rfl) (Op.extract (Operand.tmp 20) 0) rfl (.agg (PL.map byt).toArray) (fun o' ho W hW => by go_simp)) (by simp only [Act.put, List.setIfInBounds_toArray, List.set_cons_zero, List.set_cons_succ]; rfl) ?_
  refine wpLex_cons2 _ (uni_val (by rfl) (Op.extract (Operand.tmp 20) 1) rfl (.int .i64 ee) (fun o' ho W hW => by go_simp)) (by simp only [Act.put, List.setIfInBounds_toArray, List.set_cons_zero, List.set_cons_succ]; rfl) ?_
  intro w4 hW
  simp only [List.drop_succ_cons, List.drop_zero]
  have BE := hide (BE.out.trans (hW.mono (by have := BE.out.size; omega)))
  have HD := hide (HD.out.below hW)
  replace b4 := b4.on hW
  clear hW 
  obtain ⟨g6, hg6⟩ : ∃ g, w4.heap.size = g := ⟨_, rfl⟩
  refine wpList_newAt rfl 29 rfl (z64.map byt) zero29 g6 hg6 ?_
  have b6 : Blk (w4.alloc (.cells (z64.map byt).toArray 29)) g6 (z64.map byt) 29 := by rw [← hg6]; exact Blk.new w4 (z64.map byt) 29
  have al : Below w4.heap.size w4 (w4.alloc (.cells (z64.map byt).toArray 29)) := by go_grown
  simp only [Act.put, List.setIfInBounds_toArray, List.set_cons_zero, List.set_cons_succ]
  refine lst_row rfl rfl 29 (.tmp 6) (.tmp 23) rfl g6 (PL.map byt) (z64.map byt) 29 rfl rfl b6 (pair_info lP) (pair_len lP) (byts_one _) ?_
  have al2 : Below w4.heap.size w4 ((w4.alloc (.cells (z64.map byt).toArray 29)).setRow g6 (PL.map byt).toArray) := below_setRow al _ _ (by omega)
  replace b6 := b6.setRow (PL.map byt)
  generalize (w4.alloc (.cells (z64.map byt).toArray 29)).setRow g6 (PL.map byt).toArray = w4x at b6 al2 ⊢
  refine lst_val rfl (Op.assign (Operand.tmp 24)) rfl (.int .i64 ee) (fun o' ho => by go_simp) (by simp only [Act.put, List.setIfInBounds_toArray, List.set_cons_zero, List.set_cons_succ]; rfl) ?_
  refine wpList_nil ?_
  have BE := hide (BE.out.trans (al2.mono (by have := BE.out.size; omega)))
  have HD := hide (HD.out.below al2)
  replace b4 := b4.on al2
  clear al al2 hg6
  go_upto_region 4 with fail
  refine lst_all ?_
  refine wpLex_cons2 _ (uni_row rfl 29 (.tmp 4) rfl g4 (PL.map byt) 29 rfl (fun W hW => b4.on hW) Try.underlying29 rfl (pair_info lP)) (by simp only [Act.put, List.setIfInBounds_toArray, List.set_cons_zero, List.set_cons_succ]; rfl) ?_
  refine wpLex_cons2 _ (uni_row rfl 29 (.tmp 6) rfl g6 (PL.map byt) 29 rfl (fun W hW => b6.on hW) Try.underlying29 rfl (pair_info lP)) (by simp only [Act.put, List.setIfInBounds_toArray, List.set_cons_zero, List.set_cons_succ]; rfl) ?_
  refine wpLex_cons2 _ (uni_val (by rfl) (Op.binOp BinOp.eql 29 (Operand.tmp 25) (Operand.tmp 26) 29) rfl (.bool true) (fun o' ho W hW => by go_simp)) (by simp only [Act.put, List.setIfInBounds_toArray, List.set_cons_zero, List.set_cons_succ]; rfl) ?_
  refine wpLex_cons2 _ (uni_val (by rfl) (Op.move (Operand.tmp 27)) rfl (.bool true) (fun o' ho W hW => by go_simp)) (by simp only [Act.put, List.setIfInBounds_toArray, List.set_cons_zero, List.set_cons_succ]; rfl) ?_
  refine wpLex_cons2 _ (uni_val (by rfl) (Op.move (Operand.tmp 5)) rfl (.int .i64 ee) (fun o' ho W hW => by go_simp)) (by simp only [Act.put, List.setIfInBounds_toArray, List.set_cons_zero, List.set_cons_succ]; rfl) ?_
  refine wpLex_cons2 _ (uni_val (by rfl) (Op.move (Operand.tmp 7)) rfl (.int .i64 ee) (fun o' ho W hW => by go_simp)) (by simp only [Act.put, List.setIfInBounds_toArray, List.set_cons_zero, List.set_cons_succ]; rfl) ?_
  refine wpLex_cons2 _ (uni_val (by rfl) (Op.binOp BinOp.eql 3 (Operand.tmp 29) (Operand.tmp 30) 3) rfl (.bool true) (fun o' ho W hW => by go_simp)) (by simp only [Act.put, List.setIfInBounds_toArray, List.set_cons_zero, List.set_cons_succ]; rfl) ?_
  refine wpLex_cons2 _ (uni_val (by rfl) (Op.pick (Operand.tmp 28) (Operand.tmp 31) (Operand.const (Value.bool false))) rfl (.bool true) (fun o' ho W hW => by go_simp)) (by simp only [Act.put, List.setIfInBounds_toArray, List.set_cons_zero, List.set_cons_succ]; rfl) ?_
  refine wpLex_cons2 _ (uni_val (by rfl) (Op.move (Operand.tmp 32)) rfl (.bool true) (fun o' ho W hW => by go_simp)) (by simp only [Act.put, List.setIfInBounds_toArray, List.set_cons_zero, List.set_cons_succ]; rfl) ?_
  refine wpLex_cons2 _ (uni_val (by rfl) (Op.move (Operand.tmp 3)) rfl (.slice (some ⟨g, 0, none⟩) (bs.length + 2) c) (fun o' ho W hW => by go_simp)) (by simp only [Act.put, List.setIfInBounds_toArray, List.set_cons_zero, List.set_cons_succ]; rfl) ?_
  refine wpLex_cons2 _ (uni_val (by rfl) (Op.convert 33 9 (Operand.tmp 34)) rfl (.string S) (fun o' ho W hW => by have hcv := (HD.out.below hW).convert; rw [← HS.out] at hcv; go_simp)) (by simp only [Act.put, List.setIfInBounds_toArray, List.set_cons_zero, List.set_cons_succ]; rfl) ?_
  refine wpLex_cons2 _ (uni_val (by rfl) (Op.move (Operand.tmp 0)) rfl (v) (fun o' ho W hW => by go_simp)) (by simp only [Act.put, List.setIfInBounds_toArray, List.set_cons_zero, List.set_cons_succ]; rfl) ?_
  refine wpLex_cons2 _ (uni_val (by rfl) (Op.convert 33 9 (Operand.tmp 36)) rfl (.string ⟨bs.toArray⟩) (fun o' ho W hW => by have hcv := (HV.out.below (BE.out.trans (hW.mono (by have := BE.out.size; omega)))).convert; go_simp)) (by simp only [Act.put, List.setIfInBounds_toArray, List.set_cons_zero, List.set_cons_succ]; rfl) ?_
  refine wpLex_cons2 _ (uni_val (by rfl) (Op.binOp BinOp.add 9 (Operand.tmp 37) (Operand.const (Value.string { data := #[85, 170] })) 9) rfl (.string S) (fun o' ho W hW => by first | (go_simp; done) | (go_simp; rw [if_neg hnl, hap]))) (by simp only [Act.put, List.setIfInBounds_toArray, List.set_cons_zero, List.set_cons_succ]; rfl) ?_
  refine wpLex_cons2 _ (uni_val (by rfl) (Op.binOp BinOp.eql 9 (Operand.tmp 35) (Operand.tmp 38) 9) rfl (.bool true) (fun o' ho W hW => by go_simp)) (by simp only [Act.put, List.setIfInBounds_toArray, List.set_cons_zero, List.set_cons_succ]; rfl) ?_
  refine wpLex_cons2 _ (uni_val (by rfl) (Op.pick (Operand.tmp 33) (Operand.tmp 39) (Operand.const (Value.bool false))) rfl (.bool true) (fun o' ho W hW => by go_simp)) (by simp only [Act.put, List.setIfInBounds_toArray, List.set_cons_zero, List.set_cons_succ]; rfl) ?_
  refine wpLex_cons2 _ (uni_val (by rfl) (Op.assign (Operand.tmp 40)) rfl (.bool true) (fun o' ho W hW => by go_simp)) (by simp only [Act.put, List.setIfInBounds_toArray, List.set_cons_zero, List.set_cons_succ]; rfl) ?_
  intro w5 hW
  have be := BE.out.trans (hW.mono (by have := BE.out.size; omega))
  clear BE hW
  go_wp2
  go_ret
  exact ⟨rfl, be⟩
end Go.Proofs.Ytacancfmgnmpiaa
