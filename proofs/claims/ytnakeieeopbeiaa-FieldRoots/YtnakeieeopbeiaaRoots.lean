import Derived.Test.YtnakeieeopbeiaaRts
set_option linter.unusedVariables false
set_option linter.unusedSimpArgs false
namespace Go.Proofs.Ytnakeieeopbeiaa
open Go.RowKit Prm

theorem cut3 {l : List Oper} {o p q : Oper} (n : Nat) (hl : l.length = n + 3) (ho : l[n]? = some o) (hp : l[n + 1]? = some p) (hq : l[n + 2]? = some q) : l = l.take n ++ [o, p, q] := by
  have h := List.take_append_drop n l
  have hd : l.drop n = [o, p, q] := by
    rw [List.drop_eq_getElem_cons (by omega), List.drop_eq_getElem_cons (by omega), List.drop_eq_getElem_cons (by omega), List.drop_eq_nil_of_le (by omega)]
    rw [List.getElem?_eq_getElem (by omega)] at ho hp hq
    simp at ho hp hq
    rw [ho, hp, hq]
  rw [hd] at h
  exact h.symm
/-- A new variable takes a row, then a value is assigned. -/
theorem lst_newA {P : Program} {Q : Exit → Act → World → Prop} {id : Nat} {l : List Oper} {oa os oz : Oper} {a : Act} {w : World} (n : Nat) (hl : l.length = n + 3) (hoa' : l[n]? = some oa) (hos : l[n + 1]? = some os) (hoz : l[n + 2]? = some oz)
    (ga : oa.guard = none) (d : Nat) (da : oa.dst = some d) (t : TypeId) (hoa : oa.op = .alloc t) (zs : List Value) (hz : ∀ w, (zeroValue t).run P w = .ok (.agg zs.toArray) w)
    (hg : os.guard = none) (hd : os.dst = none) (y : Operand) (ho : os.op = .store t (.tmp d) y) (gz : oz.guard = none) (d2 : Nat) (dz : oz.dst = some d2) (y2 : Operand) (hz2 : oz.op = .assign y2)
    (h : wpLex P l.toArray (fun W => Below w.heap.size w W) (fun a' => ∃ cs v, a'.eval y = .agg (List.toArray cs) ∧ y ≠ .tmp d ∧ d < a'.tmps.size ∧ (P.info? t).map (·.size) = some cs.length ∧ zs.length = cs.length ∧ cs.toArray.all (·.oneCell') = true ∧ a'.eval y2 = v ∧ y2 ≠ .tmp d ∧
      ∀ g W, w.heap.size ≤ g → Below w.heap.size w W → Blk W g cs t → Q .normal ((a'.put (some d) (.pointer (some ⟨g, 0, none⟩))).put (some d2) v) W) (l.take n) a) : (Code.region id l.toArray false).wp P Q a w := by
  refine wp_region_lit ?_
  have := wpList_of_lex (P := P) (Q := Q) (stable_below w) _ [oa, os, oz] (fun a' W ⟨cs, v, e1, hne, hsz, e3, e4, e5, e6, hne2, hk⟩ hW => by
    refine wpList_new ga t hoa zs hz ?_
    refine wpList_store_row hg t (.tmp d) y ho W.heap.size cs.toArray ?_ ?_ t zs.toArray (Blk.new W zs t) (by simpa using e3) (by simpa using e4) e5 ?_
    · rw [da]; simp [Act.eval, Act.put, hsz]
    · rw [da, Act.eval_put (fun d' hd' hyd => hne (by rw [hyd]; cases hd'; rfl))]; exact e1
    · rw [da, hd]
      refine wpList_plain gz fun K hK => ?_
      have ev : (a'.put (some d) (.pointer (some ⟨W.heap.size, 0, none⟩))).eval y2 = v := by
        rw [Act.eval_put (fun d' hd' hyd => hne2 (by rw [hyd]; cases hd'; rfl))]; exact e6
      have hr : (execOp ((a'.put (some d) (.pointer (some ⟨W.heap.size, 0, none⟩))).put none undef).eval oz).run P ((W.alloc (.cells zs.toArray t)).setRow W.heap.size cs.toArray) = .ok (.value v) ((W.alloc (.cells zs.toArray t)).setRow W.heap.size cs.toArray) := by
        have e0 : ((a'.put (some d) (.pointer (some ⟨W.heap.size, 0, none⟩))).put none undef) = a'.put (some d) (.pointer (some ⟨W.heap.size, 0, none⟩)) := rfl
        rw [e0]
        unfold execOp
        simp only [hz2, ev]
        rfl
      unfold Oper.wp
      rw [hr]
      simp only [Oper.upon]
      rw [dz]
      exact hK _ _ (wpList_nil (hk _ _ hW.size (below_setRow (hW.alloc hW.size _) _ _ hW.size) ((Blk.new W zs t).setRow _)))) (l.take n) a w (Below.refl _ _) h
  rw [← cut3 n hl hoa' hos hoz] at this
  exact this

structure Rts (n : Nat) (w wx : World) (ga gs : Nat) (y : List UInt8) (A S : L5) : Prop where
  ky : Blk wx (n + 1) (y.map byt) 23
  ca : Blk wx ga A.cs 27
  cs : Blk wx gs S.cs 27
  be : Below n w wx

set_option maxRecDepth 100000 in
set_option maxHeartbeats 40000000 in
theorem roots_any (x y : List UInt8) (hx : x.length = 32) (hy : y.length = 32) (w : World) :
    Calls Try.prog 7 #[.agg (x.map byt).toArray, .agg (y.map byt).toArray] w fun e w' => e = .returned (.bool true) ∧ Below w.heap.size w w' := by
  have hA := fun W => read_any x hx W
  have hB := fun W => read_any y hy W
  have oa := read_ok x
  have ob := read_ok y
  generalize readE x = A at hA oa
  generalize readE y = B at hB ob
  have s1 := root_sq (mul_ok A A) (has_square oa)
  have s2 := root_even (mul_ok A A) (has_square oa)
  have s3 := fun h => root_either oa h
  have s4 := fun W => root_any (mulE A A) W
  rw [has_square oa] at s4
  generalize rootE (mulE A A) = S at s1 s2 s3 s4
  have s5 := fun W => bytes_any S W
  have s6 : ∀ W, (Instr.index 23 (.agg ((tellE S).map byt).toArray) (.int .i64 0)).run Try.prog W = .ok (.int .u8 (((tellE S).getD 0 0).toNat : Int)) W := fun W => run_byte (tellE S) (tell_length S) 0 (by decide) W
  have s7 : bits .and .u8 (((tellE S).getD 0 0).toNat : Int) (1 : Int) = (0 : Int) := by
    rw [and1_u8, s2]; rfl
  have s8 : ∀ W, Calls Try.prog 12 #[S.v, A.v] W fun e w' => e = .returned (.bool (eqE S A)) ∧ Below W.heap.size W w' := fun W => equalE S A W
  generalize (tellE S).getD 0 0 = us at s6 s7
  generalize tellE S = LS at s5 s6
  clear s2
  have r1 := fun W => root_any A W
  have r2 := fun h => root_sq oa h
  have r3 : hasE A = true → bits .and .u8 (((tellE (rootE A)).getD 0 0).toNat : Int) (1 : Int) = (0 : Int) := fun h => by
    rw [and1_u8, root_even oa h]; rfl
  have r4 : ∀ W, (Instr.index 23 (.agg ((tellE (rootE A)).map byt).toArray) (.int .i64 0)).run Try.prog W = .ok (.int .u8 (((tellE (rootE A)).getD 0 0).toNat : Int)) W := fun W => run_byte (tellE (rootE A)) (tell_length _) 0 (by decide) W
  have r5 := fun W => bytes_any (rootE A) W
  have r6 : hasE A = false → rootE A = zeroE := fun h => root_none h
  have r7 : hasE A = false → eqE B zeroE = false → hasE (mulE A B) = !hasE B := fun h h2 => has_prod oa ob h h2
  have t1 := fun W => root_any B W
  have t2 := fun W => root_any (mulE A B) W
  have t3 : ∀ W, Calls Try.prog 12 #[B.v, zeroE.v] W fun e w' => e = .returned (.bool (eqE B zeroE)) ∧ Below W.heap.size W w' := fun W => equalE B zeroE W
  generalize rootE B = RB at t1
  generalize hasE B = hb at t1 r7
  generalize rootE (mulE A B) = RM at t2
  generalize hasE (mulE A B) = hm at t2 r7
  generalize eqE B zeroE = z at t3 r7
  generalize hasE A = ha at r1 r2 r3 r6 r7
  generalize (tellE (rootE A)).getD 0 0 = ur at r3 r4
  generalize tellE (rootE A) = LR at r4 r5
  generalize rootE A = R at r1 r2 r5 r6
  have R2 := hide r2
  have R3 := hide r3
  have R6 := hide r6
  have R7 := hide r7
  have S1 := hide s1
  have S3 := hide s3
  clear r2 r3 r6 r7 s1 s3
  go_enter Try.func7, Try.ntmps7
  go_upto_region 1 with (first | (refine wpList_boxAt rfl 23 (.tmp 0) rfl (x.map byt) rfl (w.heap.size) rfl ?_) | (refine wpList_boxAt rfl 23 (.tmp 1) rfl (y.map byt) rfl (w.heap.size + 1) (by simp) ?_))
  have b0 : Blk ((w.alloc (.cells (x.map byt).toArray 23)).alloc (.cells (y.map byt).toArray 23)) (w.heap.size) (x.map byt) 23 := by
    have := (Blk.new w (x.map byt) 23).alloc (.cells (y.map byt).toArray 23)
    simpa using this
  have b1 : Blk ((w.alloc (.cells (x.map byt).toArray 23)).alloc (.cells (y.map byt).toArray 23)) (w.heap.size + 1) (y.map byt) 23 := by
    have := Blk.new (w.alloc (.cells (x.map byt).toArray 23)) (y.map byt) 23
    simpa using this
  have be : Below w.heap.size w ((w.alloc (.cells (x.map byt).toArray 23)).alloc (.cells (y.map byt).toArray 23)) := by go_grown
  generalize ((w.alloc (.cells (x.map byt).toArray 23)).alloc (.cells (y.map byt).toArray 23)) = w1 at b0 b1 be ⊢
  obtain ⟨n, hn⟩ : ∃ n, w.heap.size = n := ⟨_, rfl⟩
  rw [hn] at b0 b1 be ⊢
  try simp only [Act.put, List.setIfInBounds_toArray, List.set_cons_zero, List.set_cons_succ]
  refine lst_newT 2 rfl rfl rfl rfl 5 rfl 27 rfl z5 zero27 rfl rfl (.tmp 16) rfl ?_
  simp only [List.take_succ_cons, List.take_zero]
  refine wpLex_cons2 _ (uni_row rfl 23 (.tmp 2) rfl (n) (x.map byt) 23 rfl (fun W hW => b0.on hW) Try.underlying23 rfl (key_info hx)) (by simp only [Act.put, List.setIfInBounds_toArray, List.set_cons_zero, List.set_cons_succ]; rfl) ?_
  refine wpLex_cons2 _ (uni_callF (by rfl) 9 [Operand.tmp 15] #[23] rfl [.agg ((x.map byt)).toArray] (A.v) rfl enter9 (fun W hW => hA W)) (by simp only [Act.put, List.setIfInBounds_toArray, List.set_cons_zero, List.set_cons_succ]; rfl) ?_
  refine ⟨A.cs, rfl, by simp, by simp, cs_info _, cs_len _, cs_one _, fun gca w2 hg hW ca => ?_⟩
  simp only [Act.put, List.setIfInBounds_toArray, List.set_cons_zero, List.set_cons_succ]
  replace b0 := b0.on hW
  replace b1 := b1.on hW
  replace be := be.trans (hW.mono (by have := be.size; omega))
  clear hW hg w1
  clear b0 hA hx
  go_upto_region 2 with fail
  refine lst_newA 6 rfl rfl rfl rfl rfl 6 rfl 27 rfl z5 zero27 rfl rfl (.tmp 21) rfl rfl 7 rfl (.tmp 22) rfl ?_
  simp only [List.take_succ_cons, List.take_zero]
  refine wpLex_cons2 _ (uni_row rfl 27 (.tmp 5) rfl (gca) A.cs 27 rfl (fun W hW => ca.on hW) Try.underlying27 rfl (cs_info _)) (by simp only [Act.put, List.setIfInBounds_toArray, List.set_cons_zero, List.set_cons_succ]; rfl) ?_
  refine wpLex_cons2 _ (uni_callF (by rfl) 20 [Operand.tmp 18] #[27] rfl [A.v] ((mulE A A).v) rfl enter20 (fun W hW => square_any A W)) (by simp only [Act.put, List.setIfInBounds_toArray, List.set_cons_zero, List.set_cons_succ]; rfl) ?_
  refine wpLex_cons2 _ (uni_callF (by rfl) 22 [Operand.tmp 19] #[27] rfl [((mulE A A).v)] (.tuple #[S.v, .bool true]) rfl enter22 (fun W hW => s4 W)) (by simp only [Act.put, List.setIfInBounds_toArray, List.set_cons_zero, List.set_cons_succ]; rfl) ?_
  refine wpLex_cons2 _ (uni_val (by rfl) (Op.move (Operand.tmp 20)) rfl ((.tuple #[S.v, .bool true])) (fun o' ho W _ => by go_simp)) (by simp only [Act.put, List.setIfInBounds_toArray, List.set_cons_zero, List.set_cons_succ]; rfl) ?_
  refine wpLex_cons2 _ (uni_val (by rfl) (Op.extract (Operand.tmp 17) 0) rfl (S.v) (fun o' ho W _ => by go_simp)) (by simp only [Act.put, List.setIfInBounds_toArray, List.set_cons_zero, List.set_cons_succ]; rfl) ?_
  refine wpLex_cons2 _ (uni_val (by rfl) (Op.extract (Operand.tmp 17) 1) rfl (.bool true) (fun o' ho W _ => by go_simp)) (by simp only [Act.put, List.setIfInBounds_toArray, List.set_cons_zero, List.set_cons_succ]; rfl) ?_
  refine ⟨S.cs, .bool true, rfl, by simp, by simp, cs_info _, cs_len _, cs_one _, rfl, by simp, fun gcs w3 hg hW cs => ?_⟩
  simp only [Act.put, List.setIfInBounds_toArray, List.set_cons_zero, List.set_cons_succ]
  replace b1 := b1.on hW
  replace ca := ca.on hW
  replace be := be.trans (hW.mono (by have := be.size; omega))
  clear hW hg w2
  clear s4
  go_upto_region 3 with fail
  go_cut [53] (fun u53 wz => u53 = .bool false ∧ Rts n w wz gca gcs y A S)
  · obtain ⟨q, hq⟩ : ∃ q, eqE S A = q := ⟨_, rfl⟩
    rw [hq] at s8
    have HQ := hide hq
    clear hq
    cases q with
    | true =>
      refine reg_all (by kernel_rfl) (by kernel_rfl) ?_
      refine wpLex_cons2 _ (uni_val (by rfl) (Op.move (Operand.tmp 7)) rfl (.bool true) (fun o' ho W _ => by go_simp)) (by simp only [Act.put, List.setIfInBounds_toArray, List.set_cons_zero, List.set_cons_succ]; rfl) ?_
      refine wpLex_cons2 _ (uni_val (by rfl) (Op.unOp UnOp.not 4 (Operand.tmp 23)) rfl (.bool false) (fun o' ho W _ => by go_simp)) (by simp only [Act.put, List.setIfInBounds_toArray, List.set_cons_zero, List.set_cons_succ]; rfl) ?_
      refine wpLex_cons2 _ (uni_val (by rfl) (Op.move (Operand.tmp 24)) rfl (.bool false) (fun o' ho W _ => by go_simp)) (by simp only [Act.put, List.setIfInBounds_toArray, List.set_cons_zero, List.set_cons_succ]; rfl) ?_
      refine wpLex_cons2 _ (uni_rowG (by rfl) 27 (.tmp 6) rfl (gcs) S.cs 27 rfl (fun W hW => cs.on hW) Try.underlying27 rfl (cs_info _)) (by simp only [Act.put, List.setIfInBounds_toArray, List.set_cons_zero, List.set_cons_succ]; rfl) ?_
      refine wpLex_cons2 _ (uni_callF (by rfl) 20 [Operand.tmp 26] #[27] rfl [S.v] ((mulE S S).v) rfl enter20 (fun W hW => square_any S W)) (by simp only [Act.put, List.setIfInBounds_toArray, List.set_cons_zero, List.set_cons_succ]; rfl) ?_
      refine wpLex_cons2 _ (uni_rowG (by rfl) 27 (.tmp 5) rfl (gca) A.cs 27 rfl (fun W hW => ca.on hW) Try.underlying27 rfl (cs_info _)) (by simp only [Act.put, List.setIfInBounds_toArray, List.set_cons_zero, List.set_cons_succ]; rfl) ?_
      refine wpLex_cons2 _ (uni_callF (by rfl) 20 [Operand.tmp 28] #[27] rfl [A.v] ((mulE A A).v) rfl enter20 (fun W hW => square_any A W)) (by simp only [Act.put, List.setIfInBounds_toArray, List.set_cons_zero, List.set_cons_succ]; rfl) ?_
      refine wpLex_cons2 _ (uni_callF (by rfl) 12 [Operand.tmp 27, Operand.tmp 29] #[27, 27] rfl [((mulE S S).v), ((mulE A A).v)] (.bool true) rfl enter12 (fun W hW => equalT S1.out W)) (by simp only [Act.put, List.setIfInBounds_toArray, List.set_cons_zero, List.set_cons_succ]; rfl) ?_
      refine wpLex_cons2 _ (uni_val (by rfl) (Op.unOp UnOp.not 4 (Operand.tmp 30)) rfl (.bool false) (fun o' ho W _ => by go_simp)) (by simp only [Act.put, List.setIfInBounds_toArray, List.set_cons_zero, List.set_cons_succ]; rfl) ?_
      refine wpLex_cons2 _ (uni_val (by rfl) (Op.pick (Operand.tmp 25) (Operand.const (Value.bool true)) (Operand.tmp 31)) rfl (.bool false) (fun o' ho W _ => by go_simp)) (by simp only [Act.put, List.setIfInBounds_toArray, List.set_cons_zero, List.set_cons_succ]; rfl) ?_
      refine wpLex_cons2 _ (uni_val (by rfl) (Op.move (Operand.tmp 32)) rfl (.bool false) (fun o' ho W _ => by go_simp)) (by simp only [Act.put, List.setIfInBounds_toArray, List.set_cons_zero, List.set_cons_succ]; rfl) ?_
      refine wpLex_cons2 _ (uni_rowG (by rfl) 27 (.tmp 6) rfl (gcs) S.cs 27 rfl (fun W hW => cs.on hW) Try.underlying27 rfl (cs_info _)) (by simp only [Act.put, List.setIfInBounds_toArray, List.set_cons_zero, List.set_cons_succ]; rfl) ?_
      refine wpLex_cons2 _ (uni_callF (by rfl) 10 [Operand.tmp 34] #[27] rfl [S.v] (.agg (LS.map byt).toArray) rfl enter10 (fun W hW => s5 W)) (by simp only [Act.put, List.setIfInBounds_toArray, List.set_cons_zero, List.set_cons_succ]; rfl) ?_
      refine wpLex_cons2 _ (uni_val (by rfl) (Op.index 23 (Operand.tmp 35) (Operand.const (Value.int IntKind.i64 0))) rfl (.int .u8 (us.toNat : Int)) (fun o' ho W _ => by have h := s6 W; go_simp)) (by simp only [Act.put, List.setIfInBounds_toArray, List.set_cons_zero, List.set_cons_succ]; rfl) ?_
      refine wpLex_cons2 _ (uni_val (by rfl) (Op.binOp BinOp.and 5 (Operand.tmp 36) (Operand.const (Value.int IntKind.u8 1)) 5) rfl (.int .u8 0) (fun o' ho W _ => by go_simp)) (by simp only [Act.put, List.setIfInBounds_toArray, List.set_cons_zero, List.set_cons_succ]; rfl) ?_
      refine wpLex_cons2 _ (uni_val (by rfl) (Op.binOp BinOp.neq 5 (Operand.tmp 37) (Operand.const (Value.int IntKind.u8 0)) 5) rfl (.bool false) (fun o' ho W _ => by go_simp)) (by simp only [Act.put, List.setIfInBounds_toArray, List.set_cons_zero, List.set_cons_succ]; rfl) ?_
      refine wpLex_cons2 _ (uni_val (by rfl) (Op.pick (Operand.tmp 33) (Operand.const (Value.bool true)) (Operand.tmp 38)) rfl (.bool false) (fun o' ho W _ => by go_simp)) (by simp only [Act.put, List.setIfInBounds_toArray, List.set_cons_zero, List.set_cons_succ]; rfl) ?_
      refine wpLex_cons2 _ (uni_val (by rfl) (Op.move (Operand.tmp 39)) rfl (.bool false) (fun o' ho W _ => by go_simp)) (by simp only [Act.put, List.setIfInBounds_toArray, List.set_cons_zero, List.set_cons_succ]; rfl) ?_
      refine wpLex_cons2 _ (uni_rowG (by rfl) 27 (.tmp 6) rfl (gcs) S.cs 27 rfl (fun W hW => cs.on hW) Try.underlying27 rfl (cs_info _)) (by simp only [Act.put, List.setIfInBounds_toArray, List.set_cons_zero, List.set_cons_succ]; rfl) ?_
      refine wpLex_cons2 _ (uni_rowG (by rfl) 27 (.tmp 5) rfl (gca) A.cs 27 rfl (fun W hW => ca.on hW) Try.underlying27 rfl (cs_info _)) (by simp only [Act.put, List.setIfInBounds_toArray, List.set_cons_zero, List.set_cons_succ]; rfl) ?_
      refine wpLex_cons2 _ (uni_callF (by rfl) 12 [Operand.tmp 41, Operand.tmp 42] #[27, 27] rfl [S.v, A.v] (.bool true) rfl enter12 (fun W hW => s8 W)) (by simp only [Act.put, List.setIfInBounds_toArray, List.set_cons_zero, List.set_cons_succ]; rfl) ?_
      refine wpLex_cons2 _ (uni_val (by rfl) (Op.unOp UnOp.not 4 (Operand.tmp 43)) rfl (.bool false) (fun o' ho W _ => by go_simp)) (by simp only [Act.put, List.setIfInBounds_toArray, List.set_cons_zero, List.set_cons_succ]; rfl) ?_
      refine wpLex_cons2 _ (uni_val (by rfl) (Op.move (Operand.tmp 44)) rfl (.bool false) (fun o' ho W _ => by go_simp)) (by simp only [Act.put, List.setIfInBounds_toArray, List.set_cons_zero, List.set_cons_succ]; rfl) ?_
      refine wpLex_cons2 _ (uni_skip (by rfl)) (by simp only [Act.put, List.setIfInBounds_toArray, List.set_cons_zero, List.set_cons_succ]; rfl) ?_
      refine wpLex_cons2 _ (uni_skip (by rfl)) (by simp only [Act.put, List.setIfInBounds_toArray, List.set_cons_zero, List.set_cons_succ]; rfl) ?_
      refine wpLex_cons2 _ (uni_skip (by rfl)) (by simp only [Act.put, List.setIfInBounds_toArray, List.set_cons_zero, List.set_cons_succ]; rfl) ?_
      refine wpLex_cons2 _ (uni_skip (by rfl)) (by simp only [Act.put, List.setIfInBounds_toArray, List.set_cons_zero, List.set_cons_succ]; rfl) ?_
      refine wpLex_cons2 _ (uni_skip (by rfl)) (by simp only [Act.put, List.setIfInBounds_toArray, List.set_cons_zero, List.set_cons_succ]; rfl) ?_
      refine wpLex_cons2 _ (uni_skip (by rfl)) (by simp only [Act.put, List.setIfInBounds_toArray, List.set_cons_zero, List.set_cons_succ]; rfl) ?_
      refine wpLex_cons2 _ (uni_val (by rfl) (Op.pick (Operand.tmp 45) (Operand.tmp 51) (Operand.const (Value.bool false))) rfl (.bool false) (fun o' ho W _ => by go_simp)) (by simp only [Act.put, List.setIfInBounds_toArray, List.set_cons_zero, List.set_cons_succ]; rfl) ?_
      refine wpLex_cons2 _ (uni_val (by rfl) (Op.pick (Operand.tmp 40) (Operand.const (Value.bool true)) (Operand.tmp 52)) rfl (.bool false) (fun o' ho W _ => by go_simp)) (by simp only [Act.put, List.setIfInBounds_toArray, List.set_cons_zero, List.set_cons_succ]; rfl) ?_
      intro wz hW
      have be2 := be.trans (hW.mono (by have := be.size; omega))
      go_wp2
      go_meet
      exact ⟨rfl, b1.on hW, ca.on hW, cs.on hW, be2⟩
    | false =>
      refine reg_all (by kernel_rfl) (by kernel_rfl) ?_
      refine wpLex_cons2 _ (uni_val (by rfl) (Op.move (Operand.tmp 7)) rfl (.bool true) (fun o' ho W _ => by go_simp)) (by simp only [Act.put, List.setIfInBounds_toArray, List.set_cons_zero, List.set_cons_succ]; rfl) ?_
      refine wpLex_cons2 _ (uni_val (by rfl) (Op.unOp UnOp.not 4 (Operand.tmp 23)) rfl (.bool false) (fun o' ho W _ => by go_simp)) (by simp only [Act.put, List.setIfInBounds_toArray, List.set_cons_zero, List.set_cons_succ]; rfl) ?_
      refine wpLex_cons2 _ (uni_val (by rfl) (Op.move (Operand.tmp 24)) rfl (.bool false) (fun o' ho W _ => by go_simp)) (by simp only [Act.put, List.setIfInBounds_toArray, List.set_cons_zero, List.set_cons_succ]; rfl) ?_
      refine wpLex_cons2 _ (uni_rowG (by rfl) 27 (.tmp 6) rfl (gcs) S.cs 27 rfl (fun W hW => cs.on hW) Try.underlying27 rfl (cs_info _)) (by simp only [Act.put, List.setIfInBounds_toArray, List.set_cons_zero, List.set_cons_succ]; rfl) ?_
      refine wpLex_cons2 _ (uni_callF (by rfl) 20 [Operand.tmp 26] #[27] rfl [S.v] ((mulE S S).v) rfl enter20 (fun W hW => square_any S W)) (by simp only [Act.put, List.setIfInBounds_toArray, List.set_cons_zero, List.set_cons_succ]; rfl) ?_
      refine wpLex_cons2 _ (uni_rowG (by rfl) 27 (.tmp 5) rfl (gca) A.cs 27 rfl (fun W hW => ca.on hW) Try.underlying27 rfl (cs_info _)) (by simp only [Act.put, List.setIfInBounds_toArray, List.set_cons_zero, List.set_cons_succ]; rfl) ?_
      refine wpLex_cons2 _ (uni_callF (by rfl) 20 [Operand.tmp 28] #[27] rfl [A.v] ((mulE A A).v) rfl enter20 (fun W hW => square_any A W)) (by simp only [Act.put, List.setIfInBounds_toArray, List.set_cons_zero, List.set_cons_succ]; rfl) ?_
      refine wpLex_cons2 _ (uni_callF (by rfl) 12 [Operand.tmp 27, Operand.tmp 29] #[27, 27] rfl [((mulE S S).v), ((mulE A A).v)] (.bool true) rfl enter12 (fun W hW => equalT S1.out W)) (by simp only [Act.put, List.setIfInBounds_toArray, List.set_cons_zero, List.set_cons_succ]; rfl) ?_
      refine wpLex_cons2 _ (uni_val (by rfl) (Op.unOp UnOp.not 4 (Operand.tmp 30)) rfl (.bool false) (fun o' ho W _ => by go_simp)) (by simp only [Act.put, List.setIfInBounds_toArray, List.set_cons_zero, List.set_cons_succ]; rfl) ?_
      refine wpLex_cons2 _ (uni_val (by rfl) (Op.pick (Operand.tmp 25) (Operand.const (Value.bool true)) (Operand.tmp 31)) rfl (.bool false) (fun o' ho W _ => by go_simp)) (by simp only [Act.put, List.setIfInBounds_toArray, List.set_cons_zero, List.set_cons_succ]; rfl) ?_
      refine wpLex_cons2 _ (uni_val (by rfl) (Op.move (Operand.tmp 32)) rfl (.bool false) (fun o' ho W _ => by go_simp)) (by simp only [Act.put, List.setIfInBounds_toArray, List.set_cons_zero, List.set_cons_succ]; rfl) ?_
      refine wpLex_cons2 _ (uni_rowG (by rfl) 27 (.tmp 6) rfl (gcs) S.cs 27 rfl (fun W hW => cs.on hW) Try.underlying27 rfl (cs_info _)) (by simp only [Act.put, List.setIfInBounds_toArray, List.set_cons_zero, List.set_cons_succ]; rfl) ?_
      refine wpLex_cons2 _ (uni_callF (by rfl) 10 [Operand.tmp 34] #[27] rfl [S.v] (.agg (LS.map byt).toArray) rfl enter10 (fun W hW => s5 W)) (by simp only [Act.put, List.setIfInBounds_toArray, List.set_cons_zero, List.set_cons_succ]; rfl) ?_
      refine wpLex_cons2 _ (uni_val (by rfl) (Op.index 23 (Operand.tmp 35) (Operand.const (Value.int IntKind.i64 0))) rfl (.int .u8 (us.toNat : Int)) (fun o' ho W _ => by have h := s6 W; go_simp)) (by simp only [Act.put, List.setIfInBounds_toArray, List.set_cons_zero, List.set_cons_succ]; rfl) ?_
      refine wpLex_cons2 _ (uni_val (by rfl) (Op.binOp BinOp.and 5 (Operand.tmp 36) (Operand.const (Value.int IntKind.u8 1)) 5) rfl (.int .u8 0) (fun o' ho W _ => by go_simp)) (by simp only [Act.put, List.setIfInBounds_toArray, List.set_cons_zero, List.set_cons_succ]; rfl) ?_
      refine wpLex_cons2 _ (uni_val (by rfl) (Op.binOp BinOp.neq 5 (Operand.tmp 37) (Operand.const (Value.int IntKind.u8 0)) 5) rfl (.bool false) (fun o' ho W _ => by go_simp)) (by simp only [Act.put, List.setIfInBounds_toArray, List.set_cons_zero, List.set_cons_succ]; rfl) ?_
      refine wpLex_cons2 _ (uni_val (by rfl) (Op.pick (Operand.tmp 33) (Operand.const (Value.bool true)) (Operand.tmp 38)) rfl (.bool false) (fun o' ho W _ => by go_simp)) (by simp only [Act.put, List.setIfInBounds_toArray, List.set_cons_zero, List.set_cons_succ]; rfl) ?_
      refine wpLex_cons2 _ (uni_val (by rfl) (Op.move (Operand.tmp 39)) rfl (.bool false) (fun o' ho W _ => by go_simp)) (by simp only [Act.put, List.setIfInBounds_toArray, List.set_cons_zero, List.set_cons_succ]; rfl) ?_
      refine wpLex_cons2 _ (uni_rowG (by rfl) 27 (.tmp 6) rfl (gcs) S.cs 27 rfl (fun W hW => cs.on hW) Try.underlying27 rfl (cs_info _)) (by simp only [Act.put, List.setIfInBounds_toArray, List.set_cons_zero, List.set_cons_succ]; rfl) ?_
      refine wpLex_cons2 _ (uni_rowG (by rfl) 27 (.tmp 5) rfl (gca) A.cs 27 rfl (fun W hW => ca.on hW) Try.underlying27 rfl (cs_info _)) (by simp only [Act.put, List.setIfInBounds_toArray, List.set_cons_zero, List.set_cons_succ]; rfl) ?_
      refine wpLex_cons2 _ (uni_callF (by rfl) 12 [Operand.tmp 41, Operand.tmp 42] #[27, 27] rfl [S.v, A.v] (.bool false) rfl enter12 (fun W hW => s8 W)) (by simp only [Act.put, List.setIfInBounds_toArray, List.set_cons_zero, List.set_cons_succ]; rfl) ?_
      refine wpLex_cons2 _ (uni_val (by rfl) (Op.unOp UnOp.not 4 (Operand.tmp 43)) rfl (.bool true) (fun o' ho W _ => by go_simp)) (by simp only [Act.put, List.setIfInBounds_toArray, List.set_cons_zero, List.set_cons_succ]; rfl) ?_
      refine wpLex_cons2 _ (uni_val (by rfl) (Op.move (Operand.tmp 44)) rfl (.bool true) (fun o' ho W _ => by go_simp)) (by simp only [Act.put, List.setIfInBounds_toArray, List.set_cons_zero, List.set_cons_succ]; rfl) ?_
      refine wpLex_cons2 _ (uni_rowG (by rfl) 27 (.tmp 6) rfl (gcs) S.cs 27 rfl (fun W hW => cs.on hW) Try.underlying27 rfl (cs_info _)) (by simp only [Act.put, List.setIfInBounds_toArray, List.set_cons_zero, List.set_cons_succ]; rfl) ?_
      refine wpLex_cons2 _ (uni_rowG (by rfl) 27 (.tmp 5) rfl (gca) A.cs 27 rfl (fun W hW => ca.on hW) Try.underlying27 rfl (cs_info _)) (by simp only [Act.put, List.setIfInBounds_toArray, List.set_cons_zero, List.set_cons_succ]; rfl) ?_
      refine wpLex_cons2 _ (uni_callF (by rfl) 18 [Operand.tmp 46, Operand.tmp 47] #[27, 27] rfl [S.v, A.v] ((addE S A).v) rfl enter18 (fun W hW => add_any S A W)) (by simp only [Act.put, List.setIfInBounds_toArray, List.set_cons_zero, List.set_cons_succ]; rfl) ?_
      refine wpLex_cons2 _ (uni_val (by rfl) (Op.build 27 #[]) rfl zeroE.v (fun o' ho W _ => by have hbb := build27 W; go_simp <;> rfl)) (by simp only [Act.put, List.setIfInBounds_toArray, List.set_cons_zero, List.set_cons_succ]; rfl) ?_
      refine wpLex_cons2 _ (uni_callF (by rfl) 12 [Operand.tmp 48, Operand.tmp 49] #[27, 27] rfl [((addE S A).v), zeroE.v] (.bool true) rfl enter12 (fun W hW => equalT (S3.out HQ.out) W)) (by simp only [Act.put, List.setIfInBounds_toArray, List.set_cons_zero, List.set_cons_succ]; rfl) ?_
      refine wpLex_cons2 _ (uni_val (by rfl) (Op.unOp UnOp.not 4 (Operand.tmp 50)) rfl (.bool false) (fun o' ho W _ => by go_simp)) (by simp only [Act.put, List.setIfInBounds_toArray, List.set_cons_zero, List.set_cons_succ]; rfl) ?_
      refine wpLex_cons2 _ (uni_val (by rfl) (Op.pick (Operand.tmp 45) (Operand.tmp 51) (Operand.const (Value.bool false))) rfl (.bool false) (fun o' ho W _ => by go_simp)) (by simp only [Act.put, List.setIfInBounds_toArray, List.set_cons_zero, List.set_cons_succ]; rfl) ?_
      refine wpLex_cons2 _ (uni_val (by rfl) (Op.pick (Operand.tmp 40) (Operand.const (Value.bool true)) (Operand.tmp 52)) rfl (.bool false) (fun o' ho W _ => by go_simp)) (by simp only [Act.put, List.setIfInBounds_toArray, List.set_cons_zero, List.set_cons_succ]; rfl) ?_
      intro wz hW
      have be2 := be.trans (hW.mono (by have := be.size; omega))
      go_wp2
      go_meet
      exact ⟨rfl, b1.on hW, ca.on hW, cs.on hW, be2⟩
  · obtain ⟨rfl, hR⟩ := hcut
    obtain ⟨b1, ca, cs, be⟩ := hR
    clear cs s5 s6 s7 s8 S1 S3
    go_upto_region 5 with fail
    refine lst_newA 5 rfl rfl rfl rfl rfl 8 rfl 27 rfl z5 zero27 rfl rfl (.tmp 57) rfl rfl 9 rfl (.tmp 58) rfl ?_
    simp only [List.take_succ_cons, List.take_zero]
    refine wpLex_cons2 _ (uni_row rfl 27 (.tmp 5) rfl (gca) A.cs 27 rfl (fun W hW => ca.on hW) Try.underlying27 rfl (cs_info _)) (by simp only [Act.put, List.setIfInBounds_toArray, List.set_cons_zero, List.set_cons_succ]; rfl) ?_
    refine wpLex_cons2 _ (uni_callF (by rfl) 22 [Operand.tmp 55] #[27] rfl [A.v] (.tuple #[R.v, .bool ha]) rfl enter22 (fun W hW => r1 W)) (by simp only [Act.put, List.setIfInBounds_toArray, List.set_cons_zero, List.set_cons_succ]; rfl) ?_
    refine wpLex_cons2 _ (uni_val (by rfl) (Op.move (Operand.tmp 56)) rfl ((.tuple #[R.v, .bool ha])) (fun o' ho W _ => by go_simp)) (by simp only [Act.put, List.setIfInBounds_toArray, List.set_cons_zero, List.set_cons_succ]; rfl) ?_
    refine wpLex_cons2 _ (uni_val (by rfl) (Op.extract (Operand.tmp 54) 0) rfl (R.v) (fun o' ho W _ => by go_simp)) (by simp only [Act.put, List.setIfInBounds_toArray, List.set_cons_zero, List.set_cons_succ]; rfl) ?_
    refine wpLex_cons2 _ (uni_val (by rfl) (Op.extract (Operand.tmp 54) 1) rfl (.bool ha) (fun o' ho W _ => by go_simp)) (by simp only [Act.put, List.setIfInBounds_toArray, List.set_cons_zero, List.set_cons_succ]; rfl) ?_
    refine ⟨R.cs, .bool ha, rfl, by simp, by simp, cs_info _, cs_len _, cs_one _, rfl, by simp, fun gcr w20 hg hW cr => ?_⟩
    simp only [Act.put, List.setIfInBounds_toArray, List.set_cons_zero, List.set_cons_succ]
    replace b1 := b1.on hW
    replace ca := ca.on hW
    replace be := be.trans (hW.mono (by have := be.size; omega))
    clear hW hg wc
    clear r1
    go_upto_region 6 with fail
    refine lst_all ?_
    refine wpLex_cons2 _ (uni_val (by rfl) (Op.move (Operand.tmp 9)) rfl (.bool ha) (fun o' ho W _ => by go_simp)) (by simp only [Act.put, List.setIfInBounds_toArray, List.set_cons_zero, List.set_cons_succ]; rfl) ?_
    intro w21 hW
    replace b1 := b1.on hW
    replace ca := ca.on hW
    replace cr := cr.on hW
    replace be := be.trans (hW.mono (by have := be.size; omega))
    clear hW w20
    cases ha with
    | true =>
      have hev := R3.out rfl
      go_upto_region 7 with fail
      refine reg_all (by kernel_rfl) (by kernel_rfl) ?_
      refine wpLex_cons2 _ (uni_row rfl 27 (.tmp 8) rfl (gcr) R.cs 27 rfl (fun W hW => cr.on hW) Try.underlying27 rfl (cs_info _)) (by simp only [Act.put, List.setIfInBounds_toArray, List.set_cons_zero, List.set_cons_succ]; rfl) ?_
      refine wpLex_cons2 _ (uni_callF (by rfl) 20 [Operand.tmp 60] #[27] rfl [R.v] ((mulE R R).v) rfl enter20 (fun W hW => square_any R W)) (by simp only [Act.put, List.setIfInBounds_toArray, List.set_cons_zero, List.set_cons_succ]; rfl) ?_
      refine wpLex_cons2 _ (uni_row rfl 27 (.tmp 5) rfl (gca) A.cs 27 rfl (fun W hW => ca.on hW) Try.underlying27 rfl (cs_info _)) (by simp only [Act.put, List.setIfInBounds_toArray, List.set_cons_zero, List.set_cons_succ]; rfl) ?_
      refine wpLex_cons2 _ (uni_callF (by rfl) 12 [Operand.tmp 61, Operand.tmp 62] #[27, 27] rfl [((mulE R R).v), A.v] (.bool true) rfl enter12 (fun W hW => equalT (R2.out rfl) W)) (by simp only [Act.put, List.setIfInBounds_toArray, List.set_cons_zero, List.set_cons_succ]; rfl) ?_
      refine wpLex_cons2 _ (uni_val (by rfl) (Op.move (Operand.tmp 63)) rfl ((.bool true)) (fun o' ho W _ => by go_simp)) (by simp only [Act.put, List.setIfInBounds_toArray, List.set_cons_zero, List.set_cons_succ]; rfl) ?_
      refine wpLex_cons2 _ (uni_rowG (by rfl) 27 (.tmp 8) rfl (gcr) R.cs 27 rfl (fun W hW => cr.on hW) Try.underlying27 rfl (cs_info _)) (by simp only [Act.put, List.setIfInBounds_toArray, List.set_cons_zero, List.set_cons_succ]; rfl) ?_
      refine wpLex_cons2 _ (uni_callF (by rfl) 10 [Operand.tmp 65] #[27] rfl [R.v] (.agg (LR.map byt).toArray) rfl enter10 (fun W hW => r5 W)) (by simp only [Act.put, List.setIfInBounds_toArray, List.set_cons_zero, List.set_cons_succ]; rfl) ?_
      refine wpLex_cons2 _ (uni_val (by rfl) (Op.index 23 (Operand.tmp 66) (Operand.const (Value.int IntKind.i64 0))) rfl (.int .u8 (ur.toNat : Int)) (fun o' ho W _ => by have h := r4 W; go_simp)) (by simp only [Act.put, List.setIfInBounds_toArray, List.set_cons_zero, List.set_cons_succ]; rfl) ?_
      refine wpLex_cons2 _ (uni_val (by rfl) (Op.binOp BinOp.and 5 (Operand.tmp 67) (Operand.const (Value.int IntKind.u8 1)) 5) rfl (.int .u8 0) (fun o' ho W _ => by go_simp)) (by simp only [Act.put, List.setIfInBounds_toArray, List.set_cons_zero, List.set_cons_succ]; rfl) ?_
      refine wpLex_cons2 _ (uni_val (by rfl) (Op.binOp BinOp.eql 5 (Operand.tmp 68) (Operand.const (Value.int IntKind.u8 0)) 5) rfl (.bool true) (fun o' ho W _ => by go_simp)) (by simp only [Act.put, List.setIfInBounds_toArray, List.set_cons_zero, List.set_cons_succ]; rfl) ?_
      refine wpLex_cons2 _ (uni_val (by rfl) (Op.pick (Operand.tmp 64) (Operand.tmp 69) (Operand.const (Value.bool false))) rfl (.bool true) (fun o' ho W _ => by go_simp)) (by simp only [Act.put, List.setIfInBounds_toArray, List.set_cons_zero, List.set_cons_succ]; rfl) ?_
      refine wpLex_cons2 _ (uni_val (by rfl) (Op.assign (Operand.tmp 70)) rfl (.bool true) (fun o' ho W _ => by go_simp)) (by simp only [Act.put, List.setIfInBounds_toArray, List.set_cons_zero, List.set_cons_succ]; rfl) ?_
      intro w22 hW
      replace b1 := b1.on hW
      replace ca := ca.on hW
      replace cr := cr.on hW
      replace be := be.trans (hW.mono (by have := be.size; omega))
      clear hW w21
      go_wp2
      go_ret
      exact ⟨rfl, by first | (rw [hn]; exact be) | exact be⟩
    | false =>
      have hR0 := R6.out rfl
      subst hR0
      have hm7 : Hid (z = false → hm = !hb) := R7.out rfl
      clear R2 R3 R6 R7 r4 r5
      go_upto_region 8 with fail
      refine lst_newT 2 rfl rfl rfl rfl 10 rfl 27 rfl z5 zero27 rfl rfl (.tmp 72) rfl ?_
      simp only [List.take_succ_cons, List.take_zero]
      refine wpLex_cons2 _ (uni_row rfl 23 (.tmp 3) rfl (n + 1) (y.map byt) 23 rfl (fun W hW => b1.on hW) Try.underlying23 rfl (key_info hy)) (by simp only [Act.put, List.setIfInBounds_toArray, List.set_cons_zero, List.set_cons_succ]; rfl) ?_
      refine wpLex_cons2 _ (uni_callF (by rfl) 9 [Operand.tmp 71] #[23] rfl [.agg ((y.map byt)).toArray] (B.v) rfl enter9 (fun W hW => hB W)) (by simp only [Act.put, List.setIfInBounds_toArray, List.set_cons_zero, List.set_cons_succ]; rfl) ?_
      refine ⟨B.cs, rfl, by simp, by simp, cs_info _, cs_len _, cs_one _, fun gcb w22 hg hW cb => ?_⟩
      simp only [Act.put, List.setIfInBounds_toArray, List.set_cons_zero, List.set_cons_succ]
      replace b1 := b1.on hW
      replace ca := ca.on hW
      replace cr := cr.on hW
      replace be := be.trans (hW.mono (by have := be.size; omega))
      clear hW hg w21
      clear b1 hB hy
      go_upto_region 9 with fail
      refine lst_newA 5 rfl rfl rfl rfl rfl 11 rfl 27 rfl z5 zero27 rfl rfl (.tmp 76) rfl rfl 12 rfl (.tmp 77) rfl ?_
      simp only [List.take_succ_cons, List.take_zero]
      refine wpLex_cons2 _ (uni_row rfl 27 (.tmp 10) rfl (gcb) B.cs 27 rfl (fun W hW => cb.on hW) Try.underlying27 rfl (cs_info _)) (by simp only [Act.put, List.setIfInBounds_toArray, List.set_cons_zero, List.set_cons_succ]; rfl) ?_
      refine wpLex_cons2 _ (uni_callF (by rfl) 22 [Operand.tmp 74] #[27] rfl [B.v] (.tuple #[RB.v, .bool hb]) rfl enter22 (fun W hW => t1 W)) (by simp only [Act.put, List.setIfInBounds_toArray, List.set_cons_zero, List.set_cons_succ]; rfl) ?_
      refine wpLex_cons2 _ (uni_val (by rfl) (Op.move (Operand.tmp 75)) rfl ((.tuple #[RB.v, .bool hb])) (fun o' ho W _ => by go_simp)) (by simp only [Act.put, List.setIfInBounds_toArray, List.set_cons_zero, List.set_cons_succ]; rfl) ?_
      refine wpLex_cons2 _ (uni_val (by rfl) (Op.extract (Operand.tmp 73) 0) rfl (RB.v) (fun o' ho W _ => by go_simp)) (by simp only [Act.put, List.setIfInBounds_toArray, List.set_cons_zero, List.set_cons_succ]; rfl) ?_
      refine wpLex_cons2 _ (uni_val (by rfl) (Op.extract (Operand.tmp 73) 1) rfl (.bool hb) (fun o' ho W _ => by go_simp)) (by simp only [Act.put, List.setIfInBounds_toArray, List.set_cons_zero, List.set_cons_succ]; rfl) ?_
      refine ⟨RB.cs, .bool hb, rfl, by simp, by simp, cs_info _, cs_len _, cs_one _, rfl, by simp, fun gcrb w23 hg hW crb => ?_⟩
      simp only [Act.put, List.setIfInBounds_toArray, List.set_cons_zero, List.set_cons_succ]
      replace ca := ca.on hW
      replace cr := cr.on hW
      replace cb := cb.on hW
      replace be := be.trans (hW.mono (by have := be.size; omega))
      clear hW hg w22
      clear crb t1
      go_upto_region 10 with fail
      refine lst_newA 7 rfl rfl rfl rfl rfl 13 rfl 27 rfl z5 zero27 rfl rfl (.tmp 83) rfl rfl 14 rfl (.tmp 84) rfl ?_
      simp only [List.take_succ_cons, List.take_zero]
      refine wpLex_cons2 _ (uni_row rfl 27 (.tmp 5) rfl (gca) A.cs 27 rfl (fun W hW => ca.on hW) Try.underlying27 rfl (cs_info _)) (by simp only [Act.put, List.setIfInBounds_toArray, List.set_cons_zero, List.set_cons_succ]; rfl) ?_
      refine wpLex_cons2 _ (uni_row rfl 27 (.tmp 10) rfl (gcb) B.cs 27 rfl (fun W hW => cb.on hW) Try.underlying27 rfl (cs_info _)) (by simp only [Act.put, List.setIfInBounds_toArray, List.set_cons_zero, List.set_cons_succ]; rfl) ?_
      refine wpLex_cons2 _ (uni_callF (by rfl) 16 [Operand.tmp 79, Operand.tmp 80] #[27, 27] rfl [A.v, B.v] ((mulE A B).v) rfl enter16 (fun W hW => mul_any A B W)) (by simp only [Act.put, List.setIfInBounds_toArray, List.set_cons_zero, List.set_cons_succ]; rfl) ?_
      refine wpLex_cons2 _ (uni_callF (by rfl) 22 [Operand.tmp 81] #[27] rfl [((mulE A B).v)] (.tuple #[RM.v, .bool hm]) rfl enter22 (fun W hW => t2 W)) (by simp only [Act.put, List.setIfInBounds_toArray, List.set_cons_zero, List.set_cons_succ]; rfl) ?_
      refine wpLex_cons2 _ (uni_val (by rfl) (Op.move (Operand.tmp 82)) rfl ((.tuple #[RM.v, .bool hm])) (fun o' ho W _ => by go_simp)) (by simp only [Act.put, List.setIfInBounds_toArray, List.set_cons_zero, List.set_cons_succ]; rfl) ?_
      refine wpLex_cons2 _ (uni_val (by rfl) (Op.extract (Operand.tmp 78) 0) rfl (RM.v) (fun o' ho W _ => by go_simp)) (by simp only [Act.put, List.setIfInBounds_toArray, List.set_cons_zero, List.set_cons_succ]; rfl) ?_
      refine wpLex_cons2 _ (uni_val (by rfl) (Op.extract (Operand.tmp 78) 1) rfl (.bool hm) (fun o' ho W _ => by go_simp)) (by simp only [Act.put, List.setIfInBounds_toArray, List.set_cons_zero, List.set_cons_succ]; rfl) ?_
      refine ⟨RM.cs, .bool hm, rfl, by simp, by simp, cs_info _, cs_len _, cs_one _, rfl, by simp, fun gcrm w24 hg hW crm => ?_⟩
      simp only [Act.put, List.setIfInBounds_toArray, List.set_cons_zero, List.set_cons_succ]
      replace ca := ca.on hW
      replace cr := cr.on hW
      replace cb := cb.on hW
      replace be := be.trans (hW.mono (by have := be.size; omega))
      clear hW hg w23
      clear crm t2
      go_upto_region 11 with fail
      cases z with
      | true =>
        refine lst_all ?_
        refine wpLex_cons2 _ (uni_row rfl 27 (.tmp 8) rfl (gcr) zeroE.cs 27 rfl (fun W hW => cr.on hW) Try.underlying27 rfl (cs_info _)) (by simp only [Act.put, List.setIfInBounds_toArray, List.set_cons_zero, List.set_cons_succ]; rfl) ?_
        refine wpLex_cons2 _ (uni_val (by rfl) (Op.build 27 #[]) rfl zeroE.v (fun o' ho W _ => by have hbb := build27 W; go_simp <;> rfl)) (by simp only [Act.put, List.setIfInBounds_toArray, List.set_cons_zero, List.set_cons_succ]; rfl) ?_
        refine wpLex_cons2 _ (uni_callF (by rfl) 12 [Operand.tmp 85, Operand.tmp 86] #[27, 27] rfl [zeroE.v, zeroE.v] (.bool true) rfl enter12 (fun W hW => equalT (ring12 _) W)) (by simp only [Act.put, List.setIfInBounds_toArray, List.set_cons_zero, List.set_cons_succ]; rfl) ?_
        refine wpLex_cons2 _ (uni_val (by rfl) (Op.move (Operand.tmp 87)) rfl ((.bool true)) (fun o' ho W _ => by go_simp)) (by simp only [Act.put, List.setIfInBounds_toArray, List.set_cons_zero, List.set_cons_succ]; rfl) ?_
        refine wpLex_cons2 _ (uni_rowG (by rfl) 27 (.tmp 10) rfl (gcb) B.cs 27 rfl (fun W hW => cb.on hW) Try.underlying27 rfl (cs_info _)) (by simp only [Act.put, List.setIfInBounds_toArray, List.set_cons_zero, List.set_cons_succ]; rfl) ?_
        refine wpLex_cons2 _ (uni_val (by rfl) (Op.build 27 #[]) rfl zeroE.v (fun o' ho W _ => by have hbb := build27 W; go_simp <;> rfl)) (by simp only [Act.put, List.setIfInBounds_toArray, List.set_cons_zero, List.set_cons_succ]; rfl) ?_
        refine wpLex_cons2 _ (uni_callF (by rfl) 12 [Operand.tmp 89, Operand.tmp 90] #[27, 27] rfl [B.v, zeroE.v] (.bool true) rfl enter12 (fun W hW => t3 W)) (by simp only [Act.put, List.setIfInBounds_toArray, List.set_cons_zero, List.set_cons_succ]; rfl) ?_
        refine wpLex_cons2 _ (uni_val (by rfl) (Op.move (Operand.tmp 91)) rfl ((.bool true)) (fun o' ho W _ => by go_simp)) (by simp only [Act.put, List.setIfInBounds_toArray, List.set_cons_zero, List.set_cons_succ]; rfl) ?_
        refine wpLex_cons2 _ (uni_skip (by rfl)) (by simp only [Act.put, List.setIfInBounds_toArray, List.set_cons_zero, List.set_cons_succ]; rfl) ?_
        refine wpLex_cons2 _ (uni_skip (by rfl)) (by simp only [Act.put, List.setIfInBounds_toArray, List.set_cons_zero, List.set_cons_succ]; rfl) ?_
        refine wpLex_cons2 _ (uni_skip (by rfl)) (by simp only [Act.put, List.setIfInBounds_toArray, List.set_cons_zero, List.set_cons_succ]; rfl) ?_
        refine wpLex_cons2 _ (uni_val (by rfl) (Op.pick (Operand.tmp 92) (Operand.const (Value.bool true)) (Operand.tmp 95)) rfl (.bool true) (fun o' ho W _ => by go_simp)) (by simp only [Act.put, List.setIfInBounds_toArray, List.set_cons_zero, List.set_cons_succ]; rfl) ?_
        refine wpLex_cons2 _ (uni_val (by rfl) (Op.pick (Operand.tmp 88) (Operand.tmp 96) (Operand.const (Value.bool false))) rfl (.bool true) (fun o' ho W _ => by go_simp)) (by simp only [Act.put, List.setIfInBounds_toArray, List.set_cons_zero, List.set_cons_succ]; rfl) ?_
        refine wpLex_cons2 _ (uni_val (by rfl) (Op.assign (Operand.tmp 97)) rfl (.bool true) (fun o' ho W _ => by go_simp)) (by simp only [Act.put, List.setIfInBounds_toArray, List.set_cons_zero, List.set_cons_succ]; rfl) ?_
        intro wz hW
        replace be := be.trans (hW.mono (by have := be.size; omega))
        go_wp2
        go_ret
        exact ⟨rfl, by first | (rw [hn]; exact be) | exact be⟩
      | false =>
        have hm8 := hm7.out rfl
        subst hm8
        clear hm7
        cases hb with
        | true =>
          refine lst_all ?_
          refine wpLex_cons2 _ (uni_row rfl 27 (.tmp 8) rfl (gcr) zeroE.cs 27 rfl (fun W hW => cr.on hW) Try.underlying27 rfl (cs_info _)) (by simp only [Act.put, List.setIfInBounds_toArray, List.set_cons_zero, List.set_cons_succ]; rfl) ?_
          refine wpLex_cons2 _ (uni_val (by rfl) (Op.build 27 #[]) rfl zeroE.v (fun o' ho W _ => by have hbb := build27 W; go_simp <;> rfl)) (by simp only [Act.put, List.setIfInBounds_toArray, List.set_cons_zero, List.set_cons_succ]; rfl) ?_
          refine wpLex_cons2 _ (uni_callF (by rfl) 12 [Operand.tmp 85, Operand.tmp 86] #[27, 27] rfl [zeroE.v, zeroE.v] (.bool true) rfl enter12 (fun W hW => equalT (ring12 _) W)) (by simp only [Act.put, List.setIfInBounds_toArray, List.set_cons_zero, List.set_cons_succ]; rfl) ?_
          refine wpLex_cons2 _ (uni_val (by rfl) (Op.move (Operand.tmp 87)) rfl ((.bool true)) (fun o' ho W _ => by go_simp)) (by simp only [Act.put, List.setIfInBounds_toArray, List.set_cons_zero, List.set_cons_succ]; rfl) ?_
          refine wpLex_cons2 _ (uni_rowG (by rfl) 27 (.tmp 10) rfl (gcb) B.cs 27 rfl (fun W hW => cb.on hW) Try.underlying27 rfl (cs_info _)) (by simp only [Act.put, List.setIfInBounds_toArray, List.set_cons_zero, List.set_cons_succ]; rfl) ?_
          refine wpLex_cons2 _ (uni_val (by rfl) (Op.build 27 #[]) rfl zeroE.v (fun o' ho W _ => by have hbb := build27 W; go_simp <;> rfl)) (by simp only [Act.put, List.setIfInBounds_toArray, List.set_cons_zero, List.set_cons_succ]; rfl) ?_
          refine wpLex_cons2 _ (uni_callF (by rfl) 12 [Operand.tmp 89, Operand.tmp 90] #[27, 27] rfl [B.v, zeroE.v] (.bool false) rfl enter12 (fun W hW => t3 W)) (by simp only [Act.put, List.setIfInBounds_toArray, List.set_cons_zero, List.set_cons_succ]; rfl) ?_
          refine wpLex_cons2 _ (uni_val (by rfl) (Op.move (Operand.tmp 91)) rfl ((.bool false)) (fun o' ho W _ => by go_simp)) (by simp only [Act.put, List.setIfInBounds_toArray, List.set_cons_zero, List.set_cons_succ]; rfl) ?_
          refine wpLex_cons2 _ (uni_val (by rfl) (Op.move (Operand.tmp 14)) rfl (.bool (!true)) (fun o' ho W _ => by go_simp)) (by simp only [Act.put, List.setIfInBounds_toArray, List.set_cons_zero, List.set_cons_succ]; rfl) ?_
          refine wpLex_cons2 _ (uni_val (by rfl) (Op.move (Operand.tmp 12)) rfl (.bool true) (fun o' ho W _ => by go_simp)) (by simp only [Act.put, List.setIfInBounds_toArray, List.set_cons_zero, List.set_cons_succ]; rfl) ?_
          refine wpLex_cons2 _ (uni_val (by rfl) (Op.binOp BinOp.neq 4 (Operand.tmp 93) (Operand.tmp 94) 4) rfl (.bool true) (fun o' ho W _ => by go_simp)) (by simp only [Act.put, List.setIfInBounds_toArray, List.set_cons_zero, List.set_cons_succ]; rfl) ?_
          refine wpLex_cons2 _ (uni_val (by rfl) (Op.pick (Operand.tmp 92) (Operand.const (Value.bool true)) (Operand.tmp 95)) rfl (.bool true) (fun o' ho W _ => by go_simp)) (by simp only [Act.put, List.setIfInBounds_toArray, List.set_cons_zero, List.set_cons_succ]; rfl) ?_
          refine wpLex_cons2 _ (uni_val (by rfl) (Op.pick (Operand.tmp 88) (Operand.tmp 96) (Operand.const (Value.bool false))) rfl (.bool true) (fun o' ho W _ => by go_simp)) (by simp only [Act.put, List.setIfInBounds_toArray, List.set_cons_zero, List.set_cons_succ]; rfl) ?_
          refine wpLex_cons2 _ (uni_val (by rfl) (Op.assign (Operand.tmp 97)) rfl (.bool true) (fun o' ho W _ => by go_simp)) (by simp only [Act.put, List.setIfInBounds_toArray, List.set_cons_zero, List.set_cons_succ]; rfl) ?_
          intro wz hW
          replace be := be.trans (hW.mono (by have := be.size; omega))
          go_wp2
          go_ret
          exact ⟨rfl, by first | (rw [hn]; exact be) | exact be⟩
        | false =>
          refine lst_all ?_
          refine wpLex_cons2 _ (uni_row rfl 27 (.tmp 8) rfl (gcr) zeroE.cs 27 rfl (fun W hW => cr.on hW) Try.underlying27 rfl (cs_info _)) (by simp only [Act.put, List.setIfInBounds_toArray, List.set_cons_zero, List.set_cons_succ]; rfl) ?_
          refine wpLex_cons2 _ (uni_val (by rfl) (Op.build 27 #[]) rfl zeroE.v (fun o' ho W _ => by have hbb := build27 W; go_simp <;> rfl)) (by simp only [Act.put, List.setIfInBounds_toArray, List.set_cons_zero, List.set_cons_succ]; rfl) ?_
          refine wpLex_cons2 _ (uni_callF (by rfl) 12 [Operand.tmp 85, Operand.tmp 86] #[27, 27] rfl [zeroE.v, zeroE.v] (.bool true) rfl enter12 (fun W hW => equalT (ring12 _) W)) (by simp only [Act.put, List.setIfInBounds_toArray, List.set_cons_zero, List.set_cons_succ]; rfl) ?_
          refine wpLex_cons2 _ (uni_val (by rfl) (Op.move (Operand.tmp 87)) rfl ((.bool true)) (fun o' ho W _ => by go_simp)) (by simp only [Act.put, List.setIfInBounds_toArray, List.set_cons_zero, List.set_cons_succ]; rfl) ?_
          refine wpLex_cons2 _ (uni_rowG (by rfl) 27 (.tmp 10) rfl (gcb) B.cs 27 rfl (fun W hW => cb.on hW) Try.underlying27 rfl (cs_info _)) (by simp only [Act.put, List.setIfInBounds_toArray, List.set_cons_zero, List.set_cons_succ]; rfl) ?_
          refine wpLex_cons2 _ (uni_val (by rfl) (Op.build 27 #[]) rfl zeroE.v (fun o' ho W _ => by have hbb := build27 W; go_simp <;> rfl)) (by simp only [Act.put, List.setIfInBounds_toArray, List.set_cons_zero, List.set_cons_succ]; rfl) ?_
          refine wpLex_cons2 _ (uni_callF (by rfl) 12 [Operand.tmp 89, Operand.tmp 90] #[27, 27] rfl [B.v, zeroE.v] (.bool false) rfl enter12 (fun W hW => t3 W)) (by simp only [Act.put, List.setIfInBounds_toArray, List.set_cons_zero, List.set_cons_succ]; rfl) ?_
          refine wpLex_cons2 _ (uni_val (by rfl) (Op.move (Operand.tmp 91)) rfl ((.bool false)) (fun o' ho W _ => by go_simp)) (by simp only [Act.put, List.setIfInBounds_toArray, List.set_cons_zero, List.set_cons_succ]; rfl) ?_
          refine wpLex_cons2 _ (uni_val (by rfl) (Op.move (Operand.tmp 14)) rfl (.bool (!false)) (fun o' ho W _ => by go_simp)) (by simp only [Act.put, List.setIfInBounds_toArray, List.set_cons_zero, List.set_cons_succ]; rfl) ?_
          refine wpLex_cons2 _ (uni_val (by rfl) (Op.move (Operand.tmp 12)) rfl (.bool false) (fun o' ho W _ => by go_simp)) (by simp only [Act.put, List.setIfInBounds_toArray, List.set_cons_zero, List.set_cons_succ]; rfl) ?_
          refine wpLex_cons2 _ (uni_val (by rfl) (Op.binOp BinOp.neq 4 (Operand.tmp 93) (Operand.tmp 94) 4) rfl (.bool true) (fun o' ho W _ => by go_simp)) (by simp only [Act.put, List.setIfInBounds_toArray, List.set_cons_zero, List.set_cons_succ]; rfl) ?_
          refine wpLex_cons2 _ (uni_val (by rfl) (Op.pick (Operand.tmp 92) (Operand.const (Value.bool true)) (Operand.tmp 95)) rfl (.bool true) (fun o' ho W _ => by go_simp)) (by simp only [Act.put, List.setIfInBounds_toArray, List.set_cons_zero, List.set_cons_succ]; rfl) ?_
          refine wpLex_cons2 _ (uni_val (by rfl) (Op.pick (Operand.tmp 88) (Operand.tmp 96) (Operand.const (Value.bool false))) rfl (.bool true) (fun o' ho W _ => by go_simp)) (by simp only [Act.put, List.setIfInBounds_toArray, List.set_cons_zero, List.set_cons_succ]; rfl) ?_
          refine wpLex_cons2 _ (uni_val (by rfl) (Op.assign (Operand.tmp 97)) rfl (.bool true) (fun o' ho W _ => by go_simp)) (by simp only [Act.put, List.setIfInBounds_toArray, List.set_cons_zero, List.set_cons_succ]; rfl) ?_
          intro wz hW
          replace be := be.trans (hW.mono (by have := be.size; omega))
          go_wp2
          go_ret
          exact ⟨rfl, by first | (rw [hn]; exact be) | exact be⟩

end Go.Proofs.Ytnakeieeopbeiaa
