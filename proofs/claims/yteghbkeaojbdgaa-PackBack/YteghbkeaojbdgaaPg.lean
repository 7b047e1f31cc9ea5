import Derived.Test.YteghbkeaojbdgaaPf
set_option linter.unusedVariables false
set_option linter.unusedSimpArgs false
namespace Go.Proofs.Yteghbkeaojbdgaa
open Go.RowKit

section
variable {P : Program} {n : Nat} {ops : Array Oper} {Q : Exit → Act → World → Prop}
/-- A call of a function's value. -/
theorem WL.callF {i : Nat} {f : FuncId} {x : Operand} {cap : Array Value} {xs : List Operand} {ts : Array TypeId} {ty : TypeId} {ps : String} {af : Array Edge} {gd : Option (Nat × Bool)} {r : List Oper} {e : List (Nat × Value)} {w : World} {R : Ending → World → Prop} (args : List Value)
    (hen : ∀ (args : Array Value) (W : World), (callFunc f args).run P W = .ok (.enter f args) W)
    (hw : wantE ops e ⟨some i, .call { callee := .value x, args := xs.toArray, argTypes := ts }, ty, ps, af, gd⟩ = some true) (hi : decide (i < n) = true) (hf : evE e x = some (.func (.func f) #[] cap)) (hx : xs.map (evE e) = args.map some) (hc : Calls P f (args.toArray ++ cap) w R)
    (k : ∀ x w', R x w' → ∃ v, x = .returned v ∧ WL P n ops Q r ((i, v) :: e) w') : WL P n ops Q (⟨some i, .call { callee := .value x, args := xs.toArray, argTypes := ts }, ty, ps, af, gd⟩ :: r) e w := fun a ha => by
  unfold wpList
  rw [if_pos (wantE_spec ha hw)]
  left
  unfold Oper.wp
  have e1 : (execOp a.eval ⟨some i, .call { callee := .value x, args := xs.toArray, argTypes := ts }, ty, ps, af, gd⟩).run P w = .ok (.enter f (args.toArray ++ cap)) w := by
    have e2 : (execOp a.eval ⟨some i, .call { callee := .value x, args := xs.toArray, argTypes := ts }, ty, ps, af, gd⟩).run P w = (callFunc f (xs.toArray.map a.eval ++ cap)).run P w := by
      simp [execOp, resolve, Deferred.ofValue, invoke, ha.ev hf]
    rw [e2, hen, List.map_toArray, args_ev ha hx]
  rw [e1]
  simp only [Oper.upon]
  refine hc.mono fun y w' hy => ?_
  obtain ⟨v, rfl, hk⟩ := k y w' hy
  exact hk _ (ha.put i v (of_decide_eq_true hi))
end
theorem WL.mkf {P : Program} {n : Nat} {ops : Array Oper} {Q : Exit → Act → World → Prop} {i : Nat} {ty : TypeId} {ps : String} {af : Array Edge} {gd : Option (Nat × Bool)} {r : List Oper} {e : List (Nat × Value)} {w : World} {g : FuncId} {xs : List Operand} (args : List Value) (hw : wantE ops e ⟨some i, .makeFunc (.func g) #[] xs.toArray, ty, ps, af, gd⟩ = some true) (hi : decide (i < n) = true) (hx : xs.map (evE e) = args.map some) (k : WL P n ops Q r ((i, .func (.func g) #[] args.toArray) :: e) w) : WL P n ops Q (⟨some i, .makeFunc (.func g) #[] xs.toArray, ty, ps, af, gd⟩ :: r) e w :=
  WL.op i _ hw rfl hi (fun a ha => by
    have := args_ev ha hx
    simp [execOp, this, Instr.makeFunc]) k
set_option maxRecDepth 100000 in
set_option maxHeartbeats 1000000 in
theorem cl_any (v : Value) (rs : List RV) (x : RV) (qL qW i : Nat) (y : RV) (w : World) (hL : Ls w v rs) (bL : Blk w qL [v] 23) (bW : Blk w qW x.cs 32) (okx : x.ok w) (hy : rs[i]? = some y) : Calls Try.prog 48 #[.int .i64 (i : Int), .pointer (some ⟨qL, 0, none⟩), .pointer (some ⟨qW, 0, none⟩)] w fun e w' => e = .returned (.bool (decide (0 ≤ cmpR y x))) ∧ Below w.heap.size w w' := by
  obtain ⟨ad, iy, ay⟩ := hL.item hy
  have oky := hL.ok y (List.mem_of_getElem? hy)
  refine calls_of_args [.int .i64 (i : Int), .pointer (some ⟨qL, 0, none⟩), .pointer (some ⟨qW, 0, none⟩)] Try.func48 rfl 12 Try.ntmps48 (by show 3 ≤ 12; decide) ?_
  refine EW.seq ?_
  refine EW.region ?_
  first | refine WL.assign rfl rfl rfl ?_
  refine WL.done ?_
  refine EW.on ?_
  refine EW.seq ?_
  refine EW.ordB [(0, 0, 1), (1, 0, 0), (2, 0, 0), (3, 0, 1), (4, 0, 1), (5, 1, 1), (6, 0, 0), (7, 0, 0)] (by kernel_rfl) rfl (by kernel_rfl) ?_
  simp only [opsZ, List.getD_cons_zero, List.getD_cons_succ]
  refine ZE.load rfl rfl rfl rfl sz1 (fun W hW => ldL (bL.on (sb_of hW)) rfl) ?_
  first | refine ZE.move rfl rfl rfl rfl sz0 ?_
  refine ZE.index rfl rfl rfl rfl rfl sz0 (fun W => iy W) ?_
  first | refine ZE.load rfl rfl rfl rfl sz1 (fun W hW => ldA (ay.below (sb_of hW))) ?_ | refine ZE.load rfl rfl rfl rfl sz1 (fun W hW => ld32 (bW.on (sb_of hW))) ?_
  first | refine ZE.load rfl rfl rfl rfl sz1 (fun W hW => ldA (ay.below (sb_of hW))) ?_ | refine ZE.load rfl rfl rfl rfl sz1 (fun W hW => ld32 (bW.on (sb_of hW))) ?_
  refine ZE.callB [y.val, x.val] enter13 rfl rfl rfl (fun W h => .inr h) (fun W hW => cmpr_any y x W (oky.below hW) (okx.below hW)) ?_
  first | refine ZE.bin rfl rfl rfl rfl rfl sz0 (fun W => int_ge_t ‹_› W _ _) ?_ | refine ZE.bin rfl rfl rfl rfl rfl sz0 (fun W => int_ge_f ‹_› W _ _) ?_ | refine ZE.bin rfl rfl rfl rfl rfl sz0 (fun W => int_ge_d _ _ W _ _) ?_
  first | refine ZE.assign rfl rfl rfl rfl sz0 ?_
  intro w3 h3
  refine EW.on ?_
  refine EW.ret ?_
  exact EW.returns Try.results48 rfl ⟨rfl, h3⟩
theorem conv_iu {x : Nat} (h : x < 9223372036854775808) (W : World) : (Go.convert 3 84 (.int .i64 (x : Int))).run Try.prog W = .ok (.int .u64 (x : Int)) W := by
  have e : IntKind.u64.wrap (x : Int) = (x : Int) := by rw [IntKind.wrap_u64]; omega
  go_simp
theorem conv_ui {x : Nat} (h : x < 9223372036854775808) (W : World) : (Go.convert 84 3 (.int .u64 (x : Int))).run Try.prog W = .ok (.int .i64 (x : Int)) W := by
  have e : IntKind.i64.wrap (x : Int) = (x : Int) := by rw [IntKind.wrap_i64]; omega
  go_simp
theorem shr1 {x : Nat} (h : x < 9223372036854775808) (W : World) (a b : Operand) : (do eqGuard .shr 84 a b (.int .u64 (x : Int)) (.int .u64 1); binOp .shr 84 (.int .u64 (x : Int)) (.int .u64 1) : Sem Value).run Try.prog W = .ok (.int .u64 ((x / 2 : Nat) : Int)) W := by
  clear h
  go_simp
def fnV (qL qW : Nat) : Value := .func (.func 48) #[] #[.pointer (some ⟨qL, 0, none⟩), .pointer (some ⟨qW, 0, none⟩)]
def seE (qL qW : Nat) (x : Nat × Nat) : List (Nat × Value) := [(1, fnV qL qW), (5, .int .i64 (x.1 : Int)), (6, .int .i64 (x.2 : Int))]
def SeR (w : World) (rs : List RV) (x : RV) (z : Nat × Nat) (W : World) : Prop := Below w.heap.size w W ∧ z.1 ≤ z.2 ∧ z.2 ≤ rs.length ∧ (∀ k y, k < z.1 → rs[k]? = some y → cmpR y x < 0) ∧ (∀ k y, z.2 ≤ k → rs[k]? = some y → 0 ≤ cmpR y x)
def placeN (ds : List Rc) (x : Rc) : Nat := (ds.takeWhile fun d => decide (cmpD d x < 0)).length
theorem place_is : ∀ (ds : List Rc) (x : Rc) (i : Nat), i ≤ ds.length → (∀ k y, k < i → ds[k]? = some y → cmpD y x < 0) → (∀ k y, i ≤ k → ds[k]? = some y → 0 ≤ cmpD y x) → placeN ds x = i
  | [], _, i, hi, _, _ => by simp at hi; subst hi; rfl
  | d :: ds, x, 0, _, _, h => by
    have := h 0 d (Nat.le_refl _) rfl
    rw [placeN, List.takeWhile_cons_of_neg (by simp; omega)]; rfl
  | d :: ds, x, i + 1, hi, hl, hr => by
    have h0 := hl 0 d (by omega) rfl
    have ih := place_is ds x i (by simpa using hi) (fun k y hk hy => hl (k + 1) y (by omega) (by simpa using hy)) (fun k y hk hy => hr (k + 1) y (by omega) (by simpa using hy))
    rw [placeN, List.takeWhile_cons_of_pos (by simpa using h0), List.length_cons]
    exact congrArg (· + 1) ih
theorem not_d {p : Prop} [Decidable p] (W : World) : (Op.unary .not (.bool (decide p))).run Try.prog W = .ok (.bool (decide (¬ p))) W := by
  rw [not_t]
  simp
set_option maxRecDepth 100000 in
set_option maxHeartbeats 1000000 in
theorem search_any (v : Value) (rs : List RV) (x : RV) (qL qW : Nat) (w : World) (hL : Ls w v rs) (bL : Blk w qL [v] 23) (bW : Blk w qW x.cs 32) (okx : x.ok w) (hn : rs.length ≤ 1000000000000) (hm : ∀ (a b : Nat) (ya yb : RV), a ≤ b → rs[a]? = some ya → rs[b]? = some yb → 0 ≤ cmpR ya x → 0 ≤ cmpR yb x) : Calls Try.prog 47 #[.int .i64 (rs.length : Int), fnV qL qW] w fun e w' => e = .returned (.int .i64 (placeN (rs.map RV.d) x.d : Int)) ∧ Below w.heap.size w w' := by
  refine calls_of_args [.int .i64 (rs.length : Int), fnV qL qW] Try.func47 rfl 26 Try.ntmps47 (by show 2 ≤ 26; decide) ?_
  refine EW.seq ?_
  refine EW.region ?_
  first | refine WL.assign rfl rfl rfl ?_
  refine WL.done ?_
  refine EW.on ?_
  refine EW.seq ?_
  refine EW.region ?_
  first | refine WL.move rfl rfl rfl ?_
  first | refine WL.assign rfl rfl rfl ?_
  first | refine WL.assign rfl rfl rfl ?_
  refine WL.done ?_
  refine EW.on ?_
  refine EW.seq ?_
  refine EW.block ?_
  refine EW.loop (seE qL qW) (SeR w rs x) (fun z => z.2 - z.1) (0, rs.length) [1, 5, 6] rfl ⟨Below.refl _ _, Nat.zero_le _, Nat.le_refl _, fun k y hk => absurd hk (Nat.not_lt_zero _), fun k y hk hy => absurd (List.getElem?_eq_some_iff.1 hy).1 (Nat.not_lt.2 hk)⟩ ?_
  rintro ⟨i, j⟩ wi ⟨hbe, hij, hj, hl, hR⟩
  dsimp only at hij hj hl hR
  show EW _ _ _ _ [(1, fnV qL qW), (5, .int .i64 (i : Int)), (6, .int .i64 (j : Int))] _
  refine EW.seq ?_
  refine EW.seq ?_
  refine EW.region ?_
  first | refine WL.move rfl rfl rfl ?_
  first | refine WL.move rfl rfl rfl ?_
  first | refine WL.bin rfl rfl rfl rfl (int_lt_t ‹_› _ _ _) ?_ | refine WL.bin rfl rfl rfl rfl (int_lt_f ‹_› _ _ _) ?_ | refine WL.bin rfl rfl rfl rfl (int_lt_d _ _ _ _ _) ?_
  refine WL.done ?_
  refine EW.on ?_
  refine EW.cond_d rfl (fun h11 => ?_) (fun h11 => ?_)
  · refine EW.skip ?_
    refine EW.on ?_
    refine EW.block ?_
    refine EW.seq ?_
    have hlt : i < j := by omega
    have a1 : IntKind.i64.wrap ((i : Int) + (j : Int)) = ((i + j : Nat) : Int) := by rw [IntKind.wrap_i64]; omega
    have lt1 : i + j < 9223372036854775808 := by omega
    have lt2 : (i + j) / 2 < 9223372036854775808 := by omega
    have a2 : IntKind.i64.wrap ((((i + j) / 2 : Nat) : Int) + 1) = (((i + j) / 2 + 1 : Nat) : Int) := by rw [IntKind.wrap_i64]; omega
    obtain ⟨y, hy⟩ : ∃ y, rs[(i + j) / 2]? = some y := ⟨_, List.getElem?_eq_getElem (by omega)⟩
    refine EW.region ?_
    first | refine WL.move rfl rfl rfl ?_
    first | refine WL.move rfl rfl rfl ?_
    first | refine WL.bin rfl rfl rfl rfl (int_add ‹_› _ _ _) ?_
    refine WL.conv rfl rfl rfl (conv_iu lt1 _) ?_
    refine WL.bin rfl rfl rfl rfl (shr1 lt1 _ _ _) ?_
    refine WL.conv rfl rfl rfl (conv_ui lt2 _) ?_
    first | refine WL.assign rfl rfl rfl ?_
    refine WL.done ?_
    refine EW.on ?_
    refine EW.seq ?_
    refine EW.region ?_
    first | refine WL.move rfl rfl rfl ?_
    first | refine WL.move rfl rfl rfl ?_
    refine WL.callF [.int .i64 ((((i + j) / 2 : Nat)) : Int)] enter48 rfl rfl rfl rfl (cl_any v rs x qL qW ((i + j) / 2) y _ (hL.below hbe) (bL.on hbe) (bW.on hbe) (okx.below hbe) hy) ?_
    rintro _ w3 ⟨rfl, be3⟩
    refine ⟨_, rfl, ?_⟩
    refine WL.un rfl rfl rfl (not_d _) ?_
    refine WL.done ?_
    refine EW.on ?_
    refine EW.cond_d rfl (fun h21 => ?_) (fun h21 => ?_)
    · refine EW.region ?_
      first | refine WL.move rfl rfl rfl ?_
      first | refine WL.bin rfl rfl rfl rfl (int_add ‹_› _ _ _) ?_
      first | refine WL.assign rfl rfl rfl ?_
      refine WL.done ?_
      refine pn_block ?_
      refine EW.again (E := seE qL qW) (R := SeR w rs x) (m := fun z => z.2 - z.1) (x := (i, j)) ((i + j) / 2 + 1, j) [1, 5, 6] rfl ⟨hbe.trans (be3.mono hbe.size), by show (i + j) / 2 + 1 ≤ j; omega, hj, fun k u hk hu => ?_, hR⟩ (by show j - ((i + j) / 2 + 1) < j - i; omega)
      rcases Nat.lt_or_ge k ((i + j) / 2) with e | e
      · exact Int.not_le.1 fun hc => h21 (hm k ((i + j) / 2) u y (by omega) hu hy hc)
      · have e2 : k = (i + j) / 2 := by
          have : k < (i + j) / 2 + 1 := hk
          omega
        rw [e2, hy] at hu
        cases hu
        omega
    · refine EW.region ?_
      first | refine WL.move rfl rfl rfl ?_
      first | refine WL.assign rfl rfl rfl ?_
      refine WL.done ?_
      refine pn_block ?_
      refine EW.again (E := seE qL qW) (R := SeR w rs x) (m := fun z => z.2 - z.1) (x := (i, j)) (i, (i + j) / 2) [1, 5, 6] rfl ⟨hbe.trans (be3.mono hbe.size), by show i ≤ (i + j) / 2; omega, by show (i + j) / 2 ≤ rs.length; omega, hl, fun k u hk hu => hm ((i + j) / 2) k y u hk hy hu (Decidable.not_not.1 h21)⟩ (by show (i + j) / 2 - i < j - i; omega)
  · refine EW.exit ?_
    refine px_then ?_
    refine px_then ?_
    refine px_block ?_
    refine EW.on ?_
    refine EW.seq ?_
    have hr : placeN (rs.map RV.d) x.d = i := by
      have e : j = i := by omega
      refine place_is _ _ _ (by rw [List.length_map]; omega) (fun k u hk hu => ?_) (fun k u hk hu => ?_)
      · rw [List.getElem?_map, Option.map_eq_some_iff] at hu
        obtain ⟨z, hz, rfl⟩ := hu
        exact hl k z hk hz
      · rw [List.getElem?_map, Option.map_eq_some_iff] at hu
        obtain ⟨z, hz, rfl⟩ := hu
        exact hR k z (by omega) hz
    refine EW.region ?_
    first | refine WL.move rfl rfl rfl ?_
    first | refine WL.assign rfl rfl rfl ?_
    refine WL.done ?_
    refine EW.on ?_
    refine EW.ret ?_
    exact EW.returns Try.results47 rfl ⟨by rw [hr], hbe⟩
end Go.Proofs.Yteghbkeaojbdgaa
