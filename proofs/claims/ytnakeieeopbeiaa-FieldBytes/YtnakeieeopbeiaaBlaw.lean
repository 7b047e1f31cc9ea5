import Derived.Test.YtnakeieeopbeiaaBts
set_option linter.unusedVariables false
set_option linter.unusedSimpArgs false
namespace Go.Proofs.Ytnakeieeopbeiaa
open Go.RowKit Prm

theorem and1_i64 (z : Int) : bits .and .i64 z (1 : Int) = z % 2 := by
  have e : ((BitVec.ofInt 64 z &&& BitVec.ofInt 64 1).toNat : Int) = z % 2 := by
    rw [show BitVec.ofInt 64 1 = 1#64 from rfl, and1_bv, BitVec.toNat_ofInt]
    omega
  show IntKind.i64.wrap ((BitVec.ofInt 64 z &&& BitVec.ofInt 64 1).toNat : Int) = _
  rw [e, IntKind.wrap_i64]
  omega
structure Bs (n : Nat) (w wx : World) (ga : Nat) (A : L5) : Prop where
  ca : Blk wx ga A.cs 27
  be : Below n w wx
structure Bs2 (n : Nat) (w wx : World) (gc gd : Nat) (C A : L5) : Prop where
  cc : Blk wx gc C.cs 27
  cd : Blk wx gd A.cs 27
  be : Below n w wx

set_option maxRecDepth 100000 in
set_option maxHeartbeats 40000000 in
theorem bytes_law (k : List UInt8) (m : UInt8) (z : Int) (hk : k.length = 32) (w : World) :
    Calls Try.prog 3 #[.agg (k.map byt).toArray, .int .u8 (m.toNat : Int), .int .i64 z] w fun e w' => e = .returned (.bool true) ∧ Below w.heap.size w w' := by
  obtain ⟨N, hN⟩ : ∃ N : UInt8, N = UInt8.ofNat (m.toNat % 19) := ⟨_, rfl⟩
  have hNm : N.toNat = m.toNat % 19 := by
    rw [hN, UInt8.toNat_ofNat']
    omega
  have hN19 : N.toNat < 19 := by omega
  clear hN
  have hA := fun W => read_any k hk W
  have oa := read_ok k
  have ts := top_same hk
  have tf := fun h => top_fits hk h
  have fk := fun W => fitsE k hk W
  have lB := tell_length (readE k)
  have bB := fun W => bytes_any (readE k) W
  have fB := fun W => fitsE (tellE (readE k)) (tell_length _) W
  have tT := tell_fits oa
  rw [tT] at fB
  have tU := tell_top oa
  have tR := tell_back oa
  have rB := fun W => read_any (tellE (readE k)) (tell_length _) W
  have eK : ∀ W, (Op.equalIn 10000 23 (.agg ((tellE (readE k)).map byt).toArray) (.agg (k.map byt).toArray)).run Try.prog W = .ok (fitE k) W := fun W => eq23 _ k (tell_length _) hk W
  have rT := fun W => read_any (topK k) (topK_length hk) W
  have fT := fun W => fitsE (topK k) (topK_length hk) W
  have lT := topK_length hk
  generalize readE (topK k) = RT at ts rT
  generalize readE (tellE (readE k)) = RB at tR rB
  have hub := byts_at (tellE (readE k)) 31 (by omega)
  generalize (tellE (readE k)).getD 31 0 = ub at tU hub
  generalize tellE (readE k) = LB at lB bB fB rB eK hub
  generalize readE k = A at hA oa ts bB tR
  generalize fitE (topK k) = ft at tf fT
  generalize fitE k = q at tf fk eK
  clear tT
  have hub7 : ¬ (127 : Int) < (ub.toNat : Int) := by omega
  clear tU
  obtain ⟨K0, hK0⟩ : ∃ K0, K0 = primeK (UInt8.ofNat 237) := ⟨_, rfl⟩
  have p0 : ∀ W, Calls Try.prog 13 #[.int .u8 0] W fun e w' => e = .returned (.agg (K0.map byt).toArray) ∧ Below W.heap.size W w' := fun W => by
    rw [hK0]; exact prime_any 0 (by decide) W
  have l0 : K0.length = 32 := by rw [hK0]; exact primeK_length _
  have c00 : (K0.map byt)[0]? = some (.int .u8 237) := by rw [hK0, primeK_eq]; rfl
  have cSet : K0.set 0 (UInt8.ofNat 237 + N) = primeK (UInt8.ofNat 237 + N) := by rw [hK0]; exact over_key N hN19
  have cAdd : IntKind.u8.wrap ((237 : Int) + (N.toNat : Int)) = ((UInt8.ofNat 237 + N).toNat : Int) := by
    rw [over_nat N hN19, IntKind.wrap_u8]
    omega
  clear hK0
  have fO := fun W => fitsE (primeK (UInt8.ofNat 237 + N)) (primeK_length _) W
  rw [over_fits N hN19] at fO
  have rO := fun W => read_any (primeK (UInt8.ofNat 237 + N)) (primeK_length _) W
  have bO := fun W => bytes_any (readE (primeK (UInt8.ofNat 237 + N))) W
  rw [over_tell N hN19] at bO
  have lO := primeK_length (UInt8.ofNat 237 + N)
  generalize readE (primeK (UInt8.ofNat 237 + N)) = RO at rO bO
  generalize UInt8.ofNat 237 + N = XO at cSet cAdd fO rO lO
  generalize primeK XO = KO at cSet fO rO lO
  have bN := build23k N
  have eN : ∀ W, (Op.equalIn 10000 23 (.agg ((keyN N).map byt).toArray) (.agg ((keyN N).map byt).toArray)).run Try.prog W = .ok true W := fun W => by
    rw [eq23 _ _ (keyN_length N) (keyN_length N)]; simp
  generalize keyN N = KN at bO bN eN
  have hN1 : (N + 1).toNat = N.toNat + 1 := by
    rw [UInt8.toNat_add]
    show (N.toNat + 1) % 256 = _
    omega
  have uAdd : IntKind.u8.wrap ((N.toNat : Int) + 1) = ((N + 1).toNat : Int) := by
    rw [hN1, IntKind.wrap_u8]
    omega
  have pU := fun W => prime_any (N + 1) (by omega) W
  have fU := fun W => fitsE (primeK (UInt8.ofNat (237 - (N + 1).toNat))) (primeK_length _) W
  rw [under_fits N hN19] at fU
  generalize primeK (UInt8.ofNat (237 - (N + 1).toNat)) = KU at pU fU
  obtain ⟨y1, hy1⟩ : ∃ y : Int, ((N + 1).toNat : Int) = y := ⟨_, rfl⟩
  rw [hy1] at uAdd pU
  clear hy1 hN1
  have v1 : ∀ W, Calls Try.prog 14 #[.int .u32 ((N.toNat : Int) + 3)] W fun e w' => e = .returned (small (BitVec.ofNat 32 (N.toNat + 3))).v ∧ Below W.heap.size W w' := fun W => by
    have h := small_any (BitVec.ofNat 32 (N.toNat + 3)) W
    have e : (((BitVec.ofNat 32 (N.toNat + 3)).toNat : Nat) : Int) = (N.toNat : Int) + 3 := by
      rw [BitVec.toNat_ofNat]
      omega
    rw [e] at h
    exact h
  generalize small (BitVec.ofNat 32 (N.toNat + 3)) = C at v1
  have wA : IntKind.u32.wrap (N.toNat : Int) = (N.toNat : Int) := by rw [IntKind.wrap_u32']; omega
  have wB : IntKind.u32.wrap ((N.toNat : Int) + 3) = (N.toNat : Int) + 3 := by rw [IntKind.wrap_u32']; omega
  have mA : (m.toNat : Int).tmod 19 = (N.toNat : Int) := by rw [Int.tmod_eq_emod_of_nonneg (by omega)]; omega
  have mB : (m.toNat : Int) % 19 = (N.toNat : Int) := by omega
  obtain ⟨mi, hmi⟩ : ∃ x : Int, (m.toNat : Int) = x := ⟨_, rfl⟩
  have wM : IntKind.u8.wrap (N.toNat : Int) = (N.toNat : Int) := by rw [IntKind.wrap_u8]; omega
  have N0 : (0 : Int) ≤ (N.toNat : Int) := by omega
  obtain ⟨ni, hni⟩ : ∃ x : Int, (N.toNat : Int) = x := ⟨_, rfl⟩
  rw [hmi] at mA mB ⊢
  rw [hni] at mA mB cAdd bN uAdd v1 wA wB wM N0
  clear hmi hni hNm hN19
  have sO := fun (h : z % 2 = 1) W => swap_odd h C A W
  have sE := fun (h : z % 2 = 0) W => swap_even h C A W
  have hz := and1_i64 z
  have TF := hide tf
  have FT := hide fT
  clear tf fT
  go_enter Try.func3, Try.ntmps3
  go_upto_region 1 with (first | (refine wpList_boxAt rfl 23 (.tmp 0) rfl (k.map byt) rfl (w.heap.size) rfl ?_))
  have b0 : Blk (w.alloc (.cells (k.map byt).toArray 23)) (w.heap.size) (k.map byt) 23 := by
    have := Blk.new w (k.map byt) 23
    simpa using this
  have be : Below w.heap.size w (w.alloc (.cells (k.map byt).toArray 23)) := by go_grown
  generalize (w.alloc (.cells (k.map byt).toArray 23)) = w1 at b0 be ⊢
  obtain ⟨n, hn⟩ : ∃ n, w.heap.size = n := ⟨_, rfl⟩
  rw [hn] at b0 be ⊢
  try simp only [Act.put, List.setIfInBounds_toArray, List.set_cons_zero, List.set_cons_succ]
  have hb0 := b0.lt
  refine lst_newT 2 rfl rfl rfl rfl 7 rfl 27 rfl z5 zero27 rfl rfl (.tmp 16) rfl ?_
  simp only [List.take_succ_cons, List.take_zero]
  refine wpLex_cons2 _ (uni_row rfl 23 (.tmp 3) rfl (n) (k.map byt) 23 rfl (fun W hW => b0.on hW) Try.underlying23 rfl (key_info hk)) (by simp only [Act.put, List.setIfInBounds_toArray, List.set_cons_zero, List.set_cons_succ]; rfl) ?_
  refine wpLex_cons2 _ (uni_callF (by rfl) 9 [Operand.tmp 15] #[23] rfl [.agg ((k.map byt)).toArray] (A.v) rfl enter9 (fun W hW => hA W)) (by simp only [Act.put, List.setIfInBounds_toArray, List.set_cons_zero, List.set_cons_succ]; rfl) ?_
  refine ⟨A.cs, rfl, by simp, by simp, cs_info _, cs_len _, cs_one _, fun gca w2 hg hW ca => ?_⟩
  simp only [Act.put, List.setIfInBounds_toArray, List.set_cons_zero, List.set_cons_succ]
  replace b0 := b0.on hW
  replace be := be.trans (hW.mono (by have := be.size; omega))
  have la : n < gca := Nat.lt_of_lt_of_le hb0 hg
  clear hb0
  clear hW hg w1
  clear hA
  go_upto_region 2 with fail
  refine lst_newT 2 rfl rfl rfl rfl 8 rfl 23 rfl (z32.map byt) zero23 rfl rfl (.tmp 18) rfl ?_
  simp only [List.take_succ_cons, List.take_zero]
  refine wpLex_cons2 _ (uni_row rfl 27 (.tmp 7) rfl (gca) A.cs 27 rfl (fun W hW => ca.on hW) Try.underlying27 rfl (cs_info _)) (by simp only [Act.put, List.setIfInBounds_toArray, List.set_cons_zero, List.set_cons_succ]; rfl) ?_
  refine wpLex_cons2 _ (uni_callF (by rfl) 10 [Operand.tmp 17] #[27] rfl [A.v] (.agg (LB.map byt).toArray) rfl enter10 (fun W hW => bB W)) (by simp only [Act.put, List.setIfInBounds_toArray, List.set_cons_zero, List.set_cons_succ]; rfl) ?_
  refine ⟨(LB.map byt), rfl, by simp, by simp, key_info lB, key_len lB, byts_one _, fun gcb w3 hg hW cb => ?_⟩
  simp only [Act.put, List.setIfInBounds_toArray, List.set_cons_zero, List.set_cons_succ]
  replace b0 := b0.on hW
  replace ca := ca.on hW
  replace be := be.trans (hW.mono (by have := be.size; omega))
  clear hW hg w2
  go_upto_region 3 with fail
  refine reg_all (by kernel_rfl) (by kernel_rfl) ?_
  refine wpLex_cons2 _ (uni_row rfl 23 (.tmp 8) rfl (gcb) (LB.map byt) 23 rfl (fun W hW => cb.on hW) Try.underlying23 rfl (key_info lB)) (by simp only [Act.put, List.setIfInBounds_toArray, List.set_cons_zero, List.set_cons_succ]; rfl) ?_
  refine wpLex_cons2 _ (uni_callF (by rfl) 11 [Operand.tmp 19] #[23] rfl [.agg ((LB.map byt)).toArray] (.bool true) rfl enter11 (fun W hW => fB W)) (by simp only [Act.put, List.setIfInBounds_toArray, List.set_cons_zero, List.set_cons_succ]; rfl) ?_
  refine wpLex_cons2 _ (uni_val (by rfl) (Op.unOp UnOp.not 4 (Operand.tmp 20)) rfl (.bool false) (fun o' ho W _ => by go_simp)) (by simp only [Act.put, List.setIfInBounds_toArray, List.set_cons_zero, List.set_cons_succ]; rfl) ?_
  refine wpLex_cons2 _ (uni_val (by rfl) (Op.move (Operand.tmp 21)) rfl (.bool false) (fun o' ho W _ => by go_simp)) (by simp only [Act.put, List.setIfInBounds_toArray, List.set_cons_zero, List.set_cons_succ]; rfl) ?_
  refine wpLex_cons2 _ (uni_val (by rfl) (Op.indexAddr 23 (Operand.tmp 8) (Operand.const (Value.int IntKind.i64 31))) rfl (.pointer (some ⟨gcb, 31, none⟩)) (fun o' ho W _ => by go_simp)) (by simp only [Act.put, List.setIfInBounds_toArray, List.set_cons_zero, List.set_cons_succ]; rfl) ?_
  refine wpLex_cons2 _ (uni_cell (by rfl) 5 (.tmp 23) rfl gcb 31 (.int .u8 (ub.toNat : Int)) rfl (fun W hW => ((cb.on hW).cell 31).trans hub) Try.underlying5 rfl) (by simp only [Act.put, List.setIfInBounds_toArray, List.set_cons_zero, List.set_cons_succ]; rfl) ?_
  refine wpLex_cons2 _ (uni_val (by rfl) (Op.binOp BinOp.gtr 5 (Operand.tmp 24) (Operand.const (Value.int IntKind.u8 127)) 5) rfl (.bool false) (fun o' ho W _ => by go_simp)) (by simp only [Act.put, List.setIfInBounds_toArray, List.set_cons_zero, List.set_cons_succ]; rfl) ?_
  refine wpLex_cons2 _ (uni_val (by rfl) (Op.pick (Operand.tmp 22) (Operand.const (Value.bool true)) (Operand.tmp 25)) rfl (.bool false) (fun o' ho W _ => by go_simp)) (by simp only [Act.put, List.setIfInBounds_toArray, List.set_cons_zero, List.set_cons_succ]; rfl) ?_
  refine wpLex_cons2 _ (uni_val (by rfl) (Op.move (Operand.tmp 26)) rfl (.bool false) (fun o' ho W _ => by go_simp)) (by simp only [Act.put, List.setIfInBounds_toArray, List.set_cons_zero, List.set_cons_succ]; rfl) ?_
  refine wpLex_cons2 _ (uni_rowG (by rfl) 23 (.tmp 8) rfl (gcb) (LB.map byt) 23 rfl (fun W hW => cb.on hW) Try.underlying23 rfl (key_info lB)) (by simp only [Act.put, List.setIfInBounds_toArray, List.set_cons_zero, List.set_cons_succ]; rfl) ?_
  refine wpLex_cons2 _ (uni_rowG (by rfl) 23 (.tmp 3) rfl (n) (k.map byt) 23 rfl (fun W hW => b0.on hW) Try.underlying23 rfl (key_info hk)) (by simp only [Act.put, List.setIfInBounds_toArray, List.set_cons_zero, List.set_cons_succ]; rfl) ?_
  refine wpLex_cons2 _ (uni_val (by rfl) (Op.binOp BinOp.eql 23 (Operand.tmp 28) (Operand.tmp 29) 23) rfl (.bool q) (fun o' ho W _ => by have hg := guard23; go_simp)) (by simp only [Act.put, List.setIfInBounds_toArray, List.set_cons_zero, List.set_cons_succ]; rfl) ?_
  refine wpLex_cons2 _ (uni_rowG (by rfl) 23 (.tmp 3) rfl (n) (k.map byt) 23 rfl (fun W hW => b0.on hW) Try.underlying23 rfl (key_info hk)) (by simp only [Act.put, List.setIfInBounds_toArray, List.set_cons_zero, List.set_cons_succ]; rfl) ?_
  refine wpLex_cons2 _ (uni_callF (by rfl) 11 [Operand.tmp 31] #[23] rfl [.agg ((k.map byt)).toArray] (.bool q) rfl enter11 (fun W hW => fk W)) (by simp only [Act.put, List.setIfInBounds_toArray, List.set_cons_zero, List.set_cons_succ]; rfl) ?_
  refine wpLex_cons2 _ (uni_val (by rfl) (Op.binOp BinOp.neq 4 (Operand.tmp 30) (Operand.tmp 32) 4) rfl (.bool false) (fun o' ho W _ => by go_simp)) (by simp only [Act.put, List.setIfInBounds_toArray, List.set_cons_zero, List.set_cons_succ]; rfl) ?_
  refine wpLex_cons2 _ (uni_val (by rfl) (Op.pick (Operand.tmp 27) (Operand.const (Value.bool true)) (Operand.tmp 33)) rfl (.bool false) (fun o' ho W _ => by go_simp)) (by simp only [Act.put, List.setIfInBounds_toArray, List.set_cons_zero, List.set_cons_succ]; rfl) ?_
  refine wpLex_cons2 _ (uni_val (by rfl) (Op.move (Operand.tmp 34)) rfl (.bool false) (fun o' ho W _ => by go_simp)) (by simp only [Act.put, List.setIfInBounds_toArray, List.set_cons_zero, List.set_cons_succ]; rfl) ?_
  refine wpLex_cons2 _ (uni_rowG (by rfl) 23 (.tmp 8) rfl (gcb) (LB.map byt) 23 rfl (fun W hW => cb.on hW) Try.underlying23 rfl (key_info lB)) (by simp only [Act.put, List.setIfInBounds_toArray, List.set_cons_zero, List.set_cons_succ]; rfl) ?_
  refine wpLex_cons2 _ (uni_callF (by rfl) 9 [Operand.tmp 36] #[23] rfl [.agg ((LB.map byt)).toArray] (RB.v) rfl enter9 (fun W hW => rB W)) (by simp only [Act.put, List.setIfInBounds_toArray, List.set_cons_zero, List.set_cons_succ]; rfl) ?_
  refine wpLex_cons2 _ (uni_rowG (by rfl) 27 (.tmp 7) rfl (gca) A.cs 27 rfl (fun W hW => ca.on hW) Try.underlying27 rfl (cs_info _)) (by simp only [Act.put, List.setIfInBounds_toArray, List.set_cons_zero, List.set_cons_succ]; rfl) ?_
  refine wpLex_cons2 _ (uni_callF (by rfl) 12 [Operand.tmp 37, Operand.tmp 38] #[27, 27] rfl [(RB.v), A.v] (.bool true) rfl enter12 (fun W hW => equalT tR W)) (by simp only [Act.put, List.setIfInBounds_toArray, List.set_cons_zero, List.set_cons_succ]; rfl) ?_
  refine wpLex_cons2 _ (uni_val (by rfl) (Op.unOp UnOp.not 4 (Operand.tmp 39)) rfl (.bool false) (fun o' ho W _ => by go_simp)) (by simp only [Act.put, List.setIfInBounds_toArray, List.set_cons_zero, List.set_cons_succ]; rfl) ?_
  refine wpLex_cons2 _ (uni_val (by rfl) (Op.pick (Operand.tmp 35) (Operand.const (Value.bool true)) (Operand.tmp 40)) rfl (.bool false) (fun o' ho W _ => by go_simp)) (by simp only [Act.put, List.setIfInBounds_toArray, List.set_cons_zero, List.set_cons_succ]; rfl) ?_
  intro w4 hW
  replace b0 := b0.on hW
  replace ca := ca.on hW
  replace cb := cb.on hW
  replace be := be.trans (hW.mono (by have := be.size; omega))
  clear hW w3
  clear cb fB rB tR eK hub bB
  go_upto_region 5 with fail
  have hcl := ca.lt
  refine lst_newT 1 rfl rfl rfl rfl 9 rfl 23 rfl (z32.map byt) zero23 rfl rfl (.tmp 42) rfl ?_
  simp only [List.take_succ_cons, List.take_zero]
  refine wpLex_cons2 _ (uni_row rfl 23 (.tmp 3) rfl (n) (k.map byt) 23 rfl (fun W hW => b0.on hW) Try.underlying23 rfl (key_info hk)) (by simp only [Act.put, List.setIfInBounds_toArray, List.set_cons_zero, List.set_cons_succ]; rfl) ?_
  refine ⟨(k.map byt), rfl, by simp, by simp, key_info hk, key_len hk, byts_one _, fun gct w5 hg hW ct => ?_⟩
  simp only [Act.put, List.setIfInBounds_toArray, List.set_cons_zero, List.set_cons_succ]
  replace b0 := b0.on hW
  replace ca := ca.on hW
  replace be := be.trans (hW.mono (by have := be.size; omega))
  have hne : gca ≠ gct := Nat.ne_of_lt (Nat.lt_of_lt_of_le hcl hg)
  have hgl : n < gct := Nat.lt_of_lt_of_le (Nat.lt_trans la hcl) hg
  clear hcl
  clear hW hg w4
  go_upto_region 6 with fail
  have hc := ct.cell 31
  rw [byts_at k 31 (by omega)] at hc
  have hfz := ct.frozen 31
  have hlw : Hid (Blk (w5.setCell ⟨gct, 31, none⟩ (.int .u8 ((k.getD 31 0 ^^^ 128).toNat : Int))) gct ((topK k).map byt) 23) := by
    have := ct.set 31 (.int .u8 ((k.getD 31 0 ^^^ 128).toNat : Int))
    rw [byt_set] at this
    exact this
  have hx := xor128_u8 (k.getD 31 0)
  generalize (k.getD 31 0 ^^^ 128) = v at hx hlw
  generalize k.getD 31 0 = u at hc hx
  replace b0 := b0.setOther gct 31 (.int .u8 (v.toNat : Int)) (by omega)
  replace ca := ca.setOther gct 31 (.int .u8 (v.toNat : Int)) hne
  replace be := be.setCell (show n ≤ (⟨gct, 31, none⟩ : Addr).block by simp; omega) (.int .u8 (v.toNat : Int))
  have B0 := hide b0
  have CA := hide ca
  have BE := hide be
  clear b0 ca be ct
  go_upto_region 7 with fail
  have b0 := B0.out
  have ca := CA.out
  have be := BE.out
  have ct := hlw.out
  have fT := FT.out
  clear FT
  generalize topK k = TK at ct rT lT fT
  clear B0 CA BE hlw hc hfz hx
  generalize w5.setCell ⟨gct, 31, none⟩ (.int .u8 (v.toNat : Int)) = wq at b0 ca be ct ⊢
  go_cut [59] (fun u59 wz => u59 = .bool false ∧ Bs n w wz gca A)
  · cases q with
    | true =>
      have hft := TF.out rfl
      subst hft
      refine reg_all (by kernel_rfl) (by kernel_rfl) ?_
      refine wpLex_cons2 _ (uni_row rfl 23 (.tmp 9) rfl (gct) (TK.map byt) 23 rfl (fun W hW => ct.on hW) Try.underlying23 rfl (key_info lT)) (by simp only [Act.put, List.setIfInBounds_toArray, List.set_cons_zero, List.set_cons_succ]; rfl) ?_
      refine wpLex_cons2 _ (uni_callF (by rfl) 9 [Operand.tmp 47] #[23] rfl [.agg ((TK.map byt)).toArray] (RT.v) rfl enter9 (fun W hW => rT W)) (by simp only [Act.put, List.setIfInBounds_toArray, List.set_cons_zero, List.set_cons_succ]; rfl) ?_
      refine wpLex_cons2 _ (uni_row rfl 27 (.tmp 7) rfl (gca) A.cs 27 rfl (fun W hW => ca.on hW) Try.underlying27 rfl (cs_info _)) (by simp only [Act.put, List.setIfInBounds_toArray, List.set_cons_zero, List.set_cons_succ]; rfl) ?_
      refine wpLex_cons2 _ (uni_callF (by rfl) 12 [Operand.tmp 48, Operand.tmp 49] #[27, 27] rfl [(RT.v), A.v] (.bool true) rfl enter12 (fun W hW => equalT ts W)) (by simp only [Act.put, List.setIfInBounds_toArray, List.set_cons_zero, List.set_cons_succ]; rfl) ?_
      refine wpLex_cons2 _ (uni_val (by rfl) (Op.unOp UnOp.not 4 (Operand.tmp 50)) rfl (.bool false) (fun o' ho W _ => by go_simp)) (by simp only [Act.put, List.setIfInBounds_toArray, List.set_cons_zero, List.set_cons_succ]; rfl) ?_
      refine wpLex_cons2 _ (uni_val (by rfl) (Op.move (Operand.tmp 51)) rfl (.bool false) (fun o' ho W _ => by go_simp)) (by simp only [Act.put, List.setIfInBounds_toArray, List.set_cons_zero, List.set_cons_succ]; rfl) ?_
      refine wpLex_cons2 _ (uni_rowG (by rfl) 23 (.tmp 3) rfl (n) (k.map byt) 23 rfl (fun W hW => b0.on hW) Try.underlying23 rfl (key_info hk)) (by simp only [Act.put, List.setIfInBounds_toArray, List.set_cons_zero, List.set_cons_succ]; rfl) ?_
      refine wpLex_cons2 _ (uni_callF (by rfl) 11 [Operand.tmp 53] #[23] rfl [.agg ((k.map byt)).toArray] (.bool true) rfl enter11 (fun W hW => fk W)) (by simp only [Act.put, List.setIfInBounds_toArray, List.set_cons_zero, List.set_cons_succ]; rfl) ?_
      refine wpLex_cons2 _ (uni_val (by rfl) (Op.move (Operand.tmp 54)) rfl ((.bool true)) (fun o' ho W _ => by go_simp)) (by simp only [Act.put, List.setIfInBounds_toArray, List.set_cons_zero, List.set_cons_succ]; rfl) ?_
      refine wpLex_cons2 _ (uni_rowG (by rfl) 23 (.tmp 9) rfl (gct) (TK.map byt) 23 rfl (fun W hW => ct.on hW) Try.underlying23 rfl (key_info lT)) (by simp only [Act.put, List.setIfInBounds_toArray, List.set_cons_zero, List.set_cons_succ]; rfl) ?_
      refine wpLex_cons2 _ (uni_callF (by rfl) 11 [Operand.tmp 56] #[23] rfl [.agg ((TK.map byt)).toArray] (.bool false) rfl enter11 (fun W hW => fT W)) (by simp only [Act.put, List.setIfInBounds_toArray, List.set_cons_zero, List.set_cons_succ]; rfl) ?_
      refine wpLex_cons2 _ (uni_val (by rfl) (Op.pick (Operand.tmp 55) (Operand.tmp 57) (Operand.const (Value.bool false))) rfl (.bool false) (fun o' ho W _ => by go_simp)) (by simp only [Act.put, List.setIfInBounds_toArray, List.set_cons_zero, List.set_cons_succ]; rfl) ?_
      refine wpLex_cons2 _ (uni_val (by rfl) (Op.pick (Operand.tmp 52) (Operand.const (Value.bool true)) (Operand.tmp 58)) rfl (.bool false) (fun o' ho W _ => by go_simp)) (by simp only [Act.put, List.setIfInBounds_toArray, List.set_cons_zero, List.set_cons_succ]; rfl) ?_
      intro wz hW
      have be2 := be.trans (hW.mono (by have := be.size; omega))
      go_wp2
      go_meet
      exact ⟨rfl, ca.on hW, be2⟩
    | false =>
      refine reg_all (by kernel_rfl) (by kernel_rfl) ?_
      refine wpLex_cons2 _ (uni_row rfl 23 (.tmp 9) rfl (gct) (TK.map byt) 23 rfl (fun W hW => ct.on hW) Try.underlying23 rfl (key_info lT)) (by simp only [Act.put, List.setIfInBounds_toArray, List.set_cons_zero, List.set_cons_succ]; rfl) ?_
      refine wpLex_cons2 _ (uni_callF (by rfl) 9 [Operand.tmp 47] #[23] rfl [.agg ((TK.map byt)).toArray] (RT.v) rfl enter9 (fun W hW => rT W)) (by simp only [Act.put, List.setIfInBounds_toArray, List.set_cons_zero, List.set_cons_succ]; rfl) ?_
      refine wpLex_cons2 _ (uni_row rfl 27 (.tmp 7) rfl (gca) A.cs 27 rfl (fun W hW => ca.on hW) Try.underlying27 rfl (cs_info _)) (by simp only [Act.put, List.setIfInBounds_toArray, List.set_cons_zero, List.set_cons_succ]; rfl) ?_
      refine wpLex_cons2 _ (uni_callF (by rfl) 12 [Operand.tmp 48, Operand.tmp 49] #[27, 27] rfl [(RT.v), A.v] (.bool true) rfl enter12 (fun W hW => equalT ts W)) (by simp only [Act.put, List.setIfInBounds_toArray, List.set_cons_zero, List.set_cons_succ]; rfl) ?_
      refine wpLex_cons2 _ (uni_val (by rfl) (Op.unOp UnOp.not 4 (Operand.tmp 50)) rfl (.bool false) (fun o' ho W _ => by go_simp)) (by simp only [Act.put, List.setIfInBounds_toArray, List.set_cons_zero, List.set_cons_succ]; rfl) ?_
      refine wpLex_cons2 _ (uni_val (by rfl) (Op.move (Operand.tmp 51)) rfl (.bool false) (fun o' ho W _ => by go_simp)) (by simp only [Act.put, List.setIfInBounds_toArray, List.set_cons_zero, List.set_cons_succ]; rfl) ?_
      refine wpLex_cons2 _ (uni_rowG (by rfl) 23 (.tmp 3) rfl (n) (k.map byt) 23 rfl (fun W hW => b0.on hW) Try.underlying23 rfl (key_info hk)) (by simp only [Act.put, List.setIfInBounds_toArray, List.set_cons_zero, List.set_cons_succ]; rfl) ?_
      refine wpLex_cons2 _ (uni_callF (by rfl) 11 [Operand.tmp 53] #[23] rfl [.agg ((k.map byt)).toArray] (.bool false) rfl enter11 (fun W hW => fk W)) (by simp only [Act.put, List.setIfInBounds_toArray, List.set_cons_zero, List.set_cons_succ]; rfl) ?_
      refine wpLex_cons2 _ (uni_val (by rfl) (Op.move (Operand.tmp 54)) rfl ((.bool false)) (fun o' ho W _ => by go_simp)) (by simp only [Act.put, List.setIfInBounds_toArray, List.set_cons_zero, List.set_cons_succ]; rfl) ?_
      refine wpLex_cons2 _ (uni_skip (by rfl)) (by simp only [Act.put, List.setIfInBounds_toArray, List.set_cons_zero, List.set_cons_succ]; rfl) ?_
      refine wpLex_cons2 _ (uni_skip (by rfl)) (by simp only [Act.put, List.setIfInBounds_toArray, List.set_cons_zero, List.set_cons_succ]; rfl) ?_
      refine wpLex_cons2 _ (uni_val (by rfl) (Op.pick (Operand.tmp 55) (Operand.tmp 57) (Operand.const (Value.bool false))) rfl (.bool false) (fun o' ho W _ => by go_simp)) (by simp only [Act.put, List.setIfInBounds_toArray, List.set_cons_zero, List.set_cons_succ]; rfl) ?_
      refine wpLex_cons2 _ (uni_val (by rfl) (Op.pick (Operand.tmp 52) (Operand.const (Value.bool true)) (Operand.tmp 58)) rfl (.bool false) (fun o' ho W _ => by go_simp)) (by simp only [Act.put, List.setIfInBounds_toArray, List.set_cons_zero, List.set_cons_succ]; rfl) ?_
      intro wz hW
      have be2 := be.trans (hW.mono (by have := be.size; omega))
      go_wp2
      go_meet
      exact ⟨rfl, ca.on hW, be2⟩
  · obtain ⟨rfl, hR⟩ := hcut
    obtain ⟨ca, be⟩ := hR
    clear b0 ct rT fT ts TF fk lT
    go_upto_region 9 with fail
    have hcl := ca.lt
    refine lst_newT 1 rfl rfl rfl rfl 10 rfl 23 rfl (z32.map byt) zero23 rfl rfl (.tmp 60) rfl ?_
    simp only [List.take_succ_cons, List.take_zero]
    refine wpLex_cons2 _ (uni_callF (by rfl) 13 [Operand.const (Value.int IntKind.u8 0)] #[5] rfl [Value.int IntKind.u8 0] (.agg (K0.map byt).toArray) rfl enter13 (fun W hW => p0 W)) (by simp only [Act.put, List.setIfInBounds_toArray, List.set_cons_zero, List.set_cons_succ]; rfl) ?_
    refine ⟨(K0.map byt), rfl, by simp, by simp, key_info l0, key_len l0, byts_one _, fun gco w30 hg hW co => ?_⟩
    simp only [Act.put, List.setIfInBounds_toArray, List.set_cons_zero, List.set_cons_succ]
    replace ca := ca.on hW
    replace be := be.trans (hW.mono (by have := be.size; omega))
    have hno : gca ≠ gco := Nat.ne_of_lt (Nat.lt_of_lt_of_le hcl hg)
    have hgo : n < gco := Nat.lt_of_lt_of_le (Nat.lt_trans la hcl) hg
    clear hcl
    clear hW hg wc
    have hc : w30.cell? ⟨gco, 0, none⟩ = some (.int .u8 237) := (co.cell 0).trans c00
    have hfz := co.frozen 0
    have hlw : Hid (Blk (w30.setCell ⟨gco, 0, none⟩ (.int .u8 (XO.toNat : Int))) gco (KO.map byt) 23) := by
      have := co.set 0 (.int .u8 (XO.toNat : Int))
      rw [byt_set, cSet] at this
      exact this
    replace ca := ca.setOther gco 0 (.int .u8 (XO.toNat : Int)) hno
    replace be := be.setCell (show n ≤ (⟨gco, 0, none⟩ : Addr).block by simp; omega) (.int .u8 (XO.toNat : Int))
    have CA := hide ca
    have BE := hide be
    have CS := hide cSet
    clear ca be co cSet c00
    go_upto_region 12 with fail
    have ca := CA.out
    have be := BE.out
    have co := hlw.out
    clear CA BE hlw hc hfz CS
    generalize w30.setCell ⟨gco, 0, none⟩ (.int .u8 (XO.toNat : Int)) = wq2 at ca be co ⊢
    refine lst_all ?_
    refine wpLex_cons2 _ (uni_row rfl 23 (.tmp 10) rfl (gco) (KO.map byt) 23 rfl (fun W hW => co.on hW) Try.underlying23 rfl (key_info lO)) (by simp only [Act.put, List.setIfInBounds_toArray, List.set_cons_zero, List.set_cons_succ]; rfl) ?_
    refine wpLex_cons2 _ (uni_callF (by rfl) 11 [Operand.tmp 68] #[23] rfl [.agg ((KO.map byt)).toArray] (.bool false) rfl enter11 (fun W hW => fO W)) (by simp only [Act.put, List.setIfInBounds_toArray, List.set_cons_zero, List.set_cons_succ]; rfl) ?_
    refine wpLex_cons2 _ (uni_val (by rfl) (Op.move (Operand.tmp 69)) rfl ((.bool false)) (fun o' ho W _ => by go_simp)) (by simp only [Act.put, List.setIfInBounds_toArray, List.set_cons_zero, List.set_cons_succ]; rfl) ?_
    refine wpLex_cons2 _ (uni_rowG (by rfl) 23 (.tmp 10) rfl (gco) (KO.map byt) 23 rfl (fun W hW => co.on hW) Try.underlying23 rfl (key_info lO)) (by simp only [Act.put, List.setIfInBounds_toArray, List.set_cons_zero, List.set_cons_succ]; rfl) ?_
    refine wpLex_cons2 _ (uni_callF (by rfl) 9 [Operand.tmp 71] #[23] rfl [.agg ((KO.map byt)).toArray] (RO.v) rfl enter9 (fun W hW => rO W)) (by simp only [Act.put, List.setIfInBounds_toArray, List.set_cons_zero, List.set_cons_succ]; rfl) ?_
    refine wpLex_cons2 _ (uni_callF (by rfl) 10 [Operand.tmp 72] #[27] rfl [(RO.v)] (.agg (KN.map byt).toArray) rfl enter10 (fun W hW => bO W)) (by simp only [Act.put, List.setIfInBounds_toArray, List.set_cons_zero, List.set_cons_succ]; rfl) ?_
    refine wpLex_cons2 _ (uni_val (by rfl) (Op.move (Operand.tmp 1)) rfl (.int .u8 ni) (fun o' ho W _ => by go_simp)) (by simp only [Act.put, List.setIfInBounds_toArray, List.set_cons_zero, List.set_cons_succ]; rfl) ?_
    refine wpLex_cons2 _ (uni_build1 (by rfl) 23 (.tmp 74) rfl (.int .u8 ni) (.agg (KN.map byt).toArray) rfl bN) (by simp only [Act.put, List.setIfInBounds_toArray, List.set_cons_zero, List.set_cons_succ]; rfl) ?_
    refine wpLex_cons2 _ (uni_val (by rfl) (Op.binOp BinOp.neq 23 (Operand.tmp 73) (Operand.tmp 75) 23) rfl (.bool false) (fun o' ho W _ => by have hg := guard23; go_simp)) (by simp only [Act.put, List.setIfInBounds_toArray, List.set_cons_zero, List.set_cons_succ]; rfl) ?_
    refine wpLex_cons2 _ (uni_val (by rfl) (Op.pick (Operand.tmp 70) (Operand.const (Value.bool true)) (Operand.tmp 76)) rfl (.bool false) (fun o' ho W _ => by go_simp)) (by simp only [Act.put, List.setIfInBounds_toArray, List.set_cons_zero, List.set_cons_succ]; rfl) ?_
    refine wpLex_cons2 _ (uni_val (by rfl) (Op.move (Operand.tmp 77)) rfl (.bool false) (fun o' ho W _ => by go_simp)) (by simp only [Act.put, List.setIfInBounds_toArray, List.set_cons_zero, List.set_cons_succ]; rfl) ?_
    refine wpLex_cons2 _ (uni_val (by rfl) (Op.move (Operand.tmp 1)) rfl (.int .u8 ni) (fun o' ho W _ => by go_simp)) (by simp only [Act.put, List.setIfInBounds_toArray, List.set_cons_zero, List.set_cons_succ]; rfl) ?_
    refine wpLex_cons2 _ (uni_val (by rfl) (Op.binOp BinOp.add 5 (Operand.tmp 79) (Operand.const (Value.int IntKind.u8 1)) 5) rfl (.int .u8 y1) (fun o' ho W _ => by go_simp)) (by simp only [Act.put, List.setIfInBounds_toArray, List.set_cons_zero, List.set_cons_succ]; rfl) ?_
    refine wpLex_cons2 _ (uni_callF (by rfl) 13 [Operand.tmp 80] #[5] rfl [.int .u8 y1] (.agg (KU.map byt).toArray) rfl enter13 (fun W hW => pU W)) (by simp only [Act.put, List.setIfInBounds_toArray, List.set_cons_zero, List.set_cons_succ]; rfl) ?_
    refine wpLex_cons2 _ (uni_callF (by rfl) 11 [Operand.tmp 81] #[23] rfl [(.agg (KU.map byt).toArray)] (.bool true) rfl enter11 (fun W hW => fU W)) (by simp only [Act.put, List.setIfInBounds_toArray, List.set_cons_zero, List.set_cons_succ]; rfl) ?_
    refine wpLex_cons2 _ (uni_val (by rfl) (Op.unOp UnOp.not 4 (Operand.tmp 82)) rfl (.bool false) (fun o' ho W _ => by go_simp)) (by simp only [Act.put, List.setIfInBounds_toArray, List.set_cons_zero, List.set_cons_succ]; rfl) ?_
    refine wpLex_cons2 _ (uni_val (by rfl) (Op.pick (Operand.tmp 78) (Operand.const (Value.bool true)) (Operand.tmp 83)) rfl (.bool false) (fun o' ho W _ => by go_simp)) (by simp only [Act.put, List.setIfInBounds_toArray, List.set_cons_zero, List.set_cons_succ]; rfl) ?_
    intro w31 hW
    replace ca := ca.on hW
    replace co := co.on hW
    replace be := be.trans (hW.mono (by have := be.size; omega))
    clear hW wq2
    clear co fO rO bO bN eN pU fU uAdd cAdd mA mB p0 l0 lO
    go_upto_region 14 with fail
    go_cut [11, 12] (fun u11 u12 wz => ∃ gc gd, u11 = .pointer (some ⟨gc, 0, none⟩) ∧ u12 = .pointer (some ⟨gd, 0, none⟩) ∧ Bs2 n w wz gc gd C A)
    · have H0 : Below w31.heap.size w31 { w31 with drawn := w31.drawn + 1 } := (Below.refl _ _).drew
      have rx : ∀ W, Below w31.heap.size w31 W → W.rangeAt gca 0 A.cs := fun W hW j v hv => by
        rw [(ca.on hW).cell, Nat.zero_add]; exact hv
      have hnb : n ≤ w31.heap.size := by have := ca.lt; omega
      refine wp_region_noPanic ?_
      refine wp_region_held (S := fun W => Below w31.heap.size w31 W) (by kernel_rfl) ?_
      refine takeH (i := 0) rfl (Op.move (Operand.tmp 1)) rfl 85 rfl (v := .int .u8 ni) (by kernel_rfl) (by kernel_rfl) (by kernel_rfl) (fun _ _ _ h => h) (by rfl) (fun o' ho W hW => by clear hW; go_simp) H0 ?_
      simp only [Act.put, List.setIfInBounds_toArray, List.set_cons_zero, List.set_cons_succ]
      refine takeH (i := 1) rfl (Op.convert 5 34 (Operand.tmp 85)) rfl 86 rfl (v := .int .u32 ni) (by kernel_rfl) (by kernel_rfl) (by kernel_rfl) (fun _ _ _ h => h) (by rfl) (fun o' ho W hW => by clear hW; go_simp) H0 ?_
      simp only [Act.put, List.setIfInBounds_toArray, List.set_cons_zero, List.set_cons_succ]
      refine takeH (i := 2) rfl (Op.binOp BinOp.add 34 (Operand.tmp 86) (Operand.const (Value.int IntKind.u32 3)) 34) rfl 87 rfl (v := .int .u32 (ni + 3)) (by kernel_rfl) (by kernel_rfl) (by kernel_rfl) (fun _ _ _ h => h) (by rfl) (fun o' ho W hW => by clear hW; go_simp) H0 ?_
      simp only [Act.put, List.setIfInBounds_toArray, List.set_cons_zero, List.set_cons_succ]
      refine takeH_load (i := 4) rfl 89 rfl 27 (.tmp 7) rfl (by kernel_rfl) (by kernel_rfl) (by kernel_rfl) (fun _ _ _ h => h) (by rfl) gca 0 rfl A.cs rfl rx Try.underlying27 rfl (cs_info _) H0 ?_
      simp only [Act.put, List.setIfInBounds_toArray, List.set_cons_zero, List.set_cons_succ]
      generalize ({ w31 with drawn := w31.drawn + 1 } : World) = x0 at H0 ⊢
      refine wpAnyH_all (rs := [3, 5, 6]) (by kernel_rfl) (by simp) (fun i hi => ?_)
      rcases (show i = 3 ∨ i = 5 ∨ i = 6 by simpa using hi) with rfl | rfl | rfl
      · skip
        refine opG_call (R := fun v wz => v = C.v ∧ Below x0.heap.size x0 wz) rfl (by rfl) (Op.call { callee := Callee.value (Operand.func 14), args := #[Operand.tmp 87], argTypes := #[34] }) rfl 88 rfl 14 #[.int .u32 (ni + 3)] (fun o' ho => by go_simp) ((v1 x0).mono fun e wz ⟨h1, h2⟩ => ⟨_, h1, rfl, h2⟩) ?_
        rintro v x3 ⟨rfl, hb3⟩
        have H3 := H0.trans (hb3.mono H0.size)
        refine ⟨H3, ?_⟩
        simp only [Act.put, List.setIfInBounds_toArray, List.set_cons_zero, List.set_cons_succ]
        refine eitherH (i := 5) (j := 6) (by kernel_rfl) ?_ ?_
        · skip
          refine opG_run rfl (by rfl) (.alloc 27) rfl 11 rfl _ _ (fun o' ho => run_new 27 ho z5 zero27 x3) ?_
          have H35 := H3.alloc H3.size (.cells z5.toArray 27)
          have bk5_35 := Blk.new x3 z5 27
          have lo5_35 : w31.heap.size ≤ x3.heap.size := H3.size
          obtain ⟨gg35, hgg35⟩ : ∃ y, x3.heap.size = y := ⟨_, rfl⟩
          rw [hgg35] at bk5_35 lo5_35  ⊢
          generalize x3.alloc (.cells z5.toArray 27) = x35 at H35 bk5_35  ⊢
          refine ⟨H35, ?_⟩
          simp only [Act.put, List.setIfInBounds_toArray, List.set_cons_zero, List.set_cons_succ]
          refine onlyH (i := 6) (by kernel_rfl) ?_
          refine opG_run rfl (by rfl) (.alloc 27) rfl 12 rfl _ _ (fun o' ho => run_new 27 ho z5 zero27 x35) ?_
          have H356 := H35.alloc H35.size (.cells z5.toArray 27)
          have hl5356 := (bk5_35).lt
          have bk5_356 := (bk5_35).alloc (.cells z5.toArray 27)
          have bk6_356 := Blk.new x35 z5 27
          have lo6_356 : w31.heap.size ≤ x35.heap.size := H35.size
          obtain ⟨gg356, hgg356⟩ : ∃ y, x35.heap.size = y := ⟨_, rfl⟩
          rw [hgg356] at bk6_356 lo6_356 hl5356 ⊢
          generalize x35.alloc (.cells z5.toArray 27) = x356 at H356 bk6_356 bk5_356 ⊢
          refine ⟨H356, ?_⟩
          simp only [Act.put, List.setIfInBounds_toArray, List.set_cons_zero, List.set_cons_succ]
          refine onlyH (i := 7) (by kernel_rfl) ?_
          refine op_row rfl (by rfl) rfl 27 (.tmp 11) (.tmp 88) rfl gg35 C.cs z5 27 rfl rfl bk5_356 (cs_info _) (cs_len _) (cs_one _) ?_
          refine ⟨below_setRow H356 _ _ lo5_35, ?_⟩
          refine onlyH (i := 8) (by kernel_rfl) ?_
          refine op_row rfl (by rfl) rfl 27 (.tmp 12) (.tmp 89) rfl gg356 A.cs z5 27 rfl rfl ((bk6_356).setRowOther _ _ (by omega)) (cs_info _) (cs_len _) (cs_one _) ?_
          refine ⟨below_setRow (below_setRow H356 _ _ lo5_35) _ _ lo6_356, ?_⟩
          refine wpAnyH_done (by kernel_rfl) ?_ _
          have T : Bs2 n w _ gg35 gg356 C A := ⟨((bk5_356).setRow C.cs).setRowOther gg356 A.cs.toArray (by omega), ((bk6_356).setRowOther gg35 C.cs.toArray (by omega)).setRow A.cs, be.trans ((below_setRow (below_setRow H356 gg35 C.cs.toArray lo5_35) gg356 A.cs.toArray lo6_356).mono hnb)⟩
          refine NoPanic.normal ?_
          go_wp2
          go_meet
          exact ⟨_, _, rfl, rfl, T⟩
        · skip
          refine opG_run rfl (by rfl) (.alloc 27) rfl 12 rfl _ _ (fun o' ho => run_new 27 ho z5 zero27 x3) ?_
          have H36 := H3.alloc H3.size (.cells z5.toArray 27)
          have bk6_36 := Blk.new x3 z5 27
          have lo6_36 : w31.heap.size ≤ x3.heap.size := H3.size
          obtain ⟨gg36, hgg36⟩ : ∃ y, x3.heap.size = y := ⟨_, rfl⟩
          rw [hgg36] at bk6_36 lo6_36  ⊢
          generalize x3.alloc (.cells z5.toArray 27) = x36 at H36 bk6_36  ⊢
          refine ⟨H36, ?_⟩
          simp only [Act.put, List.setIfInBounds_toArray, List.set_cons_zero, List.set_cons_succ]
          refine onlyH (i := 5) (by kernel_rfl) ?_
          refine opG_run rfl (by rfl) (.alloc 27) rfl 11 rfl _ _ (fun o' ho => run_new 27 ho z5 zero27 x36) ?_
          have H365 := H36.alloc H36.size (.cells z5.toArray 27)
          have hl6365 := (bk6_36).lt
          have bk6_365 := (bk6_36).alloc (.cells z5.toArray 27)
          have bk5_365 := Blk.new x36 z5 27
          have lo5_365 : w31.heap.size ≤ x36.heap.size := H36.size
          obtain ⟨gg365, hgg365⟩ : ∃ y, x36.heap.size = y := ⟨_, rfl⟩
          rw [hgg365] at bk5_365 lo5_365 hl6365 ⊢
          generalize x36.alloc (.cells z5.toArray 27) = x365 at H365 bk5_365 bk6_365 ⊢
          refine ⟨H365, ?_⟩
          simp only [Act.put, List.setIfInBounds_toArray, List.set_cons_zero, List.set_cons_succ]
          refine onlyH (i := 7) (by kernel_rfl) ?_
          refine op_row rfl (by rfl) rfl 27 (.tmp 11) (.tmp 88) rfl gg365 C.cs z5 27 rfl rfl bk5_365 (cs_info _) (cs_len _) (cs_one _) ?_
          refine ⟨below_setRow H365 _ _ lo5_365, ?_⟩
          refine onlyH (i := 8) (by kernel_rfl) ?_
          refine op_row rfl (by rfl) rfl 27 (.tmp 12) (.tmp 89) rfl gg36 A.cs z5 27 rfl rfl ((bk6_365).setRowOther _ _ (by omega)) (cs_info _) (cs_len _) (cs_one _) ?_
          refine ⟨below_setRow (below_setRow H365 _ _ lo5_365) _ _ lo6_36, ?_⟩
          refine wpAnyH_done (by kernel_rfl) ?_ _
          have T : Bs2 n w _ gg365 gg36 C A := ⟨((bk5_365).setRow C.cs).setRowOther gg36 A.cs.toArray (by omega), ((bk6_365).setRowOther gg365 C.cs.toArray (by omega)).setRow A.cs, be.trans ((below_setRow (below_setRow H365 gg365 C.cs.toArray lo5_365) gg36 A.cs.toArray lo6_36).mono hnb)⟩
          refine NoPanic.normal ?_
          go_wp2
          go_meet
          exact ⟨_, _, rfl, rfl, T⟩
      · skip
        refine opG_run rfl (by rfl) (.alloc 27) rfl 11 rfl _ _ (fun o' ho => run_new 27 ho z5 zero27 x0) ?_
        have H5 := H0.alloc H0.size (.cells z5.toArray 27)
        have bk5_5 := Blk.new x0 z5 27
        have lo5_5 : w31.heap.size ≤ x0.heap.size := H0.size
        obtain ⟨gg5, hgg5⟩ : ∃ y, x0.heap.size = y := ⟨_, rfl⟩
        rw [hgg5] at bk5_5 lo5_5  ⊢
        generalize x0.alloc (.cells z5.toArray 27) = x5 at H5 bk5_5  ⊢
        refine ⟨H5, ?_⟩
        simp only [Act.put, List.setIfInBounds_toArray, List.set_cons_zero, List.set_cons_succ]
        refine eitherH (i := 3) (j := 6) (by kernel_rfl) ?_ ?_
        · skip
          refine opG_call (R := fun v wz => v = C.v ∧ Below x5.heap.size x5 wz) rfl (by rfl) (Op.call { callee := Callee.value (Operand.func 14), args := #[Operand.tmp 87], argTypes := #[34] }) rfl 88 rfl 14 #[.int .u32 (ni + 3)] (fun o' ho => by go_simp) ((v1 x5).mono fun e wz ⟨h1, h2⟩ => ⟨_, h1, rfl, h2⟩) ?_
          rintro v x53 ⟨rfl, hb53⟩
          have H53 := H5.trans (hb53.mono H5.size)
          have bk5_53 := (bk5_5).on hb53
          refine ⟨H53, ?_⟩
          simp only [Act.put, List.setIfInBounds_toArray, List.set_cons_zero, List.set_cons_succ]
          refine onlyH (i := 6) (by kernel_rfl) ?_
          refine opG_run rfl (by rfl) (.alloc 27) rfl 12 rfl _ _ (fun o' ho => run_new 27 ho z5 zero27 x53) ?_
          have H536 := H53.alloc H53.size (.cells z5.toArray 27)
          have hl5536 := (bk5_53).lt
          have bk5_536 := (bk5_53).alloc (.cells z5.toArray 27)
          have bk6_536 := Blk.new x53 z5 27
          have lo6_536 : w31.heap.size ≤ x53.heap.size := H53.size
          obtain ⟨gg536, hgg536⟩ : ∃ y, x53.heap.size = y := ⟨_, rfl⟩
          rw [hgg536] at bk6_536 lo6_536 hl5536 ⊢
          generalize x53.alloc (.cells z5.toArray 27) = x536 at H536 bk6_536 bk5_536 ⊢
          refine ⟨H536, ?_⟩
          simp only [Act.put, List.setIfInBounds_toArray, List.set_cons_zero, List.set_cons_succ]
          refine onlyH (i := 7) (by kernel_rfl) ?_
          refine op_row rfl (by rfl) rfl 27 (.tmp 11) (.tmp 88) rfl gg5 C.cs z5 27 rfl rfl bk5_536 (cs_info _) (cs_len _) (cs_one _) ?_
          refine ⟨below_setRow H536 _ _ lo5_5, ?_⟩
          refine onlyH (i := 8) (by kernel_rfl) ?_
          refine op_row rfl (by rfl) rfl 27 (.tmp 12) (.tmp 89) rfl gg536 A.cs z5 27 rfl rfl ((bk6_536).setRowOther _ _ (by omega)) (cs_info _) (cs_len _) (cs_one _) ?_
          refine ⟨below_setRow (below_setRow H536 _ _ lo5_5) _ _ lo6_536, ?_⟩
          refine wpAnyH_done (by kernel_rfl) ?_ _
          have T : Bs2 n w _ gg5 gg536 C A := ⟨((bk5_536).setRow C.cs).setRowOther gg536 A.cs.toArray (by omega), ((bk6_536).setRowOther gg5 C.cs.toArray (by omega)).setRow A.cs, be.trans ((below_setRow (below_setRow H536 gg5 C.cs.toArray lo5_5) gg536 A.cs.toArray lo6_536).mono hnb)⟩
          refine NoPanic.normal ?_
          go_wp2
          go_meet
          exact ⟨_, _, rfl, rfl, T⟩
        · skip
          refine opG_run rfl (by rfl) (.alloc 27) rfl 12 rfl _ _ (fun o' ho => run_new 27 ho z5 zero27 x5) ?_
          have H56 := H5.alloc H5.size (.cells z5.toArray 27)
          have hl556 := (bk5_5).lt
          have bk5_56 := (bk5_5).alloc (.cells z5.toArray 27)
          have bk6_56 := Blk.new x5 z5 27
          have lo6_56 : w31.heap.size ≤ x5.heap.size := H5.size
          obtain ⟨gg56, hgg56⟩ : ∃ y, x5.heap.size = y := ⟨_, rfl⟩
          rw [hgg56] at bk6_56 lo6_56 hl556 ⊢
          generalize x5.alloc (.cells z5.toArray 27) = x56 at H56 bk6_56 bk5_56 ⊢
          refine ⟨H56, ?_⟩
          simp only [Act.put, List.setIfInBounds_toArray, List.set_cons_zero, List.set_cons_succ]
          refine onlyH (i := 3) (by kernel_rfl) ?_
          refine opG_call (R := fun v wz => v = C.v ∧ Below x56.heap.size x56 wz) rfl (by rfl) (Op.call { callee := Callee.value (Operand.func 14), args := #[Operand.tmp 87], argTypes := #[34] }) rfl 88 rfl 14 #[.int .u32 (ni + 3)] (fun o' ho => by go_simp) ((v1 x56).mono fun e wz ⟨h1, h2⟩ => ⟨_, h1, rfl, h2⟩) ?_
          rintro v x563 ⟨rfl, hb563⟩
          have H563 := H56.trans (hb563.mono H56.size)
          have bk5_563 := (bk5_56).on hb563
          have bk6_563 := (bk6_56).on hb563
          refine ⟨H563, ?_⟩
          simp only [Act.put, List.setIfInBounds_toArray, List.set_cons_zero, List.set_cons_succ]
          refine onlyH (i := 7) (by kernel_rfl) ?_
          refine op_row rfl (by rfl) rfl 27 (.tmp 11) (.tmp 88) rfl gg5 C.cs z5 27 rfl rfl bk5_563 (cs_info _) (cs_len _) (cs_one _) ?_
          refine ⟨below_setRow H563 _ _ lo5_5, ?_⟩
          refine onlyH (i := 8) (by kernel_rfl) ?_
          refine op_row rfl (by rfl) rfl 27 (.tmp 12) (.tmp 89) rfl gg56 A.cs z5 27 rfl rfl ((bk6_563).setRowOther _ _ (by omega)) (cs_info _) (cs_len _) (cs_one _) ?_
          refine ⟨below_setRow (below_setRow H563 _ _ lo5_5) _ _ lo6_56, ?_⟩
          refine wpAnyH_done (by kernel_rfl) ?_ _
          have T : Bs2 n w _ gg5 gg56 C A := ⟨((bk5_563).setRow C.cs).setRowOther gg56 A.cs.toArray (by omega), ((bk6_563).setRowOther gg5 C.cs.toArray (by omega)).setRow A.cs, be.trans ((below_setRow (below_setRow H563 gg5 C.cs.toArray lo5_5) gg56 A.cs.toArray lo6_56).mono hnb)⟩
          refine NoPanic.normal ?_
          go_wp2
          go_meet
          exact ⟨_, _, rfl, rfl, T⟩
      · skip
        refine opG_run rfl (by rfl) (.alloc 27) rfl 12 rfl _ _ (fun o' ho => run_new 27 ho z5 zero27 x0) ?_
        have H6 := H0.alloc H0.size (.cells z5.toArray 27)
        have bk6_6 := Blk.new x0 z5 27
        have lo6_6 : w31.heap.size ≤ x0.heap.size := H0.size
        obtain ⟨gg6, hgg6⟩ : ∃ y, x0.heap.size = y := ⟨_, rfl⟩
        rw [hgg6] at bk6_6 lo6_6  ⊢
        generalize x0.alloc (.cells z5.toArray 27) = x6 at H6 bk6_6  ⊢
        refine ⟨H6, ?_⟩
        simp only [Act.put, List.setIfInBounds_toArray, List.set_cons_zero, List.set_cons_succ]
        refine eitherH (i := 3) (j := 5) (by kernel_rfl) ?_ ?_
        · skip
          refine opG_call (R := fun v wz => v = C.v ∧ Below x6.heap.size x6 wz) rfl (by rfl) (Op.call { callee := Callee.value (Operand.func 14), args := #[Operand.tmp 87], argTypes := #[34] }) rfl 88 rfl 14 #[.int .u32 (ni + 3)] (fun o' ho => by go_simp) ((v1 x6).mono fun e wz ⟨h1, h2⟩ => ⟨_, h1, rfl, h2⟩) ?_
          rintro v x63 ⟨rfl, hb63⟩
          have H63 := H6.trans (hb63.mono H6.size)
          have bk6_63 := (bk6_6).on hb63
          refine ⟨H63, ?_⟩
          simp only [Act.put, List.setIfInBounds_toArray, List.set_cons_zero, List.set_cons_succ]
          refine onlyH (i := 5) (by kernel_rfl) ?_
          refine opG_run rfl (by rfl) (.alloc 27) rfl 11 rfl _ _ (fun o' ho => run_new 27 ho z5 zero27 x63) ?_
          have H635 := H63.alloc H63.size (.cells z5.toArray 27)
          have hl6635 := (bk6_63).lt
          have bk6_635 := (bk6_63).alloc (.cells z5.toArray 27)
          have bk5_635 := Blk.new x63 z5 27
          have lo5_635 : w31.heap.size ≤ x63.heap.size := H63.size
          obtain ⟨gg635, hgg635⟩ : ∃ y, x63.heap.size = y := ⟨_, rfl⟩
          rw [hgg635] at bk5_635 lo5_635 hl6635 ⊢
          generalize x63.alloc (.cells z5.toArray 27) = x635 at H635 bk5_635 bk6_635 ⊢
          refine ⟨H635, ?_⟩
          simp only [Act.put, List.setIfInBounds_toArray, List.set_cons_zero, List.set_cons_succ]
          refine onlyH (i := 7) (by kernel_rfl) ?_
          refine op_row rfl (by rfl) rfl 27 (.tmp 11) (.tmp 88) rfl gg635 C.cs z5 27 rfl rfl bk5_635 (cs_info _) (cs_len _) (cs_one _) ?_
          refine ⟨below_setRow H635 _ _ lo5_635, ?_⟩
          refine onlyH (i := 8) (by kernel_rfl) ?_
          refine op_row rfl (by rfl) rfl 27 (.tmp 12) (.tmp 89) rfl gg6 A.cs z5 27 rfl rfl ((bk6_635).setRowOther _ _ (by omega)) (cs_info _) (cs_len _) (cs_one _) ?_
          refine ⟨below_setRow (below_setRow H635 _ _ lo5_635) _ _ lo6_6, ?_⟩
          refine wpAnyH_done (by kernel_rfl) ?_ _
          have T : Bs2 n w _ gg635 gg6 C A := ⟨((bk5_635).setRow C.cs).setRowOther gg6 A.cs.toArray (by omega), ((bk6_635).setRowOther gg635 C.cs.toArray (by omega)).setRow A.cs, be.trans ((below_setRow (below_setRow H635 gg635 C.cs.toArray lo5_635) gg6 A.cs.toArray lo6_6).mono hnb)⟩
          refine NoPanic.normal ?_
          go_wp2
          go_meet
          exact ⟨_, _, rfl, rfl, T⟩
        · skip
          refine opG_run rfl (by rfl) (.alloc 27) rfl 11 rfl _ _ (fun o' ho => run_new 27 ho z5 zero27 x6) ?_
          have H65 := H6.alloc H6.size (.cells z5.toArray 27)
          have hl665 := (bk6_6).lt
          have bk6_65 := (bk6_6).alloc (.cells z5.toArray 27)
          have bk5_65 := Blk.new x6 z5 27
          have lo5_65 : w31.heap.size ≤ x6.heap.size := H6.size
          obtain ⟨gg65, hgg65⟩ : ∃ y, x6.heap.size = y := ⟨_, rfl⟩
          rw [hgg65] at bk5_65 lo5_65 hl665 ⊢
          generalize x6.alloc (.cells z5.toArray 27) = x65 at H65 bk5_65 bk6_65 ⊢
          refine ⟨H65, ?_⟩
          simp only [Act.put, List.setIfInBounds_toArray, List.set_cons_zero, List.set_cons_succ]
          refine onlyH (i := 3) (by kernel_rfl) ?_
          refine opG_call (R := fun v wz => v = C.v ∧ Below x65.heap.size x65 wz) rfl (by rfl) (Op.call { callee := Callee.value (Operand.func 14), args := #[Operand.tmp 87], argTypes := #[34] }) rfl 88 rfl 14 #[.int .u32 (ni + 3)] (fun o' ho => by go_simp) ((v1 x65).mono fun e wz ⟨h1, h2⟩ => ⟨_, h1, rfl, h2⟩) ?_
          rintro v x653 ⟨rfl, hb653⟩
          have H653 := H65.trans (hb653.mono H65.size)
          have bk6_653 := (bk6_65).on hb653
          have bk5_653 := (bk5_65).on hb653
          refine ⟨H653, ?_⟩
          simp only [Act.put, List.setIfInBounds_toArray, List.set_cons_zero, List.set_cons_succ]
          refine onlyH (i := 7) (by kernel_rfl) ?_
          refine op_row rfl (by rfl) rfl 27 (.tmp 11) (.tmp 88) rfl gg65 C.cs z5 27 rfl rfl bk5_653 (cs_info _) (cs_len _) (cs_one _) ?_
          refine ⟨below_setRow H653 _ _ lo5_65, ?_⟩
          refine onlyH (i := 8) (by kernel_rfl) ?_
          refine op_row rfl (by rfl) rfl 27 (.tmp 12) (.tmp 89) rfl gg6 A.cs z5 27 rfl rfl ((bk6_653).setRowOther _ _ (by omega)) (cs_info _) (cs_len _) (cs_one _) ?_
          refine ⟨below_setRow (below_setRow H653 _ _ lo5_65) _ _ lo6_6, ?_⟩
          refine wpAnyH_done (by kernel_rfl) ?_ _
          have T : Bs2 n w _ gg65 gg6 C A := ⟨((bk5_653).setRow C.cs).setRowOther gg6 A.cs.toArray (by omega), ((bk6_653).setRowOther gg65 C.cs.toArray (by omega)).setRow A.cs, be.trans ((below_setRow (below_setRow H653 gg65 C.cs.toArray lo5_65) gg6 A.cs.toArray lo6_6).mono hnb)⟩
          refine NoPanic.normal ?_
          go_wp2
          go_meet
          exact ⟨_, _, rfl, rfl, T⟩
    · obtain ⟨gc, gd, rfl, rfl, hR⟩ := hcut
      clear ca be v1 wA wB wM
      obtain ⟨cc, cd, be⟩ := hR
      rcases (show z % 2 = 1 ∨ z % 2 = 0 by omega) with hz2 | hz2
      · have sw := sO hz2
        rw [hz2] at hz
        clear sO sE hz2
        go_upto_region 15 with fail
        refine lst_new2 7 rfl rfl rfl rfl rfl 27 z5 zero27 (by kernel_rfl) 13 rfl rfl rfl (.tmp 95) rfl rfl rfl 14 rfl rfl rfl (.tmp 96) rfl rfl rfl (by decide) (by simp) ?_
        simp only [List.take_succ_cons, List.take_zero]
        refine wpLex_cons2 _ (uni_val (by rfl) (Op.move (Operand.tmp 2)) rfl (.int .i64 z) (fun o' ho W _ => by go_simp)) (by simp only [Act.put, List.setIfInBounds_toArray, List.set_cons_zero, List.set_cons_succ]; rfl) ?_
        refine wpLex_cons2 _ (uni_row rfl 27 (.tmp 11) rfl (gc) C.cs 27 rfl (fun W hW => cc.on hW) Try.underlying27 rfl (cs_info _)) (by simp only [Act.put, List.setIfInBounds_toArray, List.set_cons_zero, List.set_cons_succ]; rfl) ?_
        refine wpLex_cons2 _ (uni_row rfl 27 (.tmp 12) rfl (gd) A.cs 27 rfl (fun W hW => cd.on hW) Try.underlying27 rfl (cs_info _)) (by simp only [Act.put, List.setIfInBounds_toArray, List.set_cons_zero, List.set_cons_succ]; rfl) ?_
        refine wpLex_cons2 _ (uni_callF (by rfl) 15 [Operand.tmp 91, Operand.tmp 92, Operand.tmp 93] #[3, 27, 27] rfl [.int .i64 z, C.v, A.v] (.tuple #[A.v, C.v]) rfl enter15 (fun W hW => sw W)) (by simp only [Act.put, List.setIfInBounds_toArray, List.set_cons_zero, List.set_cons_succ]; rfl) ?_
        refine wpLex_cons2 _ (uni_val (by rfl) (Op.move (Operand.tmp 94)) rfl ((.tuple #[A.v, C.v])) (fun o' ho W _ => by go_simp)) (by simp only [Act.put, List.setIfInBounds_toArray, List.set_cons_zero, List.set_cons_succ]; rfl) ?_
        refine wpLex_cons2 _ (uni_val (by rfl) (Op.extract (Operand.tmp 90) 0) rfl (A.v) (fun o' ho W _ => by go_simp)) (by simp only [Act.put, List.setIfInBounds_toArray, List.set_cons_zero, List.set_cons_succ]; rfl) ?_
        refine wpLex_cons2 _ (uni_val (by rfl) (Op.extract (Operand.tmp 90) 1) rfl (C.v) (fun o' ho W _ => by go_simp)) (by simp only [Act.put, List.setIfInBounds_toArray, List.set_cons_zero, List.set_cons_succ]; rfl) ?_
        refine ⟨A.cs, C.cs, rfl, cs_len _, cs_one _, by simp, rfl, cs_len _, cs_one _, by simp, fun gce gcf w50 lo0 lo1 ne01 hW ce cf => ?_⟩
        simp only [Act.put, List.setIfInBounds_toArray, List.set_cons_zero, List.set_cons_succ]
        replace cc := cc.on hW
        replace cd := cd.on hW
        replace be := be.trans (hW.mono (by have := be.size; omega))
        clear hW lo0 lo1 ne01 wc
        go_upto_region 17 with fail
        refine lst_all ?_
        refine wpLex_cons2 _ (uni_row rfl 27 (.tmp 13) rfl (gce) A.cs 27 rfl (fun W hW => ce.on hW) Try.underlying27 rfl (cs_info _)) (by simp only [Act.put, List.setIfInBounds_toArray, List.set_cons_zero, List.set_cons_succ]; rfl) ?_
        refine wpLex_cons2 _ (uni_row rfl 27 (.tmp 12) rfl (gd) A.cs 27 rfl (fun W hW => cd.on hW) Try.underlying27 rfl (cs_info _)) (by simp only [Act.put, List.setIfInBounds_toArray, List.set_cons_zero, List.set_cons_succ]; rfl) ?_
        refine wpLex_cons2 _ (uni_callF (by rfl) 12 [Operand.tmp 100, Operand.tmp 101] #[27, 27] rfl [A.v, A.v] (.bool true) rfl enter12 (fun W hW => equalT (ring12 _) W)) (by simp only [Act.put, List.setIfInBounds_toArray, List.set_cons_zero, List.set_cons_succ]; rfl) ?_
        refine wpLex_cons2 _ (uni_val (by rfl) (Op.move (Operand.tmp 102)) rfl ((.bool true)) (fun o' ho W _ => by go_simp)) (by simp only [Act.put, List.setIfInBounds_toArray, List.set_cons_zero, List.set_cons_succ]; rfl) ?_
        refine wpLex_cons2 _ (uni_rowG (by rfl) 27 (.tmp 14) rfl (gcf) C.cs 27 rfl (fun W hW => cf.on hW) Try.underlying27 rfl (cs_info _)) (by simp only [Act.put, List.setIfInBounds_toArray, List.set_cons_zero, List.set_cons_succ]; rfl) ?_
        refine wpLex_cons2 _ (uni_rowG (by rfl) 27 (.tmp 11) rfl (gc) C.cs 27 rfl (fun W hW => cc.on hW) Try.underlying27 rfl (cs_info _)) (by simp only [Act.put, List.setIfInBounds_toArray, List.set_cons_zero, List.set_cons_succ]; rfl) ?_
        refine wpLex_cons2 _ (uni_callF (by rfl) 12 [Operand.tmp 104, Operand.tmp 105] #[27, 27] rfl [C.v, C.v] (.bool true) rfl enter12 (fun W hW => equalT (ring12 _) W)) (by simp only [Act.put, List.setIfInBounds_toArray, List.set_cons_zero, List.set_cons_succ]; rfl) ?_
        refine wpLex_cons2 _ (uni_val (by rfl) (Op.pick (Operand.tmp 103) (Operand.tmp 106) (Operand.const (Value.bool false))) rfl (.bool true) (fun o' ho W _ => by go_simp)) (by simp only [Act.put, List.setIfInBounds_toArray, List.set_cons_zero, List.set_cons_succ]; rfl) ?_
        refine wpLex_cons2 _ (uni_val (by rfl) (Op.assign (Operand.tmp 107)) rfl (.bool true) (fun o' ho W _ => by go_simp)) (by simp only [Act.put, List.setIfInBounds_toArray, List.set_cons_zero, List.set_cons_succ]; rfl) ?_
        intro w51 hW
        replace cc := cc.on hW
        replace cd := cd.on hW
        replace ce := ce.on hW
        replace cf := cf.on hW
        replace be := be.trans (hW.mono (by have := be.size; omega))
        clear hW w50
        go_wp2
        go_ret
        exact ⟨rfl, by first | (rw [hn]; exact be) | exact be⟩
      · have sw := sE hz2
        rw [hz2] at hz
        clear sO sE hz2
        go_upto_region 15 with fail
        refine lst_new2 7 rfl rfl rfl rfl rfl 27 z5 zero27 (by kernel_rfl) 13 rfl rfl rfl (.tmp 95) rfl rfl rfl 14 rfl rfl rfl (.tmp 96) rfl rfl rfl (by decide) (by simp) ?_
        simp only [List.take_succ_cons, List.take_zero]
        refine wpLex_cons2 _ (uni_val (by rfl) (Op.move (Operand.tmp 2)) rfl (.int .i64 z) (fun o' ho W _ => by go_simp)) (by simp only [Act.put, List.setIfInBounds_toArray, List.set_cons_zero, List.set_cons_succ]; rfl) ?_
        refine wpLex_cons2 _ (uni_row rfl 27 (.tmp 11) rfl (gc) C.cs 27 rfl (fun W hW => cc.on hW) Try.underlying27 rfl (cs_info _)) (by simp only [Act.put, List.setIfInBounds_toArray, List.set_cons_zero, List.set_cons_succ]; rfl) ?_
        refine wpLex_cons2 _ (uni_row rfl 27 (.tmp 12) rfl (gd) A.cs 27 rfl (fun W hW => cd.on hW) Try.underlying27 rfl (cs_info _)) (by simp only [Act.put, List.setIfInBounds_toArray, List.set_cons_zero, List.set_cons_succ]; rfl) ?_
        refine wpLex_cons2 _ (uni_callF (by rfl) 15 [Operand.tmp 91, Operand.tmp 92, Operand.tmp 93] #[3, 27, 27] rfl [.int .i64 z, C.v, A.v] (.tuple #[C.v, A.v]) rfl enter15 (fun W hW => sw W)) (by simp only [Act.put, List.setIfInBounds_toArray, List.set_cons_zero, List.set_cons_succ]; rfl) ?_
        refine wpLex_cons2 _ (uni_val (by rfl) (Op.move (Operand.tmp 94)) rfl ((.tuple #[C.v, A.v])) (fun o' ho W _ => by go_simp)) (by simp only [Act.put, List.setIfInBounds_toArray, List.set_cons_zero, List.set_cons_succ]; rfl) ?_
        refine wpLex_cons2 _ (uni_val (by rfl) (Op.extract (Operand.tmp 90) 0) rfl (C.v) (fun o' ho W _ => by go_simp)) (by simp only [Act.put, List.setIfInBounds_toArray, List.set_cons_zero, List.set_cons_succ]; rfl) ?_
        refine wpLex_cons2 _ (uni_val (by rfl) (Op.extract (Operand.tmp 90) 1) rfl (A.v) (fun o' ho W _ => by go_simp)) (by simp only [Act.put, List.setIfInBounds_toArray, List.set_cons_zero, List.set_cons_succ]; rfl) ?_
        refine ⟨C.cs, A.cs, rfl, cs_len _, cs_one _, by simp, rfl, cs_len _, cs_one _, by simp, fun gce gcf w50 lo0 lo1 ne01 hW ce cf => ?_⟩
        simp only [Act.put, List.setIfInBounds_toArray, List.set_cons_zero, List.set_cons_succ]
        replace cc := cc.on hW
        replace cd := cd.on hW
        replace be := be.trans (hW.mono (by have := be.size; omega))
        clear hW lo0 lo1 ne01 wc
        go_upto_region 18 with fail
        refine lst_all ?_
        refine wpLex_cons2 _ (uni_row rfl 27 (.tmp 13) rfl (gce) C.cs 27 rfl (fun W hW => ce.on hW) Try.underlying27 rfl (cs_info _)) (by simp only [Act.put, List.setIfInBounds_toArray, List.set_cons_zero, List.set_cons_succ]; rfl) ?_
        refine wpLex_cons2 _ (uni_row rfl 27 (.tmp 11) rfl (gc) C.cs 27 rfl (fun W hW => cc.on hW) Try.underlying27 rfl (cs_info _)) (by simp only [Act.put, List.setIfInBounds_toArray, List.set_cons_zero, List.set_cons_succ]; rfl) ?_
        refine wpLex_cons2 _ (uni_callF (by rfl) 12 [Operand.tmp 108, Operand.tmp 109] #[27, 27] rfl [C.v, C.v] (.bool true) rfl enter12 (fun W hW => equalT (ring12 _) W)) (by simp only [Act.put, List.setIfInBounds_toArray, List.set_cons_zero, List.set_cons_succ]; rfl) ?_
        refine wpLex_cons2 _ (uni_val (by rfl) (Op.move (Operand.tmp 110)) rfl ((.bool true)) (fun o' ho W _ => by go_simp)) (by simp only [Act.put, List.setIfInBounds_toArray, List.set_cons_zero, List.set_cons_succ]; rfl) ?_
        refine wpLex_cons2 _ (uni_rowG (by rfl) 27 (.tmp 14) rfl (gcf) A.cs 27 rfl (fun W hW => cf.on hW) Try.underlying27 rfl (cs_info _)) (by simp only [Act.put, List.setIfInBounds_toArray, List.set_cons_zero, List.set_cons_succ]; rfl) ?_
        refine wpLex_cons2 _ (uni_rowG (by rfl) 27 (.tmp 12) rfl (gd) A.cs 27 rfl (fun W hW => cd.on hW) Try.underlying27 rfl (cs_info _)) (by simp only [Act.put, List.setIfInBounds_toArray, List.set_cons_zero, List.set_cons_succ]; rfl) ?_
        refine wpLex_cons2 _ (uni_callF (by rfl) 12 [Operand.tmp 112, Operand.tmp 113] #[27, 27] rfl [A.v, A.v] (.bool true) rfl enter12 (fun W hW => equalT (ring12 _) W)) (by simp only [Act.put, List.setIfInBounds_toArray, List.set_cons_zero, List.set_cons_succ]; rfl) ?_
        refine wpLex_cons2 _ (uni_val (by rfl) (Op.pick (Operand.tmp 111) (Operand.tmp 114) (Operand.const (Value.bool false))) rfl (.bool true) (fun o' ho W _ => by go_simp)) (by simp only [Act.put, List.setIfInBounds_toArray, List.set_cons_zero, List.set_cons_succ]; rfl) ?_
        refine wpLex_cons2 _ (uni_val (by rfl) (Op.assign (Operand.tmp 115)) rfl (.bool true) (fun o' ho W _ => by go_simp)) (by simp only [Act.put, List.setIfInBounds_toArray, List.set_cons_zero, List.set_cons_succ]; rfl) ?_
        intro w51 hW
        replace cc := cc.on hW
        replace cd := cd.on hW
        replace ce := ce.on hW
        replace cf := cf.on hW
        replace be := be.trans (hW.mono (by have := be.size; omega))
        clear hW w50
        go_wp2
        go_ret
        exact ⟨rfl, by first | (rw [hn]; exact be) | exact be⟩

end Go.Proofs.Ytnakeieeopbeiaa
