import Derived.Test.YtnakeieeopbeiaaRtsG
set_option linter.unusedVariables false
set_option linter.unusedSimpArgs false
namespace Go.Proofs.Ytnakeieeopbeiaa
open Go.RowKit Prm

/-- The key of a small number. -/
def keyN (u : UInt8) : List UInt8 := u :: List.replicate 31 0
theorem keyN_length (u : UInt8) : (keyN u).length = 32 := by simp [keyN]
theorem kn_keyN (u : UInt8) : kn (keyN u) = u.toNat := by
  have h : psum (List.replicate 31 (0 : UInt8)) 0 31 = 0 := by decide +kernel
  rw [keyN, kn_cons, h, Nat.mul_zero, Nat.add_zero]
theorem build23k (u : UInt8) (W : World) : (Instr.build 23 #[(0, .int .u8 (u.toNat : Int))]).run Try.prog W = .ok (.agg ((keyN u).map byt).toArray) W := by kernel_rfl
theorem build23n (W : World) : (Instr.build 23 #[(0, .int .u8 20)]).run Try.prog W = .ok (.agg ((keyN 20).map byt).toArray) W := by kernel_rfl
theorem uni_build1 {P : Program} {ops : Array Oper} {S : World → Prop} {o : Oper} {a : Act} (hw : Region.wanted o (yielded ops a.tmps) = true) (t : TypeId) (x : Operand) (ho : o.op = .build t #[(0, x)]) (u v : Value) (hx : a.eval x = u) (h : ∀ W, (Instr.build t #[(0, u)]).run P W = .ok v W) : Uni P ops S o v a := by
  refine .inl ⟨hw, .inl fun W _ => ?_⟩
  unfold execOp
  simp only [ho, List.map_toArray, List.map_cons, List.map_nil, hx]
  simp only [Sem.run_bind, h W, Result.andThen_ok, Sem.run_pure]

theorem key_len {k : List UInt8} (h : k.length = 32) : (z32.map byt).length = (k.map byt).length := by simp [z32, h]
/-- a by itself so many times. -/
def mulN (a : L5) : Nat → L5
  | 0 => small 1#32
  | t + 1 => mulE (mulN a t) a
theorem mulN_is {a : L5} (h : a.Ok) : ∀ t, IsPow a (mulN a t) t
  | 0 => ⟨small_ok _, by rw [mulN, small_val, Nat.pow_zero]; rfl⟩
  | t + 1 => (mulN_is h t).mul (IsPow.self h)

/-- The key without its highest bit. -/
def lowK (k : List UInt8) : List UInt8 := k.set 31 (k.getD 31 0 &&& 127)
theorem lowK_length {k : List UInt8} (h : k.length = 32) : (lowK k).length = 32 := by rw [lowK, List.length_set, h]
theorem psum_set (k : List UInt8) (j : Nat) (u : UInt8) : ∀ r, r ≤ j → psum (k.set j u) 0 r = psum k 0 r
  | 0, _ => rfl
  | r + 1, h => by
    rw [psum, psum, psum_set k j u r (by omega), Nat.zero_add, List.getD_eq_getElem?_getD, List.getElem?_set_ne (by omega), ← List.getD_eq_getElem?_getD]
theorem kn_lowK {k : List UInt8} (h : k.length = 32) : kn (lowK k) = kn k % 57896044618658097711785492504343953926634992332820282019728792003956564819968 := by
  have e : (k.getD 31 0 &&& 127).toNat = (k.getD 31 0).toNat % 128 := by
    rw [UInt8.toNat_and]
    exact Nat.and_two_pow_sub_one_eq_mod _ 7
  have e0 : ∀ v : UInt8, (k.set 31 v).getD 31 0 = v := fun v => by
    rw [List.getD_eq_getElem?_getD, List.getElem?_set_self (by omega)]; rfl
  have h1 := psum_lt k 0 31
  unfold kn lowK
  rw [show psum (k.set 31 (k.getD 31 0 &&& 127)) 0 32 = psum (k.set 31 (k.getD 31 0 &&& 127)) 0 31 + ((k.set 31 (k.getD 31 0 &&& 127)).getD (0 + 31) 0).toNat * 256 ^ 31 from rfl, show psum k 0 32 = psum k 0 31 + (k.getD (0 + 31) 0).toNat * 256 ^ 31 from rfl, psum_set k 31 _ 31 (by omega), Nat.zero_add, e0, e]
  simp only [Nat.reducePow] at h1 ⊢
  omega
theorem kn_high {k : List UInt8} (hb : (k.getD 31 0).toNat > 127) : kn k / 57896044618658097711785492504343953926634992332820282019728792003956564819968 = 1 := by
  have h1 := psum_lt k 0 31
  have h2 := (k.getD 31 0).toNat_lt
  unfold kn
  rw [show psum k 0 32 = psum k 0 31 + (k.getD (0 + 31) 0).toNat * 256 ^ 31 from rfl, Nat.zero_add]
  simp only [Nat.reducePow] at h1 ⊢
  omega
theorem kn_nohigh {k : List UInt8} (hb : ¬ (k.getD 31 0).toNat > 127) : kn k < 57896044618658097711785492504343953926634992332820282019728792003956564819968 := by
  have h1 := psum_lt k 0 31
  unfold kn
  rw [show psum k 0 32 = psum k 0 31 + (k.getD (0 + 31) 0).toNat * 256 ^ 31 from rfl, Nat.zero_add]
  simp only [Nat.reducePow] at h1 ⊢
  omega
theorem low_high {k : List UInt8} (h : k.length = 32) (hb : (k.getD 31 0).toNat > 127) : kn k = kn (lowK k) + (P + 19) := by
  have h1 := kn_high hb
  rw [kn_lowK h]
  unfold P
  omega
theorem low_same {k : List UInt8} (h : k.length = 32) (hb : ¬ (k.getD 31 0).toNat > 127) : kn (lowK k) = kn k := by
  rw [kn_lowK h, Nat.mod_eq_of_lt (kn_nohigh hb)]
theorem and127 (u : UInt8) : bits .and .u8 (u.toNat : Int) (127 : Int) = ((u &&& 127).toNat : Int) := by
  have h := (bits_nat .u8 8 (by decide) wraps_u8 u.toNat 127 u.toNat_lt (by decide)).1
  rw [UInt8.toNat_and]
  exact h

structure Wnt (n : Nat) (w wx : World) (ga gb gw : Nat) (k : List UInt8) (A B V : L5) : Prop where
  ka : Blk wx (n + 1 + 1) (k.map byt) 23
  ca : Blk wx ga A.cs 27
  cb : Blk wx gb B.cs 27
  cw : Blk wx gw V.cs 27
  be : Below n w wx
  l1 : n + 1 + 1 < ga
  l2 : n + 1 + 1 < gb
  l3 : ga < gw
  l4 : gb < gw
theorem Wnt.step {n : Nat} {w wx wy : World} {ga gb gw : Nat} {k : List UInt8} {A B V : L5} (h : Wnt n w wx ga gb gw k A B V) (hb : Below wx.heap.size wx wy) (V' : L5) : Wnt n w (wy.setRow gw V'.cs.toArray) ga gb gw k A B V' := by
  have l1 := h.l1
  have l2 := h.l2
  have l3 := h.l3
  have l4 := h.l4
  exact ⟨(h.ka.on hb).setRowOther _ _ (by omega), (h.ca.on hb).setRowOther _ _ (by omega), (h.cb.on hb).setRowOther _ _ (by omega), (h.cw.on hb).setRow _, below_setRow (h.be.trans (hb.mono (by have := h.ka.lt; omega))) _ _ (by omega), l1, l2, l3, l4⟩

set_option maxRecDepth 100000 in
set_option maxHeartbeats 40000000 in
theorem powers_any (x y k : List UInt8) (m : UInt8) (hx : x.length = 32) (hy : y.length = 32) (hk : k.length = 32) (w : World) :
    Calls Try.prog 4 #[.agg (x.map byt).toArray, .agg (y.map byt).toArray, .int .u8 (m.toNat : Int), .agg (k.map byt).toArray] w fun e w' => e = .returned (.bool true) ∧ Below w.heap.size w w' := by
  have hA := fun W => read_any x hx W
  have hB := fun W => read_any y hy W
  have oa := read_ok x
  have ob := read_ok y
  generalize readE x = A at hA oa
  generalize readE y = B at hB ob
  have bk := build23k m
  have lk := keyN_length m
  have nk : Hid (kn (keyN m) = m.toNat) := kn_keyN m
  generalize keyN m = KM at bk lk nk
  have b20 := build23n
  have l20 := keyN_length 20
  have n20 : Hid (kn (keyN 20) = 20) := kn_keyN 20
  generalize keyN 20 = K2 at b20 l20 n20
  obtain ⟨M, hM⟩ : ∃ M, m.toNat = M := ⟨_, rfl⟩
  have hM6 : M < 256 := by rw [← hM]; exact m.toNat_lt
  have hw1 : IntKind.i64.wrap (M : Int) = (M : Int) := (by rw [IntKind.wrap_i64]; omega)
  rw [hM] at bk nk ⊢
  clear hM
  go_enter Try.func4, Try.ntmps4
  go_upto_region 1 with (first | (refine wpList_boxAt rfl 23 (.tmp 0) rfl (x.map byt) rfl (w.heap.size) rfl ?_) | (refine wpList_boxAt rfl 23 (.tmp 1) rfl (y.map byt) rfl (w.heap.size + 1) (by simp) ?_) | (refine wpList_boxAt rfl 23 (.tmp 3) rfl (k.map byt) rfl (w.heap.size + 1 + 1) (by simp) ?_))
  have b0 : Blk (((w.alloc (.cells (x.map byt).toArray 23)).alloc (.cells (y.map byt).toArray 23)).alloc (.cells (k.map byt).toArray 23)) (w.heap.size) (x.map byt) 23 := by
    have := ((Blk.new w (x.map byt) 23).alloc (.cells (y.map byt).toArray 23)).alloc (.cells (k.map byt).toArray 23)
    simpa using this
  have b1 : Blk (((w.alloc (.cells (x.map byt).toArray 23)).alloc (.cells (y.map byt).toArray 23)).alloc (.cells (k.map byt).toArray 23)) (w.heap.size + 1) (y.map byt) 23 := by
    have := (Blk.new (w.alloc (.cells (x.map byt).toArray 23)) (y.map byt) 23).alloc (.cells (k.map byt).toArray 23)
    simpa using this
  have b2 : Blk (((w.alloc (.cells (x.map byt).toArray 23)).alloc (.cells (y.map byt).toArray 23)).alloc (.cells (k.map byt).toArray 23)) (w.heap.size + 1 + 1) (k.map byt) 23 := by
    have := Blk.new ((w.alloc (.cells (x.map byt).toArray 23)).alloc (.cells (y.map byt).toArray 23)) (k.map byt) 23
    simpa using this
  have be : Below w.heap.size w (((w.alloc (.cells (x.map byt).toArray 23)).alloc (.cells (y.map byt).toArray 23)).alloc (.cells (k.map byt).toArray 23)) := by go_grown
  generalize (((w.alloc (.cells (x.map byt).toArray 23)).alloc (.cells (y.map byt).toArray 23)).alloc (.cells (k.map byt).toArray 23)) = w1 at b0 b1 b2 be ⊢
  obtain ⟨n, hn⟩ : ∃ n, w.heap.size = n := ⟨_, rfl⟩
  rw [hn] at b0 b1 b2 be ⊢
  try simp only [Act.put, List.setIfInBounds_toArray, List.set_cons_zero, List.set_cons_succ]
  have hb2 := b2.lt
  refine reg_new2 (by kernel_rfl) 4 rfl rfl rfl rfl rfl (by kernel_rfl) (by kernel_rfl) (by kernel_rfl) (by kernel_rfl) (by kernel_rfl) (by kernel_rfl) (by kernel_rfl) (by kernel_rfl) (by kernel_rfl) 27 z5 zero27 (by kernel_rfl) 9 rfl rfl rfl (.tmp 16) rfl rfl rfl 10 rfl rfl rfl (.tmp 18) rfl rfl rfl (by decide) (by simp) ?_
  simp only [List.take_succ_cons, List.take_zero]
  refine wpLex_cons2 _ (uni_row rfl 23 (.tmp 4) rfl (n) (x.map byt) 23 rfl (fun W hW => b0.on hW) Try.underlying23 rfl (key_info hx)) (by simp only [Act.put, List.setIfInBounds_toArray, List.set_cons_zero, List.set_cons_succ]; rfl) ?_
  refine wpLex_cons2 _ (uni_callF (by rfl) 9 [Operand.tmp 15] #[23] rfl [.agg ((x.map byt)).toArray] (A.v) rfl enter9 (fun W hW => hA W)) (by simp only [Act.put, List.setIfInBounds_toArray, List.set_cons_zero, List.set_cons_succ]; rfl) ?_
  refine wpLex_cons2 _ (uni_row rfl 23 (.tmp 5) rfl (n + 1) (y.map byt) 23 rfl (fun W hW => b1.on hW) Try.underlying23 rfl (key_info hy)) (by simp only [Act.put, List.setIfInBounds_toArray, List.set_cons_zero, List.set_cons_succ]; rfl) ?_
  refine wpLex_cons2 _ (uni_callF (by rfl) 9 [Operand.tmp 17] #[23] rfl [.agg ((y.map byt)).toArray] (B.v) rfl enter9 (fun W hW => hB W)) (by simp only [Act.put, List.setIfInBounds_toArray, List.set_cons_zero, List.set_cons_succ]; rfl) ?_
  refine ⟨A.cs, B.cs, rfl, cs_len _, cs_one _, by simp, rfl, cs_len _, cs_one _, by simp, fun gca gcb w2 lo0 lo1 ne01 hW ca cb => ?_⟩
  simp only [Act.put, List.setIfInBounds_toArray, List.set_cons_zero, List.set_cons_succ]
  replace b0 := b0.on hW
  replace b1 := b1.on hW
  replace b2 := b2.on hW
  replace be := be.trans (hW.mono (by have := be.size; omega))
  have la : n + 1 + 1 < gca := Nat.lt_of_lt_of_le hb2 lo0
  have lb : n + 1 + 1 < gcb := Nat.lt_of_lt_of_le hb2 lo1
  clear hb2
  clear hW lo0 lo1 ne01 w1
  clear b0 b1 hA hB hx hy
  go_upto_region 2 with fail
  have ha2 := ca.lt
  have hb2 := cb.lt
  refine lst_newT 1 rfl rfl rfl rfl 11 rfl 27 rfl z5 zero27 rfl rfl (.tmp 19) rfl ?_
  simp only [List.take_succ_cons, List.take_zero]
  refine wpLex_cons2 _ (uni_callF (by rfl) 14 [Operand.const (Value.int IntKind.u32 1)] #[34] rfl [Value.int IntKind.u32 1] ((small 1#32).v) rfl enter14 (fun W hW => small_any 1#32 W)) (by simp only [Act.put, List.setIfInBounds_toArray, List.set_cons_zero, List.set_cons_succ]; rfl) ?_
  refine ⟨(small 1#32).cs, rfl, by simp, by simp, cs_info _, cs_len _, cs_one _, fun gcw w3 hg hW cw => ?_⟩
  simp only [Act.put, List.setIfInBounds_toArray, List.set_cons_zero, List.set_cons_succ]
  replace b2 := b2.on hW
  replace ca := ca.on hW
  replace cb := cb.on hW
  replace be := be.trans (hW.mono (by have := be.size; omega))
  have lc : gca < gcw := Nat.lt_of_lt_of_le ha2 hg
  have ld : gcb < gcw := Nat.lt_of_lt_of_le hb2 hg
  clear ha2 hb2
  clear hW hg w2
  have h0 : Hid (Wnt n w w3 gca gcb gcw k A B (mulN A 0)) := ⟨b2, ca, cb, cw, be, la, lb, lc, ld⟩
  clear b2 ca cb cw be
  have OA := hide oa
  have OB := hide ob
  have HKL := hide hk
  have BK := hide bk
  have B20 := hide b20
  have LK := hide lk
  have L20 := hide l20
  clear oa ob hk bk b20 lk l20
  go_wp2
  go_loopw [12] (fun i wr => ∃ t : Nat, t ≤ M ∧ i = .int .i64 t ∧ Hid (Wnt n w wr gca gcb gcw k A B (mulN A t))) (fun i _ => M - (intOf i).toNat)
  case atStart => exact ⟨0, by omega, rfl, h0⟩
  case round =>
    obtain ⟨t, ht, rfl, hs⟩ := hrel
    by_cases hlt : t < M
    · obtain ⟨V, hV⟩ : ∃ V, mulN A t = V := ⟨_, rfl⟩
      have HV := hide hV
      rw [hV] at hs
      clear hV
      have hlz : (t : Int) < (M : Int) := by omega
      go_wp2_with (first | (refine wpList_load_row rfl 27 (.tmp 11) rfl gcw rfl 27 V.cs.toArray (0, 0) _ hs.out.cw Try.underlying27 rfl (cs_infoA _) ?_) | (refine wpList_load_row rfl 27 (.tmp 9) rfl gca rfl 27 A.cs.toArray (0, 0) _ hs.out.ca Try.underlying27 rfl (cs_infoA _) ?_) | (go_at_call 16; refine (mul_any V A _).mono ?_; rintro e w4 ⟨rfl, hb3⟩; have B3 := hide hb3; clear hb3) | (refine wpList_store_row rfl 27 (.tmp 11) (.tmp 28) rfl gcw (mulE V A).cs.toArray rfl rfl 27 V.cs.toArray (hs.out.cw.on B3.out) (cs_infoA _) (cs_sz _ _) (cs_one _) ?_))
      go_roundw
      case rel =>
        refine ⟨t + 1, by omega, by go_num, ?_⟩
        rw [mulN, HV.out]
        exact hs.out.step B3.out _
      case measure => simp [intOf] <;> omega
    · obtain rfl : t = M := by omega
      have hV := mulN_is OA.out t
      generalize mulN A t = V at hs hV
      obtain ⟨b2, ca, cb, cw, be, la, lb, lc, ld⟩ := hs.out
      have oa := OA.out
      have ob := OB.out
      have hk := HKL.out
      have bk := BK.out
      have b20 := B20.out
      have lk := LK.out
      have l20 := L20.out
      clear hs OA OB HKL BK B20 LK L20 hlt ht h0
      have HVV := hide hV
      clear hV
      go_upto_region 7 with fail
      refine reg_all (by kernel_rfl) (by kernel_rfl) ?_
      refine wpLex_cons2 _ (uni_row rfl 27 (.tmp 9) rfl (gca) A.cs 27 rfl (fun W hW => ca.on hW) Try.underlying27 rfl (cs_info _)) (by simp only [Act.put, List.setIfInBounds_toArray, List.set_cons_zero, List.set_cons_succ]; rfl) ?_
      refine wpLex_cons2 _ (uni_val (by rfl) (Op.move (Operand.tmp 2)) rfl (.int .u8 (t : Int)) (fun o' ho W _ => by go_simp)) (by simp only [Act.put, List.setIfInBounds_toArray, List.set_cons_zero, List.set_cons_succ]; rfl) ?_
      refine wpLex_cons2 _ (uni_build1 (by rfl) 23 (.tmp 30) rfl (.int .u8 (t : Int)) (.agg (KM.map byt).toArray) rfl bk) (by simp only [Act.put, List.setIfInBounds_toArray, List.set_cons_zero, List.set_cons_succ]; rfl) ?_
      refine wpLex_cons2 _ (uni_callF (by rfl) 17 [Operand.tmp 29, Operand.tmp 31] #[27, 23] rfl [A.v, .agg (KM.map byt).toArray] ((powL A KM 256).v) rfl enter17 (fun W hW => pow_any A KM lk W)) (by simp only [Act.put, List.setIfInBounds_toArray, List.set_cons_zero, List.set_cons_succ]; rfl) ?_
      refine wpLex_cons2 _ (uni_row rfl 27 (.tmp 11) rfl (gcw) V.cs 27 rfl (fun W hW => cw.on hW) Try.underlying27 rfl (cs_info _)) (by simp only [Act.put, List.setIfInBounds_toArray, List.set_cons_zero, List.set_cons_succ]; rfl) ?_
      refine wpLex_cons2 _ (uni_callF (by rfl) 12 [Operand.tmp 32, Operand.tmp 33] #[27, 27] rfl [((powL A KM 256).v), V.v] (.bool true) rfl enter12 (fun W hW => equalT (pow_same oa nk.out HVV.out) W)) (by simp only [Act.put, List.setIfInBounds_toArray, List.set_cons_zero, List.set_cons_succ]; rfl) ?_
      refine wpLex_cons2 _ (uni_val (by rfl) (Op.unOp UnOp.not 4 (Operand.tmp 34)) rfl (.bool false) (fun o' ho W _ => by go_simp)) (by simp only [Act.put, List.setIfInBounds_toArray, List.set_cons_zero, List.set_cons_succ]; rfl) ?_
      refine wpLex_cons2 _ (uni_val (by rfl) (Op.move (Operand.tmp 35)) rfl (.bool false) (fun o' ho W _ => by go_simp)) (by simp only [Act.put, List.setIfInBounds_toArray, List.set_cons_zero, List.set_cons_succ]; rfl) ?_
      refine wpLex_cons2 _ (uni_rowG (by rfl) 27 (.tmp 9) rfl (gca) A.cs 27 rfl (fun W hW => ca.on hW) Try.underlying27 rfl (cs_info _)) (by simp only [Act.put, List.setIfInBounds_toArray, List.set_cons_zero, List.set_cons_succ]; rfl) ?_
      refine wpLex_cons2 _ (uni_rowG (by rfl) 27 (.tmp 10) rfl (gcb) B.cs 27 rfl (fun W hW => cb.on hW) Try.underlying27 rfl (cs_info _)) (by simp only [Act.put, List.setIfInBounds_toArray, List.set_cons_zero, List.set_cons_succ]; rfl) ?_
      refine wpLex_cons2 _ (uni_callF (by rfl) 16 [Operand.tmp 37, Operand.tmp 38] #[27, 27] rfl [A.v, B.v] ((mulE A B).v) rfl enter16 (fun W hW => mul_any A B W)) (by simp only [Act.put, List.setIfInBounds_toArray, List.set_cons_zero, List.set_cons_succ]; rfl) ?_
      refine wpLex_cons2 _ (uni_rowG (by rfl) 23 (.tmp 7) rfl (n + 1 + 1) (k.map byt) 23 rfl (fun W hW => b2.on hW) Try.underlying23 rfl (key_info hk)) (by simp only [Act.put, List.setIfInBounds_toArray, List.set_cons_zero, List.set_cons_succ]; rfl) ?_
      refine wpLex_cons2 _ (uni_callF (by rfl) 17 [Operand.tmp 39, Operand.tmp 40] #[27, 23] rfl [((mulE A B).v), .agg ((k.map byt)).toArray] ((powL (mulE A B) k 256).v) rfl enter17 (fun W hW => pow_any (mulE A B) k hk W)) (by simp only [Act.put, List.setIfInBounds_toArray, List.set_cons_zero, List.set_cons_succ]; rfl) ?_
      refine wpLex_cons2 _ (uni_rowG (by rfl) 27 (.tmp 9) rfl (gca) A.cs 27 rfl (fun W hW => ca.on hW) Try.underlying27 rfl (cs_info _)) (by simp only [Act.put, List.setIfInBounds_toArray, List.set_cons_zero, List.set_cons_succ]; rfl) ?_
      refine wpLex_cons2 _ (uni_rowG (by rfl) 23 (.tmp 7) rfl (n + 1 + 1) (k.map byt) 23 rfl (fun W hW => b2.on hW) Try.underlying23 rfl (key_info hk)) (by simp only [Act.put, List.setIfInBounds_toArray, List.set_cons_zero, List.set_cons_succ]; rfl) ?_
      refine wpLex_cons2 _ (uni_callF (by rfl) 17 [Operand.tmp 42, Operand.tmp 43] #[27, 23] rfl [A.v, .agg ((k.map byt)).toArray] ((powL A k 256).v) rfl enter17 (fun W hW => pow_any A k hk W)) (by simp only [Act.put, List.setIfInBounds_toArray, List.set_cons_zero, List.set_cons_succ]; rfl) ?_
      refine wpLex_cons2 _ (uni_rowG (by rfl) 27 (.tmp 10) rfl (gcb) B.cs 27 rfl (fun W hW => cb.on hW) Try.underlying27 rfl (cs_info _)) (by simp only [Act.put, List.setIfInBounds_toArray, List.set_cons_zero, List.set_cons_succ]; rfl) ?_
      refine wpLex_cons2 _ (uni_rowG (by rfl) 23 (.tmp 7) rfl (n + 1 + 1) (k.map byt) 23 rfl (fun W hW => b2.on hW) Try.underlying23 rfl (key_info hk)) (by simp only [Act.put, List.setIfInBounds_toArray, List.set_cons_zero, List.set_cons_succ]; rfl) ?_
      refine wpLex_cons2 _ (uni_callF (by rfl) 17 [Operand.tmp 45, Operand.tmp 46] #[27, 23] rfl [B.v, .agg ((k.map byt)).toArray] ((powL B k 256).v) rfl enter17 (fun W hW => pow_any B k hk W)) (by simp only [Act.put, List.setIfInBounds_toArray, List.set_cons_zero, List.set_cons_succ]; rfl) ?_
      refine wpLex_cons2 _ (uni_callF (by rfl) 16 [Operand.tmp 44, Operand.tmp 47] #[27, 27] rfl [((powL A k 256).v), ((powL B k 256).v)] ((mulE (powL A k 256) (powL B k 256)).v) rfl enter16 (fun W hW => mul_any (powL A k 256) (powL B k 256) W)) (by simp only [Act.put, List.setIfInBounds_toArray, List.set_cons_zero, List.set_cons_succ]; rfl) ?_
      refine wpLex_cons2 _ (uni_callF (by rfl) 12 [Operand.tmp 41, Operand.tmp 48] #[27, 27] rfl [((powL (mulE A B) k 256).v), ((mulE (powL A k 256) (powL B k 256)).v)] (.bool true) rfl enter12 (fun W hW => equalT (pow_prod oa ob k) W)) (by simp only [Act.put, List.setIfInBounds_toArray, List.set_cons_zero, List.set_cons_succ]; rfl) ?_
      refine wpLex_cons2 _ (uni_val (by rfl) (Op.unOp UnOp.not 4 (Operand.tmp 49)) rfl (.bool false) (fun o' ho W _ => by go_simp)) (by simp only [Act.put, List.setIfInBounds_toArray, List.set_cons_zero, List.set_cons_succ]; rfl) ?_
      refine wpLex_cons2 _ (uni_val (by rfl) (Op.pick (Operand.tmp 36) (Operand.const (Value.bool true)) (Operand.tmp 50)) rfl (.bool false) (fun o' ho W _ => by go_simp)) (by simp only [Act.put, List.setIfInBounds_toArray, List.set_cons_zero, List.set_cons_succ]; rfl) ?_
      intro w5 hW
      replace b2 := b2.on hW
      replace ca := ca.on hW
      replace cb := cb.on hW
      replace cw := cw.on hW
      replace be := be.trans (hW.mono (by have := be.size; omega))
      clear hW wr
      clear cb cw HVV nk bk lk
      go_upto_region 9 with fail
      have hcl := ca.lt
      refine lst_newT 1 rfl rfl rfl rfl 13 rfl 23 rfl (z32.map byt) zero23 rfl rfl (.tmp 52) rfl ?_
      simp only [List.take_succ_cons, List.take_zero]
      refine wpLex_cons2 _ (uni_row rfl 23 (.tmp 7) rfl (n + 1 + 1) (k.map byt) 23 rfl (fun W hW => b2.on hW) Try.underlying23 rfl (key_info hk)) (by simp only [Act.put, List.setIfInBounds_toArray, List.set_cons_zero, List.set_cons_succ]; rfl) ?_
      refine ⟨(k.map byt), rfl, by simp, by simp, key_info hk, key_len hk, byts_one _, fun gcl w6 hg hW cl => ?_⟩
      simp only [Act.put, List.setIfInBounds_toArray, List.set_cons_zero, List.set_cons_succ]
      replace b2 := b2.on hW
      replace ca := ca.on hW
      replace be := be.trans (hW.mono (by have := be.size; omega))
      have hne : gca ≠ gcl := Nat.ne_of_lt (Nat.lt_of_lt_of_le hcl hg)
      have hgl : n + 1 + 1 < gcl := Nat.lt_of_lt_of_le (Nat.lt_trans la hcl) hg
      clear hcl
      clear hW hg w5
      go_upto_region 10 with fail
      have lL := lowK_length hk
      have hc := cl.cell 31
      rw [byts_at k 31 (by omega)] at hc
      have hfz := cl.frozen 31
      have hlw : Hid (Blk (w6.setCell ⟨gcl, 31, none⟩ (.int .u8 ((k.getD 31 0 &&& 127).toNat : Int))) gcl ((lowK k).map byt) 23) := by
        have := cl.set 31 (.int .u8 ((k.getD 31 0 &&& 127).toNat : Int))
        rw [byt_set] at this
        exact this
      have hll : n + 1 + 1 < gcl := hgl
      obtain ⟨u, hu⟩ : ∃ u, k.getD 31 0 = u := ⟨_, rfl⟩
      have HU := hide hu
      rw [hu] at hc hlw
      have ha := and127 u
      generalize (u &&& 127) = v at ha hlw
      clear hu
      have hga : gca ≠ gcl := hne
      replace b2 := b2.setOther gcl 31 (.int .u8 (v.toNat : Int)) (by omega)
      replace ca := ca.setOther gcl 31 (.int .u8 (v.toNat : Int)) hga
      replace be := be.setCell (show n ≤ (⟨gcl, 31, none⟩ : Addr).block by simp; omega) (.int .u8 (v.toNat : Int))
      have B2 := hide b2
      have CA := hide ca
      have BE := hide be
      have HKL := hide hk
      have OA := hide oa
      have OB := hide ob
      have B20 := hide b20
      have L20 := hide l20
      have LL := hide lL
      clear b2 ca be cl hk oa ob b20 l20 lL
      go_upto_region 11 with fail
      obtain ⟨LQ, hLQ⟩ : ∃ LQ, lowK k = LQ := ⟨_, rfl⟩
      have HLQ := hide hLQ
      have b2 := B2.out
      have ca := CA.out
      have be := BE.out
      have cl := hlw.out
      have hk := HKL.out
      have oa := OA.out
      have ob := OB.out
      have b20 := B20.out
      have l20 := L20.out
      have lL := LL.out
      rw [hLQ] at cl lL
      clear B2 CA BE hlw HKL OA OB B20 L20 LL hLQ hc hfz ha
      generalize w6.setCell ⟨gcl, 31, none⟩ (.int .u8 (v.toNat : Int)) = wq at b2 ca be cl ⊢
      have hcl2 := ca.lt
      refine lst_newT 3 rfl rfl rfl rfl 14 rfl 27 rfl z5 zero27 rfl rfl (.tmp 59) rfl ?_
      simp only [List.take_succ_cons, List.take_zero]
      refine wpLex_cons2 _ (uni_row rfl 27 (.tmp 9) rfl (gca) A.cs 27 rfl (fun W hW => ca.on hW) Try.underlying27 rfl (cs_info _)) (by simp only [Act.put, List.setIfInBounds_toArray, List.set_cons_zero, List.set_cons_succ]; rfl) ?_
      refine wpLex_cons2 _ (uni_row rfl 23 (.tmp 13) rfl (gcl) (LQ.map byt) 23 rfl (fun W hW => cl.on hW) Try.underlying23 rfl (key_info lL)) (by simp only [Act.put, List.setIfInBounds_toArray, List.set_cons_zero, List.set_cons_succ]; rfl) ?_
      refine wpLex_cons2 _ (uni_callF (by rfl) 17 [Operand.tmp 57, Operand.tmp 58] #[27, 23] rfl [A.v, .agg ((LQ.map byt)).toArray] ((powL A LQ 256).v) rfl enter17 (fun W hW => pow_any A LQ lL W)) (by simp only [Act.put, List.setIfInBounds_toArray, List.set_cons_zero, List.set_cons_succ]; rfl) ?_
      refine ⟨(powL A LQ 256).cs, rfl, by simp, by simp, cs_info _, cs_len _, cs_one _, fun gch w7 hg hW ch => ?_⟩
      simp only [Act.put, List.setIfInBounds_toArray, List.set_cons_zero, List.set_cons_succ]
      replace b2 := b2.on hW
      replace ca := ca.on hW
      replace cl := cl.on hW
      replace be := be.trans (hW.mono (by have := be.size; omega))
      have hne2 : gca ≠ gch := Nat.ne_of_lt (Nat.lt_of_lt_of_le hcl2 hg)
      have hn2 : n + 1 + 1 < gch := Nat.lt_of_lt_of_le (Nat.lt_trans la hcl2) hg
      clear hcl2
      clear hW hg wq
      clear cl
      have hc := b2.cell 31
      rw [byts_at k 31 (by omega), HU.out] at hc
      have hhi : Hid (k.getD 31 0 = u) := HU
      obtain ⟨H, hH⟩ : ∃ H, powL A LQ 256 = H := ⟨_, rfl⟩
      rw [hH] at ch ⊢
      by_cases hbt : u.toNat > 127
      · have hbi : (127 : Int) < (u.toNat : Int) := by omega
        have hfin : Hid (eqE (powL A k 256) (mulE H (powL A K2 256)) = true) := by
          rw [← hH, ← HLQ.out]
          exact pow_high oa (low_high hk (by rw [HU.out]; exact hbt)) n20.out
        clear hH HLQ hbt
        go_upto_region 13 with fail
        clear hc hbi
        refine reg_putT (by kernel_rfl) 5 rfl rfl (by kernel_rfl) rfl rfl 27 (.tmp 14) (.tmp 67) rfl ?_
        simp only [List.take_succ_cons, List.take_zero]
        refine wpLex_cons2 _ (uni_row rfl 27 (.tmp 14) rfl (gch) H.cs 27 rfl (fun W hW => ch.on hW) Try.underlying27 rfl (cs_info _)) (by simp only [Act.put, List.setIfInBounds_toArray, List.set_cons_zero, List.set_cons_succ]; rfl) ?_
        refine wpLex_cons2 _ (uni_row rfl 27 (.tmp 9) rfl (gca) A.cs 27 rfl (fun W hW => ca.on hW) Try.underlying27 rfl (cs_info _)) (by simp only [Act.put, List.setIfInBounds_toArray, List.set_cons_zero, List.set_cons_succ]; rfl) ?_
        refine wpLex_cons2 _ (uni_build1 (by rfl) 23 (.const (.int .u8 20)) rfl (.int .u8 20) (.agg (K2.map byt).toArray) rfl b20) (by simp only [Act.put, List.setIfInBounds_toArray, List.set_cons_zero, List.set_cons_succ]; rfl) ?_
        refine wpLex_cons2 _ (uni_callF (by rfl) 17 [Operand.tmp 64, Operand.tmp 65] #[27, 23] rfl [A.v, .agg (K2.map byt).toArray] ((powL A K2 256).v) rfl enter17 (fun W hW => pow_any A K2 l20 W)) (by simp only [Act.put, List.setIfInBounds_toArray, List.set_cons_zero, List.set_cons_succ]; rfl) ?_
        refine wpLex_cons2 _ (uni_callF (by rfl) 16 [Operand.tmp 63, Operand.tmp 66] #[27, 27] rfl [H.v, ((powL A K2 256).v)] ((mulE H (powL A K2 256)).v) rfl enter16 (fun W hW => mul_any H (powL A K2 256) W)) (by simp only [Act.put, List.setIfInBounds_toArray, List.set_cons_zero, List.set_cons_succ]; rfl) ?_
        refine ⟨gch, (mulE H (powL A K2 256)).cs, H.cs, 27, rfl, rfl, ch, cs_info _, cs_ln _ _, cs_one _, fun wx hW => ?_⟩
        have hgc : gca ≠ gch := hne2
        have hgn : n + 1 + 1 < gch := hn2
        replace b2 := (b2.on hW).setRowOther gch (mulE H (powL A K2 256)).cs.toArray (by omega)
        replace ca := (ca.on hW).setRowOther gch (mulE H (powL A K2 256)).cs.toArray hgc
        replace ch := (ch.on hW).setRow (mulE H (powL A K2 256)).cs
        replace be := below_setRow (be.trans (hW.mono (by have := be.size; omega))) gch (mulE H (powL A K2 256)).cs.toArray (by omega)
        clear hW
        generalize wx.setRow gch (mulE H (powL A K2 256)).cs.toArray = wy at b2 ca ch be ⊢
        go_upto_region 14 with fail
        refine reg_all (by kernel_rfl) (by kernel_rfl) ?_
        refine wpLex_cons2 _ (uni_row rfl 27 (.tmp 9) rfl (gca) A.cs 27 rfl (fun W hW => ca.on hW) Try.underlying27 rfl (cs_info _)) (by simp only [Act.put, List.setIfInBounds_toArray, List.set_cons_zero, List.set_cons_succ]; rfl) ?_
        refine wpLex_cons2 _ (uni_row rfl 23 (.tmp 7) rfl (n + 1 + 1) (k.map byt) 23 rfl (fun W hW => b2.on hW) Try.underlying23 rfl (key_info hk)) (by simp only [Act.put, List.setIfInBounds_toArray, List.set_cons_zero, List.set_cons_succ]; rfl) ?_
        refine wpLex_cons2 _ (uni_callF (by rfl) 17 [Operand.tmp 68, Operand.tmp 69] #[27, 23] rfl [A.v, .agg ((k.map byt)).toArray] ((powL A k 256).v) rfl enter17 (fun W hW => pow_any A k hk W)) (by simp only [Act.put, List.setIfInBounds_toArray, List.set_cons_zero, List.set_cons_succ]; rfl) ?_
        refine wpLex_cons2 _ (uni_row rfl 27 (.tmp 14) rfl (gch) (mulE H (powL A K2 256)).cs 27 rfl (fun W hW => ch.on hW) Try.underlying27 rfl (cs_info _)) (by simp only [Act.put, List.setIfInBounds_toArray, List.set_cons_zero, List.set_cons_succ]; rfl) ?_
        refine wpLex_cons2 _ (uni_callF (by rfl) 12 [Operand.tmp 70, Operand.tmp 71] #[27, 27] rfl [((powL A k 256).v), (mulE H (powL A K2 256)).v] (.bool true) rfl enter12 (fun W hW => equalT hfin.out W)) (by simp only [Act.put, List.setIfInBounds_toArray, List.set_cons_zero, List.set_cons_succ]; rfl) ?_
        refine wpLex_cons2 _ (uni_val (by rfl) (Op.assign (Operand.tmp 72)) rfl ((.bool true)) (fun o' ho W _ => by go_simp)) (by simp only [Act.put, List.setIfInBounds_toArray, List.set_cons_zero, List.set_cons_succ]; rfl) ?_
        intro w8 hW
        replace b2 := b2.on hW
        replace ca := ca.on hW
        replace ch := ch.on hW
        replace be := be.trans (hW.mono (by have := be.size; omega))
        clear hW wx
        go_wp2
        go_ret
        exact ⟨rfl, by rw [hn]; exact be⟩
      · have hbi : ¬ (127 : Int) < (u.toNat : Int) := by omega
        have hfin : Hid (eqE (powL A k 256) H = true) := by
          rw [← hH, ← HLQ.out]
          exact pow_same oa (low_same hk (by rw [HU.out]; exact hbt)).symm (powk_is oa (lowK k))
        clear hH HLQ hbt
        go_upto_region 14 with fail
        clear hc hbi
        refine reg_all (by kernel_rfl) (by kernel_rfl) ?_
        refine wpLex_cons2 _ (uni_row rfl 27 (.tmp 9) rfl (gca) A.cs 27 rfl (fun W hW => ca.on hW) Try.underlying27 rfl (cs_info _)) (by simp only [Act.put, List.setIfInBounds_toArray, List.set_cons_zero, List.set_cons_succ]; rfl) ?_
        refine wpLex_cons2 _ (uni_row rfl 23 (.tmp 7) rfl (n + 1 + 1) (k.map byt) 23 rfl (fun W hW => b2.on hW) Try.underlying23 rfl (key_info hk)) (by simp only [Act.put, List.setIfInBounds_toArray, List.set_cons_zero, List.set_cons_succ]; rfl) ?_
        refine wpLex_cons2 _ (uni_callF (by rfl) 17 [Operand.tmp 68, Operand.tmp 69] #[27, 23] rfl [A.v, .agg ((k.map byt)).toArray] ((powL A k 256).v) rfl enter17 (fun W hW => pow_any A k hk W)) (by simp only [Act.put, List.setIfInBounds_toArray, List.set_cons_zero, List.set_cons_succ]; rfl) ?_
        refine wpLex_cons2 _ (uni_row rfl 27 (.tmp 14) rfl (gch) H.cs 27 rfl (fun W hW => ch.on hW) Try.underlying27 rfl (cs_info _)) (by simp only [Act.put, List.setIfInBounds_toArray, List.set_cons_zero, List.set_cons_succ]; rfl) ?_
        refine wpLex_cons2 _ (uni_callF (by rfl) 12 [Operand.tmp 70, Operand.tmp 71] #[27, 27] rfl [((powL A k 256).v), H.v] (.bool true) rfl enter12 (fun W hW => equalT hfin.out W)) (by simp only [Act.put, List.setIfInBounds_toArray, List.set_cons_zero, List.set_cons_succ]; rfl) ?_
        refine wpLex_cons2 _ (uni_val (by rfl) (Op.assign (Operand.tmp 72)) rfl ((.bool true)) (fun o' ho W _ => by go_simp)) (by simp only [Act.put, List.setIfInBounds_toArray, List.set_cons_zero, List.set_cons_succ]; rfl) ?_
        intro w8 hW
        replace b2 := b2.on hW
        replace ca := ca.on hW
        replace ch := ch.on hW
        replace be := be.trans (hW.mono (by have := be.size; omega))
        clear hW w7
        go_wp2
        go_ret
        exact ⟨rfl, by rw [hn]; exact be⟩

end Go.Proofs.Ytnakeieeopbeiaa
