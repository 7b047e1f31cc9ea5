import Derived.Test.YtnakeieeopbeiaaNum3G
import Derived.Test.YtnakeieeopbeiaaByt
set_option linter.unusedVariables false
set_option linter.unusedSimpArgs false
namespace Go.Proofs.Ytnakeieeopbeiaa
open Go.RowKit Prm

theorem nat19 (y : BitVec 64) (hy : y.toNat < 2251799813947392) : (19#64 * y).toNat = 19 * y.toNat := by
  have e19 : (19#64 : BitVec 64).toNat = 19 := rfl
  rw [BitVec.toNat_mul, e19]; omega

theorem prod_le {a b : Nat} (ha : a < 2251799813947392) (hb : b < 42784196465000448) : a * b ≤ 96341445639776630272689649483777 := Nat.mul_le_mul (Nat.le_of_lt_succ ha) (Nat.le_of_lt_succ hb)

theorem sum5 (u1 v1 u2 v2 u3 v3 u4 v4 u5 v5 : BitVec 64) (a1 : u1.toNat < 2251799813947392) (a2 : u2.toNat < 2251799813947392) (a3 : u3.toNat < 2251799813947392) (a4 : u4.toNat < 2251799813947392) (a5 : u5.toNat < 2251799813947392)
    (b1 : v1.toNat < 42784196465000448) (b2 : v2.toNat < 42784196465000448) (b3 : v3.toNat < 42784196465000448) (b4 : v4.toNat < 42784196465000448) (b5 : v5.toNat < 42784196465000448) :
    (plW (plW (plW (plW (plW w20 u1 v1) u2 v2) u3 v3) u4 v4) u5 v5).nat = u1.toNat * v1.toNat + u2.toNat * v2.toNat + u3.toNat * v3.toNat + u4.toNat * v4.toNat + u5.toNat * v5.toNat ∧
    (plW (plW (plW (plW (plW w20 u1 v1) u2 v2) u3 v3) u4 v4) u5 v5).nat < 649037107316853453566312041152512 := by
  have p1 := prod_le a1 b1
  have p2 := prod_le a2 b2
  have p3 := prod_le a3 b3
  have p4 := prod_le a4 b4
  have p5 := prod_le a5 b5
  have n1 : (plW w20 u1 v1).nat = u1.toNat * v1.toNat := by rw [plW_nat _ _ _ (by rw [w20_nat]; omega), w20_nat, Nat.zero_add]
  have n2 : (plW (plW w20 u1 v1) u2 v2).nat = u1.toNat * v1.toNat + u2.toNat * v2.toNat := by rw [plW_nat _ _ _ (by rw [n1]; omega), n1]
  have n3 : (plW (plW (plW w20 u1 v1) u2 v2) u3 v3).nat = u1.toNat * v1.toNat + u2.toNat * v2.toNat + u3.toNat * v3.toNat := by rw [plW_nat _ _ _ (by rw [n2]; omega), n2]
  have n4 : (plW (plW (plW (plW w20 u1 v1) u2 v2) u3 v3) u4 v4).nat = u1.toNat * v1.toNat + u2.toNat * v2.toNat + u3.toNat * v3.toNat + u4.toNat * v4.toNat := by rw [plW_nat _ _ _ (by rw [n3]; omega), n3]
  have n5 : (plW (plW (plW (plW (plW w20 u1 v1) u2 v2) u3 v3) u4 v4) u5 v5).nat = u1.toNat * v1.toNat + u2.toNat * v2.toNat + u3.toNat * v3.toNat + u4.toNat * v4.toNat + u5.toNat * v5.toNat := by rw [plW_nat _ _ _ (by rw [n4]; omega), n4]
  exact ⟨n5, by rw [n5]; omega⟩

theorem join_val (s0 s1 s2 s3 s4 : W2) (h0 : s0.nat < 649037107316853453566312041152512) (h1 : s1.nat < 649037107316853453566312041152512) (h2 : s2.nat < 649037107316853453566312041152512) (h3 : s3.nat < 649037107316853453566312041152512) (h4 : s4.nat < 649037107316853453566312041152512) :
    s0.nat + 2251799813685248 * s1.nat + 5070602400912917605986812821504 * s2.nat + 11417981541647679048466287755595961091061972992 * s3.nat + 25711008708143844408671393477458601640355247900524685364822016 * s4.nat = (joinW s0 s1 s2 s3 s4).val + P * (s4.nat / 2251799813685248) := by
  have e19 : (19#64 : BitVec 64).toNat = 19 := rfl
  have j0 : ((s0.l &&& mk51) + 19#64 * s4.up).toNat = s0.nat % 2251799813685248 + 19 * (s4.nat / 2251799813685248) := by
    rw [BitVec.toNat_add, BitVec.toNat_mul, e19, low_nat, up_nat _ (by omega)]; omega
  have j1 : ((s1.l &&& mk51) + s0.up).toNat = s1.nat % 2251799813685248 + s0.nat / 2251799813685248 := by
    rw [BitVec.toNat_add, low_nat, up_nat _ (by omega)]; omega
  have j2 : ((s2.l &&& mk51) + s1.up).toNat = s2.nat % 2251799813685248 + s1.nat / 2251799813685248 := by
    rw [BitVec.toNat_add, low_nat, up_nat _ (by omega)]; omega
  have j3 : ((s3.l &&& mk51) + s2.up).toNat = s3.nat % 2251799813685248 + s2.nat / 2251799813685248 := by
    rw [BitVec.toNat_add, low_nat, up_nat _ (by omega)]; omega
  have j4 : ((s4.l &&& mk51) + s3.up).toNat = s4.nat % 2251799813685248 + s3.nat / 2251799813685248 := by
    rw [BitVec.toNat_add, low_nat, up_nat _ (by omega)]; omega
  simp only [L5.val, joinW, j0, j1, j2, j3, j4, P]
  clear j0 j1 j2 j3 j4 h0 h1 h2 h3 h4 e19
  generalize s0.nat = n0
  generalize s1.nat = n1
  generalize s2.nat = n2
  generalize s3.nat = n3
  generalize s4.nat = n4
  omega

theorem poly (a b c d e p q r s t : Nat) :
    (a + 2251799813685248 * b + 5070602400912917605986812821504 * c + 11417981541647679048466287755595961091061972992 * d + 25711008708143844408671393477458601640355247900524685364822016 * e) * (p + 2251799813685248 * q + 5070602400912917605986812821504 * r + 11417981541647679048466287755595961091061972992 * s + 25711008708143844408671393477458601640355247900524685364822016 * t) =
    (a * p + b * (19 * t) + c * (19 * s) + d * (19 * r) + e * (19 * q)) + 2251799813685248 * (a * q + b * p + c * (19 * t) + d * (19 * s) + e * (19 * r)) + 5070602400912917605986812821504 * (a * r + b * q + c * p + d * (19 * t) + e * (19 * s)) + 11417981541647679048466287755595961091061972992 * (a * s + b * r + c * q + d * p + e * (19 * t)) + 25711008708143844408671393477458601640355247900524685364822016 * (a * t + b * s + c * r + d * q + e * p)
    + 57896044618658097711785492504343953926634992332820282019728792003956564819949 * ((b * t + c * s + d * r + e * q) + 2251799813685248 * (c * t + d * s + e * r) + 5070602400912917605986812821504 * (d * t + e * s) + 11417981541647679048466287755595961091061972992 * (e * t)) := by
  grind

theorem mul_val (x y : L5) (hx : x.Ok) (hy : y.Ok) : (mulE x y).val % P = (x.val * y.val) % P := by
  have hb := nat19 y.b hy.b
  have hc := nat19 y.c hy.c
  have hd := nat19 y.d hy.d
  have he := nat19 y.e hy.e
  have la : y.a.toNat < 42784196465000448 := by have := hy.a; omega
  have lb : y.b.toNat < 42784196465000448 := by have := hy.b; omega
  have lc : y.c.toNat < 42784196465000448 := by have := hy.c; omega
  have ld : y.d.toNat < 42784196465000448 := by have := hy.d; omega
  have le : y.e.toNat < 42784196465000448 := by have := hy.e; omega
  have zb : (19#64 * y.b).toNat < 42784196465000448 := by have := hy.b; omega
  have zc : (19#64 * y.c).toNat < 42784196465000448 := by have := hy.c; omega
  have zd : (19#64 * y.d).toNat < 42784196465000448 := by have := hy.d; omega
  have ze : (19#64 * y.e).toNat < 42784196465000448 := by have := hy.e; omega
  obtain ⟨m0, k0⟩ := sum5 x.a y.a x.b (19#64 * y.e) x.c (19#64 * y.d) x.d (19#64 * y.c) x.e (19#64 * y.b) hx.a hx.b hx.c hx.d hx.e la ze zd zc zb
  obtain ⟨m1, k1⟩ := sum5 x.a y.b x.b y.a x.c (19#64 * y.e) x.d (19#64 * y.d) x.e (19#64 * y.c) hx.a hx.b hx.c hx.d hx.e lb la ze zd zc
  obtain ⟨m2, k2⟩ := sum5 x.a y.c x.b y.b x.c y.a x.d (19#64 * y.e) x.e (19#64 * y.d) hx.a hx.b hx.c hx.d hx.e lc lb la ze zd
  obtain ⟨m3, k3⟩ := sum5 x.a y.d x.b y.c x.c y.b x.d y.a x.e (19#64 * y.e) hx.a hx.b hx.c hx.d hx.e ld lc lb la ze
  obtain ⟨m4, k4⟩ := sum5 x.a y.e x.b y.d x.c y.c x.d y.b x.e y.a hx.a hx.b hx.c hx.d hx.e le ld lc lb la
  rw [hb, hc, hd, he] at m0
  rw [hc, hd, he] at m1
  rw [hd, he] at m2
  rw [he] at m3
  have hj := join_val (ms0 x y) (ms1 x y) (ms2 x y) (ms3 x y) (ms4 x y) k0 k1 k2 k3 k4
  have hp := poly x.a.toNat x.b.toNat x.c.toNat x.d.toNat x.e.toNat y.a.toNat y.b.toNat y.c.toNat y.d.toNat y.e.toNat
  rw [← m0, ← m1, ← m2, ← m3, ← m4] at hp
  have e : x.val * y.val % P = (joinW (ms0 x y) (ms1 x y) (ms2 x y) (ms3 x y) (ms4 x y)).val % P := by
    have hp' : x.val * y.val = (ms0 x y).nat + 2251799813685248 * (ms1 x y).nat + 5070602400912917605986812821504 * (ms2 x y).nat + 11417981541647679048466287755595961091061972992 * (ms3 x y).nat + 25711008708143844408671393477458601640355247900524685364822016 * (ms4 x y).nat + P * _ := hp
    rw [hp', Nat.add_mul_mod_self_left, hj, Nat.add_mul_mod_self_left]
  rw [e, carr_val (joinW (ms0 x y) (ms1 x y) (ms2 x y) (ms3 x y) (ms4 x y)), Nat.add_mul_mod_self_left, mulE]

end Go.Proofs.Ytnakeieeopbeiaa

set_option linter.unusedVariables false
set_option linter.unusedSimpArgs false
namespace Go.Proofs.Ytnakeieeopbeiaa
open Go.RowKit

theorem Try.info5 : (Try.prog.info? 5).map (fun i => (i.zero, i.size, i.bytes)) = some (some (.int .u8 0), 1, 1) := by kernel_rfl
theorem byts_at (L : List UInt8) (i : Nat) (h : i < L.length) : (L.map byt)[i]? = some (.int .u8 ((L.getD i 0).toNat : Int)) := by
  simp [List.getElem?_eq_getElem h, byt]
theorem run_part (L : List UInt8) (i : Nat) (h : i < L.length) (W : World) : (part 5 (L.map byt).toArray (i * 1)).run Try.prog W = .ok (.int .u8 ((L.getD i 0).toNat : Int)) W := by
  have h1 : (L.map byt).toArray[i]? = some (.int .u8 ((L.getD i 0).toNat : Int)) := by rw [List.getElem?_toArray, byts_at L i h]
  simp only [part, Sem.run_bind, Try.isAgg5, Result.andThen_ok, Nat.mul_one, h1]
  simp
theorem eqItems_is (L M : List UInt8) (d : Nat) (W : World) : ∀ (is : List Nat), (∀ i ∈ is, i < L.length ∧ i < M.length) →
    (Op.eqItems (d + 1) 5 1 (L.map byt).toArray (M.map byt).toArray is).run Try.prog W = .ok (is.all fun i => L.getD i 0 == M.getD i 0) W
  | [], _ => by simp [Op.eqItems]
  | i :: is, h => by
    obtain ⟨h1, h2⟩ := h i (by simp)
    have he := run_equalIn_int (P := Try.prog) W d 5 .u8 .u8 ((L.getD i 0).toNat : Int) ((M.getD i 0).toNat : Int) Try.underlying5
    have ih := eqItems_is L M d W is (fun j hj => h j (by simp [hj]))
    simp only [Op.eqItems, Sem.run_bind, run_part L i h1 W, run_part M i h2 W, he, Result.andThen_ok, List.all_cons]
    generalize (is.all fun i => L.getD i 0 == M.getD i 0) = r at ih ⊢
    generalize L.getD i 0 = x
    generalize M.getD i 0 = y
    by_cases hq : x = y
    · subst hq
      simp
      exact ih
    · have : (x.toNat : Int) ≠ (y.toNat : Int) := by
        intro hh
        exact hq (UInt8.toNat_inj.1 (by omega))
      simp [hq, this]

theorem getD_ext {L M : List UInt8} {n : Nat} (h1 : L.length = n) (h2 : M.length = n) (h : ∀ i, i < n → L.getD i 0 = M.getD i 0) : L = M := by
  apply List.ext_getElem (by omega)
  intro i hi hi'
  have := h i (by omega)
  rw [List.getD_eq_getElem?_getD, List.getD_eq_getElem?_getD, List.getElem?_eq_getElem hi, List.getElem?_eq_getElem hi'] at this
  simpa using this

theorem eq23 (L M : List UInt8) (h1 : L.length = 32) (h2 : M.length = 32) (W : World) : (Op.equalIn 10000 23 (.agg (L.map byt).toArray) (.agg (M.map byt).toArray)).run Try.prog W = .ok (decide (L = M)) W := by
  obtain ⟨i0, hi, _⟩ := info_parts Try.info5
  rw [run_equalIn_array W 9999 (L.map byt).toArray (M.map byt).toArray Try.underlying23 hi]
  have hc : Try.prog.cellsOf 5 = 1 := by kernel_rfl
  rw [hc, eqItems_is L M 9998 W _ (fun i hi => by have := List.mem_range.1 hi; omega)]
  congr 1
  by_cases hq : L = M
  · subst hq
    simp
  · rw [decide_eq_false hq, List.all_eq_false]
    refine Classical.byContradiction fun hn => hq (getD_ext h1 h2 fun i hi => ?_)
    refine Classical.byContradiction fun hne => hn ⟨i, List.mem_range.2 hi, ?_⟩
    simpa using hne
theorem guard23 : Try.prog.eqGuardType Try.prog.depth 23 = false := by kernel_rfl

set_option maxRecDepth 100000 in
set_option maxHeartbeats 2000000 in
theorem equal_any (x y : L5) (w : World) :
    Calls Try.prog 12 #[x.v, y.v] w fun e w' => e = .returned (.bool (decide (tellE x = tellE y))) ∧ Below w.heap.size w w' := by
  have hl1 := tell_length x
  have hl2 := tell_length y
  have hx := fun W => bytes_any x W
  have hy := fun W => bytes_any y W
  generalize tellE x = L at hx hl1 ⊢
  generalize tellE y = M at hy hl2 ⊢
  have he := fun W => eq23 L M hl1 hl2 W
  generalize decide (L = M) = q at he ⊢
  clear hl1 hl2
  go_enter Try.func12, Try.ntmps12
  go_upto_region 1 with (first | (refine wpList_boxAt rfl 27 (.tmp 0) rfl x.cs rfl w.heap.size rfl ?_) | (refine wpList_boxAt rfl 27 (.tmp 1) rfl y.cs rfl (w.heap.size + 1) (by simp) ?_))
  have b1 : Blk ((w.alloc (.cells x.cs.toArray 27)).alloc (.cells y.cs.toArray 27)) w.heap.size x.cs 27 := (Blk.new _ _ _).alloc _
  have b2 : Blk ((w.alloc (.cells x.cs.toArray 27)).alloc (.cells y.cs.toArray 27)) (w.heap.size + 1) y.cs 27 := by
    have := Blk.new (w.alloc (.cells x.cs.toArray 27)) y.cs 27
    simpa using this
  have be : Below w.heap.size w ((w.alloc (.cells x.cs.toArray 27)).alloc (.cells y.cs.toArray 27)) := by go_grown
  generalize (w.alloc (.cells x.cs.toArray 27)).alloc (.cells y.cs.toArray 27) = w1 at b1 b2 be ⊢
  obtain ⟨n, hn⟩ : ∃ n, w.heap.size = n := ⟨_, rfl⟩
  rw [hn] at b1 b2 be ⊢
  refine reg_all (by kernel_rfl) (by kernel_rfl) ?_
  refine wpLex_cons _ (uni_row rfl 27 (.tmp 2) rfl n x.cs 27 rfl (fun W hW => b1.on hW) Try.underlying27 rfl (cs_info _)) ?_
  simp only [Act.put, List.setIfInBounds_toArray, List.set_cons_zero, List.set_cons_succ]
  refine wpLex_cons _ (uni_callF (by rfl) 10 [Operand.tmp 5] #[27] rfl [x.v] (.agg (L.map byt).toArray) rfl enter10 (fun W hW => hx W)) ?_
  simp only [Act.put, List.setIfInBounds_toArray, List.set_cons_zero, List.set_cons_succ]
  refine wpLex_cons _ (uni_row rfl 27 (.tmp 3) rfl (n + 1) y.cs 27 rfl (fun W hW => b2.on hW) Try.underlying27 rfl (cs_info _)) ?_
  simp only [Act.put, List.setIfInBounds_toArray, List.set_cons_zero, List.set_cons_succ]
  refine wpLex_cons _ (uni_callF (by rfl) 10 [Operand.tmp 7] #[27] rfl [y.v] (.agg (M.map byt).toArray) rfl enter10 (fun W hW => hy W)) ?_
  simp only [Act.put, List.setIfInBounds_toArray, List.set_cons_zero, List.set_cons_succ]
  refine wpLex_cons _ (uni_val (by rfl) (Op.binOp BinOp.eql 23 (Operand.tmp 6) (Operand.tmp 8) 23) rfl (.bool q) (fun o' ho W _ => by have hg := guard23; go_simp)) ?_
  simp only [Act.put, List.setIfInBounds_toArray, List.set_cons_zero, List.set_cons_succ]
  refine wpLex_cons _ (uni_val (by rfl) (Op.assign (Operand.tmp 9)) rfl (.bool q) (fun o' ho W _ => by go_simp)) ?_
  simp only [Act.put, List.setIfInBounds_toArray, List.set_cons_zero, List.set_cons_succ]
  intro w2 hW
  go_wp2
  go_ret
  exact ⟨rfl, by rw [hn]; exact be.trans (hW.mono (by have := be.size; omega))⟩

set_option maxRecDepth 100000 in
set_option maxHeartbeats 2000000 in
theorem fits_any (k : List UInt8) (hk : k.length = 32) (w : World) :
    Calls Try.prog 11 #[.agg (k.map byt).toArray] w fun e w' => e = .returned (.bool (decide (tellE (readE k) = k))) ∧ Below w.heap.size w w' := by
  have hks : (Try.prog.info? 23).map (·.size) = some (k.map byt).length := by rw [List.length_map, hk]; kernel_rfl
  have hr := fun W => read_any k hk W
  generalize readE k = x at hr ⊢
  have hl1 := tell_length x
  have hx := fun W => bytes_any x W
  generalize tellE x = L at hx hl1 ⊢
  have he := fun W => eq23 L k hl1 hk W
  generalize decide (L = k) = q at he ⊢
  clear hl1
  go_enter Try.func11, Try.ntmps11
  go_upto_region 1 with (refine wpList_boxAt rfl 23 (.tmp 0) rfl (k.map byt) rfl w.heap.size rfl ?_)
  have b1 : Blk (w.alloc (.cells (k.map byt).toArray 23)) w.heap.size (k.map byt) 23 := Blk.new _ _ _
  have be : Below w.heap.size w (w.alloc (.cells (k.map byt).toArray 23)) := by go_grown
  generalize w.alloc (.cells (k.map byt).toArray 23) = w1 at b1 be ⊢
  obtain ⟨n, hn⟩ : ∃ n, w.heap.size = n := ⟨_, rfl⟩
  rw [hn] at b1 be ⊢
  refine reg_all (by kernel_rfl) (by kernel_rfl) ?_
  refine wpLex_cons _ (uni_row rfl 23 (.tmp 1) rfl n (k.map byt) 23 rfl (fun W hW => b1.on hW) Try.underlying23 rfl hks) ?_
  simp only [Act.put, List.setIfInBounds_toArray, List.set_cons_zero, List.set_cons_succ]
  refine wpLex_cons _ (uni_callF (by rfl) 9 [Operand.tmp 3] #[23] rfl [.agg (k.map byt).toArray] x.v rfl enter9 (fun W hW => hr W)) ?_
  simp only [Act.put, List.setIfInBounds_toArray, List.set_cons_zero, List.set_cons_succ]
  refine wpLex_cons _ (uni_callF (by rfl) 10 [Operand.tmp 4] #[27] rfl [x.v] (.agg (L.map byt).toArray) rfl enter10 (fun W hW => hx W)) ?_
  simp only [Act.put, List.setIfInBounds_toArray, List.set_cons_zero, List.set_cons_succ]
  refine wpLex_cons _ (uni_row rfl 23 (.tmp 1) rfl n (k.map byt) 23 rfl (fun W hW => b1.on hW) Try.underlying23 rfl hks) ?_
  simp only [Act.put, List.setIfInBounds_toArray, List.set_cons_zero, List.set_cons_succ]
  refine wpLex_cons _ (uni_val (by rfl) (Op.binOp BinOp.eql 23 (Operand.tmp 5) (Operand.tmp 6) 23) rfl (.bool q) (fun o' ho W _ => by have hg := guard23; go_simp)) ?_
  simp only [Act.put, List.setIfInBounds_toArray, List.set_cons_zero, List.set_cons_succ]
  refine wpLex_cons _ (uni_val (by rfl) (Op.assign (Operand.tmp 7)) rfl (.bool q) (fun o' ho W _ => by go_simp)) ?_
  simp only [Act.put, List.setIfInBounds_toArray, List.set_cons_zero, List.set_cons_succ]
  intro w2 hW
  go_wp2
  go_ret
  exact ⟨rfl, by rw [hn]; exact be.trans (hW.mono (by have := be.size; omega))⟩
end Go.Proofs.Ytnakeieeopbeiaa
