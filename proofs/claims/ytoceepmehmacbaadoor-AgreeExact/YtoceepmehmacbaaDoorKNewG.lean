import Derived.Test.YtoceepmehmacbaaDoorKPw2G
import Derived.Test.YtoceepmehmacbaaDoorKNum2G
import Derived.Test.YtoceepmehmacbaaDoorKNum4G
import Derived.Test.YtoceepmehmacbaaDoorKRd2G
set_option linter.unusedVariables false
set_option linter.unusedSimpArgs false
namespace Go.Proofs.YtoceepmehmacbaaDoor.Cv
open Go.RowKit

/-- The power 2^255 - 21. -/
def invE (x : L5) : L5 := mulE (mulE (mulE (sqN (onesE x) 5) (sqN (mulE x x) 2)) (mulE x x)) x

set_option maxRecDepth 100000 in
set_option maxHeartbeats 20000000 in
theorem inv_any (x : L5) (w : World) :
    Calls Tryd.prog 39 #[x.v] w fun e w' => e = .returned (invE x).v ∧ Below w.heap.size w w' := by
  have HR : Hid (invE x = mulE (mulE (mulE (sqN (onesE x) 5) (sqN (mulE x x) 2)) (mulE x x)) x) := by rw [invE]; trivial
  generalize invE x = R at HR ⊢
  go_enter Tryd.func39, Tryd.ntmps39
  go_upto_region 1 with (first | (refine wpList_boxAt rfl 71 (.tmp 0) rfl (x.cs) rfl (w.heap.size) rfl ?_) | (refine wpList_newAt rfl 71 rfl z5 zero27 (w.heap.size + 1) (by simp) ?_))
  have b0 : Blk ((w.alloc (.cells (x.cs).toArray 71)).alloc (.cells (z5).toArray 71)) (w.heap.size) (x.cs) 71 := by
    have := (Blk.new w (x.cs) 71).alloc (.cells (z5).toArray 71)
    simpa using this
  have b1 : Blk ((w.alloc (.cells (x.cs).toArray 71)).alloc (.cells (z5).toArray 71)) (w.heap.size + 1) (z5) 71 := by
    have := Blk.new (w.alloc (.cells (x.cs).toArray 71)) (z5) 71
    simpa using this
  have be : Below w.heap.size w ((w.alloc (.cells (x.cs).toArray 71)).alloc (.cells (z5).toArray 71)) := by go_grown
  generalize ((w.alloc (.cells (x.cs).toArray 71)).alloc (.cells (z5).toArray 71)) = w1 at b0 b1 be ⊢
  obtain ⟨n, hn⟩ : ∃ n, w.heap.size = n := ⟨_, rfl⟩
  rw [hn] at b0 b1 be ⊢
  try simp only [Act.put, List.setIfInBounds_toArray, List.set_cons_zero, List.set_cons_succ]
  refine lst_newT 2 rfl rfl rfl rfl 3 rfl 71 rfl z5 zero27 rfl rfl (.tmp 6) rfl ?_
  simp only [List.take_succ_cons, List.take_zero]
  refine wpLex_cons2 _ (uni_row rfl 71 (.tmp 1) rfl n x.cs 71 rfl (fun W hW => b0.on hW) Tryd.underlying71 rfl (cs_info _)) (by simp only [Act.put, List.setIfInBounds_toArray, List.set_cons_zero, List.set_cons_succ]; rfl) ?_; refine wpLex_cons2 _ (uni_callF (by rfl) 54 [Operand.tmp 5] #[71] rfl [x.v] ((mulE x x).v) rfl enter54 (fun W hW => square_any x W)) (by simp only [Act.put, List.setIfInBounds_toArray, List.set_cons_zero, List.set_cons_succ]; rfl) ?_; refine ⟨(mulE x x).cs, rfl, by simp, by simp, cs_info _, cs_len _, cs_one _, fun gcs w2 hg hW cs => ?_⟩
  simp only [Act.put, List.setIfInBounds_toArray, List.set_cons_zero, List.set_cons_succ]
  replace b0 := b0.on hW
  replace b1 := b1.on hW
  replace be := be.trans (hW.mono (by have := be.size; omega))
  clear hW hg w1
  go_upto_region 2 with fail
  refine lst_newT 2 rfl rfl rfl rfl 4 rfl 71 rfl z5 zero27 rfl rfl (.tmp 8) rfl ?_
  simp only [List.take_succ_cons, List.take_zero]
  refine wpLex_cons2 _ (uni_row rfl 71 (.tmp 3) rfl gcs (mulE x x).cs 71 rfl (fun W hW => cs.on hW) Tryd.underlying71 rfl (cs_info _)) (by simp only [Act.put, List.setIfInBounds_toArray, List.set_cons_zero, List.set_cons_succ]; rfl) ?_; refine wpLex_cons2 _ (uni_callF (by rfl) 58 [Operand.tmp 7, Operand.const (Value.int IntKind.i64 2)] #[71, 3] rfl [(mulE x x).v, Value.int IntKind.i64 2] ((sqN (mulE x x) 2).v) rfl enter58 (fun W hW => squared_at (mulE x x) 2 W)) (by simp only [Act.put, List.setIfInBounds_toArray, List.set_cons_zero, List.set_cons_succ]; rfl) ?_; refine ⟨(sqN (mulE x x) 2).cs, rfl, by simp, by simp, cs_info _, cs_len _, cs_one _, fun gce w3 hg hW ce => ?_⟩
  simp only [Act.put, List.setIfInBounds_toArray, List.set_cons_zero, List.set_cons_succ]
  replace b0 := b0.on hW
  replace b1 := b1.on hW
  replace cs := cs.on hW
  replace be := be.trans (hW.mono (by have := be.size; omega))
  clear hW hg w2
  go_upto_region 3 with fail
  refine reg_putT (by kernel_rfl) 9 rfl rfl (by kernel_rfl) rfl rfl 71 (.tmp 2) (.tmp 17) rfl ?_
  simp only [List.take_succ_cons, List.take_zero]
  refine wpLex_cons2 _ (uni_row rfl 71 (.tmp 1) rfl n x.cs 71 rfl (fun W hW => b0.on hW) Tryd.underlying71 rfl (cs_info _)) (by simp only [Act.put, List.setIfInBounds_toArray, List.set_cons_zero, List.set_cons_succ]; rfl) ?_; refine wpLex_cons2 _ (uni_callF (by rfl) 59 [Operand.tmp 9] #[71] rfl [x.v] ((onesE x).v) rfl enter59 (fun W hW => manyOnes_any x W)) (by simp only [Act.put, List.setIfInBounds_toArray, List.set_cons_zero, List.set_cons_succ]; rfl) ?_; refine wpLex_cons2 _ (uni_callF (by rfl) 58 [Operand.tmp 10, Operand.const (Value.int IntKind.i64 5)] #[71, 3] rfl [((onesE x).v), Value.int IntKind.i64 5] ((sqN (onesE x) 5).v) rfl enter58 (fun W hW => squared_at (onesE x) 5 W)) (by simp only [Act.put, List.setIfInBounds_toArray, List.set_cons_zero, List.set_cons_succ]; rfl) ?_; refine wpLex_cons2 _ (uni_row rfl 71 (.tmp 4) rfl gce (sqN (mulE x x) 2).cs 71 rfl (fun W hW => ce.on hW) Tryd.underlying71 rfl (cs_info _)) (by simp only [Act.put, List.setIfInBounds_toArray, List.set_cons_zero, List.set_cons_succ]; rfl) ?_; refine wpLex_cons2 _ (uni_callF (by rfl) 38 [Operand.tmp 11, Operand.tmp 12] #[71, 71] rfl [((sqN (onesE x) 5).v), (sqN (mulE x x) 2).v] ((mulE (sqN (onesE x) 5) (sqN (mulE x x) 2)).v) rfl enter38 (fun W hW => mul_any (sqN (onesE x) 5) (sqN (mulE x x) 2) W)) (by simp only [Act.put, List.setIfInBounds_toArray, List.set_cons_zero, List.set_cons_succ]; rfl) ?_; refine wpLex_cons2 _ (uni_row rfl 71 (.tmp 3) rfl gcs (mulE x x).cs 71 rfl (fun W hW => cs.on hW) Tryd.underlying71 rfl (cs_info _)) (by simp only [Act.put, List.setIfInBounds_toArray, List.set_cons_zero, List.set_cons_succ]; rfl) ?_; refine wpLex_cons2 _ (uni_callF (by rfl) 38 [Operand.tmp 13, Operand.tmp 14] #[71, 71] rfl [((mulE (sqN (onesE x) 5) (sqN (mulE x x) 2)).v), (mulE x x).v] ((mulE (mulE (sqN (onesE x) 5) (sqN (mulE x x) 2)) (mulE x x)).v) rfl enter38 (fun W hW => mul_any (mulE (sqN (onesE x) 5) (sqN (mulE x x) 2)) (mulE x x) W)) (by simp only [Act.put, List.setIfInBounds_toArray, List.set_cons_zero, List.set_cons_succ]; rfl) ?_; refine wpLex_cons2 _ (uni_row rfl 71 (.tmp 1) rfl n x.cs 71 rfl (fun W hW => b0.on hW) Tryd.underlying71 rfl (cs_info _)) (by simp only [Act.put, List.setIfInBounds_toArray, List.set_cons_zero, List.set_cons_succ]; rfl) ?_; refine wpLex_cons2 _ (uni_callF (by rfl) 38 [Operand.tmp 15, Operand.tmp 16] #[71, 71] rfl [((mulE (mulE (sqN (onesE x) 5) (sqN (mulE x x) 2)) (mulE x x)).v), x.v] ((mulE (mulE (mulE (sqN (onesE x) 5) (sqN (mulE x x) 2)) (mulE x x)) x).v) rfl enter38 (fun W hW => mul_any (mulE (mulE (sqN (onesE x) 5) (sqN (mulE x x) 2)) (mulE x x)) x W)) (by simp only [Act.put, List.setIfInBounds_toArray, List.set_cons_zero, List.set_cons_succ]; rfl) ?_; refine ⟨n + 1, (mulE (mulE (mulE (sqN (onesE x) 5) (sqN (mulE x x) 2)) (mulE x x)) x).cs, z5, 71, rfl, rfl, b1, cs_info _, cs_len _, cs_one _, fun wz hW => ?_⟩
  go_wp2
  refine bodyPost_ret (results_cell_row Tryd.results39 _ _ (n + 1) 71 ((mulE (mulE (mulE (sqN (onesE x) 5) (sqN (mulE x x) 2)) (mulE x x)) x).cs).toArray (0, 0) _ rfl ((b1.on hW).setRow _) Tryd.underlying71 rfl (cs_infoA _)) rfl ?_
  exact ⟨by rw [HR.out]; rfl, by rw [hn]; exact below_setRow (be.trans (hW.mono (by have := be.size; omega))) _ _ (by omega)⟩

end Go.Proofs.YtoceepmehmacbaaDoor.Cv
set_option linter.unusedVariables false
set_option linter.unusedSimpArgs false
namespace Go.Proofs.YtoceepmehmacbaaDoor.Cv
open Go.RowKit Prm

theorem mul_mod2 {m k m' k' : Nat} (h : m % P = k % P) (h' : m' % P = k' % P) : m * m' % P = k * k' % P := by rw [Nat.mul_mod, h, h', ← Nat.mul_mod]
theorem small_val (n : BitVec 32) : (small n).val = n.toNat := by
  have := n.isLt
  unfold small L5.val
  have z : (0 : BitVec 64).toNat = 0 := rfl
  simp only [BitVec.toNat_setWidth, z]
  omega
theorem small_ok (n : BitVec 32) : (small n).Ok := by
  have := n.isLt
  have z : (0 : BitVec 64).toNat = 0 := rfl
  refine ⟨?_, ?_, ?_, ?_, ?_⟩ <;> simp only [small, BitVec.toNat_setWidth, z] <;> omega
/-- 0. -/
def zeroE : L5 := ⟨0, 0, 0, 0, 0⟩
theorem zero_val : zeroE.val = 0 := rfl
theorem zero_ok : zeroE.Ok := by
  have z : (0 : BitVec 64).toNat = 0 := rfl
  refine ⟨?_, ?_, ?_, ?_, ?_⟩ <;> simp only [zeroE, z] <;> omega

end Go.Proofs.YtoceepmehmacbaaDoor.Cv
set_option linter.unusedVariables false
set_option linter.unusedSimpArgs false
namespace Go.Proofs.YtoceepmehmacbaaDoor.Cv
open Go.RowKit Prm

/-- u is x to the e-th. -/
def IsPow (x u : L5) (e : Nat) : Prop := u.Ok ∧ u.val % P = x.val ^ e % P
theorem IsPow.self {x : L5} (h : x.Ok) : IsPow x x 1 := ⟨h, by rw [Nat.pow_one]⟩
theorem IsPow.mul {x u v : L5} {a b : Nat} (h : IsPow x u a) (k : IsPow x v b) : IsPow x (mulE u v) (a + b) :=
  ⟨mul_ok _ _, by rw [mul_val u v h.1 k.1, mul_mod2 h.2 k.2, Nat.pow_add]⟩
theorem IsPow.sq {x u : L5} {a : Nat} (h : IsPow x u a) : ∀ t, IsPow x (sqN u t) (a * 2 ^ t)
  | 0 => by rw [sqN, Nat.pow_zero, Nat.mul_one]; exact h
  | t + 1 => by
    have ih := h.sq t
    have := ih.mul ih
    rw [sqN, Nat.pow_succ, ← Nat.mul_assoc, Nat.mul_two]
    exact this
theorem IsPow.cast {x u : L5} {a b : Nat} (h : IsPow x u a) (e : a = b) : IsPow x u b := e ▸ h

theorem o5_is {x : L5} (h : x.Ok) : IsPow x (o5 x) 31 := by
  have s := IsPow.self h
  exact ((((s.sq 4).mul (s.sq 3)).mul (s.sq 2)).mul (s.sq 1)).mul s
theorem o10_is {x : L5} (h : x.Ok) : IsPow x (o10 x) 1023 := (((o5_is h).sq 5).mul (o5_is h)).cast (by decide +kernel)
theorem o20_is {x : L5} (h : x.Ok) : IsPow x (o20 x) 1048575 := (((o10_is h).sq 10).mul (o10_is h)).cast (by decide +kernel)
theorem o40_is {x : L5} (h : x.Ok) : IsPow x (o40 x) 1099511627775 := (((o20_is h).sq 20).mul (o20_is h)).cast (by decide +kernel)
theorem o50_is {x : L5} (h : x.Ok) : IsPow x (o50 x) 1125899906842623 := (((o40_is h).sq 10).mul (o10_is h)).cast (by decide +kernel)
theorem o100_is {x : L5} (h : x.Ok) : IsPow x (o100 x) 1267650600228229401496703205375 := (((o50_is h).sq 50).mul (o50_is h)).cast (by decide +kernel)
theorem o200_is {x : L5} (h : x.Ok) : IsPow x (o200 x) 1606938044258990275541962092341162602522202993782792835301375 := (((o100_is h).sq 100).mul (o100_is h)).cast (by decide +kernel)
def E250 : Nat := 1809251394333065553493296640760748560207343510400633813116524750123642650623
theorem ones_is {x : L5} (h : x.Ok) : IsPow x (onesE x) E250 := (((o200_is h).sq 50).mul (o50_is h)).cast (by decide +kernel)
theorem inv_is {x : L5} (h : x.Ok) : IsPow x (invE x) (P - 2) := by
  have s := IsPow.self h
  exact (((((ones_is h).sq 5).mul ((s.mul s).sq 2)).mul (s.mul s)).mul s).cast (by decide +kernel)
def kbit (k : List UInt8) (i : Nat) : Bool := decide ((k.getD (i / 8) 0).toNat / 2 ^ (i % 8) % 2 = 1)
theorem bit_of (M r : Nat) (hr : r < 8) : M % 256 / 2 ^ r % 2 = M / 2 ^ r % 2 := by
  have : r = 0 ∨ r = 1 ∨ r = 2 ∨ r = 3 ∨ r = 4 ∨ r = 5 ∨ r = 6 ∨ r = 7 := by omega
  rcases this with rfl | rfl | rfl | rfl | rfl | rfl | rfl | rfl <;> simp only [Nat.reducePow, Nat.pow_zero, Nat.pow_one] <;> omega
theorem kbit_is (k : List UInt8) (i : Nat) (hi : i < 256) : kbit k i = decide (kn k / 2 ^ i % 2 = 1) := by
  unfold kbit
  have h := psum_div k 32 (i / 8) (by omega)
  have e : kn k / 2 ^ i = kn k / 256 ^ (i / 8) / 2 ^ (i % 8) := by
    rw [Nat.div_div_eq_div_mul, show (256 : Nat) = 2 ^ 8 from rfl, ← Nat.pow_mul, ← Nat.pow_add]
    congr 2
    omega
  rw [e, ← h, bit_of _ _ (by omega)]
  rfl
end Go.Proofs.YtoceepmehmacbaaDoor.Cv
set_option linter.unusedVariables false
set_option linter.unusedSimpArgs false
namespace Go.Proofs.YtoceepmehmacbaaDoor.Cv
open Go.RowKit
theorem perm_10 (L : Array Bool) (n : Nat) : ((L.setIfInBounds (n + 1) true).setIfInBounds (n + 0) true) = ((L.setIfInBounds (n + 0) true).setIfInBounds (n + 1) true) := by
  rw [Array.setIfInBounds_comm (i := n + 1) (j := n + 0) true true (by omega)]
theorem fperm_10 (a : Act) {d0 d1 : Nat} (u0 u1 : Value) (n01 : d0 ≠ d1) : ((a.put (some d1) u1).put (some d0) u0) = ((a.put (some d0) u0).put (some d1) u1) := by
  rw [Act.put_comm (x := some d1) (y := some d0) _ u1 u0 (fun d h1 h2 => n01 (by cases h1; cases h2; rfl))]
section
variable {P : Program} {Q : Exit → Act → World → Prop}
theorem reg_new2 {id : Nat} {l : List Oper} {o0 o1 s0o s1o : Oper} {a : Act} {w : World} (hm : P.follows .mixedOrders = true) (n : Nat) (hl : l.length = n + 4)
    (ho0 : l[n + 0]? = some o0) (hs0 : l[n + 2]? = some s0o)
    (ho1 : l[n + 1]? = some o1) (hs1 : l[n + 3]? = some s1o)
    (hns : Region.noSelect l.toArray = true) (hlex : lexOk .any l.toArray (n + 2) n 0 (none_ (n + 4)) = true)
    (r : Region.ready .any l.toArray (firstN n 0 (none_ (n + 4))) = [n + 0, n + 1])
    (r0 : Region.ready .any l.toArray ((firstN n 0 (none_ (n + 4))).setIfInBounds (n + 0) true) = [n + 1])
    (r1 : Region.ready .any l.toArray ((firstN n 0 (none_ (n + 4))).setIfInBounds (n + 1) true) = [n + 0])
    (hful : full (n + 2) (((firstN n 0 (none_ (n + 4))).setIfInBounds (n + 0) true).setIfInBounds (n + 1) true) = true)
    (s0 : Region.ready .any l.toArray (((firstN n 0 (none_ (n + 4))).setIfInBounds (n + 0) true).setIfInBounds (n + 1) true) = [n + 2])
    (s1 : Region.ready .any l.toArray ((((firstN n 0 (none_ (n + 4))).setIfInBounds (n + 0) true).setIfInBounds (n + 1) true).setIfInBounds (n + 2) true) = [n + 3])
    (s2 : Region.ready .any l.toArray (((((firstN n 0 (none_ (n + 4))).setIfInBounds (n + 0) true).setIfInBounds (n + 1) true).setIfInBounds (n + 2) true).setIfInBounds (n + 3) true) = [])
    (t : TypeId) (zs : List Value) (hz : ∀ w, (zeroValue t).run P w = .ok (.agg zs.toArray) w) (hinf : (P.info? t).map (·.size) = some zs.length)
    (d0 : Nat) (ga0 : o0.guard = none) (da0 : o0.dst = some d0) (al0 : o0.op = .alloc t) (y0 : Operand) (gs0 : s0o.guard = none) (ds0 : s0o.dst = none) (st0 : s0o.op = .store t (.tmp d0) y0)
    (d1 : Nat) (ga1 : o1.guard = none) (da1 : o1.dst = some d1) (al1 : o1.op = .alloc t) (y1 : Operand) (gs1 : s1o.guard = none) (ds1 : s1o.dst = none) (st1 : s1o.op = .store t (.tmp d1) y1)
    (hne : d0 ≠ d1)
    (hyd : y0 ≠ .tmp d0 ∧ y0 ≠ .tmp d1 ∧ y1 ≠ .tmp d0 ∧ y1 ≠ .tmp d1)
    (h : wpLex P l.toArray (fun W => Below w.heap.size w W) (fun a' => ∃ c0 c1 : List Value, a'.eval y0 = .agg (List.toArray c0) ∧ zs.length = c0.length ∧ c0.toArray.all (·.oneCell') = true ∧ d0 < a'.tmps.size ∧ a'.eval y1 = .agg (List.toArray c1) ∧ zs.length = c1.length ∧ c1.toArray.all (·.oneCell') = true ∧ d1 < a'.tmps.size ∧ ∀ g0 g1 W, w.heap.size ≤ g0 → w.heap.size ≤ g1 → g0 ≠ g1 → Below w.heap.size w W → Blk W g0 c0 t → Blk W g1 c1 t → Q .normal ((a'.put (some d0) (.pointer (some ⟨g0, 0, none⟩))).put (some d1) (.pointer (some ⟨g1, 0, none⟩))) W) (l.take n) a) : (Code.region id l.toArray true).wp P Q a w := by
  have hi0 : l.toArray[n + 0]? = some o0 := by simpa using ho0
  have hj0 : l.toArray[n + 2]? = some s0o := by simpa using hs0
  have hi1 : l.toArray[n + 1]? = some o1 := by simpa using ho1
  have hj1 : l.toArray[n + 3]? = some s1o := by simpa using hs1
  have n01 := hne
  obtain ⟨e00, e01, e10, e11⟩ := hyd
  refine wp_region_any hm ?_; refine wpAny_of_R (S := fun W => Below w.heap.size w W) (T := n + 2) _ _ _ (fun W => Below w.heap.size w W) (stable_below w) (fun _ h => h) ?_ _ (below_drawn w)
  have hlt : (l.take n).length = n := by simp; omega
  have := wpAnyR_lex (P := P) (Q := Q) (T := n + 2) (md := .any) (S := fun W => Below w.heap.size w W) (ops := l.toArray) hns (by simp; omega) (fun W => Below w.heap.size w W) 4 (l.take n) 0 (none_ (n + 4)) a (by
      intro j hj; rw [hlt] at hj; simp [List.getElem?_take, hj]) (by rw [hlt]; exact hlex) (closed_none _) (by simp [none_, hl]) ?_
  · rw [hlt, Nat.add_comm 4 n] at this
    simpa [none_, hl] using this
  · refine wpLex_mono ?_ _ a h
    rintro a' ⟨c0, c1, v0, q0, u0, z0, v1, q1, u1, z1, hk⟩
    rw [hlt]
    have tail : ∀ g0 g1 (W : World), w.heap.size ≤ g0 → w.heap.size ≤ g1 → g0 ≠ g1 → Below w.heap.size w W → Blk W g0 zs t → Blk W g1 zs t → wpAny P .any l.toArray Q 2 (((firstN n 0 (none_ (n + 4))).setIfInBounds (n + 0) true).setIfInBounds (n + 1) true) ((a'.put (some d0) (.pointer (some ⟨g0, 0, none⟩))).put (some d1) (.pointer (some ⟨g1, 0, none⟩))) W := by
      intro g0 g1 W lo0 lo1 x01 hW b0 b1
      have ep0 : (((a'.put (some d0) (.pointer (some ⟨g0, 0, none⟩))).put (some d1) (.pointer (some ⟨g1, 0, none⟩)))).eval (.tmp d0) = .pointer (some ⟨g0, 0, none⟩) := by simp [Act.eval, Act.put, z0, n01, Ne.symm n01, Array.getElem?_setIfInBounds]
      have ey0 : (((a'.put (some d0) (.pointer (some ⟨g0, 0, none⟩))).put (some d1) (.pointer (some ⟨g1, 0, none⟩)))).eval y0 = .agg (List.toArray c0) := by
        rw [Act.eval_put (fun d hd hyd => e01 (by rw [hyd]; cases hd; rfl)), Act.eval_put (fun d hd hyd => e00 (by rw [hyd]; cases hd; rfl))]; exact v0
      have ep1 : (((a'.put (some d0) (.pointer (some ⟨g0, 0, none⟩))).put (some d1) (.pointer (some ⟨g1, 0, none⟩)))).eval (.tmp d1) = .pointer (some ⟨g1, 0, none⟩) := by simp [Act.eval, Act.put, z1, n01, Ne.symm n01, Array.getElem?_setIfInBounds]
      have ey1 : (((a'.put (some d0) (.pointer (some ⟨g0, 0, none⟩))).put (some d1) (.pointer (some ⟨g1, 0, none⟩)))).eval y1 = .agg (List.toArray c1) := by
        rw [Act.eval_put (fun d hd hyd => e11 (by rw [hyd]; cases hd; rfl)), Act.eval_put (fun d hd hyd => e10 (by rw [hyd]; cases hd; rfl))]; exact v1
      refine only_one s0 ?_; refine op_row hj0 (by simp [Region.wanted, gs0]) ds0 t (.tmp d0) y0 st0 g0 c0 zs t ep0 ey0 b0 (by rw [← q0]; exact hinf) q0 u0 ?_; refine only_one s1 ?_; refine op_row hj1 (by simp [Region.wanted, gs1]) ds1 t (.tmp d1) y1 st1 g1 c1 zs t ep1 ey1 ((b1).setRowOther g0 c0.toArray (Ne.symm x01)) (by rw [← q1]; exact hinf) q1 u1 ?_
      exact wpAny_done s2 (hk g0 g1 _ lo0 lo1 x01 (below_setRow (below_setRow hW g0 c0.toArray lo0) g1 c1.toArray lo1) ((((b0).setRow c0)).setRowOther g1 c1.toArray x01) ((((b1).setRowOther g0 c0.toArray (Ne.symm x01))).setRow c1)) 0
    unfold wpAnyR
    have hnf := not_full (md := .any) (ops := l.toArray) (T := n + 2) (l := (firstN n 0 (none_ (n + 4)))) (i := n + 0) (by omega) (by rw [r]; simp)
    rw [if_neg (by rw [hnf]; simp), r]
    refine ⟨by simp, fun i hi => ?_⟩
    have hc : i = n + 0 ∨ i = n + 1 := by simpa using hi
    rcases hc with hc | hc
    · rw [hc]
      clear hc
      refine ⟨o0, hi0, .inr ⟨ga0, t, zs, al0, hz, fun g0 ⟨W0, hc0, hg0⟩ => ?_⟩⟩
      clear hi hnf
      show wpAnyR P .any l.toArray Q (fun W => Below w.heap.size w W) (n + 2) 3 ((firstN n 0 (none_ (n + 4))).setIfInBounds (n + 0) true) _ _
      unfold wpAnyR
      have hnf := not_full (md := .any) (ops := l.toArray) (T := n + 2) (l := ((firstN n 0 (none_ (n + 4))).setIfInBounds (n + 0) true)) (i := n + 1) (by omega) (by rw [r0]; simp)
      rw [if_neg (by rw [hnf]; simp), r0]
      refine ⟨by simp, fun i hi => ?_⟩
      have hc : i = n + 1 := by simpa using hi
      skip
      · rw [hc]
        clear hc
        refine ⟨o1, hi1, .inr ⟨ga1, t, zs, al1, hz, fun g1 ⟨W1, hc1, hg1⟩ => ?_⟩⟩
        clear hi hnf
        show wpAnyR P .any l.toArray Q (fun W => Below w.heap.size w W) (n + 2) 2 (((firstN n 0 (none_ (n + 4))).setIfInBounds (n + 0) true).setIfInBounds (n + 1) true) _ _
        unfold wpAnyR
        rw [if_pos hful]
        rintro W ⟨⟨hC, bb0⟩, bb1⟩
        have l01 : g0 < g1 := by rw [← hg1]; exact (hc1.2).lt
        have hfr : ((a'.put (some d0) (.pointer (some ⟨g0, 0, none⟩))).put (some d1) (.pointer (some ⟨g1, 0, none⟩))) = ((a'.put (some d0) (.pointer (some ⟨g0, 0, none⟩))).put (some d1) (.pointer (some ⟨g1, 0, none⟩))) := by
          rfl
        simp only [da0, da1]
        rw [hfr]
        exact tail g0 g1 W (by rw [← hg0]; exact (hc0).size) (by rw [← hg1]; exact (hc1.1).size) (Nat.ne_of_lt l01) hC bb0 bb1
    · rw [hc]
      clear hc
      refine ⟨o1, hi1, .inr ⟨ga1, t, zs, al1, hz, fun g1 ⟨W1, hc1, hg1⟩ => ?_⟩⟩
      clear hi hnf
      show wpAnyR P .any l.toArray Q (fun W => Below w.heap.size w W) (n + 2) 3 ((firstN n 0 (none_ (n + 4))).setIfInBounds (n + 1) true) _ _
      unfold wpAnyR
      have hnf := not_full (md := .any) (ops := l.toArray) (T := n + 2) (l := ((firstN n 0 (none_ (n + 4))).setIfInBounds (n + 1) true)) (i := n + 0) (by omega) (by rw [r1]; simp)
      rw [if_neg (by rw [hnf]; simp), r1]
      refine ⟨by simp, fun i hi => ?_⟩
      have hc : i = n + 0 := by simpa using hi
      skip
      · rw [hc]
        clear hc
        refine ⟨o0, hi0, .inr ⟨ga0, t, zs, al0, hz, fun g0 ⟨W0, hc0, hg0⟩ => ?_⟩⟩
        clear hi hnf
        show wpAnyR P .any l.toArray Q (fun W => Below w.heap.size w W) (n + 2) 2 (((firstN n 0 (none_ (n + 4))).setIfInBounds (n + 1) true).setIfInBounds (n + 0) true) _ _
        have hperm : (((firstN n 0 (none_ (n + 4))).setIfInBounds (n + 1) true).setIfInBounds (n + 0) true) = (((firstN n 0 (none_ (n + 4))).setIfInBounds (n + 0) true).setIfInBounds (n + 1) true) := perm_10 _ n
        rw [hperm]
        unfold wpAnyR
        rw [if_pos hful]
        rintro W ⟨⟨hC, bb1⟩, bb0⟩
        have l10 : g1 < g0 := by rw [← hg0]; exact (hc0.2).lt
        have hfr : ((a'.put (some d1) (.pointer (some ⟨g1, 0, none⟩))).put (some d0) (.pointer (some ⟨g0, 0, none⟩))) = ((a'.put (some d0) (.pointer (some ⟨g0, 0, none⟩))).put (some d1) (.pointer (some ⟨g1, 0, none⟩))) := by
          exact fperm_10 a' _ _ n01
        simp only [da0, da1]
        rw [hfr]
        exact tail g0 g1 W (by rw [← hg0]; exact (hc0.1).size) (by rw [← hg1]; exact (hc1).size) (Nat.ne_of_gt l10) hC bb0 bb1
end
end Go.Proofs.YtoceepmehmacbaaDoor.Cv
