import Derived.Test.YtacancfmgnmpiaaPw2
import Derived.Test.YtacancfmgnmpiaaNum2G
import Derived.Test.YtacancfmgnmpiaaNum4
set_option linter.unusedVariables false
set_option linter.unusedSimpArgs false
namespace Go.Proofs.Ytacancfmgnmpiaa
open Go.RowKit

/-- The power 2^255 - 21. -/
def invE (x : L5) : L5 := mulE (mulE (mulE (sqN (onesE x) 5) (sqN (mulE x x) 2)) (mulE x x)) x

set_option maxRecDepth 100000 in
set_option maxHeartbeats 20000000 in
theorem inv_any (x : L5) (w : World) :
    Calls Try.prog 33 #[x.v] w fun e w' => e = .returned (invE x).v ∧ Below w.heap.size w w' := by
  have HR : Hid (invE x = mulE (mulE (mulE (sqN (onesE x) 5) (sqN (mulE x x) 2)) (mulE x x)) x) := by rw [invE]; trivial
  generalize invE x = R at HR ⊢
  go_enter Try.func33, Try.ntmps33
  go_upto_region 1 with (first | (refine wpList_boxAt rfl 53 (.tmp 0) rfl (x.cs) rfl (w.heap.size) rfl ?_) | (refine wpList_newAt rfl 53 rfl z5 zero27 (w.heap.size + 1) (by simp) ?_))
  have b0 : Blk ((w.alloc (.cells (x.cs).toArray 53)).alloc (.cells (z5).toArray 53)) (w.heap.size) (x.cs) 53 := by
    have := (Blk.new w (x.cs) 53).alloc (.cells (z5).toArray 53)
    simpa using this
  have b1 : Blk ((w.alloc (.cells (x.cs).toArray 53)).alloc (.cells (z5).toArray 53)) (w.heap.size + 1) (z5) 53 := by
    have := Blk.new (w.alloc (.cells (x.cs).toArray 53)) (z5) 53
    simpa using this
  have be : Below w.heap.size w ((w.alloc (.cells (x.cs).toArray 53)).alloc (.cells (z5).toArray 53)) := by go_grown
  generalize ((w.alloc (.cells (x.cs).toArray 53)).alloc (.cells (z5).toArray 53)) = w1 at b0 b1 be ⊢
  obtain ⟨n, hn⟩ : ∃ n, w.heap.size = n := ⟨_, rfl⟩
  rw [hn] at b0 b1 be ⊢
  try simp only [Act.put, List.setIfInBounds_toArray, List.set_cons_zero, List.set_cons_succ]
  refine lst_newT 2 rfl rfl rfl rfl 3 rfl 53 rfl z5 zero27 rfl rfl (.tmp 6) rfl ?_
  simp only [List.take_succ_cons, List.take_zero]
  refine wpLex_cons2 _ (uni_row rfl 53 (.tmp 1) rfl n x.cs 53 rfl (fun W hW => b0.on hW) Try.underlying53 rfl (cs_info _)) (by simp only [Act.put, List.setIfInBounds_toArray, List.set_cons_zero, List.set_cons_succ]; rfl) ?_
  refine wpLex_cons2 _ (uni_callF (by rfl) 48 [Operand.tmp 5] #[53] rfl [x.v] ((mulE x x).v) rfl enter48 (fun W hW => square_any x W)) (by simp only [Act.put, List.setIfInBounds_toArray, List.set_cons_zero, List.set_cons_succ]; rfl) ?_
  refine ⟨(mulE x x).cs, rfl, by simp, by simp, cs_info _, cs_len _, cs_one _, fun gcs w2 hg hW cs => ?_⟩
  simp only [Act.put, List.setIfInBounds_toArray, List.set_cons_zero, List.set_cons_succ]
  replace b0 := b0.on hW
  replace b1 := b1.on hW
  replace be := be.trans (hW.mono (by have := be.size; omega))
  clear hW hg w1
  go_upto_region 2 with fail
  refine lst_newT 2 rfl rfl rfl rfl 4 rfl 53 rfl z5 zero27 rfl rfl (.tmp 8) rfl ?_
  simp only [List.take_succ_cons, List.take_zero]
  refine wpLex_cons2 _ (uni_row rfl 53 (.tmp 3) rfl gcs (mulE x x).cs 53 rfl (fun W hW => cs.on hW) Try.underlying53 rfl (cs_info _)) (by simp only [Act.put, List.setIfInBounds_toArray, List.set_cons_zero, List.set_cons_succ]; rfl) ?_
  refine wpLex_cons2 _ (uni_callF (by rfl) 52 [Operand.tmp 7, Operand.const (Value.int IntKind.i64 2)] #[53, 3] rfl [(mulE x x).v, Value.int IntKind.i64 2] ((sqN (mulE x x) 2).v) rfl enter52 (fun W hW => squared_at (mulE x x) 2 W)) (by simp only [Act.put, List.setIfInBounds_toArray, List.set_cons_zero, List.set_cons_succ]; rfl) ?_
  refine ⟨(sqN (mulE x x) 2).cs, rfl, by simp, by simp, cs_info _, cs_len _, cs_one _, fun gce w3 hg hW ce => ?_⟩
  simp only [Act.put, List.setIfInBounds_toArray, List.set_cons_zero, List.set_cons_succ]
  replace b0 := b0.on hW
  replace b1 := b1.on hW
  replace cs := cs.on hW
  replace be := be.trans (hW.mono (by have := be.size; omega))
  clear hW hg w2
  go_upto_region 3 with fail
  refine reg_putT (by kernel_rfl) 9 rfl rfl (by kernel_rfl) rfl rfl 53 (.tmp 2) (.tmp 17) rfl ?_
  simp only [List.take_succ_cons, List.take_zero]
  refine wpLex_cons2 _ (uni_row rfl 53 (.tmp 1) rfl n x.cs 53 rfl (fun W hW => b0.on hW) Try.underlying53 rfl (cs_info _)) (by simp only [Act.put, List.setIfInBounds_toArray, List.set_cons_zero, List.set_cons_succ]; rfl) ?_
  refine wpLex_cons2 _ (uni_callF (by rfl) 53 [Operand.tmp 9] #[53] rfl [x.v] ((onesE x).v) rfl enter53 (fun W hW => manyOnes_any x W)) (by simp only [Act.put, List.setIfInBounds_toArray, List.set_cons_zero, List.set_cons_succ]; rfl) ?_
  refine wpLex_cons2 _ (uni_callF (by rfl) 52 [Operand.tmp 10, Operand.const (Value.int IntKind.i64 5)] #[53, 3] rfl [((onesE x).v), Value.int IntKind.i64 5] ((sqN (onesE x) 5).v) rfl enter52 (fun W hW => squared_at (onesE x) 5 W)) (by simp only [Act.put, List.setIfInBounds_toArray, List.set_cons_zero, List.set_cons_succ]; rfl) ?_
  refine wpLex_cons2 _ (uni_row rfl 53 (.tmp 4) rfl gce (sqN (mulE x x) 2).cs 53 rfl (fun W hW => ce.on hW) Try.underlying53 rfl (cs_info _)) (by simp only [Act.put, List.setIfInBounds_toArray, List.set_cons_zero, List.set_cons_succ]; rfl) ?_
  refine wpLex_cons2 _ (uni_callF (by rfl) 32 [Operand.tmp 11, Operand.tmp 12] #[53, 53] rfl [((sqN (onesE x) 5).v), (sqN (mulE x x) 2).v] ((mulE (sqN (onesE x) 5) (sqN (mulE x x) 2)).v) rfl enter32 (fun W hW => mul_any (sqN (onesE x) 5) (sqN (mulE x x) 2) W)) (by simp only [Act.put, List.setIfInBounds_toArray, List.set_cons_zero, List.set_cons_succ]; rfl) ?_
  refine wpLex_cons2 _ (uni_row rfl 53 (.tmp 3) rfl gcs (mulE x x).cs 53 rfl (fun W hW => cs.on hW) Try.underlying53 rfl (cs_info _)) (by simp only [Act.put, List.setIfInBounds_toArray, List.set_cons_zero, List.set_cons_succ]; rfl) ?_
  refine wpLex_cons2 _ (uni_callF (by rfl) 32 [Operand.tmp 13, Operand.tmp 14] #[53, 53] rfl [((mulE (sqN (onesE x) 5) (sqN (mulE x x) 2)).v), (mulE x x).v] ((mulE (mulE (sqN (onesE x) 5) (sqN (mulE x x) 2)) (mulE x x)).v) rfl enter32 (fun W hW => mul_any (mulE (sqN (onesE x) 5) (sqN (mulE x x) 2)) (mulE x x) W)) (by simp only [Act.put, List.setIfInBounds_toArray, List.set_cons_zero, List.set_cons_succ]; rfl) ?_
  refine wpLex_cons2 _ (uni_row rfl 53 (.tmp 1) rfl n x.cs 53 rfl (fun W hW => b0.on hW) Try.underlying53 rfl (cs_info _)) (by simp only [Act.put, List.setIfInBounds_toArray, List.set_cons_zero, List.set_cons_succ]; rfl) ?_
  refine wpLex_cons2 _ (uni_callF (by rfl) 32 [Operand.tmp 15, Operand.tmp 16] #[53, 53] rfl [((mulE (mulE (sqN (onesE x) 5) (sqN (mulE x x) 2)) (mulE x x)).v), x.v] ((mulE (mulE (mulE (sqN (onesE x) 5) (sqN (mulE x x) 2)) (mulE x x)) x).v) rfl enter32 (fun W hW => mul_any (mulE (mulE (sqN (onesE x) 5) (sqN (mulE x x) 2)) (mulE x x)) x W)) (by simp only [Act.put, List.setIfInBounds_toArray, List.set_cons_zero, List.set_cons_succ]; rfl) ?_
  refine ⟨n + 1, (mulE (mulE (mulE (sqN (onesE x) 5) (sqN (mulE x x) 2)) (mulE x x)) x).cs, z5, 53, rfl, rfl, b1, cs_info _, cs_len _, cs_one _, fun wz hW => ?_⟩
  go_wp2
  refine bodyPost_ret (results_cell_row Try.results33 _ _ (n + 1) 53 ((mulE (mulE (mulE (sqN (onesE x) 5) (sqN (mulE x x) 2)) (mulE x x)) x).cs).toArray (0, 0) _ rfl ((b1.on hW).setRow _) Try.underlying53 rfl (cs_infoA _)) rfl ?_
  exact ⟨by rw [HR.out]; rfl, by rw [hn]; exact below_setRow (be.trans (hW.mono (by have := be.size; omega))) _ _ (by omega)⟩

end Go.Proofs.Ytacancfmgnmpiaa

set_option linter.unusedVariables false
set_option linter.unusedSimpArgs false
namespace Go.Proofs.Ytacancfmgnmpiaa
open Go.RowKit Prm

theorem P_lt (a : Nat) : a % P < 115792089237316195423570985008687907853269984665640564039457584007913129639936 := Nat.lt_of_lt_of_le (Nat.mod_lt _ (by decide)) (by decide)
theorem mul_mod_r {m k : Nat} (a : Nat) (h : m % P = k % P) : a * m % P = a * k % P := by rw [Nat.mul_mod, h, ← Nat.mul_mod]
theorem mul_mod_l {m k : Nat} (a : Nat) (h : m % P = k % P) : m * a % P = k * a % P := by rw [Nat.mul_mod, h, ← Nat.mul_mod]
theorem mul_mod2 {m k m' k' : Nat} (h : m % P = k % P) (h' : m' % P = k' % P) : m * m' % P = k * k' % P := by rw [Nat.mul_mod, h, h', ← Nat.mul_mod]
theorem add_mod2 {m k m' k' : Nat} (h : m % P = k % P) (h' : m' % P = k' % P) : (m + m') % P = (k + k') % P := by rw [Nat.add_mod, h, h', ← Nat.add_mod]
theorem mod_cancel {u v z : Nat} (h : (u + z) % P = (v + z) % P) : u % P = v % P := by unfold P at *; omega

theorem small_val (n : BitVec 32) : (small n).val = n.toNat := by
  have := n.isLt
  unfold small L5.val
  have z : (0 : BitVec 64).toNat = 0 := rfl
  simp only [BitVec.toNat_setWidth, z]
  omega
theorem small_ok (n : BitVec 32) : (small n).Ok := by
  have := n.isLt
  have z : (0 : BitVec 64).toNat = 0 := rfl
  refine ⟨?_, ?_, ?_, ?_, ?_⟩ <;> simp only [small, BitVec.toNat_setWidth, z] <;> omega
/-- 0. -/
def zeroE : L5 := ⟨0, 0, 0, 0, 0⟩
theorem zero_val : zeroE.val = 0 := rfl
theorem zero_ok : zeroE.Ok := by
  have z : (0 : BitVec 64).toNat = 0 := rfl
  refine ⟨?_, ?_, ?_, ?_, ?_⟩ <;> simp only [zeroE, z] <;> omega

end Go.Proofs.Ytacancfmgnmpiaa

set_option linter.unusedVariables false
set_option linter.unusedSimpArgs false
namespace Go.Proofs.Ytacancfmgnmpiaa
open Go.RowKit Prm

/-- u is x to the e-th. -/
def IsPow (x u : L5) (e : Nat) : Prop := u.Ok ∧ u.val % P = x.val ^ e % P
theorem IsPow.self {x : L5} (h : x.Ok) : IsPow x x 1 := ⟨h, by rw [Nat.pow_one]⟩
theorem IsPow.mul {x u v : L5} {a b : Nat} (h : IsPow x u a) (k : IsPow x v b) : IsPow x (mulE u v) (a + b) :=
  ⟨mul_ok _ _, by rw [mul_val u v h.1 k.1, mul_mod2 h.2 k.2, Nat.pow_add]⟩
theorem IsPow.sq {x u : L5} {a : Nat} (h : IsPow x u a) : ∀ t, IsPow x (sqN u t) (a * 2 ^ t)
  | 0 => by rw [sqN, Nat.pow_zero, Nat.mul_one]; exact h
  | t + 1 => by
    have ih := h.sq t
    have := ih.mul ih
    rw [sqN, Nat.pow_succ, ← Nat.mul_assoc, Nat.mul_two]
    exact this
theorem IsPow.cast {x u : L5} {a b : Nat} (h : IsPow x u a) (e : a = b) : IsPow x u b := e ▸ h

theorem o5_is {x : L5} (h : x.Ok) : IsPow x (o5 x) 31 := by
  have s := IsPow.self h
  exact ((((s.sq 4).mul (s.sq 3)).mul (s.sq 2)).mul (s.sq 1)).mul s
theorem o10_is {x : L5} (h : x.Ok) : IsPow x (o10 x) 1023 := (((o5_is h).sq 5).mul (o5_is h)).cast (by decide +kernel)
theorem o20_is {x : L5} (h : x.Ok) : IsPow x (o20 x) 1048575 := (((o10_is h).sq 10).mul (o10_is h)).cast (by decide +kernel)
theorem o40_is {x : L5} (h : x.Ok) : IsPow x (o40 x) 1099511627775 := (((o20_is h).sq 20).mul (o20_is h)).cast (by decide +kernel)
theorem o50_is {x : L5} (h : x.Ok) : IsPow x (o50 x) 1125899906842623 := (((o40_is h).sq 10).mul (o10_is h)).cast (by decide +kernel)
theorem o100_is {x : L5} (h : x.Ok) : IsPow x (o100 x) 1267650600228229401496703205375 := (((o50_is h).sq 50).mul (o50_is h)).cast (by decide +kernel)
theorem o200_is {x : L5} (h : x.Ok) : IsPow x (o200 x) 1606938044258990275541962092341162602522202993782792835301375 := (((o100_is h).sq 100).mul (o100_is h)).cast (by decide +kernel)
def E250 : Nat := 1809251394333065553493296640760748560207343510400633813116524750123642650623
theorem ones_is {x : L5} (h : x.Ok) : IsPow x (onesE x) E250 := (((o200_is h).sq 50).mul (o50_is h)).cast (by decide +kernel)
theorem inv_is {x : L5} (h : x.Ok) : IsPow x (invE x) (P - 2) := by
  have s := IsPow.self h
  exact (((((ones_is h).sq 5).mul ((s.mul s).sq 2)).mul (s.mul s)).mul s).cast (by decide +kernel)
def kbit (k : List UInt8) (i : Nat) : Bool := decide ((k.getD (i / 8) 0).toNat / 2 ^ (i % 8) % 2 = 1)
theorem bit_of (M r : Nat) (hr : r < 8) : M % 256 / 2 ^ r % 2 = M / 2 ^ r % 2 := by
  have : r = 0 ∨ r = 1 ∨ r = 2 ∨ r = 3 ∨ r = 4 ∨ r = 5 ∨ r = 6 ∨ r = 7 := by omega
  rcases this with rfl | rfl | rfl | rfl | rfl | rfl | rfl | rfl <;> simp only [Nat.reducePow, Nat.pow_zero, Nat.pow_one] <;> omega
theorem kbit_is (k : List UInt8) (i : Nat) (hi : i < 256) : kbit k i = decide (kn k / 2 ^ i % 2 = 1) := by
  unfold kbit
  have h := psum_div k 32 (i / 8) (by omega)
  have e : kn k / 2 ^ i = kn k / 256 ^ (i / 8) / 2 ^ (i % 8) := by
    rw [Nat.div_div_eq_div_mul, show (256 : Nat) = 2 ^ 8 from rfl, ← Nat.pow_mul, ← Nat.pow_add]
    congr 2
    omega
  rw [e, ← h, bit_of _ _ (by omega)]
  rfl
theorem pow_mod_l (a e : Nat) : (a % P) ^ e % P = a ^ e % P := (Nat.pow_mod a e P).symm
theorem pow_congr {a b : Nat} (e : Nat) (h : a % P = b % P) : a ^ e % P = b ^ e % P := by rw [Nat.pow_mod, h, ← Nat.pow_mod]
theorem zero_pow_mod {a e : Nat} (h : a % P = 0) (he : 0 < e) : a ^ e % P = 0 := by
  rw [Nat.pow_mod, h, Nat.zero_pow he, Nat.zero_mod]
theorem pow_P (a : Nat) : a ^ P % P = a % P := by
  by_cases h : a % P = 0
  · rw [zero_pow_mod h (by decide), h]
  · have e : P = (P - 1) + 1 := by decide +kernel
    have f := fermat a h
    conv => lhs; lhs; rw [e]
    rw [Nat.pow_succ, Nat.mul_mod, f, Nat.one_mul, Nat.mod_mod]
theorem pow_top (a : Nat) : a ^ (P + 19) % P = a ^ 20 % P := by
  rw [Nat.pow_add, Nat.mul_mod, pow_P, ← Nat.mul_mod, ← Nat.pow_succ']
theorem pow_mul_one {a : Nat} (h : a % P ≠ 0) (m : Nat) : a ^ ((P - 1) * m) % P = 1 := by
  rw [Nat.pow_mul, Nat.pow_mod, fermat a h, Nat.one_pow]
  rfl

end Go.Proofs.Ytacancfmgnmpiaa
