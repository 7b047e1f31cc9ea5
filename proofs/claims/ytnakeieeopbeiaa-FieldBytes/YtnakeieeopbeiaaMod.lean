import Derived.Test.YtnakeieeopbeiaaNum2
import Derived.Test.YtnakeieeopbeiaaNum4
import Derived.Test.YtnakeieeopbeiaaRt
set_option linter.unusedVariables false
set_option linter.unusedSimpArgs false
namespace Go.Proofs.Ytnakeieeopbeiaa
open Go.RowKit Prm

theorem P_lt (a : Nat) : a % P < 115792089237316195423570985008687907853269984665640564039457584007913129639936 := Nat.lt_of_lt_of_le (Nat.mod_lt _ (by decide)) (by decide)
theorem eq_of {x y : L5} (hx : x.Ok) (hy : y.Ok) (h : x.val % P = y.val % P) : eqE x y = true := by
  unfold eqE
  rw [tell_is x hx, tell_is y hy, h]
  simp
theorem ne_of {x y : L5} (hx : x.Ok) (hy : y.Ok) (h : x.val % P ≠ y.val % P) : eqE x y = false := by
  unfold eqE
  rw [tell_is x hx, tell_is y hy]
  exact decide_eq_false fun hh => h (nb_inj (P_lt _) (P_lt _) hh)
theorem eq_is {x y : L5} (hx : x.Ok) (hy : y.Ok) : eqE x y = decide (x.val % P = y.val % P) := by
  by_cases h : x.val % P = y.val % P
  · rw [eq_of hx hy h, decide_eq_true h]
  · rw [ne_of hx hy h, decide_eq_false h]
theorem equalT {x y : L5} (h : eqE x y = true) (w : World) : Calls Try.prog 12 #[x.v, y.v] w fun e w' => e = .returned (.bool true) ∧ Below w.heap.size w w' := by
  have := equalE x y w
  rwa [h] at this
theorem equalF {x y : L5} (h : eqE x y = false) (w : World) : Calls Try.prog 12 #[x.v, y.v] w fun e w' => e = .returned (.bool false) ∧ Below w.heap.size w w' := by
  have := equalE x y w
  rwa [h] at this

theorem mul_mod_r {m k : Nat} (a : Nat) (h : m % P = k % P) : a * m % P = a * k % P := by rw [Nat.mul_mod, h, ← Nat.mul_mod]
theorem mul_mod_l {m k : Nat} (a : Nat) (h : m % P = k % P) : m * a % P = k * a % P := by rw [Nat.mul_mod, h, ← Nat.mul_mod]
theorem mul_mod2 {m k m' k' : Nat} (h : m % P = k % P) (h' : m' % P = k' % P) : m * m' % P = k * k' % P := by rw [Nat.mul_mod, h, h', ← Nat.mul_mod]
theorem add_mod2 {m k m' k' : Nat} (h : m % P = k % P) (h' : m' % P = k' % P) : (m + m') % P = (k + k') % P := by rw [Nat.add_mod, h, h', ← Nat.add_mod]
theorem mod_cancel {u v z : Nat} (h : (u + z) % P = (v + z) % P) : u % P = v % P := by unfold P at *; omega

theorem small_val (n : BitVec 32) : (small n).val = n.toNat := by
  have := n.isLt
  unfold small L5.val
  have z : (0 : BitVec 64).toNat = 0 := rfl
  simp only [BitVec.toNat_setWidth, z]
  omega
theorem small_ok (n : BitVec 32) : (small n).Ok := by
  have := n.isLt
  have z : (0 : BitVec 64).toNat = 0 := rfl
  refine ⟨?_, ?_, ?_, ?_, ?_⟩ <;> simp only [small, BitVec.toNat_setWidth, z] <;> omega
theorem zero_val : zeroE.val = 0 := rfl
theorem zero_ok : zeroE.Ok := by
  have z : (0 : BitVec 64).toNat = 0 := rfl
  refine ⟨?_, ?_, ?_, ?_, ?_⟩ <;> simp only [zeroE, z] <;> omega

theorem ring1 {a b : L5} (ha : a.Ok) (hb : b.Ok) : eqE (addE a b) (addE b a) = true := eq_of (add_ok _ _) (add_ok _ _) (by rw [add_val a b ha hb, add_val b a hb ha, Nat.add_comm])
theorem ring3 {a b : L5} (ha : a.Ok) (hb : b.Ok) : eqE (mulE a b) (mulE b a) = true := eq_of (mul_ok _ _) (mul_ok _ _) (by rw [mul_val a b ha hb, mul_val b a hb ha, Nat.mul_comm])
theorem ring2 {a b c : L5} (ha : a.Ok) (hb : b.Ok) (hc : c.Ok) : eqE (addE a (addE b c)) (addE (addE a b) c) = true := eq_of (add_ok _ _) (add_ok _ _) (by
  rw [add_val a _ ha (add_ok _ _), add_val _ c (add_ok _ _) hc, add_mod2 rfl (add_val b c hb hc), add_mod2 (add_val a b ha hb) rfl, Nat.add_assoc])
theorem ring4 {a b c : L5} (ha : a.Ok) (hb : b.Ok) (hc : c.Ok) : eqE (mulE a (mulE b c)) (mulE (mulE a b) c) = true := eq_of (mul_ok _ _) (mul_ok _ _) (by
  rw [mul_val a _ ha (mul_ok _ _), mul_val _ c (mul_ok _ _) hc, mul_mod_r a.val (mul_val b c hb hc), mul_mod_l c.val (mul_val a b ha hb), Nat.mul_assoc])
theorem ring5 {a b c : L5} (ha : a.Ok) (hb : b.Ok) (hc : c.Ok) : eqE (mulE a (addE b c)) (addE (mulE a b) (mulE a c)) = true := eq_of (mul_ok _ _) (add_ok _ _) (by
  rw [mul_val a _ ha (add_ok _ _), add_val _ _ (mul_ok _ _) (mul_ok _ _), mul_mod_r a.val (add_val b c hb hc), add_mod2 (mul_val a b ha hb) (mul_val a c ha hc), Nat.mul_add])
theorem ring6 {a b c : L5} (ha : a.Ok) (hb : b.Ok) (hc : c.Ok) : eqE (mulE a (subE b c)) (subE (mulE a b) (mulE a c)) = true := eq_of (mul_ok _ _) (sub_ok _ _) (by
  refine mod_cancel (z := (mulE a c).val) ?_
  rw [sub_val (mulE a b) (mulE a c) (mul_ok _ _) (mul_ok _ _), add_mod2 (mul_val a _ ha (sub_ok b c)) (mul_val a c ha hc), ← Nat.mul_add, mul_mod_r a.val (sub_val b c hb hc), mul_val a b ha hb])
theorem ring7 {a : L5} (ha : a.Ok) : eqE (addE a zeroE) a = true := eq_of (add_ok _ _) ha (by rw [add_val a _ ha zero_ok, zero_val, Nat.add_zero])
theorem ring8 {a : L5} (ha : a.Ok) : eqE (mulE a (small 1#32)) a = true := eq_of (mul_ok _ _) ha (by rw [mul_val a _ ha (small_ok _), small_val]; simp)
theorem ring9 {a : L5} (ha : a.Ok) : eqE (mulE a zeroE) zeroE = true := eq_of (mul_ok _ _) zero_ok (by rw [mul_val a _ ha zero_ok, zero_val, Nat.mul_zero])
theorem ring11 {a : L5} (ha : a.Ok) : eqE (subE a a) zeroE = true := eq_of (sub_ok _ _) zero_ok (by
  refine mod_cancel (z := a.val) ?_
  rw [sub_val a a ha ha, zero_val, Nat.zero_add])
theorem ring10 {a b : L5} (ha : a.Ok) (hb : b.Ok) : eqE (addE (subE a b) b) a = true := eq_of (add_ok _ _) ha (by rw [add_val _ b (sub_ok _ _) hb, sub_val a b ha hb])
theorem ring12 (x : L5) : eqE x x = true := by unfold eqE; simp
theorem ring13 : eqE (small 1#32) zeroE = false := ne_of (small_ok _) zero_ok (by rw [small_val, zero_val]; decide)
theorem ring14 : eqE zeroE (small 0#32) = true := eq_of zero_ok (small_ok _) (by rw [small_val, zero_val]; rfl)
end Go.Proofs.Ytnakeieeopbeiaa
