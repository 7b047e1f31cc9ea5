import Derived.Test.YtacancfmgnmpiaaNum2
import Derived.Test.YtacancfmgnmpiaaNum4
import Derived.Test.YtacancfmgnmpiaaPw3
set_option linter.unusedVariables false
set_option linter.unusedSimpArgs false
namespace Go.Proofs.Ytacancfmgnmpiaa
open Go.RowKit Prm

theorem P_lt (a : Nat) : a % P < 115792089237316195423570985008687907853269984665640564039457584007913129639936 := Nat.lt_of_lt_of_le (Nat.mod_lt _ (by decide)) (by decide)
theorem mul_mod_r {m k : Nat} (a : Nat) (h : m % P = k % P) : a * m % P = a * k % P := by rw [Nat.mul_mod, h, ← Nat.mul_mod]
theorem mul_mod_l {m k : Nat} (a : Nat) (h : m % P = k % P) : m * a % P = k * a % P := by rw [Nat.mul_mod, h, ← Nat.mul_mod]
theorem mul_mod2 {m k m' k' : Nat} (h : m % P = k % P) (h' : m' % P = k' % P) : m * m' % P = k * k' % P := by rw [Nat.mul_mod, h, h', ← Nat.mul_mod]
theorem add_mod2 {m k m' k' : Nat} (h : m % P = k % P) (h' : m' % P = k' % P) : (m + m') % P = (k + k') % P := by rw [Nat.add_mod, h, h', ← Nat.add_mod]
theorem mod_cancel {u v z : Nat} (h : (u + z) % P = (v + z) % P) : u % P = v % P := by unfold P at *; omega

theorem small_val (n : BitVec 32) : (small n).val = n.toNat := by
  have := n.isLt
  unfold small L5.val
  have z : (0 : BitVec 64).toNat = 0 := rfl
  simp only [BitVec.toNat_setWidth, z]
  omega
theorem small_ok (n : BitVec 32) : (small n).Ok := by
  have := n.isLt
  have z : (0 : BitVec 64).toNat = 0 := rfl
  refine ⟨?_, ?_, ?_, ?_, ?_⟩ <;> simp only [small, BitVec.toNat_setWidth, z] <;> omega
/-- 0. -/
def zeroE : L5 := ⟨0, 0, 0, 0, 0⟩
theorem zero_val : zeroE.val = 0 := rfl
theorem zero_ok : zeroE.Ok := by
  have z : (0 : BitVec 64).toNat = 0 := rfl
  refine ⟨?_, ?_, ?_, ?_, ?_⟩ <;> simp only [zeroE, z] <;> omega

end Go.Proofs.Ytacancfmgnmpiaa
