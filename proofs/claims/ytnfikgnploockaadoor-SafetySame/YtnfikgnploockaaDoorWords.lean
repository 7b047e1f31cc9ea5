import Derived.Test.YtnfikgnploockaaDoorBase
import Derived.Laws.BitsAllLaws
namespace Go.Proofs.YtnfikgnploockaaDoor
open Go.RowKit

/-- A word of 32 bits as a number. -/
def wn (x : BitVec 32) : Int := (x.toNat : Int)
def wv (x : BitVec 32) : Value := .int .u32 (wn x)
def wvs (l : List (BitVec 32)) : List Value := l.map wv

theorem wlt (x : BitVec 32) : x.toNat < 4294967296 := x.isLt
theorem wn_nonneg (x : BitVec 32) : 0 ≤ wn x := Int.natCast_nonneg _
theorem wn_lt (x : BitVec 32) : wn x < 4294967296 := by have := wlt x; unfold wn; omega

theorem wadd (x y : BitVec 32) : IntKind.u32.wrap (wn x + wn y) = wn (x + y) := by
  unfold wn
  rw [IntKind.wrap_u32', BitVec.toNat_add]; omega
theorem wxor (x y : BitVec 32) : bits .xor .u32 (wn x) (wn y) = wn (x ^^^ y) := by
  unfold wn
  rw [u32_xor_nat _ _ (wlt x) (wlt y), BitVec.toNat_xor]
theorem wand (x y : BitVec 32) : bits .and .u32 (wn x) (wn y) = wn (x &&& y) := by
  unfold wn
  rw [u32_and_nat _ _ (wlt x) (wlt y), BitVec.toNat_and]
theorem wor (x y : BitVec 32) : bits .or .u32 (wn x) (wn y) = wn (x ||| y) := by
  unfold wn
  rw [u32_or_nat _ _ (wlt x) (wlt y), BitVec.toNat_or]
theorem wandn (x y : BitVec 32) : bits .andNot .u32 (wn x) (wn y) = wn (x &&& ~~~y) := by
  unfold wn
  rw [u32_andNot_nat _ _ (wlt x) (wlt y), BitVec.toNat_and, BitVec.toNat_not]
theorem wshl (x : BitVec 32) (k : Nat) : IntKind.u32.wrap (wn x * 2 ^ k) = wn (x <<< k) := by
  unfold wn
  rw [IntKind.wrap_u32', BitVec.toNat_shiftLeft, Nat.shiftLeft_eq, Int.natCast_emod, Int.natCast_mul, Int.natCast_pow]
  rfl
theorem wshr (x : BitVec 32) (k : Nat) : wn x / 2 ^ k = wn (x >>> k) := by
  unfold wn
  rw [BitVec.toNat_ushiftRight, Nat.shiftRight_eq_div_pow, Int.natCast_ediv, Int.natCast_pow]
  rfl

/-- x turned right by n bits. -/
def rot (n : Nat) (x : BitVec 32) : BitVec 32 := (x <<< (32 - n)) ||| (x >>> n)

theorem neg_and (n : Nat) (hn : 0 < n) (hn' : n < 32) : bits .and .u64 (IntKind.u64.wrap (-(n : Int))) 31 = ((32 - n : Nat) : Int) := by
  have e : IntKind.u64.wrap (-(n : Int)) = ((18446744073709551616 - n : Nat) : Int) := by
    rw [IntKind.wrap_u64]
    omega
  have := u64_and_nat (18446744073709551616 - n) 31 (by omega) (by omega)
  rw [e]
  rw [show ((31 : Int)) = ((31 : Nat) : Int) from rfl, this, nat_mask5]
  congr 1
  omega

set_option maxRecDepth 100000 in
theorem rotl_any (x : BitVec 32) (n : Nat) (hn : 0 < n) (hn' : n < 32) (w : World) :
    Calls Tryd.prog 51 #[.int .u32 (wn x), .int .i64 (-(n : Int))] w fun e w' => e = .returned (.int .u32 (wn (rot n x))) ∧ w' = w := by
  have hs := neg_and n hn hn'
  have ho := wor (x <<< (32 - n)) (x >>> n)
  have h1 := wshl x (32 - n)
  have h2 := wshr x n
  obtain ⟨m, hm⟩ : ∃ m : Nat, m = 32 - n := ⟨_, rfl⟩
  have hm' : m < 32 := by omega
  rw [← hm] at hs ho h1
  have hr : Hid ((x <<< m ||| x >>> n) = rot n x) := by rw [hm]; rfl
  have hsub : (32 : Int) - (m : Int) = (n : Int) := by omega
  clear hm
  go_enter Tryd.func51, Tryd.ntmps51
  go_wp2
  go_ret
  refine ⟨?_, rfl⟩
  rw [← hr.out]
  rfl

set_option maxRecDepth 100000 in
theorem right_any (x : BitVec 32) (n : Nat) (hn : 0 < n) (hn' : n < 32) (w : World) :
    Calls Tryd.prog 41 #[.int .u32 (wn x), .int .i64 (n : Int)] w fun e w' => e = .returned (.int .u32 (wn (rot n x))) ∧ w' = w := by
  go_enter Tryd.func41, Tryd.ntmps41
  go_wp2_with (go_at_call 51; refine (rotl_any x n hn hn' _).mono ?_; rintro e w' ⟨rfl, rfl⟩)
  go_ret
  exact ⟨rfl, rfl⟩
theorem right_all (x : BitVec 32) (n : Int) (hn : 0 < n) (hn' : n < 32) (w : World) :
    Calls Tryd.prog 41 #[.int .u32 (wn x), .int .i64 n] w fun e w' => e = .returned (.int .u32 (wn (rot n.toNat x))) ∧ w' = w := by
  have := right_any x n.toNat (by omega) (by omega) w
  rwa [Int.toNat_of_nonneg (by omega)] at this
end Go.Proofs.YtnfikgnploockaaDoor
