import Derived.Test.YtacancfmgnmpiaaWords
import Derived.Deep.RegionHeld3
import Derived.Handy
set_option linter.unusedVariables false
set_option linter.unusedSimpArgs false
namespace Go.Proofs.Ytacancfmgnmpiaa
open Go.RowKit

/-- The upper word of a product, as math/bits reckons it. -/
def mhi (x y : BitVec 64) : BitVec 64 :=
  let t := (x >>> 32) * (y &&& 4294967295#64) + ((x &&& 4294967295#64) * (y &&& 4294967295#64)) >>> 32
  (x >>> 32) * (y >>> 32) + t >>> 32 + ((t &&& 4294967295#64) + (x &&& 4294967295#64) * (y >>> 32)) >>> 32

theorem lo32 (x : BitVec 64) : (x &&& 4294967295#64).toNat = x.toNat % 4294967296 := by
  rw [BitVec.toNat_and]
  exact Nat.and_two_pow_sub_one_eq_mod x.toNat 32
theorem hi32 (x : BitVec 64) : (x >>> 32).toNat = x.toNat / 4294967296 := by
  rw [BitVec.toNat_ushiftRight, Nat.shiftRight_eq_div_pow]

theorem mhi_nat (x y : BitVec 64) : (mhi x y).toNat = x.toNat * y.toNat / 18446744073709551616 := by
  have hx := wlt x
  have hy := wlt y
  unfold mhi
  simp only [BitVec.toNat_add, BitVec.toNat_mul, lo32, hi32]
  obtain ⟨a, ha⟩ : ∃ a, x.toNat / 4294967296 = a := ⟨_, rfl⟩
  obtain ⟨b, hb⟩ : ∃ b, x.toNat % 4294967296 = b := ⟨_, rfl⟩
  obtain ⟨c, hc⟩ : ∃ c, y.toNat / 4294967296 = c := ⟨_, rfl⟩
  obtain ⟨d, hd⟩ : ∃ d, y.toNat % 4294967296 = d := ⟨_, rfl⟩
  rw [ha, hb, hc, hd]
  have hx' : x.toNat = 4294967296 * a + b := by omega
  have hy' : y.toNat = 4294967296 * c + d := by omega
  have la : a < 4294967296 := by omega
  have lb : b < 4294967296 := by omega
  have lc : c < 4294967296 := by omega
  have ld : d < 4294967296 := by omega
  rw [hx', hy']
  have e : (4294967296 * a + b) * (4294967296 * c + d) = 18446744073709551616 * (a * c) + 4294967296 * (a * d) + 4294967296 * (b * c) + b * d := by
    grind
  rw [e]
  have m1 : a * c ≤ 4294967295 * 4294967295 := Nat.mul_le_mul (by omega) (by omega)
  have m2 : a * d ≤ 4294967295 * 4294967295 := Nat.mul_le_mul (by omega) (by omega)
  have m3 : b * c ≤ 4294967295 * 4294967295 := Nat.mul_le_mul (by omega) (by omega)
  have m4 : b * d ≤ 4294967295 * 4294967295 := Nat.mul_le_mul (by omega) (by omega)
  generalize a * c = ac at *
  generalize a * d = ad at *
  generalize b * c = bc at *
  generalize b * d = bd at *
  clear e hx' hy' ha hb hc hd hx hy
  omega

set_option maxRecDepth 100000 in
theorem mul64_any (x y : BitVec 64) (w : World) :
    Calls Try.prog 55 #[.int .u64 (wn x), .int .u64 (wn y)] w fun e w' => e = .returned (.tuple #[.int .u64 (wn (mhi x y)), .int .u64 (wn (x * y))]) ∧ w' = w := by
  have h1 := wand32
  have h2 := wshr32
  have h3 := wmul
  have h4 := wadd
  go_enter Try.func55, Try.ntmps55
  go_wp2
  simp [bodyPost, results, Try.results55, go_sem]
  rfl

/-- The carry of a sum. -/
def cry (x y : BitVec 64) : BitVec 64 := BitVec.ofNat 64 ((x.toNat + y.toNat) / 18446744073709551616)
def cry3 (x y c : BitVec 64) : BitVec 64 := BitVec.ofNat 64 ((x.toNat + y.toNat + c.toNat) / 18446744073709551616)
theorem cry_nat (x y : BitVec 64) : (cry x y).toNat = (x.toNat + y.toNat) / 18446744073709551616 := by
  have := wlt x
  have := wlt y
  unfold cry
  rw [BitVec.toNat_ofNat]; omega
theorem cry_le (x y : BitVec 64) : (cry x y).toNat ≤ 1 := by
  have := wlt x
  have := wlt y
  rw [cry_nat]; omega

theorem add64 (x y c : BitVec 64) (hc : c.toNat ≤ 1) (w : World) : (callFunc 56 #[.int .u64 (wn x), .int .u64 (wn y), .int .u64 (wn c)]).run Try.prog w =
    .ok (.value (.tuple #[.int .u64 (wn (x + y + c)), .int .u64 (wn (cry3 x y c))])) w := by
  have := wlt x
  have := wlt y
  rw [run_callFunc_extern Try.func56 (by kernel_rfl) (by kernel_rfl) (by kernel_rfl) (e := add64Entry) (by kernel_rfl), run_add64 (wn x) (wn y) (wn c) (wn_nonneg x) (wn_nonneg y) (wn_nonneg c) (by unfold wn; omega)]
  simp only [Result.andThen]
  have e1 : (wn x + wn y + wn c) % 18446744073709551616 = wn (x + y + c) := by
    unfold wn
    rw [BitVec.toNat_add, BitVec.toNat_add]; omega
  have e2 : (wn x + wn y + wn c) / 18446744073709551616 = wn (cry3 x y c) := by
    unfold wn cry3
    rw [BitVec.toNat_ofNat]; omega
  rw [e1, e2]
theorem add64_0 (x y : BitVec 64) (w : World) : (callFunc 56 #[.int .u64 (wn x), .int .u64 (wn y), .int .u64 0]).run Try.prog w =
    .ok (.value (.tuple #[.int .u64 (wn (x + y)), .int .u64 (wn (cry x y))])) w := by
  have := add64 x y 0#64 (by decide) w
  have e : cry3 x y 0#64 = cry x y := rfl
  rw [e, BitVec.add_zero] at this
  exact this

/-- A number of 128 bits. -/
def wd (h l : BitVec 64) : Value := .agg #[.int .u64 (wn h), .int .u64 (wn l)]
def plh (h l x y : BitVec 64) : BitVec 64 := h + mhi x y + cry l (x * y)
def pll (l x y : BitVec 64) : BitVec 64 := l + x * y

set_option maxRecDepth 100000 in
theorem plus_any (h l x y : BitVec 64) (w : World) :
    Calls Try.prog 49 #[.agg #[.int .u64 (wn h), .int .u64 (wn l)], .int .u64 (wn x), .int .u64 (wn y)] w fun e w' => e = .returned (.agg #[.int .u64 (wn (plh h l x y)), .int .u64 (wn (pll l x y))]) ∧ Below w.heap.size w w' := by
  have hc := cry_le l (x * y)
  go_enter Try.func49, Try.ntmps49
  go_wp2_with (first | (go_at_call 55; refine (mul64_any x y _).mono ?_; rintro e w' ⟨rfl, rfl⟩) | simp only [add64_0] | simp only [add64 _ _ _ hc])
  simp [bodyPost, results, Try.results49, go_sem]
  refine ⟨⟨rfl, rfl⟩, ?_⟩
  go_grown

/-- What lies above 51 bits. -/
def abv (h l : BitVec 64) : BitVec 64 := h <<< 13 ||| l >>> 51

set_option maxRecDepth 100000 in
theorem above_any (h l : BitVec 64) (w : World) :
    Calls Try.prog 51 #[.agg #[.int .u64 (wn h), .int .u64 (wn l)]] w fun e w' => e = .returned (.int .u64 (wn (abv h l))) ∧ Below w.heap.size w w' := by
  have h1 := wshl13
  have h2 := wshr51
  have h3 := wor
  go_enter Try.func51, Try.ntmps51
  go_wp2
  go_ret
  refine ⟨rfl, ?_⟩
  go_grown

/-- The limbs of an element. -/
structure L5 where
  a : BitVec 64
  b : BitVec 64
  c : BitVec 64
  d : BitVec 64
  e : BitVec 64
def L5.list (x : L5) : List (BitVec 64) := [x.a, x.b, x.c, x.d, x.e]
def L5.cs (x : L5) : List Value := [.int .u64 (wn x.a), .int .u64 (wn x.b), .int .u64 (wn x.c), .int .u64 (wn x.d), .int .u64 (wn x.e)]
def L5.v (x : L5) : Value := .agg x.cs.toArray
def carr (x : L5) : L5 := ⟨(x.a &&& mk51) + 19#64 * x.e >>> 51, (x.b &&& mk51) + x.a >>> 51, (x.c &&& mk51) + x.b >>> 51, (x.d &&& mk51) + x.c >>> 51, (x.e &&& mk51) + x.d >>> 51⟩

set_option maxRecDepth 100000 in
theorem carried_any (x : L5) (w : World) :
    Calls Try.prog 50 #[.agg #[.int .u64 (wn x.a), .int .u64 (wn x.b), .int .u64 (wn x.c), .int .u64 (wn x.d), .int .u64 (wn x.e)]] w fun e w' => e = .returned (carr x).v ∧ Below w.heap.size w w' := by
  have h1 := wand51
  have h2 := wshr51
  have h3 := wadd
  have h4 := wmul19
  obtain ⟨a, b, c, d, e⟩ := x
  go_enter Try.func50, Try.ntmps50
  go_wp2
  simp [bodyPost, results, Try.results50, go_sem]
  refine ⟨rfl, ?_⟩
  go_grown

def small (n : BitVec 32) : L5 := ⟨n.setWidth 64, 0, 0, 0, 0⟩
theorem small_wn (n : BitVec 32) : (n.toNat : Int) = wn (n.setWidth 64) := by
  have := n.isLt
  unfold wn
  rw [BitVec.toNat_setWidth]; omega

set_option maxRecDepth 100000 in
theorem small_any (n : BitVec 32) (w : World) :
    Calls Try.prog 28 #[.int .u32 (n.toNat : Int)] w fun e w' => e = .returned (small n).v ∧ Below w.heap.size w w' := by
  have h1 : IntKind.u64.wrap (n.toNat : Int) = wn (n.setWidth 64) := by
    rw [← small_wn, IntKind.wrap_u64]
    have := n.isLt
    omega
  obtain ⟨m, hm⟩ : ∃ m : Int, m = (n.toNat : Int) := ⟨_, rfl⟩
  rw [← hm] at h1 ⊢
  clear hm
  go_enter Try.func28, Try.ntmps28
  go_wp2
  simp [bodyPost, results, Try.results28, go_sem]
  refine ⟨rfl, ?_⟩
  go_grown

end Go.Proofs.Ytacancfmgnmpiaa
