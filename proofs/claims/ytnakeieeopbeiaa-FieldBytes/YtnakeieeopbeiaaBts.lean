import Derived.Test.YtnakeieeopbeiaaSwap
import Derived.Test.YtnakeieeopbeiaaPows
set_option linter.unusedVariables false
set_option linter.unusedSimpArgs false
namespace Go.Proofs.Ytnakeieeopbeiaa
open Go.RowKit Prm

def fitE (k : List UInt8) : Bool := decide (tellE (readE k) = k)
theorem fitsE (k : List UInt8) (hk : k.length = 32) (w : World) : Calls Try.prog 11 #[.agg (k.map byt).toArray] w fun e w' => e = .returned (.bool (fitE k)) ∧ Below w.heap.size w w' := fits_any k hk w
theorem two255 : (57896044618658097711785492504343953926634992332820282019728792003956564819968 : Nat) = P + 19 := by decide +kernel
theorem tell_read (k : List UInt8) : tellE (readE k) = nb (kn k % 57896044618658097711785492504343953926634992332820282019728792003956564819968 % P) := by
  rw [tell_is _ (read_ok k), read_val]
theorem fit_is (k : List UInt8) (hk : k.length = 32) : fitE k = decide (kn k < P) := by
  unfold fitE
  rw [tell_read]
  by_cases h : kn k < P
  · rw [Nat.mod_eq_of_lt (show kn k < 57896044618658097711785492504343953926634992332820282019728792003956564819968 by rw [two255]; omega), Nat.mod_eq_of_lt h, nb_kn k hk, decide_eq_true h]
    simp
  · rw [decide_eq_false h]
    refine decide_eq_false fun he => h ?_
    have h1 := kn_nb _ (P_lt (kn k % 57896044618658097711785492504343953926634992332820282019728792003956564819968))
    rw [he] at h1
    rw [h1]
    exact Nat.mod_lt _ (by decide)
theorem kn_tell {a : L5} (h : a.Ok) : kn (tellE a) = a.val % P := by
  rw [tell_is a h, kn_nb _ (P_lt _)]
theorem tell_fits {a : L5} (h : a.Ok) : fitE (tellE a) = true := by
  rw [fit_is _ (tell_length a), kn_tell h]
  exact decide_eq_true (Nat.mod_lt _ (by decide))
theorem tell_top {a : L5} (h : a.Ok) : ((tellE a).getD 31 0).toNat ≤ 127 := by
  have h1 := kn_tell h
  have h2 : a.val % P < P := Nat.mod_lt _ (by decide)
  rw [← h1] at h2
  refine Classical.byContradiction fun hb => ?_
  have h3 := kn_high (k := tellE a) (by omega)
  rw [Nat.div_eq_of_lt (by rw [two255]; omega)] at h3
  cases h3
theorem tell_back {a : L5} (h : a.Ok) : eqE (readE (tellE a)) a = true := by
  refine eq_of (read_ok _) h ?_
  have h2 : a.val % P < P := Nat.mod_lt _ (by decide)
  rw [read_val, kn_tell h, Nat.mod_eq_of_lt (show a.val % P < 57896044618658097711785492504343953926634992332820282019728792003956564819968 by rw [two255]; omega), Nat.mod_mod]

def topK (k : List UInt8) : List UInt8 := k.set 31 (k.getD 31 0 ^^^ 128)
theorem topK_length {k : List UInt8} (h : k.length = 32) : (topK k).length = 32 := by rw [topK, List.length_set, h]
theorem xor128_nat : ∀ n : Fin 256, (n.val ^^^ 128) = if n.val < 128 then n.val + 128 else n.val - 128 := by decide +kernel
theorem xor128 (u : UInt8) : (u ^^^ 128).toNat = if u.toNat < 128 then u.toNat + 128 else u.toNat - 128 := by
  rw [UInt8.toNat_xor]
  exact xor128_nat ⟨u.toNat, u.toNat_lt⟩
theorem xor128_u8 (b : UInt8) : bits .xor .u8 (b.toNat : Int) (128 : Int) = ((b ^^^ 128).toNat : Int) := by
  have h1 := b.toNat_lt
  have ha' : b.toNat % 2 ^ 8 = b.toNat := Nat.mod_eq_of_lt h1
  have e : (BitVec.ofNat 8 b.toNat ^^^ BitVec.ofNat 8 128).toNat = b.toNat ^^^ 128 := by
    rw [BitVec.toNat_xor, BitVec.toNat_ofNat, BitVec.toNat_ofNat, ha']
  show IntKind.u8.wrap (((BitVec.ofInt 8 (b.toNat : Int)) ^^^ (BitVec.ofInt 8 ((128 : Nat) : Int))).toNat : Int) = _
  rw [BitVec.ofInt_natCast, BitVec.ofInt_natCast, e, UInt8.toNat_xor]
  have := Nat.xor_lt_two_pow h1 (show 128 < 2 ^ 8 by decide)
  exact wraps_u8 _ (Int.natCast_nonneg _) (by exact_mod_cast this)
theorem kn_topK {k : List UInt8} (h : k.length = 32) : kn (topK k) + (k.getD 31 0).toNat * 256 ^ 31 = kn k + (k.getD 31 0 ^^^ 128).toNat * 256 ^ 31 := by
  have e0 : ∀ v : UInt8, (k.set 31 v).getD 31 0 = v := fun v => by
    rw [List.getD_eq_getElem?_getD, List.getElem?_set_self (by omega)]; rfl
  unfold kn topK
  rw [show psum (k.set 31 (k.getD 31 0 ^^^ 128)) 0 32 = psum (k.set 31 (k.getD 31 0 ^^^ 128)) 0 31 + ((k.set 31 (k.getD 31 0 ^^^ 128)).getD (0 + 31) 0).toNat * 256 ^ 31 from rfl, show psum k 0 32 = psum k 0 31 + (k.getD (0 + 31) 0).toNat * 256 ^ 31 from rfl, psum_set k 31 _ 31 (by omega), Nat.zero_add, e0]
  omega
theorem top_same {k : List UInt8} (h : k.length = 32) : eqE (readE (topK k)) (readE k) = true := by
  refine eq_of (read_ok _) (read_ok _) ?_
  rw [read_val, read_val]
  have e := kn_topK h
  have x := xor128 (k.getD 31 0)
  have hl := (k.getD 31 0).toNat_lt
  congr 1
  simp only [Nat.reducePow] at e
  generalize (k.getD 31 0 ^^^ 128).toNat = v at e x
  generalize (k.getD 31 0).toNat = u at e x hl
  split at x <;> omega
theorem top_fits {k : List UInt8} (h : k.length = 32) (hf : fitE k = true) : fitE (topK k) = false := by
  rw [fit_is k h] at hf
  have hk := of_decide_eq_true hf
  rw [fit_is _ (topK_length h)]
  refine decide_eq_false ?_
  have e := kn_topK h
  have x := xor128 (k.getD 31 0)
  have hu : (k.getD 31 0).toNat < 128 := by
    refine Classical.byContradiction fun hb => ?_
    have h3 := kn_high (k := k) (by omega)
    rw [Nat.div_eq_of_lt (by rw [two255]; omega)] at h3
    cases h3
  rw [if_pos hu] at x
  rw [x] at e
  have hp : (128 : Nat) * 256 ^ 31 = P + 19 := by decide +kernel
  rw [Nat.add_mul, hp] at e
  omega

theorem over_key (N : UInt8) (h : N.toNat < 19) : (primeK (UInt8.ofNat 237)).set 0 (UInt8.ofNat 237 + N) = primeK (UInt8.ofNat 237 + N) := by
  rw [primeK_eq, primeK_eq]
  rfl
theorem over_nat (N : UInt8) (h : N.toNat < 19) : (UInt8.ofNat 237 + N).toNat = 237 + N.toNat := by
  rw [UInt8.toNat_add, UInt8.toNat_ofNat']
  omega
theorem kn_over (N : UInt8) (h : N.toNat < 19) : kn (primeK (UInt8.ofNat 237 + N)) = P + N.toNat := by
  rw [kn_primeK, over_nat N h]
  unfold P
  omega
theorem over_fits (N : UInt8) (h : N.toNat < 19) : fitE (primeK (UInt8.ofNat 237 + N)) = false := by
  rw [fit_is _ (primeK_length _), kn_over N h]
  exact decide_eq_false (by omega)
theorem over_tell (N : UInt8) (h : N.toNat < 19) : tellE (readE (primeK (UInt8.ofNat 237 + N))) = keyN N := by
  rw [tell_read, kn_over N h, Nat.mod_eq_of_lt (show P + N.toNat < 57896044618658097711785492504343953926634992332820282019728792003956564819968 by rw [two255]; omega), Nat.add_mod_left, Nat.mod_eq_of_lt (show N.toNat < P from Nat.lt_trans h (by decide)), ← kn_keyN N, nb_kn _ (keyN_length N)]
theorem under_fits (N : UInt8) (h : N.toNat < 19) : fitE (primeK (UInt8.ofNat (237 - (N + 1).toNat))) = true := by
  have e : (N + 1).toNat = N.toNat + 1 := by
    rw [UInt8.toNat_add]
    show (N.toNat + 1) % 256 = _
    omega
  rw [fit_is _ (primeK_length _), kn_prime _ (by omega), e]
  refine decide_eq_true ?_
  have : 0 < P := by decide
  omega
end Go.Proofs.Ytnakeieeopbeiaa
