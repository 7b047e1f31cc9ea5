import Derived.Test.YtnakeieeopbeiaaGrG
import Derived.Test.YtnakeieeopbeiaaPri
import Derived.Test.YtnakeieeopbeiaaNew
set_option linter.unusedVariables false
set_option linter.unusedSimpArgs false
namespace Go.Proofs.Ytnakeieeopbeiaa
open Go.RowKit Prm

theorem key_info {k : List UInt8} (h : k.length = 32) : (Try.prog.info? 23).map (·.size) = some (k.map byt).length := by rw [List.length_map, h]; kernel_rfl
theorem build23 (W : World) : (Instr.build 23 #[]).run Try.prog W = .ok (.agg (z32.map byt).toArray) W := by kernel_rfl
theorem uni_build0 {P : Program} {ops : Array Oper} {S : World → Prop} {o : Oper} {a : Act} (hw : Region.wanted o (yielded ops a.tmps) = true) (t : TypeId) (ho : o.op = .build t #[]) (v : Value) (h : ∀ W, (Instr.build t #[]).run P W = .ok v W) : Uni P ops S o v a := by
  refine .inl ⟨hw, .inl fun W _ => ?_⟩
  unfold execOp
  simp only [ho, List.map_toArray, List.map_nil]
  simp only [Sem.run_bind, h W, Result.andThen_ok, Sem.run_pure]
theorem z32_length : z32.length = 32 := by simp [z32]
theorem kn_z32 : kn z32 = 0 := by decide +kernel
def primeR : List UInt8 := List.replicate 30 255 ++ [127]
theorem primeK_eq (u : UInt8) : primeK u = u :: primeR := by kernel_rfl
theorem psum_cons (u : UInt8) (l : List UInt8) (s : Nat) : ∀ r, psum (u :: l) (s + 1) r = psum l s r
  | 0 => rfl
  | r + 1 => by
    rw [psum, psum, psum_cons u l s r, show s + 1 + r = (s + r) + 1 by omega, List.getD_cons_succ]
theorem kn_cons (u : UInt8) (l : List UInt8) : kn (u :: l) = u.toNat + 256 * psum l 0 31 := by
  unfold kn
  have h := psum_add (u :: l) 0 1 31
  rw [show 1 + 31 = 32 from rfl, show 0 + 1 = 1 from rfl, psum_cons u l 0 31] at h
  rw [h]
  simp [psum]
theorem kn_primeK (u : UInt8) : kn (primeK u) = u.toNat + 57896044618658097711785492504343953926634992332820282019728792003956564819712 := by
  have h : 256 * psum primeR 0 31 = 57896044618658097711785492504343953926634992332820282019728792003956564819712 := by decide +kernel
  rw [primeK_eq, kn_cons, h]
theorem kn_prime (n : UInt8) (h : n.toNat ≤ 237) : kn (primeK (UInt8.ofNat (237 - n.toNat))) = P - n.toNat := by
  rw [kn_primeK, UInt8.toNat_ofNat']
  unfold P
  omega
theorem prime0 (W : World) : ∃ K : List UInt8, K.length = 32 ∧ kn K = P ∧ ∀ W, Calls Try.prog 13 #[.int .u8 0] W fun e w' => e = .returned (.agg (K.map byt).toArray) ∧ Below W.heap.size W w' :=
  ⟨_, primeK_length _, kn_prime 0 (by decide), fun W => prime_any 0 (by decide) W⟩
theorem prime1 (W : World) : ∃ K : List UInt8, K.length = 32 ∧ kn K = P - 1 ∧ ∀ W, Calls Try.prog 13 #[.int .u8 1] W fun e w' => e = .returned (.agg (K.map byt).toArray) ∧ Below W.heap.size W w' :=
  ⟨_, primeK_length _, kn_prime 1 (by decide), fun W => prime_any 1 (by decide) W⟩
end Go.Proofs.Ytnakeieeopbeiaa

set_option linter.unusedVariables false
set_option linter.unusedSimpArgs false
namespace Go.Proofs.Ytnakeieeopbeiaa
open Go.RowKit Prm

theorem rootM_is : IsPow (small 2#32) rootM ((P - 1) / 4) := by
  have h2 := small_ok 2#32
  have h8 : IsPow (small 2#32) (small 8#32) 3 := ⟨small_ok _, by rw [small_val, small_val]; rfl⟩
  exact (((ones_is h2).sq 3).mul h8).cast (by decide +kernel)
theorem two_half : 2 ^ ((P - 1) / 2) % P = P - 1 := by
  rw [← pmod_eq P 2 255 ((P - 1) / 2) (by decide +kernel)]
  decide +kernel
theorem rootM_sq : rootM.val * rootM.val % P = P - 1 := by
  rw [mul_mod2 rootM_is.2 rootM_is.2, ← Nat.pow_add, small_val, show (2#32 : BitVec 32).toNat = 2 from rfl, show (P - 1) / 4 + (P - 1) / 4 = (P - 1) / 2 by decide +kernel]
  exact two_half

theorem val_of_eq {x y : L5} (hx : x.Ok) (hy : y.Ok) (h : eqE x y = true) : x.val % P = y.val % P := by
  rw [eq_is hx hy] at h
  exact of_decide_eq_true h
theorem root2_ok (x : L5) : (root2 x).Ok := by
  unfold root2
  split
  · exact mul_ok _ _
  · exact mul_ok _ _
theorem root2_sq {x : L5} (h : x.Ok) (hh : hasE x = true) : (root2 x).val * (root2 x).val % P = x.val % P := by
  have := val_of_eq (mul_ok _ _) h hh
  rw [mul_val _ _ (root2_ok x) (root2_ok x)] at this
  exact this
theorem minus_sq : (P - 1) * (P - 1) % P = 1 := by decide +kernel

theorem root1_sq {x : L5} (h : x.Ok) : (mulE (root1 x) (root1 x)).val % P = x.val * x.val ^ ((P - 1) / 4) % P := by
  have p := (root1_is h).mul (root1_is h)
  rw [p.2, show (P + 3) / 8 + (P + 3) / 8 = 1 + (P - 1) / 4 by decide +kernel, Nat.pow_add, Nat.pow_one]
theorem has_of {x : L5} (h : x.Ok) (he : x.val ^ ((P - 1) / 2) % P = 1 ∨ x.val % P = 0) : hasE x = true := by
  unfold hasE root2
  split
  · rename_i hq; exact hq
  · rename_i hq
    have hq' : eqE (mulE (root1 x) (root1 x)) x = false := by simpa using hq
    have hne : (mulE (root1 x) (root1 x)).val % P ≠ x.val % P := fun hh => by
      rw [eq_of (mul_ok _ _) h hh] at hq'
      cases hq'
    rcases he with he | he
    · have h2 : x.val ^ ((P - 1) / 4) * x.val ^ ((P - 1) / 4) % P = 1 := by
        rw [← Nat.pow_add, show (P - 1) / 4 + (P - 1) / 4 = (P - 1) / 2 by decide +kernel]
        exact he
      rcases sq_one _ h2 with h1 | h1
      · exact absurd (by rw [root1_sq h, Nat.mul_mod, h1, Nat.mul_one, Nat.mod_mod]) hne
      · refine eq_of (mul_ok _ _) h ?_
        have e1 : (mulE (root1 x) rootM).val * (mulE (root1 x) rootM).val % P = (root1 x).val * rootM.val * ((root1 x).val * rootM.val) % P :=
          mul_mod2 (mul_val _ _ (root1_is h).1 rootM_is.1) (mul_val _ _ (root1_is h).1 rootM_is.1)
        have e2 : (root1 x).val * rootM.val * ((root1 x).val * rootM.val) = ((root1 x).val * (root1 x).val) * (rootM.val * rootM.val) := by
          rw [Nat.mul_mul_mul_comm]
        have e3 : (root1 x).val * (root1 x).val % P = x.val * x.val ^ ((P - 1) / 4) % P := by
          rw [← root1_sq h, mul_val _ _ (root1_is h).1 (root1_is h).1]
        have e4 : x.val * x.val ^ ((P - 1) / 4) % P = x.val * (P - 1) % P := by
          refine mul_mod_r _ ?_
          rw [h1]
          exact (Nat.mod_eq_of_lt (by decide)).symm
        rw [mul_val _ _ (mul_ok _ _) (mul_ok _ _), e1, e2, mul_mod2 (e3.trans e4) (rootM_sq.trans (Nat.mod_eq_of_lt (by decide)).symm), Nat.mul_assoc, Nat.mul_mod, minus_sq, Nat.mul_one, Nat.mod_mod]
    · refine absurd ?_ hne
      rw [root1_sq h, Nat.mul_mod, he, Nat.zero_mul, Nat.zero_mod]
theorem euler_of {x : L5} (h : x.Ok) (hz : x.val % P ≠ 0) (hh : hasE x = true) : x.val ^ ((P - 1) / 2) % P = 1 := by
  have hs := root2_sq h hh
  have hr : (root2 x).val % P ≠ 0 := fun e => hz (by rw [← hs, Nat.mul_mod, e, Nat.zero_mul, Nat.zero_mod])
  rw [← pow_congr _ hs, Nat.mul_pow, ← Nat.pow_add, show (P - 1) / 2 + (P - 1) / 2 = P - 1 by decide +kernel]
  exact fermat _ hr
theorem has_square {x : L5} (h : x.Ok) : hasE (mulE x x) = true := by
  by_cases hz : x.val % P = 0
  · exact has_of (mul_ok _ _) (.inr (by rw [mul_val x x h h, Nat.mul_mod, hz, Nat.zero_mul, Nat.zero_mod]))
  · refine has_of (mul_ok _ _) (.inl ?_)
    rw [pow_congr _ (mul_val x x h h), Nat.mul_pow, ← Nat.pow_add, show (P - 1) / 2 + (P - 1) / 2 = P - 1 by decide +kernel]
    exact fermat _ hz
theorem has_prod {x y : L5} (h : x.Ok) (k : y.Ok) (hx : hasE x = false) (hy : eqE y zeroE = false) : hasE (mulE x y) = !hasE y := by
  have hz : x.val % P ≠ 0 := fun e => by rw [has_of h (.inr e)] at hx; cases hx
  have hw := val_ne k hy
  have hxe : x.val ^ ((P - 1) / 2) % P = P - 1 := by
    rcases half x.val hz with e | e
    · rw [has_of h (.inl e)] at hx; cases hx
    · exact e
  have hm : (mulE x y).val ^ ((P - 1) / 2) % P = (P - 1) * (y.val ^ ((P - 1) / 2)) % P := by
    rw [pow_congr _ (mul_val x y h k), Nat.mul_pow]
    exact mul_mod_l _ (hxe.trans (Nat.mod_eq_of_lt (by decide)).symm)
  have hmz : (mulE x y).val % P ≠ 0 := by
    rw [mul_val x y h k]
    intro e
    rcases prP.euclid (Nat.dvd_of_mod_eq_zero e) with d | d
    · exact hz (Nat.mod_eq_zero_of_dvd d)
    · exact hw (Nat.mod_eq_zero_of_dvd d)
  cases hv : hasE y with
  | true =>
    have he := euler_of k hw hv
    cases hm2 : hasE (mulE x y) with
    | false => rfl
    | true =>
      have hq := euler_of (mul_ok x y) hmz hm2
      rw [hm, Nat.mul_mod, he, Nat.mul_one, Nat.mod_mod] at hq
      exact absurd hq (by decide +kernel)
  | false =>
    have he : y.val ^ ((P - 1) / 2) % P = P - 1 := by
      rcases half y.val hw with e | e
      · rw [has_of k (.inl e)] at hv; cases hv
      · exact e
    refine has_of (mul_ok _ _) (.inl ?_)
    rw [hm, Nat.mul_mod, he]
    decide +kernel

theorem low_bit (x : L5) (h : x.Ok) : ((tellE x).getD 0 0).toNat % 2 = x.val % P % 2 := by
  rw [tell_is x h, nb_at _ 0 (by omega), UInt8.toNat_ofNat', Nat.pow_zero, Nat.div_one]
  omega
theorem root_ok {x : L5} (h : x.Ok) : (rootE x).Ok := by
  unfold rootE
  split
  · split
    · exact sub_ok _ _
    · exact root2_ok x
  · exact zero_ok
theorem neg_sq {s r : Nat} (h : (s + r) % P = 0) : s * s % P = r * r % P := by
  have h1 : (s * s + s * r) % P = 0 := by rw [← Nat.mul_add, Nat.mul_mod, h, Nat.mul_zero, Nat.zero_mod]
  have h2 : (r * r + s * r) % P = 0 := by rw [Nat.mul_comm s r, ← Nat.mul_add, Nat.mul_mod, Nat.add_comm, h, Nat.mul_zero, Nat.zero_mod]
  exact mod_cancel (h1.trans h2.symm)
theorem root_sq {x : L5} (h : x.Ok) (hh : hasE x = true) : eqE (mulE (rootE x) (rootE x)) x = true := by
  refine eq_of (mul_ok _ _) h ?_
  rw [mul_val _ _ (root_ok h) (root_ok h), ← root2_sq h hh]
  have hh' : eqE (mulE (root2 x) (root2 x)) x = true := hh
  unfold rootE
  rw [if_pos hh']
  split
  · refine neg_sq ?_
    rw [sub_val zeroE _ zero_ok (root2_ok x), zero_val, Nat.zero_mod]
  · rfl
theorem neg_even' {p u v : Nat} (hp : p % 2 = 1) (hu : u < p) (hv : v < p) (h : (v + u) % p = 0) (h1 : u % 2 = 1) : v % 2 = 0 := by
  obtain ⟨q, hq⟩ := Nat.dvd_of_mod_eq_zero h
  rcases Nat.eq_zero_or_pos q with h0 | h0
  · subst h0; omega
  · rcases Nat.lt_or_ge q 2 with h2 | h2
    · obtain rfl : q = 1 := by omega
      omega
    · have : p * 2 ≤ p * q := Nat.mul_le_mul_left _ h2
      omega
theorem neg_even {s r : Nat} (h1 : r % P % 2 = 1) (h2 : (s + r) % P = 0) : s % P % 2 = 0 := by
  have hP : 0 < P := by decide
  rw [Nat.add_mod] at h2
  exact neg_even' (by decide +kernel) (Nat.mod_lt r hP) (Nat.mod_lt s hP) h2 h1
theorem root_even {x : L5} (h : x.Ok) (hh : hasE x = true) : ((tellE (rootE x)).getD 0 0).toNat % 2 = 0 := by
  rw [low_bit _ (root_ok h)]
  have hh' : eqE (mulE (root2 x) (root2 x)) x = true := hh
  have ho : oddE (root2 x) = decide ((root2 x).val % P % 2 = 1) := by
    unfold oddE
    rw [low_bit _ (root2_ok x)]
  unfold rootE
  rw [if_pos hh']
  split
  · rename_i hod
    rw [ho] at hod
    have h1 := of_decide_eq_true hod
    have h2 := sub_val zeroE _ zero_ok (root2_ok x)
    rw [zero_val, Nat.zero_mod] at h2
    exact neg_even h1 h2
  · rename_i hod
    rw [ho] at hod
    have hq : ¬ (root2 x).val % P % 2 = 1 := fun hq => hod (decide_eq_true hq)
    generalize (root2 x).val % P = t at hq ⊢
    clear ho hod hh' hh h
    omega
theorem sq_id (u v d : Nat) : (u + v) * (u + d) + v * v = u * u + (v + d) * (u + v) := by grind
theorem sq_two {s a : Nat} (h : s * s % P = a * a % P) : s % P = a % P ∨ (s + a) % P = 0 := by
  have hP : 0 < P := by decide
  have hu := Nat.mod_lt s hP
  have hv := Nat.mod_lt a hP
  rw [Nat.mul_mod s s, Nat.mul_mod a a] at h
  rw [Nat.add_mod]
  generalize s % P = u at *
  generalize a % P = v at *
  obtain ⟨d, hd⟩ : ∃ d, v + d = P := ⟨P - v, by omega⟩
  have e : (u + v) * (u + d) + v * v = u * u + P * (u + v) := by
    rw [← hd]
    exact sq_id u v d
  have hm : (u + v) * (u + d) % P = 0 % P := by
    refine mod_cancel (z := v * v) ?_
    rw [e, Nat.add_mul_mod_self_left, h, Nat.zero_add]
  rcases prP.euclid (Nat.dvd_of_mod_eq_zero (hm.trans (Nat.zero_mod _))) with h1 | h1
  · exact .inr (Nat.mod_eq_zero_of_dvd h1)
  · left
    have := Nat.mod_eq_zero_of_dvd h1
    obtain ⟨q, hq⟩ := h1
    rcases Nat.eq_zero_or_pos q with h0 | h0
    · subst h0; omega
    · rcases Nat.lt_or_ge q 2 with h2 | h2
      · obtain rfl : q = 1 := by omega
        omega
      · have : P * 2 ≤ P * q := Nat.mul_le_mul_left _ h2
        omega
theorem root_either {a : L5} (h : a.Ok) (hne : eqE (rootE (mulE a a)) a = false) : eqE (addE (rootE (mulE a a)) a) zeroE = true := by
  have hs := val_of_eq (mul_ok _ _) (mul_ok _ _) (root_sq (mul_ok a a) (has_square h))
  have ok := root_ok (mul_ok a a)
  rw [mul_val _ _ ok ok, mul_val a a h h] at hs
  refine eq_of (add_ok _ _) zero_ok ?_
  rw [add_val _ a ok h, zero_val]
  rcases sq_two hs with e | e
  · rw [eq_of ok h e] at hne; cases hne
  · rw [e]; rfl
theorem root_none {x : L5} (hh : hasE x = false) : rootE x = zeroE := by
  unfold rootE
  rw [if_neg]
  intro h
  have : hasE x = true := h
  rw [this] at hh; cases hh
end Go.Proofs.Ytnakeieeopbeiaa
