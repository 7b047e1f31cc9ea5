import Derived.Test.YtnakeieeopbeiaaPowG
import Derived.Test.YtnakeieeopbeiaaGp
set_option linter.unusedVariables false
set_option linter.unusedSimpArgs false
namespace Go.Proofs.Ytnakeieeopbeiaa
open Go.RowKit Prm

/-- u is x to the e-th. -/
def IsPow (x u : L5) (e : Nat) : Prop := u.Ok ∧ u.val % P = x.val ^ e % P
theorem IsPow.self {x : L5} (h : x.Ok) : IsPow x x 1 := ⟨h, by rw [Nat.pow_one]⟩
theorem IsPow.mul {x u v : L5} {a b : Nat} (h : IsPow x u a) (k : IsPow x v b) : IsPow x (mulE u v) (a + b) :=
  ⟨mul_ok _ _, by rw [mul_val u v h.1 k.1, mul_mod2 h.2 k.2, Nat.pow_add]⟩
theorem IsPow.sq {x u : L5} {a : Nat} (h : IsPow x u a) : ∀ t, IsPow x (sqN u t) (a * 2 ^ t)
  | 0 => by rw [sqN, Nat.pow_zero, Nat.mul_one]; exact h
  | t + 1 => by
    have ih := h.sq t
    have := ih.mul ih
    rw [sqN, Nat.pow_succ, ← Nat.mul_assoc, Nat.mul_two]
    exact this
theorem IsPow.cast {x u : L5} {a b : Nat} (h : IsPow x u a) (e : a = b) : IsPow x u b := e ▸ h

theorem o5_is {x : L5} (h : x.Ok) : IsPow x (o5 x) 31 := by
  have s := IsPow.self h
  exact ((((s.sq 4).mul (s.sq 3)).mul (s.sq 2)).mul (s.sq 1)).mul s
theorem o10_is {x : L5} (h : x.Ok) : IsPow x (o10 x) 1023 := (((o5_is h).sq 5).mul (o5_is h)).cast (by decide +kernel)
theorem o20_is {x : L5} (h : x.Ok) : IsPow x (o20 x) 1048575 := (((o10_is h).sq 10).mul (o10_is h)).cast (by decide +kernel)
theorem o40_is {x : L5} (h : x.Ok) : IsPow x (o40 x) 1099511627775 := (((o20_is h).sq 20).mul (o20_is h)).cast (by decide +kernel)
theorem o50_is {x : L5} (h : x.Ok) : IsPow x (o50 x) 1125899906842623 := (((o40_is h).sq 10).mul (o10_is h)).cast (by decide +kernel)
theorem o100_is {x : L5} (h : x.Ok) : IsPow x (o100 x) 1267650600228229401496703205375 := (((o50_is h).sq 50).mul (o50_is h)).cast (by decide +kernel)
theorem o200_is {x : L5} (h : x.Ok) : IsPow x (o200 x) 1606938044258990275541962092341162602522202993782792835301375 := (((o100_is h).sq 100).mul (o100_is h)).cast (by decide +kernel)
def E250 : Nat := 1809251394333065553493296640760748560207343510400633813116524750123642650623
theorem ones_is {x : L5} (h : x.Ok) : IsPow x (onesE x) E250 := (((o200_is h).sq 50).mul (o50_is h)).cast (by decide +kernel)
theorem inv_is {x : L5} (h : x.Ok) : IsPow x (invE x) (P - 2) := by
  have s := IsPow.self h
  exact (((((ones_is h).sq 5).mul ((s.mul s).sq 2)).mul (s.mul s)).mul s).cast (by decide +kernel)
theorem root1_is {x : L5} (h : x.Ok) : IsPow x (root1 x) ((P + 3) / 8) := by
  have s := IsPow.self h
  exact (((ones_is h).sq 2).mul (s.mul s)).cast (by decide +kernel)

theorem bit_of (M r : Nat) (hr : r < 8) : M % 256 / 2 ^ r % 2 = M / 2 ^ r % 2 := by
  have : r = 0 ∨ r = 1 ∨ r = 2 ∨ r = 3 ∨ r = 4 ∨ r = 5 ∨ r = 6 ∨ r = 7 := by omega
  rcases this with rfl | rfl | rfl | rfl | rfl | rfl | rfl | rfl <;> simp only [Nat.reducePow, Nat.pow_zero, Nat.pow_one] <;> omega
theorem kbit_is (k : List UInt8) (i : Nat) (hi : i < 256) : kbit k i = decide (kn k / 2 ^ i % 2 = 1) := by
  unfold kbit
  have h := psum_div k 32 (i / 8) (by omega)
  have e : kn k / 2 ^ i = kn k / 256 ^ (i / 8) / 2 ^ (i % 8) := by
    rw [Nat.div_div_eq_div_mul, show (256 : Nat) = 2 ^ 8 from rfl, ← Nat.pow_mul, ← Nat.pow_add]
    congr 2
    omega
  rw [e, ← h, bit_of _ _ (by omega)]
  rfl
theorem half_step (n m : Nat) : n / m = 2 * (n / (m * 2)) + n / m % 2 := by
  rw [← Nat.div_div_eq_div_mul]; omega
theorem pow_is {x : L5} (hx : x.Ok) (k : List UInt8) : ∀ j, j ≤ 256 → IsPow x (powL x k j) (kn k / 2 ^ (256 - j))
  | 0, _ => by
    have h := kn_lt k
    have e : kn k / 2 ^ (256 - 0) = 0 := Nat.div_eq_of_lt h
    rw [e]
    exact ⟨small_ok _, by rw [Nat.pow_zero, powL, small_val]; rfl⟩
  | j + 1, hj => by
    have ih := pow_is hx k j (by omega)
    have e1 : 256 - j = (256 - (j + 1)) + 1 := by omega
    have hb := kbit_is k (255 - j) (by omega)
    have e2 : 255 - j = 256 - (j + 1) := by omega
    rw [e2] at hb
    have hs := half_step (kn k) (2 ^ (256 - (j + 1)))
    have e3 : 2 ^ (256 - (j + 1)) * 2 = 2 ^ (256 - j) := by rw [e1, Nat.pow_succ]
    rw [e3] at hs
    have sq := ih.mul ih
    rw [powL, e2]
    by_cases hq : kn k / 2 ^ (256 - (j + 1)) % 2 = 1
    · rw [decide_eq_true hq] at hb
      rw [hb, if_pos rfl]
      exact (sq.mul (IsPow.self hx)).cast (by omega)
    · rw [decide_eq_false hq] at hb
      rw [hb, if_neg (by simp)]
      exact sq.cast (by omega)
theorem powk_is {x : L5} (hx : x.Ok) (k : List UInt8) : IsPow x (powL x k 256) (kn k) := by
  have := pow_is hx k 256 (by omega)
  simpa using this

theorem pow_mod_l (a e : Nat) : (a % P) ^ e % P = a ^ e % P := (Nat.pow_mod a e P).symm
theorem pow_congr {a b : Nat} (e : Nat) (h : a % P = b % P) : a ^ e % P = b ^ e % P := by rw [Nat.pow_mod, h, ← Nat.pow_mod]
theorem zero_pow_mod {a e : Nat} (h : a % P = 0) (he : 0 < e) : a ^ e % P = 0 := by
  rw [Nat.pow_mod, h, Nat.zero_pow he, Nat.zero_mod]
theorem pow_P (a : Nat) : a ^ P % P = a % P := by
  by_cases h : a % P = 0
  · rw [zero_pow_mod h (by decide), h]
  · have e : P = (P - 1) + 1 := by decide +kernel
    have f := fermat a h
    conv => lhs; lhs; rw [e]
    rw [Nat.pow_succ, Nat.mul_mod, f, Nat.one_mul, Nat.mod_mod]
theorem pow_top (a : Nat) : a ^ (P + 19) % P = a ^ 20 % P := by
  rw [Nat.pow_add, Nat.mul_mod, pow_P, ← Nat.mul_mod, ← Nat.pow_succ']
theorem pow_mul_one {a : Nat} (h : a % P ≠ 0) (m : Nat) : a ^ ((P - 1) * m) % P = 1 := by
  rw [Nat.pow_mul, Nat.pow_mod, fermat a h, Nat.one_pow]
  rfl

/-! Inverses. -/
theorem inv_zero {x : L5} (h : x.Ok) (hz : eqE x zeroE = true) : eqE (invE x) zeroE = true := by
  have hz' : x.val % P = 0 := by
    rw [eq_is h zero_ok, zero_val] at hz
    have := of_decide_eq_true hz
    simpa using this
  refine eq_of (inv_is h).1 zero_ok ?_
  rw [(inv_is h).2, zero_pow_mod hz' (by decide), zero_val]
  rfl
theorem val_ne {x : L5} (h : x.Ok) (hz : eqE x zeroE = false) : x.val % P ≠ 0 := by
  rw [eq_is h zero_ok, zero_val] at hz
  have := of_decide_eq_false hz
  simpa using this
theorem val_zero {x : L5} (h : x.Ok) (hz : eqE x zeroE = true) : x.val % P = 0 := by
  rw [eq_is h zero_ok, zero_val] at hz
  have := of_decide_eq_true hz
  simpa using this
theorem one_val : (small 1#32).val = 1 := small_val _
theorem inv_mul {x : L5} (h : x.Ok) (hz : eqE x zeroE = false) : eqE (mulE x (invE x)) (small 1#32) = true := by
  have p := (IsPow.self h).mul (inv_is h)
  refine eq_of p.1 (small_ok _) ?_
  rw [p.2, one_val, show 1 + (P - 2) = P - 1 by decide +kernel, fermat _ (val_ne h hz)]
  rfl
theorem inv_inv {x : L5} (h : x.Ok) (hz : eqE x zeroE = false) : eqE (invE (invE x)) x = true := by
  have p := inv_is h
  have q := inv_is p.1
  refine eq_of q.1 h ?_
  rw [q.2, pow_congr _ p.2, ← Nat.pow_mul, show (P - 2) * (P - 2) = (P - 1) * (P - 3) + 1 by decide +kernel, Nat.pow_add, Nat.pow_one, Nat.mul_mod, pow_mul_one (val_ne h hz), Nat.one_mul, Nat.mod_mod]
theorem inv_prod {x y : L5} (h : x.Ok) (k : y.Ok) : eqE (invE (mulE x y)) (mulE (invE x) (invE y)) = true := by
  have p := inv_is (mul_ok x y)
  refine eq_of p.1 (mul_ok _ _) ?_
  rw [p.2, pow_congr _ (mul_val x y h k), mul_val _ _ (inv_is h).1 (inv_is k).1, mul_mod2 (inv_is h).2 (inv_is k).2, Nat.mul_pow]
theorem pow_zero_is {x : L5} (h : x.Ok) {k : List UInt8} (hk : kn k = 0) : eqE (powL x k 256) (small 1#32) = true := by
  have p := powk_is h k
  refine eq_of p.1 (small_ok _) ?_
  rw [p.2, hk, Nat.pow_zero, one_val]
theorem pow_p1_zero {x : L5} (h : x.Ok) (hz : eqE x zeroE = true) {k : List UInt8} (hk : kn k = P - 1) : eqE (powL x k 256) zeroE = true := by
  have p := powk_is h k
  refine eq_of p.1 zero_ok ?_
  rw [p.2, hk, zero_pow_mod (val_zero h hz) (by decide), zero_val]
  rfl
theorem pow_p1 {x : L5} (h : x.Ok) (hz : eqE x zeroE = false) {k : List UInt8} (hk : kn k = P - 1) : eqE (powL x k 256) (small 1#32) = true := by
  have p := powk_is h k
  refine eq_of p.1 (small_ok _) ?_
  rw [p.2, hk, fermat _ (val_ne h hz), one_val]
  rfl
theorem pow_p {x : L5} (h : x.Ok) {k : List UInt8} (hk : kn k = P) : eqE (powL x k 256) x = true := by
  have p := powk_is h k
  refine eq_of p.1 h ?_
  rw [p.2, hk, pow_P]

/-! Powers. -/
theorem pow_prod {x y : L5} (h : x.Ok) (k : y.Ok) (e : List UInt8) : eqE (powL (mulE x y) e 256) (mulE (powL x e 256) (powL y e 256)) = true := by
  have p := powk_is (mul_ok x y) e
  refine eq_of p.1 (mul_ok _ _) ?_
  rw [p.2, pow_congr _ (mul_val x y h k), mul_val _ _ (powk_is h e).1 (powk_is k e).1, mul_mod2 (powk_is h e).2 (powk_is k e).2, Nat.mul_pow]
theorem pow_same {x y : L5} (h : x.Ok) {e : Nat} {k : List UInt8} (hk : kn k = e) (hy : IsPow x y e) : eqE (powL x k 256) y = true := by
  have p := powk_is h k
  exact eq_of p.1 hy.1 (by rw [p.2, hk, hy.2])
theorem pow_high {x : L5} (h : x.Ok) {k low k20 : List UInt8} (hk : kn k = kn low + (P + 19)) (h20 : kn k20 = 20) : eqE (powL x k 256) (mulE (powL x low 256) (powL x k20 256)) = true := by
  have p := powk_is h k
  have q := (powk_is h low).mul (powk_is h k20)
  refine eq_of p.1 q.1 ?_
  rw [p.2, q.2, hk, h20, Nat.pow_add, Nat.mul_mod, pow_top, ← Nat.mul_mod, ← Nat.pow_add]
end Go.Proofs.Ytnakeieeopbeiaa

set_option linter.unusedVariables false
set_option linter.unusedSimpArgs false
namespace Go.Proofs.Ytnakeieeopbeiaa
open Go.RowKit Prm

theorem PP_is : PP = P := by decide +kernel
theorem kbt_is (k : List UInt8) (i : Nat) (hi : i < 256) : kbt k i = decide (kn k / 2 ^ i % 2 = 1) := kbit_is k i hi
theorem sq_mod (V e : Nat) : (V ^ e % PP) * (V ^ e % PP) % PP = V ^ (2 * e) % PP := by
  rw [← Nat.mul_mod, ← Nat.pow_add, show e + e = 2 * e by omega]
/-- The document's power is the power. -/
theorem pN_is (V : Nat) (k : List UInt8) : ∀ j, j ≤ 256 → pN V k j = V ^ (kn k / 2 ^ (256 - j)) % PP
  | 0, _ => by
    have e : kn k / 2 ^ (256 - 0) = 0 := Nat.div_eq_of_lt (kn_lt k)
    rw [e, Nat.pow_zero]; rfl
  | j + 1, hj => by
    have ih := pN_is V k j (by omega)
    have e1 : 256 - j = (256 - (j + 1)) + 1 := by omega
    have hb := kbt_is k (255 - j) (by omega)
    have e2 : 255 - j = 256 - (j + 1) := by omega
    rw [e2] at hb
    have hs := half_step (kn k) (2 ^ (256 - (j + 1)))
    have e3 : 2 ^ (256 - (j + 1)) * 2 = 2 ^ (256 - j) := by rw [e1, Nat.pow_succ]
    rw [e3] at hs
    rw [pN, ih, e2, sq_mod]
    generalize kn k / 2 ^ (256 - j) = x at hs ⊢
    generalize kn k / 2 ^ (256 - (j + 1)) = y at hs hb ⊢
    by_cases hq : y % 2 = 1
    · rw [decide_eq_true hq] at hb
      rw [hb, if_pos rfl, show y = 2 * x + 1 by omega, Nat.pow_succ, Nat.mod_mul_mod]
    · rw [decide_eq_false hq] at hb
      rw [hb, if_neg (by decide), show y = 2 * x by omega]
theorem pow_all (V : Nat) (k : List UInt8) : pN V k 256 = V ^ kn k % PP := by
  have := pN_is V k 256 (Nat.le_refl _)
  rwa [Nat.sub_self, Nat.pow_zero, Nat.div_one] at this
theorem fo0_small (d : List Nat) (h : 16 ≤ d.length) (hd : ∀ j, d.getD j 0 < 65536) : nV (fo0 d) < 2 ^ 255 := by
  have e : nV (fo0 d) = dpre (fo0 d) 15 + (fo0 d).getD 15 0 * 65536 ^ 15 := by unfold nV; rw [fo0_length d h]; rfl
  have h1 : dpre (fo0 d) 15 < 65536 ^ 15 := dpre_lt (fun j => by
    rw [fo0_getD d h j]
    have := hd j
    split
    · exact this
    · split
      · omega
      · decide) 15
  have h2 : (fo0 d).getD 15 0 ≤ 32767 := by
    rw [fo0_getD d h 15, if_neg (by decide), if_pos rfl]; omega
  have h3 : (fo0 d).getD 15 0 * 65536 ^ 15 ≤ 32767 * 65536 ^ 15 := Nat.mul_le_mul_right _ h2
  rw [e]
  exact Nat.lt_of_lt_of_le (Nat.add_lt_add_of_lt_of_le h1 h3) (by decide)
theorem from_val (k : List UInt8) : nV (fo0 (kDt k 16)) = (readE k).val := by
  have hl := kDt_length k 16
  have h1 := fo0_val (kDt k 16) (by omega)
  have h2 := fo0_small (kDt k 16) (by omega) (kDt_dig k 16)
  rw [kDt_kn] at h1
  rw [read_val, show (57896044618658097711785492504343953926634992332820282019728792003956564819968 : Nat) = 2 ^ 255 by decide, ← h1, Nat.add_mul_mod_self_right, Nat.mod_eq_of_lt h2]
end Go.Proofs.Ytnakeieeopbeiaa

set_option linter.unusedVariables false
set_option linter.unusedSimpArgs false
namespace Go.Proofs.Ytnakeieeopbeiaa
open Go.RowKit Prm

section
variable {P : Program} {N : Nat} {ops : Array Oper} {S : World → Prop} {K : List (Nat × Value) → Prop} {i : Nat} {ty : TypeId} {ps : String} {af : Array Edge} {r : List Oper} {e : List (Nat × Value)}
theorem LE.val {op : Op} {v : Value} (hi : decide (i < N) = true) (hrun : ∀ a, Env N a e → ∀ W, S W → (execOp a.eval ⟨some i, op, ty, ps, af, none⟩).run P W = .ok (.value v) W) (k : wpLexE P N ops S K r ((i, v) :: e)) : wpLexE P N ops S K (⟨some i, op, ty, ps, af, none⟩ :: r) e :=
  ⟨v, fun j hj => by cases hj; exact of_decide_eq_true hi, fun a ha => .inl ⟨by simp [Region.wanted], .inl fun W hW => hrun a ha W hW⟩, k⟩
theorem LE.move {x : Operand} {v : Value} (hi : decide (i < N) = true) (hx : evE e x = some v) (k : wpLexE P N ops S K r ((i, v) :: e)) : wpLexE P N ops S K (⟨some i, .move x, ty, ps, af, none⟩ :: r) e :=
  LE.val hi (fun a ha W _ => by simp [execOp, ha.ev hx]) k
theorem LE.nilc {x : Operand} {ad : Addr} (hi : decide (i < N) = true) (hx : evE e x = some (.pointer (some ad))) (k : wpLexE P N ops S K r ((i, .pointer (some ad)) :: e)) : wpLexE P N ops S K (⟨some i, .nilCheck x, ty, ps, af, none⟩ :: r) e :=
  LE.val hi (fun a ha W _ => by simp [execOp, ha.ev hx]) k
theorem LE.field {t : TypeId} {j : Nat} {x : Operand} {u v : Value} (hi : decide (i < N) = true) (hx : evE e x = some u) (hr : ∀ w, (Instr.fieldAt t u j).run P w = .ok v w) (k : wpLexE P N ops S K r ((i, v) :: e)) : wpLexE P N ops S K (⟨some i, .fieldAddr t x j, ty, ps, af, none⟩ :: r) e :=
  LE.val hi (fun a ha W _ => by simp [execOp, ha.ev hx, hr W, Result.andThen]) k
theorem LE.index {t : TypeId} {x y : Operand} {u u' v : Value} (hi : decide (i < N) = true) (hx : evE e x = some u) (hy : evE e y = some u') (hr : ∀ w, (Instr.indexAt t u u').run P w = .ok v w) (k : wpLexE P N ops S K r ((i, v) :: e)) : wpLexE P N ops S K (⟨some i, .indexAddr t x y, ty, ps, af, none⟩ :: r) e :=
  LE.val hi (fun a ha W _ => by simp [execOp, ha.ev hx, ha.ev hy, hr W, Result.andThen]) k
theorem LE.load {t : TypeId} {x : Operand} {u v : Value} (hi : decide (i < N) = true) (hx : evE e x = some u) (hr : ∀ w, S w → (Instr.loadAt t u).run P w = .ok v w) (k : wpLexE P N ops S K r ((i, v) :: e)) : wpLexE P N ops S K (⟨some i, .load t x, ty, ps, af, none⟩ :: r) e :=
  LE.val hi (fun a ha W hW => by simp [execOp, ha.ev hx, hr W hW, Result.andThen]) k
end
/-- Where an index of the table comes from. -/
def rs (x : Int) : Nat := ((x.tmod 4 + 4).tmod 4).toNat
theorem tmod4 (x : Int) : -4 < x.tmod 4 ∧ x.tmod 4 < 4 := by
  rcases Int.lt_or_le x 0 with h | h
  · have h1 := Int.neg_tmod (-x) 4
    rw [Int.neg_neg, Int.tmod_eq_emod_of_nonneg (show 0 ≤ -x by omega)] at h1
    omega
  · rw [Int.tmod_eq_emod_of_nonneg h]; omega
theorem rs_lt (x : Int) : rs x < 4 := by
  have h := tmod4 x
  unfold rs
  rw [Int.tmod_eq_emod_of_nonneg (by omega)]; omega
theorem rs_is (x : Int) : (x.tmod 4 + 4).tmod 4 = (rs x : Int) := by
  have h := tmod4 x
  unfold rs
  rw [Int.tmod_eq_emod_of_nonneg (by omega)]; omega
theorem remI (a : Int) (W : World) (x y : Operand) : (do eqGuard .rem 3 x y (.int .i64 a) (.int .i64 4); binOp .rem 3 (.int .i64 a) (.int .i64 4) : Sem Value).run Try.prog W = .ok (.int .i64 (a.tmod 4)) W := by go_simp
set_option maxRecDepth 100000 in
set_option maxHeartbeats 1000000 in
theorem rest_num (x : Int) (w : World) : Calls Try.prog 35 #[.int .i64 x, .int .i64 4] w fun e w' => e = .returned (.int .i64 (rs x : Int)) ∧ w' = w := by
  have h2 : IntKind.i64.wrap (x.tmod 4 + 4) = x.tmod 4 + 4 := by
    have h := tmod4 x
    rw [IntKind.wrap_i64]; omega
  have h3 : ∀ W X Y, (do eqGuard .rem 3 X Y (.int .i64 (x.tmod 4 + 4)) (.int .i64 4); binOp .rem 3 (.int .i64 (x.tmod 4 + 4)) (.int .i64 4) : Sem Value).run Try.prog W = .ok (.int .i64 (rs x : Int)) W := fun W X Y => by rw [← rs_is x]; exact remI _ W X Y
  refine calls_of_args [.int .i64 x, .int .i64 4] Try.func35 rfl 12 Try.ntmps35 (by show 2 ≤ 12; decide) ?_
  refine EW.seq ?_
  refine EW.region ?_
  first | refine WL.assign rfl rfl rfl ?_
  refine WL.done ?_
  refine EW.on ?_
  refine EW.seq ?_
  refine EW.region ?_
  first | refine WL.move rfl rfl rfl ?_
  first | refine WL.move rfl rfl rfl ?_
  refine WL.bin rfl rfl rfl rfl (remI _ _ _ _) ?_
  first | refine WL.move rfl rfl rfl ?_
  refine WL.bin rfl rfl rfl rfl (int_add h2 _ _ _) ?_
  first | refine WL.move rfl rfl rfl ?_
  refine WL.bin rfl rfl rfl rfl (h3 _ _ _) ?_
  first | refine WL.assign rfl rfl rfl ?_
  refine WL.done ?_
  refine EW.on ?_
  refine EW.ret ?_
  repeat (first | refine pr_then ?_ | refine pr_block ?_)
  exact EW.returns Try.results35 rfl ⟨rfl, rfl⟩
theorem tfld0 (g : Nat) (W : World) : (Instr.fieldAt 52 (.pointer (some ⟨g, 0, none⟩)) 0).run Try.prog W = .ok (.pointer (some ⟨g, 0, none⟩)) W := by
  go_simp
  try simp
  try rw [add_plain]
theorem tfld1 (g : Nat) (W : World) : (Instr.fieldAt 52 (.pointer (some ⟨g, 0, none⟩)) 1).run Try.prog W = .ok (.pointer (some ⟨g, 20, none⟩)) W := by
  go_simp
  try simp
  try rw [add_plain]
end Go.Proofs.Ytnakeieeopbeiaa
