
set_option linter.unusedVariables false
set_option linter.unusedSimpArgs false
/-! Edwards curves over a field whose d is no square: the group law, and the ladder over the u of a point. -/
namespace Edw

/-- A field in which 2 is not 0. -/
class Fd (K : Type) extends Lean.Grind.CommRing K where
  iv : K → K
  iv_zero : iv 0 = 0
  mul_iv : ∀ {a : K}, a ≠ 0 → a * iv a = 1
  one_ne : (1 : K) ≠ 0
  two_ne : (1 : K) + 1 ≠ 0
open Fd
variable {K : Type} [Fd K]

theorem mul_or {a b : K} (h : a * b = 0) : a = 0 ∨ b = 0 := by
  by_cases ha : a = 0
  · exact .inl ha
  · have := mul_iv ha
    right
    grind
theorem mul_ne {a b : K} (ha : a ≠ 0) (hb : b ≠ 0) : a * b ≠ 0 := fun h => (mul_or h).elim ha hb
theorem iv_one : iv (1 : K) = 1 := by
  have := mul_iv (one_ne (K := K))
  grind
theorem iv_uniq {a b : K} (h : a * b = 1) : iv a = b := by
  have ha : a ≠ 0 := fun e => by
    have := one_ne (K := K)
    grind
  have := mul_iv ha
  grind
theorem iv_mul (a b : K) : iv (a * b) = iv a * iv b := by
  by_cases ha : a = 0
  · rw [ha, iv_zero, show (0 : K) * b = 0 by grind, iv_zero]; grind
  · by_cases hb : b = 0
    · rw [hb, iv_zero, show a * (0 : K) = 0 by grind, iv_zero]; grind
    · have h1 := mul_iv ha
      have h2 := mul_iv hb
      exact iv_uniq (by grind)

/-- No square. -/
def Ns (d : K) : Prop := ∀ s : K, s * s ≠ d
theorem Ns.zero {d a b : K} (h : Ns d) (e : a * a = d * (b * b)) : b = 0 := by
  by_cases hb : b = 0
  · exact hb
  · have := mul_iv hb
    exact absurd (show (a * iv b) * (a * iv b) = d by grind) (h _)

/-- A point. -/
structure Pt (K : Type) [Fd K] (d : K) where
  x : K
  y : K
  on : x * x + y * y = 1 + d * (x * x * (y * y))
variable {d : K}
theorem Pt.ext' {P Q : Pt K d} (hx : P.x = Q.x) (hy : P.y = Q.y) : P = Q := by
  cases P; cases Q
  simp only at hx hy
  subst hx hy
  rfl

theorem den_sq (hd : Ns d) (P Q : Pt K d) {e : K} (he : e = d * (P.x * Q.x * (P.y * Q.y))) : e * e ≠ 1 := by
  intro h
  obtain ⟨x1, y1, h1⟩ := P
  obtain ⟨x2, y2, h2⟩ := Q
  simp only at he
  have z1 : x1 * y1 * (x2 + y2) = 0 := hd.zero (a := x1 + e * y1) (by grind)
  have z2 : x1 * y1 * (x2 - y2) = 0 := hd.zero (a := x1 - e * y1) (by grind)
  have := two_ne (K := K)
  have z3 : e * (1 + 1) = 0 := by grind
  have z4 : e * e * (1 + 1) = 0 := by grind
  rw [h] at z4
  exact this (by grind)
theorem den_p (hd : Ns d) (P Q : Pt K d) : 1 + d * (P.x * Q.x * (P.y * Q.y)) ≠ 0 := fun h =>
  den_sq hd P Q rfl (by grind)
theorem den_m (hd : Ns d) (P Q : Pt K d) : 1 - d * (P.x * Q.x * (P.y * Q.y)) ≠ 0 := fun h =>
  den_sq hd P Q rfl (by grind)

theorem closed (d x1 y1 x2 y2 : K) (h1 : x1*x1 + y1*y1 = 1 + d*(x1*x1*(y1*y1))) (h2 : x2*x2 + y2*y2 = 1 + d*(x2*x2*(y2*y2))) :
  (x1*y2+y1*x2)*(x1*y2+y1*x2)*((1 - d*(x1*x2*(y1*y2)))*(1 - d*(x1*x2*(y1*y2)))) + (y1*y2-x1*x2)*(y1*y2-x1*x2)*((1 + d*(x1*x2*(y1*y2)))*(1 + d*(x1*x2*(y1*y2)))) = (1 + d*(x1*x2*(y1*y2)))*(1 + d*(x1*x2*(y1*y2)))*((1 - d*(x1*x2*(y1*y2)))*(1 - d*(x1*x2*(y1*y2)))) + d*((x1*y2+y1*x2)*(x1*y2+y1*x2)*((y1*y2-x1*x2)*(y1*y2-x1*x2))) := by grind
theorem over {d X Y L M i j : K} (h : X*X*(M*M) + Y*Y*(L*L) = L*L*(M*M) + d*(X*X*(Y*Y))) (hi : L * i = 1) (hj : M * j = 1) :
    X*i*(X*i) + Y*j*(Y*j) = 1 + d*(X*i*(X*i)*(Y*j*(Y*j))) := by
  have e1 : X*i*(X*i) + Y*j*(Y*j) = i*i*(j*j)*(X*X*(M*M) + Y*Y*(L*L)) := by grind
  have e2 : 1 + d*(X*i*(X*i)*(Y*j*(Y*j))) = i*i*(j*j)*(L*L*(M*M) + d*(X*X*(Y*Y))) := by grind
  rw [e1, e2, h]

/-- The sum. -/
def add (hd : Ns d) (P Q : Pt K d) : Pt K d where
  x := (P.x*Q.y+P.y*Q.x) * iv (1 + d*(P.x*Q.x*(P.y*Q.y)))
  y := (P.y*Q.y-P.x*Q.x) * iv (1 - d*(P.x*Q.x*(P.y*Q.y)))
  on := over (closed d P.x P.y Q.x Q.y P.on Q.on) (mul_iv (den_p hd P Q)) (mul_iv (den_m hd P Q))
/-- The neutral one. -/
def nul (d : K) : Pt K d := ⟨0, 1, by grind⟩
def neg (P : Pt K d) : Pt K d := ⟨-P.x, P.y, by have := P.on; grind⟩

theorem add_comm (hd : Ns d) (P Q : Pt K d) : add hd P Q = add hd Q P := by
  apply Pt.ext'
  · show _ * iv _ = _ * iv _
    rw [show 1 + d*(P.x*Q.x*(P.y*Q.y)) = 1 + d*(Q.x*P.x*(Q.y*P.y)) by grind]
    grind
  · show _ * iv _ = _ * iv _
    rw [show 1 - d*(P.x*Q.x*(P.y*Q.y)) = 1 - d*(Q.x*P.x*(Q.y*P.y)) by grind]
    grind
theorem nul_add (hd : Ns d) (P : Pt K d) : add hd (nul d) P = P := by
  apply Pt.ext'
  · show ((0 : K)*P.y+1*P.x) * iv (1 + d*(0*P.x*(1*P.y))) = P.x
    rw [show 1 + d*(0*P.x*(1*P.y)) = 1 by grind, iv_one]
    grind
  · show ((1 : K)*P.y-0*P.x) * iv (1 - d*(0*P.x*(1*P.y))) = P.y
    rw [show 1 - d*(0*P.x*(1*P.y)) = 1 by grind, iv_one]
    grind
theorem add_nul (hd : Ns d) (P : Pt K d) : add hd P (nul d) = P := by rw [add_comm, nul_add]
theorem add_neg (hd : Ns d) (P : Pt K d) : add hd P (neg P) = nul d := by
  have hm := mul_iv (den_m hd P (neg P))
  have hon := P.on
  apply Pt.ext'
  · show (P.x*P.y+P.y*(-P.x)) * iv _ = 0
    rw [show P.x*P.y+P.y*(-P.x) = 0 by grind]
    grind
  · show (P.y*P.y-P.x*(-P.x)) * iv (1 - d*(P.x*(-P.x)*(P.y*P.y))) = 1
    rw [show P.y*P.y-P.x*(-P.x) = 1 - d*(P.x*(-P.x)*(P.y*P.y)) by grind]
    exact hm

theorem assocx (d x1 y1 x2 y2 x3 y3 : K) (h1 : x1*x1 + y1*y1 = 1 + d*(x1*x1*(y1*y1))) (h2 : x2*x2 + y2*y2 = 1 + d*(x2*x2*(y2*y2))) (h3 : x3*x3 + y3*y3 = 1 + d*(x3*x3*(y3*y3))) :
  ((x1*y2+y1*x2)*(1 - d*(x1*x2*(y1*y2)))*y3 + (y1*y2-x1*x2)*(1 + d*(x1*x2*(y1*y2)))*x3) * ((1 + d*(x2*x3*(y2*y3)))*(1 - d*(x2*x3*(y2*y3))) + d*((x2*y3+y2*x3)*(y2*y3-x2*x3)*(x1*y1)))
  = (x1*(y2*y3-x2*x3)*(1 + d*(x2*x3*(y2*y3))) + y1*(x2*y3+y2*x3)*(1 - d*(x2*x3*(y2*y3)))) * ((1 + d*(x1*x2*(y1*y2)))*(1 - d*(x1*x2*(y1*y2))) + d*((x1*y2+y1*x2)*(y1*y2-x1*x2)*(x3*y3))) := by grind
theorem assocy (d x1 y1 x2 y2 x3 y3 : K) (h1 : x1*x1 + y1*y1 = 1 + d*(x1*x1*(y1*y1))) (h2 : x2*x2 + y2*y2 = 1 + d*(x2*x2*(y2*y2))) (h3 : x3*x3 + y3*y3 = 1 + d*(x3*x3*(y3*y3))) :
  ((y1*y2-x1*x2)*(1 + d*(x1*x2*(y1*y2)))*y3 - (x1*y2+y1*x2)*(1 - d*(x1*x2*(y1*y2)))*x3) * ((1 + d*(x2*x3*(y2*y3)))*(1 - d*(x2*x3*(y2*y3))) - d*((x2*y3+y2*x3)*(y2*y3-x2*x3)*(x1*y1)))
  = (y1*(y2*y3-x2*x3)*(1 + d*(x2*x3*(y2*y3))) - x1*(x2*y3+y2*x3)*(1 - d*(x2*x3*(y2*y3)))) * ((1 + d*(x1*x2*(y1*y2)))*(1 - d*(x1*x2*(y1*y2))) - d*((x1*y2+y1*x2)*(y1*y2-x1*x2)*(x3*y3))) := by grind
theorem eq_of_cross {A B C D k l : K} (hk : C * k = 1) (hl : D * l = 1) (h : A * D = B * C) : A * k = B * l := by
  have e1 : A * k = A * D * (k * l) := by grind
  have e2 : B * l = B * C * (k * l) := by grind
  rw [e1, e2, h]
theorem four {i j a b c f : K} (h : a * b = c * f) : i * a * (j * b) = j * c * (i * f) := by
  have e : i * a * (j * b) = i * j * (a * b) := by grind
  rw [e, h]
  grind
theorem crossx {d x1 y1 x3 y3 X Y L M i j X' Y' L' M' i' j' : K} (hi : L * i = 1) (hj : M * j = 1) (hi' : L' * i' = 1) (hj' : M' * j' = 1)
    (h : (X*M*y3 + Y*L*x3) * (L'*M' + d*(X'*Y'*(x1*y1))) = (x1*Y'*L' + y1*X'*M') * (L*M + d*(X*Y*(x3*y3)))) :
    (X*i*y3 + Y*j*x3) * (1 + d*(x1*(X'*i')*(y1*(Y'*j')))) = (x1*(Y'*j') + y1*(X'*i')) * (1 + d*(X*i*x3*(Y*j*y3))) := by
  have e1 : X*i*y3 + Y*j*x3 = i*j*(X*M*y3 + Y*L*x3) := by grind
  have e2 : 1 + d*(x1*(X'*i')*(y1*(Y'*j'))) = i'*j'*(L'*M' + d*(X'*Y'*(x1*y1))) := by grind
  have e3 : x1*(Y'*j') + y1*(X'*i') = i'*j'*(x1*Y'*L' + y1*X'*M') := by grind
  have e4 : 1 + d*(X*i*x3*(Y*j*y3)) = i*j*(L*M + d*(X*Y*(x3*y3))) := by grind
  rw [e1, e2, e3, e4]
  exact four h
theorem crossy {d x1 y1 x3 y3 X Y L M i j X' Y' L' M' i' j' : K} (hi : L * i = 1) (hj : M * j = 1) (hi' : L' * i' = 1) (hj' : M' * j' = 1)
    (h : (Y*L*y3 - X*M*x3) * (L'*M' - d*(X'*Y'*(x1*y1))) = (y1*Y'*L' - x1*X'*M') * (L*M - d*(X*Y*(x3*y3)))) :
    (Y*j*y3 - X*i*x3) * (1 - d*(x1*(X'*i')*(y1*(Y'*j')))) = (y1*(Y'*j') - x1*(X'*i')) * (1 - d*(X*i*x3*(Y*j*y3))) := by
  have e1 : Y*j*y3 - X*i*x3 = i*j*(Y*L*y3 - X*M*x3) := by grind
  have e2 : 1 - d*(x1*(X'*i')*(y1*(Y'*j'))) = i'*j'*(L'*M' - d*(X'*Y'*(x1*y1))) := by grind
  have e3 : y1*(Y'*j') - x1*(X'*i') = i'*j'*(y1*Y'*L' - x1*X'*M') := by grind
  have e4 : 1 - d*(X*i*x3*(Y*j*y3)) = i*j*(L*M - d*(X*Y*(x3*y3))) := by grind
  rw [e1, e2, e3, e4]
  exact four h
theorem add_assoc (hd : Ns d) (P Q R : Pt K d) : add hd (add hd P Q) R = add hd P (add hd Q R) := by
  have a1 := mul_iv (den_p hd P Q)
  have a2 := mul_iv (den_m hd P Q)
  have a3 := mul_iv (den_p hd Q R)
  have a4 := mul_iv (den_m hd Q R)
  apply Pt.ext'
  · exact eq_of_cross (mul_iv (den_p hd (add hd P Q) R)) (mul_iv (den_p hd P (add hd Q R))) (crossx a1 a2 a3 a4 (assocx d P.x P.y Q.x Q.y R.x R.y P.on Q.on R.on))
  · exact eq_of_cross (mul_iv (den_m hd (add hd P Q) R)) (mul_iv (den_m hd P (add hd Q R))) (crossy a1 a2 a3 a4 (assocy d P.x P.y Q.x Q.y R.x R.y P.on Q.on R.on))

/-- Multiples. -/
def sm (hd : Ns d) : Nat → Pt K d → Pt K d
  | 0, _ => nul d
  | n + 1, P => add hd P (sm hd n P)
theorem sm_one (hd : Ns d) (P : Pt K d) : sm hd 1 P = P := add_nul hd P
theorem sm_add (hd : Ns d) (P : Pt K d) (b : Nat) : ∀ a, sm hd (a + b) P = add hd (sm hd a P) (sm hd b P)
  | 0 => by rw [Nat.zero_add, sm, nul_add]
  | a + 1 => by rw [Nat.add_right_comm, sm, sm, sm_add hd P b a, add_assoc]
theorem sm_nul (hd : Ns d) : ∀ a, sm hd a (nul d) = nul d
  | 0 => rfl
  | a + 1 => by rw [sm, sm_nul hd a, nul_add]
theorem sm_mul (hd : Ns d) (P : Pt K d) (b : Nat) : ∀ a, sm hd (a * b) P = sm hd a (sm hd b P)
  | 0 => by rw [Nat.zero_mul, sm, sm]
  | a + 1 => by rw [Nat.succ_mul, Nat.add_comm, sm_add, sm_mul hd P b a, sm]
theorem sm_comm (hd : Ns d) (P : Pt K d) (a b : Nat) : sm hd a (sm hd b P) = sm hd b (sm hd a P) := by
  rw [← sm_mul, ← sm_mul, Nat.mul_comm]
/-- On the line of the neutral point and the one of order 2. -/
theorem y_sq (P : Pt K d) (h : P.x = 0) : P.y * P.y = 1 := by
  have := P.on
  grind
theorem x_zero (hd : Ns d) (P : Pt K d) (h : P.y * P.y = 1) : P.x = 0 := by
  have hon := P.on
  by_cases hx : P.x = 0
  · exact hx
  · have e : P.x * P.x * (1 - d) = 0 := by grind
    rcases mul_or e with h1 | h1
    · rcases mul_or h1 with h2 | h2 <;> exact h2
    · exact absurd (show (1 : K) * 1 = d by grind) (hd 1)
theorem low_add (hd : Ns d) {P Q : Pt K d} (h : P.x = 0) (k : Q.x = 0) : (add hd P Q).x = 0 := by
  show (P.x*Q.y+P.y*Q.x) * iv _ = 0
  rw [h, k]
  grind
theorem low_sm (hd : Ns d) {P : Pt K d} (h : P.x = 0) : ∀ n, (sm hd n P).x = 0
  | 0 => rfl
  | n + 1 => low_add hd h (low_sm hd h n)

/-- The u of a point, 0 where it has none. -/
def ucd (s : K) (P : Pt K d) : K := s * ((1 + P.y) * iv (1 - P.y))
theorem ucd_zero (hd : Ns d) {s : K} (hs : s * s = 1) (P : Pt K d) : ucd s P = 0 ↔ P.x = 0 := by
  have hs0 : s ≠ 0 := fun e => by
    have := one_ne (K := K)
    grind
  constructor
  · intro h
    rcases mul_or h with h1 | h1
    · exact absurd h1 hs0
    · rcases mul_or h1 with h2 | h2
      · exact x_zero hd P (by grind)
      · by_cases h3 : 1 - P.y = 0
        · exact x_zero hd P (by grind)
        · have := mul_iv h3
          have := one_ne (K := K)
          grind
  · intro h
    have e := y_sq P h
    have e2 : (1 - P.y) * (1 + P.y) = 0 := by grind
    unfold ucd
    rcases mul_or e2 with h1 | h1
    · rw [h1, iv_zero]; grind
    · rw [h1]; grind

/-- (X : Z) tells the point's u. -/
def Rep (s : K) (P : Pt K d) (X Z : K) : Prop := ∃ l : K, l ≠ 0 ∧ X = l * (1 + P.y) ∧ Z = s * (l * (1 - P.y))
theorem rep_of {s : K} (hs : s * s = 1) {P : Pt K d} {X Z : K} (h : X * (1 - P.y) = s * (Z * (1 + P.y))) (hn : ¬ (X = 0 ∧ Z = 0)) : Rep s P X Z := by
  have ht := mul_iv (two_ne (K := K))
  have e1 : X = (X + s * Z) * iv (1 + 1) * (1 + P.y) := by grind
  have e2 : Z = s * ((X + s * Z) * iv (1 + 1) * (1 - P.y)) := by grind
  refine ⟨(X + s * Z) * iv (1 + 1), fun e => hn ?_, e1, e2⟩
  rw [e] at e1 e2
  exact ⟨by rw [e1]; grind, by rw [e2]; grind⟩
theorem rep_of' {s : K} (hs : s * s = 1) {P : Pt K d} {X Z : K} (h : X * (1 - P.y) = s * (Z * (1 + P.y))) (hn : ¬ (X = 0 ∧ Z = 0)) : Rep s P X Z := rep_of hs h hn
theorem rep_u {s : K} (hs : s * s = 1) {P : Pt K d} {X Z : K} (h : Rep s P X Z) : X * iv Z = ucd s P := by
  obtain ⟨l, hl, rfl, rfl⟩ := h
  have h1 := mul_iv hl
  have h2 : iv s = s := iv_uniq hs
  rw [iv_mul, iv_mul, h2, ucd]
  grind

/-- The ladder's step. -/
def dblX (X Z : K) : K := (X + Z) * (X + Z) * ((X - Z) * (X - Z))
def dblZ (c X Z : K) : K := ((X + Z) * (X + Z) - (X - Z) * (X - Z)) * (c * ((X + Z) * (X + Z) - (X - Z) * (X - Z)) + (X + Z) * (X + Z))
def sumX (X Z X' Z' : K) : K := ((X' - Z') * (X + Z) + (X' + Z') * (X - Z)) * ((X' - Z') * (X + Z) + (X' + Z') * (X - Z))
def sumZ (u X Z X' Z' : K) : K := ((X' - Z') * (X + Z) - (X' + Z') * (X - Z)) * ((X' - Z') * (X + Z) - (X' + Z') * (X - Z)) * u

/-- The curve, or its twist, that fits to c. -/
def Fits (c s d : K) : Prop := (s = 1 ∧ d * (c + 1) = c) ∨ (s = -1 ∧ d * c = c + 1)
theorem Fits.sq {c s d : K} (h : Fits c s d) : s * s = 1 := by
  rcases h with ⟨h, _⟩ | ⟨h, _⟩ <;> grind

theorem dbl_core {d x y j : K} (on : x * x + y * y = 1 + d * (x * x * (y * y))) (hj : (1 - d*(x*x*(y*y))) * j = 1) :
    (1 - (y*y-x*x)*j) = (1 + 1) * (1 - y * y) * j ∧ (1 + (y*y-x*x)*j) = (1 + 1) * (1 - x * x) * j := by
  constructor <;> grind
theorem dbl_rep {c s : K} (hf : Fits c s d) (hd : Ns d) {P : Pt K d} {X Z : K} (h : Rep s P X Z) : Rep s (add hd P P) (dblX X Z) (dblZ c X Z) := by
  have hs := hf.sq
  obtain ⟨l, hl, rfl, rfl⟩ := h
  have hj := mul_iv (den_m hd P P)
  obtain ⟨c1, c2⟩ := dbl_core P.on hj
  have hon := P.on
  have h2 := two_ne (K := K)
  have hns := hd
  obtain ⟨x, y, on⟩ := P
  simp only at *
  have e : (add hd (⟨x, y, on⟩ : Pt K d) ⟨x, y, on⟩).y = (y*y-x*x) * iv (1 - d*(x*x*(y*y))) := rfl
  generalize iv (1 - d*(x*x*(y*y))) = j at *
  refine rep_of hs ?_ ?_
  · rw [e, c1, c2]
    rcases hf with ⟨rfl, hc⟩ | ⟨rfl, hc⟩
    · have k1 : (1 - x * x) * (1 + c * (1 - y * y)) = y * y := by grind
      unfold dblX dblZ
      grind
    · have k1 : (1 - x * x) * (y * y + c * (y * y - 1)) = y * y := by grind
      unfold dblX dblZ
      grind
  · intro ⟨e1, e2⟩
    have l4 : l * l * (l * l) ≠ 0 := mul_ne (mul_ne hl hl) (mul_ne hl hl)
    have t4 : ((1 : K) + 1) * (1 + 1) * ((1 + 1) * (1 + 1)) ≠ 0 := mul_ne (mul_ne h2 h2) (mul_ne h2 h2)
    have ff : l * l * (l * l) * (((1 : K) + 1) * (1 + 1) * ((1 + 1) * (1 + 1))) ≠ 0 := mul_ne l4 t4
    unfold dblX at e1
    unfold dblZ at e2
    rcases hf with ⟨rfl, hc⟩ | ⟨rfl, hc⟩
    · have e3 : l * l * (l * l) * ((1 + 1) * (1 + 1) * ((1 + 1) * (1 + 1))) * (y * y) = 0 := by grind
      have e4 : y * y = 0 := (mul_or e3).resolve_left ff
      have e5 : l * l * (l * l) * ((1 + 1) * (1 + 1) * ((1 + 1) * (1 + 1))) * (c + 1) = 0 := by grind
      have e6 : c + 1 = 0 := (mul_or e5).resolve_left ff
      have e7 : (1 : K) = 0 := by grind
      exact one_ne e7
    · have e3 : l * l * (l * l) * ((1 + 1) * (1 + 1) * ((1 + 1) * (1 + 1))) * (y * y) = 0 := by grind
      have e4 : y * y = 0 := (mul_or e3).resolve_left ff
      have e5 : l * l * (l * l) * ((1 + 1) * (1 + 1) * ((1 + 1) * (1 + 1))) * c = 0 := by grind
      have e6 : c = 0 := (mul_or e5).resolve_left ff
      have e7 : (1 : K) = 0 := by grind
      exact one_ne e7

theorem sum_core {d x2 y2 x3 y3 i j : K} (h2 : x2*x2 + y2*y2 = 1 + d*(x2*x2*(y2*y2))) (h3 : x3*x3 + y3*y3 = 1 + d*(x3*x3*(y3*y3))) :
    (y2+y3)*(y2+y3)*((1 + d*(x2*x3*(y2*y3)) - (y2*y3+x2*x3))*(1 - d*(x2*x3*(y2*y3)) - (y2*y3-x2*x3))) = (y3-y2)*(y3-y2)*((1 + d*(x2*x3*(y2*y3)) + (y2*y3+x2*x3))*(1 - d*(x2*x3*(y2*y3)) + (y2*y3-x2*x3))) := by grind
theorem sum_over {A B L M p s i j : K} (hi : L * i = 1) (hj : M * j = 1) (h : A*((L - p)*(M - s)) = B*((L + p)*(M + s))) : A*((1 - p*i)*(1 - s*j)) = B*((1 + p*i)*(1 + s*j)) := by
  have e1 : A*((1 - p*i)*(1 - s*j)) = i*j*(A*((L - p)*(M - s))) := by grind
  have e2 : B*((1 + p*i)*(1 + s*j)) = i*j*(B*((L + p)*(M + s))) := by grind
  rw [e1, e2, h]
/-- The y of a sum and of the difference. -/
theorem sum_y (hd : Ns d) (Q R : Pt K d) : (Q.y+R.y)*(Q.y+R.y)*((1 - (add hd R (neg Q)).y)*(1 - (add hd R Q).y)) = (R.y-Q.y)*(R.y-Q.y)*((1 + (add hd R (neg Q)).y)*(1 + (add hd R Q).y)) := by
  have hi := mul_iv (den_m hd R (neg Q))
  have hj := mul_iv (den_m hd R Q)
  have hc := sum_core (d := d) (i := 0) (j := 0) Q.on R.on
  have e1 : (add hd R (neg Q)).y = (R.y*Q.y-R.x*(-Q.x)) * iv (1 - d*(R.x*(-Q.x)*(R.y*Q.y))) := rfl
  have e2 : (add hd R Q).y = (R.y*Q.y-R.x*Q.x) * iv (1 - d*(R.x*Q.x*(R.y*Q.y))) := rfl
  have hi' : (1 - d*(R.x*(-Q.x)*(R.y*Q.y))) * iv (1 - d*(R.x*(-Q.x)*(R.y*Q.y))) = 1 := hi
  rw [e1, e2]
  refine sum_over hi' hj ?_
  rw [show 1 - d*(R.x*(-Q.x)*(R.y*Q.y)) = 1 + d*(Q.x*R.x*(Q.y*R.y)) by grind, show R.y*Q.y-R.x*(-Q.x) = Q.y*R.y+Q.x*R.x by grind, show 1 - d*(R.x*Q.x*(R.y*Q.y)) = 1 - d*(Q.x*R.x*(Q.y*R.y)) by grind, show R.y*Q.y-R.x*Q.x = Q.y*R.y-Q.x*R.x by grind]
  exact hc

theorem back {A B z : K} (h : B * z = 1) : A * z * B = A := by grind
theorem sum_fin {s f A B u p ys : K} (hs : s * s = 1) (hp : u * (1 - p) = s * (1 + p)) (hy : 1 - p ≠ 0) (key : A * ((1 - p) * (1 - ys)) = B * ((1 + p) * (1 + ys))) : f * A * (1 - ys) = s * (f * (B * u) * (1 + ys)) := by
  have k3 : s * (s * (1 + p)) = 1 + p := by grind
  have e1 : (1 - p) * (f * A * (1 - ys)) = f * (A * ((1 - p) * (1 - ys))) := by grind
  have e2 : (1 - p) * (s * (f * (B * u) * (1 + ys))) = f * (B * (s * (u * (1 - p)) * (1 + ys))) := by grind
  have e3 : (1 - p) * (f * A * (1 - ys)) = (1 - p) * (s * (f * (B * u) * (1 + ys))) := by rw [e1, e2, key, hp, k3]
  have e4 := mul_iv hy
  have e5 : ∀ a : K, a = iv (1 - p) * ((1 - p) * a) := fun a => by
    generalize iv (1 - p) = j at e4
    generalize 1 - p = q at e4
    grind
  rw [e5 (f * A * (1 - ys)), e3, ← e5]
theorem low_case {d xq yq xr yr yp : K} (hQ : xq*xq + yq*yq = 1 + d*(xq*xq*(yq*yq))) (hR : xr*xr + yr*yr = 1 + d*(xr*xr*(yr*yr))) (a7 : yr = 0) (a8 : yq = 0) (hz : yp * (1 - d * (xr * (-xq) * (yr * yq))) = yr * yq - xr * (-xq)) : yp * yp = 1 := by
  subst a7 a8
  have b1 : xq * xq = 1 := by grind
  have b2 : xr * xr = 1 := by grind
  have b3 : yp = xr * xq := by grind
  rw [b3]
  grind
theorem sum_rep {c s u : K} (hf : Fits c s d) (hd : Ns d) {P Q R : Pt K d} (hR : R = add hd P Q) (hu : u ≠ 0) (hP : u * (1 - P.y) = s * (1 + P.y)) {X Z X' Z' : K} (h : Rep s Q X Z) (h' : Rep s R X' Z') :
    Rep s (add hd Q R) (sumX X Z X' Z') (sumZ u X Z X' Z') := by
  have hs := hf.sq
  have hdiff : add hd R (neg Q) = P := by rw [hR, add_assoc, add_neg, add_nul]
  have key := sum_y hd Q R
  rw [hdiff] at key
  rw [add_comm hd Q R]
  have hPy : (1 - P.y) ≠ 0 := fun e => by
    have h2 := two_ne (K := K)
    have e1 : P.y = 1 := by grind
    rw [e, e1] at hP
    have e2 : s * (1 + 1) = 0 := by grind
    rcases mul_or e2 with h3 | h3
    · have := one_ne (K := K); grind
    · exact h2 h3
  have hPx : P.x ≠ 0 := fun e => by
    have hy := y_sq P e
    have e2 : (1 - P.y) * (1 + P.y) = 0 := by grind
    have e3 : 1 + P.y = 0 := (mul_or e2).resolve_left hPy
    rw [e3] at hP
    have e4 : u * (1 - P.y) = 0 := by grind
    exact (mul_ne hu hPy) e4
  obtain ⟨l, hl, rfl, rfl⟩ := h
  obtain ⟨m, hm, rfl, rfl⟩ := h'
  have h2 := two_ne (K := K)
  have l4 : l * l * (m * m) ≠ 0 := mul_ne (mul_ne hl hl) (mul_ne hm hm)
  have t4 : ((1 : K) + 1) * (1 + 1) * ((1 + 1) * (1 + 1)) ≠ 0 := mul_ne (mul_ne h2 h2) (mul_ne h2 h2)
  have ff : l * l * (m * m) * (((1 : K) + 1) * (1 + 1) * ((1 + 1) * (1 + 1))) ≠ 0 := mul_ne l4 t4
  have sX : sumX (l * (1 + Q.y)) (s * (l * (1 - Q.y))) (m * (1 + R.y)) (s * (m * (1 - R.y))) = l * l * (m * m) * ((1 + 1) * (1 + 1) * ((1 + 1) * (1 + 1))) * ((Q.y + R.y) * (Q.y + R.y)) := by
    unfold sumX
    rcases hf with ⟨rfl, _⟩ | ⟨rfl, _⟩ <;> grind
  have sZ : sumZ u (l * (1 + Q.y)) (s * (l * (1 - Q.y))) (m * (1 + R.y)) (s * (m * (1 - R.y))) = l * l * (m * m) * ((1 + 1) * (1 + 1) * ((1 + 1) * (1 + 1))) * ((R.y - Q.y) * (R.y - Q.y) * u) := by
    unfold sumZ
    rcases hf with ⟨rfl, _⟩ | ⟨rfl, _⟩ <;> grind
  rw [sX, sZ]
  generalize l * l * (m * m) * (((1 : K) + 1) * (1 + 1) * ((1 + 1) * (1 + 1))) = f at ff
  have hz : (add hd R (neg Q)).y * (1 - d * (R.x * (-Q.x) * (R.y * Q.y))) = R.y * Q.y - R.x * (-Q.x) := by
    have hi := mul_iv (den_m hd R (neg Q))
    have hi' : (1 - d*(R.x*(-Q.x)*(R.y*Q.y))) * iv (1 - d*(R.x*(-Q.x)*(R.y*Q.y))) = 1 := hi
    have e1 : (add hd R (neg Q)).y = (R.y*Q.y-R.x*(-Q.x)) * iv (1 - d*(R.x*(-Q.x)*(R.y*Q.y))) := rfl
    rw [e1]
    exact back hi'
  rw [hdiff] at hz
  have honQ := Q.on
  have honR := R.on
  have honP := P.on
  refine rep_of' hs ?_ ?_
  all_goals (generalize (add hd R Q).y = ys at key ⊢)
  · exact sum_fin hs hP hPy key
  · intro ⟨e1, e2⟩
    have a1 : (Q.y + R.y) * (Q.y + R.y) = 0 := (mul_or e1).resolve_left ff
    have a2 : (R.y - Q.y) * (R.y - Q.y) * u = 0 := (mul_or e2).resolve_left ff
    have a3 : (R.y - Q.y) * (R.y - Q.y) = 0 := (mul_or a2).resolve_right hu
    have a4 : Q.y + R.y = 0 := by rcases mul_or a1 with h | h <;> exact h
    have a5 : R.y - Q.y = 0 := by rcases mul_or a3 with h | h <;> exact h
    have a6 : R.y * (1 + 1) = 0 := by grind
    have a7 : R.y = 0 := (mul_or a6).resolve_right h2
    have a8 : Q.y = 0 := by grind
    have b4 : P.y * P.y = 1 := low_case honQ honR a7 a8 hz
    exact hPx (x_zero hd P b4)

/-- One round of the ladder. -/
theorem round0 {c s u : K} (hf : Fits c s d) (hd : Ns d) {P : Pt K d} (hu : u ≠ 0) (hP : u * (1 - P.y) = s * (1 + P.y)) {X Z X' Z' : K} (n : Nat) (h : Rep s (sm hd n P) X Z) (h' : Rep s (sm hd (n + 1) P) X' Z') :
    Rep s (sm hd (2 * n) P) (dblX X Z) (dblZ c X Z) ∧ Rep s (sm hd (2 * n + 1) P) (sumX X Z X' Z') (sumZ u X Z X' Z') := by
  constructor
  · rw [Nat.two_mul, sm_add]; exact dbl_rep hf hd h
  · rw [show 2 * n + 1 = n + (n + 1) by omega, sm_add]; exact sum_rep hf hd rfl hu hP h h'
theorem sumX_comm (X Z X' Z' : K) : sumX X' Z' X Z = sumX X Z X' Z' := by unfold sumX; grind
theorem sumZ_comm (u X Z X' Z' : K) : sumZ u X' Z' X Z = sumZ u X Z X' Z' := by unfold sumZ; grind
theorem round1 {c s u : K} (hf : Fits c s d) (hd : Ns d) {P : Pt K d} (hu : u ≠ 0) (hP : u * (1 - P.y) = s * (1 + P.y)) {X Z X' Z' : K} (n : Nat) (h : Rep s (sm hd n P) X Z) (h' : Rep s (sm hd (n + 1) P) X' Z') :
    Rep s (sm hd (2 * n + 1) P) (sumX X' Z' X Z) (sumZ u X' Z' X Z) ∧ Rep s (sm hd (2 * n + 1 + 1) P) (dblX X' Z') (dblZ c X' Z') := by
  constructor
  · rw [show 2 * n + 1 = n + (n + 1) by omega, sm_add, sumX_comm, sumZ_comm]; exact sum_rep hf hd rfl hu hP h h'
  · rw [show 2 * n + 1 + 1 = (n + 1) + (n + 1) by omega, sm_add]; exact dbl_rep hf hd h'

/-- The ladder. -/
structure L4 (K : Type) where
  x2 : K
  z2 : K
  x3 : K
  z3 : K
def ladK (c u : K) (k : Nat) : Nat → L4 K
  | 0 => ⟨1, 0, u, 1⟩
  | j + 1 => if k / 2 ^ (254 - j) % 2 = 1 then ⟨sumX (ladK c u k j).x3 (ladK c u k j).z3 (ladK c u k j).x2 (ladK c u k j).z2, sumZ u (ladK c u k j).x3 (ladK c u k j).z3 (ladK c u k j).x2 (ladK c u k j).z2, dblX (ladK c u k j).x3 (ladK c u k j).z3, dblZ c (ladK c u k j).x3 (ladK c u k j).z3⟩
    else ⟨dblX (ladK c u k j).x2 (ladK c u k j).z2, dblZ c (ladK c u k j).x2 (ladK c u k j).z2, sumX (ladK c u k j).x2 (ladK c u k j).z2 (ladK c u k j).x3 (ladK c u k j).z3, sumZ u (ladK c u k j).x2 (ladK c u k j).z2 (ladK c u k j).x3 (ladK c u k j).z3⟩
def tmK (c : K) (k : Nat) (u : K) : K := (ladK c u k 255).x2 * iv (ladK c u k 255).z2

theorem lad_rep {c s u : K} (hf : Fits c s d) (hd : Ns d) {P : Pt K d} (hu : u ≠ 0) (hP : u * (1 - P.y) = s * (1 + P.y)) (k : Nat) (hk : k < 2 ^ 255) : ∀ j, j ≤ 255 →
    Rep s (sm hd (k / 2 ^ (255 - j)) P) (ladK c u k j).x2 (ladK c u k j).z2 ∧ Rep s (sm hd (k / 2 ^ (255 - j) + 1) P) (ladK c u k j).x3 (ladK c u k j).z3
  | 0, _ => by
    have e : k / 2 ^ (255 - 0) = 0 := Nat.div_eq_of_lt hk
    rw [e]
    constructor
    · have ht := mul_iv (two_ne (K := K))
      refine ⟨iv (1 + 1), fun e => ?_, ?_, ?_⟩
      · have := one_ne (K := K)
        rw [e] at ht
        grind
      · show (1 : K) = _ * (1 + 1); grind
      · show (0 : K) = s * (_ * (1 - 1)); grind
    · rw [Nat.zero_add, sm_one]
      refine rep_of hf.sq ?_ ?_
      · show u * (1 - P.y) = s * (1 * (1 + P.y)); grind
      · intro ⟨e1, _⟩; exact hu e1
  | j + 1, hj => by
    have ih := lad_rep hf hd hu hP k hk j (by omega)
    have e1 : 255 - j = (254 - j) + 1 := by omega
    have e2 : 255 - (j + 1) = 254 - j := by omega
    have e3 : k / 2 ^ (254 - j) = 2 * (k / 2 ^ (255 - j)) + k / 2 ^ (254 - j) % 2 := by
      rw [e1, Nat.pow_succ, ← Nat.div_div_eq_div_mul]; omega
    rw [e2]
    generalize k / 2 ^ (255 - j) = n at ih e3
    rw [ladK]
    split
    · rename_i hb
      rw [e3, hb]
      exact round1 hf hd hu hP n ih.1 ih.2
    · rename_i hb
      have hb' : k / 2 ^ (254 - j) % 2 = 0 := by omega
      rw [e3, hb', Nat.add_zero]
      exact round0 hf hd hu hP n ih.1 ih.2
theorem times_is {c s u : K} (hf : Fits c s d) (hd : Ns d) {P : Pt K d} (hu : u ≠ 0) (hP : u * (1 - P.y) = s * (1 + P.y)) (k : Nat) (hk : k < 2 ^ 255) : tmK c k u = ucd s (sm hd k P) := by
  have h := (lad_rep hf hd hu hP k hk 255 (by omega)).1
  rw [Nat.sub_self, Nat.pow_zero, Nat.div_one] at h
  exact rep_u hf.sq h
/-- Of 0. -/
theorem lad_zero (c : K) (k : Nat) : ∀ j, (ladK c 0 k j).x2 * (ladK c 0 k j).z2 = 0 ∧ (ladK c 0 k j).x3 * (ladK c 0 k j).z3 = 0
  | 0 => ⟨by show (1 : K) * 0 = 0; grind, by show (0 : K) * 1 = 0; grind⟩
  | j + 1 => by
    obtain ⟨h1, h2⟩ := lad_zero c k j
    have hS : ∀ X Z X' Z' : K, sumZ 0 X Z X' Z' = 0 := fun X Z X' Z' => by unfold sumZ; grind
    have hD : ∀ X Z : K, X * Z = 0 → dblZ c X Z = 0 := fun X Z h => by
      unfold dblZ
      have e : (X + Z) * (X + Z) - (X - Z) * (X - Z) = 0 := by grind
      rw [e]; grind
    rw [ladK]
    split
    · simp only [hS, hD _ _ h2]
      constructor <;> grind
    · simp only [hS, hD _ _ h1]
      constructor <;> grind
theorem times_zero (c : K) (k : Nat) : tmK c k 0 = 0 := by
  have h := (lad_zero c k 255).1
  unfold tmK
  rcases mul_or h with h1 | h1
  · rw [h1]; grind
  · rw [h1, iv_zero]; grind

/-- Every number but 0 is the u of a point of the curve or of its twist. -/
theorem point (c : K) (hc : Ns (c * (c + 1))) (sq : ∀ a b : K, (∃ s, s * s = a) ∨ (∃ s, s * s = b) ∨ ∃ s, s * s = a * b) (u : K) (hu : u ≠ 0) :
    ∃ s d : K, Fits c s d ∧ ∃ hd : Ns d, ∃ P : Pt K d, u * (1 - P.y) = s * (1 + P.y) := by
  have h2 := two_ne (K := K)
  have hc0 : c ≠ 0 := fun e => hc 0 (by rw [e]; grind)
  have hc1 : c + 1 ≠ 0 := fun e => hc 0 (by rw [e]; grind)
  obtain ⟨W, hW⟩ : ∃ W, W = u * u + ((1 + 1) * (1 + 1) * c + (1 + 1)) * u + 1 := ⟨_, rfl⟩
  have hW0 : W ≠ 0 := fun e => by
    have := hc.zero (a := u + (1 + 1) * c + 1) (b := 1 + 1) (by grind)
    exact h2 this
  have hw : u * W ≠ 0 := mul_ne hu hW0
  have hi := mul_iv hW0
  rcases sq ((c + 1) * (u * W)) (c * (u * W)) with ⟨t, ht⟩ | ⟨t, ht⟩ | ⟨t, ht⟩
  · have hu1 : u + 1 ≠ 0 := fun e => by
      have : u = -1 := by grind
      exact h2 (hc.zero (a := t) (b := 1 + 1) (by rw [ht, hW, this]; grind))
    have hj := mul_iv hu1
    have hk := mul_iv hc1
    refine ⟨1, c * iv (c + 1), .inl ⟨rfl, by grind⟩, fun z hz => hc (z * (c + 1)) (by grind), ⟨(1 + 1) * t * iv W, (u - 1) * iv (u + 1), ?_⟩, ?_⟩
    · have hxx : (1 + 1) * t * iv W * ((1 + 1) * t * iv W) = (1 + 1) * (1 + 1) * ((c + 1) * u * iv W) := by grind
      rw [hxx]
      have hd : c * iv (c + 1) * (c + 1) = c := by grind
      generalize c * iv (c + 1) = d at *
      have e1 : (c + 1) * ((u + 1) * (u + 1) - d * ((u - 1) * (u - 1))) = W := by grind
      generalize iv W = i at *
      generalize iv (u + 1) = j at *
      clear hk hxx ht
      grind
    · show u * (1 - (u - 1) * iv (u + 1)) = 1 * (1 + (u - 1) * iv (u + 1))
      grind
  · have hu1 : u - 1 ≠ 0 := fun e => by
      have : u = 1 := by grind
      exact h2 (hc.zero (a := t) (b := 1 + 1) (by rw [ht, hW, this]; grind))
    have hj := mul_iv hu1
    have hk := mul_iv hc0
    refine ⟨-1, (c + 1) * iv c, .inr ⟨rfl, by grind⟩, fun z hz => hc (z * c) (by grind), ⟨(1 + 1) * t * iv W, (u + 1) * iv (u - 1), ?_⟩, ?_⟩
    · have hxx : (1 + 1) * t * iv W * ((1 + 1) * t * iv W) = (1 + 1) * (1 + 1) * (c * u * iv W) := by grind
      rw [hxx]
      have hd : (c + 1) * iv c * c = c + 1 := by grind
      generalize (c + 1) * iv c = d at *
      have e1 : c * ((u - 1) * (u - 1) - d * ((u + 1) * (u + 1))) = -W := by grind
      generalize iv W = i at *
      generalize iv (u - 1) = j at *
      clear hk hxx ht
      grind
    · show u * (1 - (u + 1) * iv (u - 1)) = -1 * (1 + (u + 1) * iv (u - 1))
      grind
  · exact absurd (hc.zero (a := t) (b := u * W) (by grind)) hw

theorem ucd_rel {s : K} (P : Pt K d) (h : ucd s P ≠ 0) : ucd s P * (1 - P.y) = s * (1 + P.y) := by
  have hy : 1 - P.y ≠ 0 := fun e => h (by unfold ucd; rw [e, iv_zero]; grind)
  have := mul_iv hy
  unfold ucd
  grind
/-- One number and then the other, in either order. -/
theorem meets (c : K) (hc : Ns (c * (c + 1))) (sq : ∀ a b : K, (∃ s, s * s = a) ∨ (∃ s, s * s = b) ∨ ∃ s, s * s = a * b) (a b : Nat) (ha : a < 2 ^ 255) (hb : b < 2 ^ 255) (u : K) : tmK c a (tmK c b u) = tmK c b (tmK c a u) := by
  by_cases hu : u = 0
  · simp only [hu, times_zero]
  · obtain ⟨s, d, hf, hd, P, hP⟩ := point c hc sq u hu
    have hs := hf.sq
    have two : ∀ a b, a < 2 ^ 255 → b < 2 ^ 255 → tmK c a (tmK c b u) = ucd s (sm hd a (sm hd b P)) := fun a b ha hb => by
      rw [times_is hf hd hu hP b hb]
      by_cases hv : ucd s (sm hd b P) = 0
      · rw [hv, times_zero]
        exact ((ucd_zero hd hs _).2 (low_sm hd ((ucd_zero hd hs _).1 hv) a)).symm
      · exact times_is hf hd hv (ucd_rel _ hv) a ha
    rw [two a b ha hb, two b a hb ha, sm_comm]
end Edw
