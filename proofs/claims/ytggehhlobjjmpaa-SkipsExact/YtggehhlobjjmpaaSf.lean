import Derived.Test.YtggehhlobjjmpaaSe
set_option linter.unusedVariables false
set_option linter.unusedSimpArgs false
namespace Go.Proofs.Ytggehhlobjjmpaa
open Go.RowKit

theorem subU (a b : Nat) (h : b ≤ a) (ha : a < 4294967296) (W : World) (x y : Operand) : (do eqGuard .sub 31 x y (u32v a) (u32v b); binOp .sub 31 (u32v a) (u32v b) : Sem Value).run Try.prog W = .ok (u32v (a - b)) W := by
  have e : IntKind.u32.wrap ((a : Int) - (b : Int)) = ((a - b : Nat) : Int) := by
    simp [IntKind.wrap, IntKind.bits, IntKind.signed]; omega
  unfold u32v
  go_simp
theorem cv75 (i : Nat) (h : i < 9223372036854775808) (W : World) : (Go.convert 3 75 (.int .i64 (i : Int))).run Try.prog W = .ok (.int .u64 (i : Int)) W := by
  have e : IntKind.u64.wrap (i : Int) = (i : Int) := by
    simp [IntKind.wrap, IntKind.bits, IntKind.signed]; omega
  go_simp
theorem cv75u (i : Nat) (h : i < 4294967296) (W : World) : (Go.convert 31 75 (u32v i)).run Try.prog W = .ok (.int .u64 (i : Int)) W := by
  have e : IntKind.u64.wrap (i : Int) = (i : Int) := by
    simp [IntKind.wrap, IntKind.bits, IntKind.signed]; omega
  unfold u32v
  go_simp
theorem gtr75 (n m : Nat) (W : World) (x y : Operand) : (do eqGuard .gtr 75 x y (.int .u64 (n : Int)) (.int .u64 (m : Int)); binOp .gtr 75 (.int .u64 (n : Int)) (.int .u64 (m : Int)) : Sem Value).run Try.prog W = .ok (.bool (decide (m < n))) W := by
  go_simp
set_option maxRecDepth 100000 in
set_option maxHeartbeats 1000000 in
theorem ends_any (f m : Nat) (hf : f < 4294967296) (hm : m < 9223372036854775808) (w : World) : Calls Try.prog 18 #[u32v f, .int .i64 (m : Int)] w fun e w' => e = .returned (.bool (decide (4294967296 < f + m))) ∧ w' = w := by
  by_cases hz : 0 < m
  · have h0 : (0 : Int) < (m : Int) := by omega
    refine calls_of_args [u32v f, .int .i64 (m : Int)] Try.func18 rfl 18 Try.ntmps18 (by show 2 ≤ 18; decide) ?_
    refine EW.seq ?_
    refine EW.region ?_
    first | refine WL.assign rfl rfl rfl ?_
    refine WL.done ?_
    refine EW.on ?_
    refine EW.seq ?_
    refine EW.region ?_
    first | refine WL.move rfl rfl rfl ?_
    refine WL.bin rfl rfl rfl rfl (subU 4294967295 f (by omega) (by decide) _ _ _) ?_
    first | refine WL.assign rfl rfl rfl ?_
    refine WL.done ?_
    refine EW.on ?_
    refine EW.seq ?_
    refine EW.region ?_
    first | refine WL.move rfl rfl rfl ?_
    refine WL.bin rfl rfl rfl rfl (int_gt_t h0 _ _ _) ?_
    first | refine WL.move rfl rfl rfl ?_
    first | refine WL.move rfl rfl rfl ?_ | refine WL.skip _ rfl rfl rfl ?_
    refine WL.bin rfl rfl rfl rfl (int_sub (c := ((m - 1 : Nat) : Int)) (by rw [IntKind.wrap_i64]; omega) _ _ _) ?_
    refine WL.conv rfl rfl rfl (cv75 _ (by omega) _) ?_
    first | refine WL.move rfl rfl rfl ?_ | refine WL.skip _ rfl rfl rfl ?_
    refine WL.conv rfl rfl rfl (cv75u _ (by omega) _) ?_
    refine WL.bin rfl rfl rfl rfl (gtr75 _ _ _ _ _) ?_
    first | refine WL.pick rfl rfl rfl rfl ?_
    first | refine WL.assign rfl rfl rfl ?_
    refine WL.done ?_
    refine EW.on ?_
    refine EW.ret ?_
    exact EW.returns Try.results18 rfl ⟨by rw [show decide (4294967296 < f + m) = decide (4294967295 - f < m - 1) from decide_eq_decide.2 (by omega)], rfl⟩
  · have h0 : ¬ (0 : Int) < (m : Int) := by omega
    refine calls_of_args [u32v f, .int .i64 (m : Int)] Try.func18 rfl 18 Try.ntmps18 (by show 2 ≤ 18; decide) ?_
    refine EW.seq ?_
    refine EW.region ?_
    first | refine WL.assign rfl rfl rfl ?_
    refine WL.done ?_
    refine EW.on ?_
    refine EW.seq ?_
    refine EW.region ?_
    first | refine WL.move rfl rfl rfl ?_
    refine WL.bin rfl rfl rfl rfl (subU 4294967295 f (by omega) (by decide) _ _ _) ?_
    first | refine WL.assign rfl rfl rfl ?_
    refine WL.done ?_
    refine EW.on ?_
    refine EW.seq ?_
    refine EW.region ?_
    first | refine WL.move rfl rfl rfl ?_
    refine WL.bin rfl rfl rfl rfl (int_gt_f h0 _ _ _) ?_
    first | refine WL.move rfl rfl rfl ?_
    refine WL.skip _ rfl rfl rfl ?_
    refine WL.skip _ rfl rfl rfl ?_
    refine WL.skip _ rfl rfl rfl ?_
    refine WL.skip _ rfl rfl rfl ?_
    refine WL.skip _ rfl rfl rfl ?_
    refine WL.skip _ rfl rfl rfl ?_
    first | refine WL.pick rfl rfl rfl rfl ?_
    first | refine WL.assign rfl rfl rfl ?_
    refine WL.done ?_
    refine EW.on ?_
    refine EW.ret ?_
    exact EW.returns Try.results18 rfl ⟨by rw [show decide (4294967296 < f + m) = false from decide_eq_false (by omega)], rfl⟩
/-- What comes in. -/
def adE (t f c : Nat) (Ks : List (List UInt8)) : List Me := (Ks.zipIdx 0).map fun x => ⟨t, f + x.2, x.1, c + x.2⟩
theorem adE_snoc (t f c : Nat) (Ks : List (List UInt8)) (i : Nat) (K : List UInt8) (h : Ks[i]? = some K) : adE t f c (Ks.take (i + 1)) = adE t f c (Ks.take i) ++ [⟨t, f + i, K, c + i⟩] := by
  have hi : i < Ks.length := (List.getElem?_eq_some_iff.1 h).1
  unfold adE
  rw [List.take_add_one, h, List.zipIdx_append, List.map_append]
  congr 1
  simp [Nat.min_eq_left (Nat.le_of_lt hi)]
theorem adE_len (t f c : Nat) (Ks : List (List UInt8)) : (adE t f c Ks).length = Ks.length := by simp [adE]
def takenB (E : List Me) (t f : Nat) (m : Nat) : Bool := (List.range m).any fun i => (lkE E t (f + i)).isSome
theorem taken_t {E : List Me} {t f m i : Nat} (hi : i < m) (h : lkE E t (f + i) ≠ none) : takenB E t f m = true := by
  unfold takenB
  rw [List.any_eq_true]
  exact ⟨i, List.mem_range.2 hi, Option.isSome_iff_ne_none.2 h⟩
theorem taken_f {E : List Me} {t f m : Nat} (h : ∀ i, i < m → lkE E t (f + i) = none) : takenB E t f m = false := by
  unfold takenB
  rw [List.any_eq_false]
  intro i hi
  rw [h i (List.mem_range.1 hi)]
  simp
/-- What Add answers. -/
def adN (E : List Me) (most t f m : Nat) : Int := if 4294967296 < f + m then 130 else if takenB E t f m = true then 151 else if most < E.length + m then 150 else 0
theorem lk_snoc {E : List Me} {x : Me} {t n : Nat} (h : lkE E t n = none) (hx : ¬ (t = x.t ∧ n = x.n)) : lkE (E ++ [x]) t n = none := by
  have h1 := lk_none h
  unfold lkE
  rw [List.find?_eq_none.2]
  · rfl
  · intro m hm
    rcases List.mem_append.1 hm with hm | hm
    · simpa using h1 m hm
    · rw [List.mem_singleton.1 hm]; simpa using hx
theorem lk_of_none {E : List Me} {t n : Nat} (h : ∀ m ∈ E, ¬ (t = m.t ∧ n = m.n)) : lkE E t n = none := by
  unfold lkE
  rw [List.find?_eq_none.2]
  · rfl
  · intro m hm; simpa using h m hm
theorem adE_lk {E : List Me} {t f c : Nat} {Ks : List (List UInt8)} {i : Nat} (h : lkE E t (f + i) = none) : lkE (E ++ adE t f c (Ks.take i)) t (f + i) = none := by
  refine lk_of_none fun m hm => ?_
  rcases List.mem_append.1 hm with hm | hm
  · exact lk_none h m hm
  · obtain ⟨x, hx, rfl⟩ := List.mem_map.1 hm
    have := List.mem_zipIdx hx
    simp only [List.length_take] at this
    intro hh
    have h2 := hh.2
    dsimp only at h2
    omega
theorem below_succ {Q : Nat → Prop} {x : Nat} (h : ∀ j, j < x → Q j) (hx : Q x) : ∀ j, j < x + 1 → Q j := fun j hj => by
  rcases Nat.lt_or_ge j x with e | e
  · exact h j e
  · rw [show j = x by omega]; exact hx
def a1E (p t f : Nat) (v : Value) (m : Nat) (x : Nat) : List (Nat × Value) := [(0, .pointer (some ⟨p, 0, none⟩)), (1, u32v t), (2, u32v f), (3, v), (19, .int .i64 (m : Int)), (20, .int .i64 (x : Int))]
def A1R (w : World) (E : List Me) (t f m : Nat) (x : Nat) (W : World) : Prop := x ≤ m ∧ (∀ j, j < x → lkE E t (f + j) = none) ∧ Below w.heap.size w W
def a2E (p t f : Nat) (v : Value) (m : Nat) (x : Nat) : List (Nat × Value) := [(0, .pointer (some ⟨p, 0, none⟩)), (1, u32v t), (2, u32v f), (52, v), (53, .int .i64 (m : Int)), (54, .int .i64 (x : Int))]
def A2R (w : World) (p r most : Nat) (E : List Me) (c t f : Nat) (Ks : List (List UInt8)) (x : Nat) (W : World) : Prop := x ≤ Ks.length ∧ Tb W p r most (E ++ adE t f c (Ks.take x)) (c + x) ∧ Fx (fun k => k = r) w W
section
variable {P : Program} {n : Nat} {ops : Array Oper} {S : Nat → World → Prop} {K : List (Nat × Value) → (World → Prop) → Prop} {i c lv : Nat} {ty : TypeId} {ps : String} {af : Array Edge} {gd : Option (Nat × Bool)} {r : List (Oper × Nat × Nat)} {e : List (Nat × Value)} {C : World → Prop}
theorem ZE.mup {t : TypeId} {x y z : Operand} {u u' u'' : Value} (C' : World → Prop) (hw : wantE ops e ⟨none, .mapUpdate t x y z, ty, ps, af, gd⟩ = some true) (hx : evE e x = some u) (hy : evE e y = some u') (hz : evE e z = some u'') (h1 : ∀ w, C' w → S lv w) (hr : ∀ w, C w → ∃ w', (Instr.mapUpdate t u u' u'').run P w = .ok () w' ∧ C' w') (k : wpZE P n ops S K r e C') : wpZE P n ops S K ((⟨none, .mapUpdate t x y z, ty, ps, af, gd⟩, 1, lv) :: r) e C :=
  ZE.turn (fun _ => C') hw (fun j hj => by cases hj) (fun _ => h1) (fun W hW a ha => by
    obtain ⟨w', h2, h3⟩ := hr W hW
    exact .inr (.inl ⟨w', (by simp [execOp, ha.ev hx, ha.ev hy, ha.ev hz, h2, Result.andThen]), h3⟩)) (fun _ _ => k)
theorem ZE.lenW {t : TypeId} {x : Operand} {u v : Value} (h1 : decide (c = 1) = false) (hw : wantE ops e ⟨some i, .call { callee := .builtin .len, args := #[x], argTypes := #[t] }, ty, ps, af, gd⟩ = some true) (hi : decide (i < n) = true) (hx : evE e x = some u) (hc : ∀ w, C w → SZ S c lv C w) (hr : ∀ w, SZ S c lv C w → (Builtin.len_ #[t] ty #[u]).run P w = .ok v w) (k : wpZE P n ops S K r ((i, v) :: e) C) : wpZE P n ops S K ((⟨some i, .call { callee := .builtin .len, args := #[x], argTypes := #[t] }, ty, ps, af, gd⟩, c, lv) :: r) e C :=
  ZE.val h1 hw hi hc (fun a ha W hW => by simp [execOp, resolve, invoke, builtin, ha.ev hx, hr W hW, Result.andThen]) k
end
set_option maxRecDepth 100000 in
set_option maxHeartbeats 4000000 in
theorem add_any {w : World} {p r most : Nat} {E : List Me} {c : Nat} (h : Tb w p r most E c) (hE : E.length ≤ most) (hmo : most ≤ 256) (t f : Nat) (ht : t < 4294967296) (hf : f < 4294967296) {v : Value} {Ks : List (List UInt8)} (hk : Kl w v Ks) (hkl : Ks.length < 9223372036854775808) (hkr : ∀ b, v.ownBlock = some b → b ≠ r ∨ Ks = []) :
    Calls Try.prog 7 #[.pointer (some ⟨p, 0, none⟩), u32v t, u32v f, v] w fun e w' => e = .returned (.int .i64 (adN E most t f Ks.length)) ∧ (adN E most t f Ks.length ≠ 0 → Tb w' p r most E c) ∧ (adN E most t f Ks.length = 0 → Tb w' p r most (E ++ adE t f c Ks) (c + Ks.length)) ∧ Fx (fun k => k = r) w w' := by
  refine calls_of_args [.pointer (some ⟨p, 0, none⟩), u32v t, u32v f, v] Try.func7 rfl 71 Try.ntmps7 (by show 4 ≤ 71; decide) ?_
  refine EW.seq ?_
  refine EW.region ?_
  first | refine WL.assign rfl rfl rfl ?_
  refine WL.done ?_
  refine EW.on ?_
  refine EW.seq ?_
  refine EW.seq ?_
  refine EW.region ?_
  first | refine WL.move rfl rfl rfl ?_
  first | refine WL.move rfl rfl rfl ?_
  refine WL.len rfl rfl rfl (hk.len _ _) ?_
  refine WL.call [u32v f, .int .i64 (Ks.length : Int)] enter18 rfl rfl rfl (ends_any f Ks.length hf hkl _) ?_
  rintro x wx ⟨rfl, hwx⟩
  refine ⟨_, rfl, ?_⟩
  rw [hwx]
  refine WL.done ?_
  refine EW.on ?_
  refine EW.cond_d rfl (fun h17 => ?_) (fun h17 => ?_)
  · refine EW.seq ?_
    refine EW.region ?_
    first | refine WL.assign rfl rfl rfl ?_
    refine WL.done ?_
    refine EW.on ?_
    refine EW.ret ?_
    refine pr_then ?_
    exact EW.returns Try.results7 rfl ⟨by unfold adN; rw [if_pos h17], fun _ => h, fun e => absurd e (by unfold adN; rw [if_pos h17]; decide), Fx.refl _ _⟩
  · refine EW.skip ?_
    refine EW.on ?_
    refine EW.seq ?_
    refine EW.seq ?_
    refine EW.region ?_
    first | refine WL.move rfl rfl rfl ?_
    refine WL.len rfl rfl rfl (hk.len _ _) ?_
    first | refine WL.move rfl rfl rfl ?_
    refine WL.done ?_
    refine EW.on ?_
    refine EW.block ?_
    refine EW.loop (a1E p t f v Ks.length) (A1R w E t f Ks.length) (fun x => Ks.length - x) 0 [0, 1, 2, 3, 19, 20] rfl ⟨Nat.zero_le _, fun j hj => absurd hj (Nat.not_lt_zero _), Below.refl _ _⟩ ?_
    rintro x wi ⟨hxl, hnx, be⟩
    have tbx := h.on be
    show EW _ _ _ _ [(0, .pointer (some ⟨p, 0, none⟩)), (1, u32v t), (2, u32v f), (3, v), (19, .int .i64 (Ks.length : Int)), (20, .int .i64 (x : Int))] _
    refine EW.seq ?_
    refine EW.region ?_
    refine WL.bin rfl rfl rfl rfl (int_lt_d _ _ _ _ _) ?_
    refine WL.done ?_
    refine EW.on ?_
    refine EW.seq ?_
    refine EW.cond_d rfl (fun h21 => ?_) (fun h21 => ?_)
    · refine EW.skip ?_
      refine EW.on ?_
      refine EW.seq ?_
      refine EW.block ?_
      refine EW.seq ?_
      refine EW.region ?_
      first | refine WL.move rfl rfl rfl ?_
      first | refine WL.assign rfl rfl rfl ?_
      refine WL.done ?_
      refine EW.on ?_
      refine EW.seq ?_
      rcases hlx : lkE E t (f + x) with _ | K1
      · have hlt : x < Ks.length := by omega
        have hK0 := lk_ok tbx.mp t (f + x)
        obtain ⟨q8, w2, w3, r2, r3, b3, l3, hq8⟩ := newK wi _ hK0
        rw [hlx] at r3
        refine EW.region ?_
        first | refine WL.move rfl rfl rfl ?_
        first | refine WL.nilc rfl rfl rfl ?_
        refine WL.field rfl rfl rfl (g59_1 p _) ?_
        refine WL.load rfl rfl rfl (ld57 tbx) ?_
        first | refine WL.move rfl rfl rfl ?_
        first | refine WL.move rfl rfl rfl ?_
        first | refine WL.move rfl rfl rfl ?_
        refine WL.conv rfl rfl rfl (cvU _ (by omega) _) ?_
        refine WL.bin rfl rfl rfl rfl (addU f x (by omega) _ _ _) ?_
        refine WL.buildN [(0, u32v t), (1, u32v (f + x))] rfl rfl rfl (b63 _ _ _) ?_
        refine WL.lk rfl rfl rfl rfl (by have := run_lk tbx.mp t (f + x); rw [hlx] at this; exact this) ?_
        first | refine WL.move rfl rfl rfl ?_
        first | refine WL.extract rfl rfl rfl (ext_2 _ _ _).1 ?_
        first | refine WL.extract rfl rfl rfl (ext_2 _ _ _).2 ?_
        refine WL.new rfl rfl r2 ?_
        refine WL.store rfl rfl rfl r3 ?_
        first | refine WL.assign rfl rfl rfl ?_
        refine WL.done ?_
        refine EW.on ?_
        refine EW.seq ?_
        refine EW.region ?_
        first | refine WL.move rfl rfl rfl ?_
        refine WL.done ?_
        refine EW.on ?_
        refine EW.cond_f rfl ?_
        refine EW.skip ?_
        refine pn_block ?_
        refine EW.on ?_
        refine EW.region ?_
        refine WL.bin rfl rfl rfl rfl (int_add (c := ((x + 1 : Nat) : Int)) (by rw [IntKind.wrap_i64]; omega) _ _ _) ?_
        first | refine WL.move rfl rfl rfl ?_
        refine WL.done ?_
        exact EW.again (E := a1E p t f v Ks.length) (R := A1R w E t f Ks.length) (m := fun x => Ks.length - x) (x := x) (x + 1) [0, 1, 2, 3, 19, 20] rfl ⟨by omega, below_succ hnx hlx, bt be l3⟩ (by show Ks.length - (x + 1) < Ks.length - x; omega)
      · have hlt : x < Ks.length := by omega
        have hK0 := lk_ok tbx.mp t (f + x)
        obtain ⟨q8, w2, w3, r2, r3, b3, l3, hq8⟩ := newK wi _ hK0
        rw [hlx] at r3
        refine EW.region ?_
        first | refine WL.move rfl rfl rfl ?_
        first | refine WL.nilc rfl rfl rfl ?_
        refine WL.field rfl rfl rfl (g59_1 p _) ?_
        refine WL.load rfl rfl rfl (ld57 tbx) ?_
        first | refine WL.move rfl rfl rfl ?_
        first | refine WL.move rfl rfl rfl ?_
        first | refine WL.move rfl rfl rfl ?_
        refine WL.conv rfl rfl rfl (cvU _ (by omega) _) ?_
        refine WL.bin rfl rfl rfl rfl (addU f x (by omega) _ _ _) ?_
        refine WL.buildN [(0, u32v t), (1, u32v (f + x))] rfl rfl rfl (b63 _ _ _) ?_
        refine WL.lk rfl rfl rfl rfl (by have := run_lk tbx.mp t (f + x); rw [hlx] at this; exact this) ?_
        first | refine WL.move rfl rfl rfl ?_
        first | refine WL.extract rfl rfl rfl (ext_2 _ _ _).1 ?_
        first | refine WL.extract rfl rfl rfl (ext_2 _ _ _).2 ?_
        refine WL.new rfl rfl r2 ?_
        refine WL.store rfl rfl rfl r3 ?_
        first | refine WL.assign rfl rfl rfl ?_
        refine WL.done ?_
        refine EW.on ?_
        refine EW.seq ?_
        refine EW.region ?_
        first | refine WL.move rfl rfl rfl ?_
        refine WL.done ?_
        refine EW.on ?_
        refine EW.cond_t rfl ?_
        refine EW.seq ?_
        have ht1 : takenB E t f Ks.length = true := taken_t (i := x) hlt (by rw [hlx]; simp)
        refine EW.region ?_
        first | refine WL.assign rfl rfl rfl ?_
        refine WL.done ?_
        refine EW.on ?_
        refine EW.ret ?_
        refine pr_block ?_
        refine pr_then ?_
        refine pr_then ?_
        refine pr_block ?_
        refine pr_then ?_
        exact EW.returns Try.results7 rfl ⟨by unfold adN; rw [if_neg h17, if_pos ht1], fun _ => tbx.on l3, fun e => absurd e (by unfold adN; rw [if_neg h17, if_pos ht1]; decide), Fx.of_below (bt be l3)⟩
    · refine EW.exit ?_
      refine px_then ?_
      refine px_then ?_
      refine px_block ?_
      refine EW.on ?_
      refine EW.seq ?_
      refine EW.seq ?_
      have hno : ∀ j, j < Ks.length → lkE E t (f + j) = none := fun j hj => hnx j (by omega)
      have hno1 : ¬ takenB E t f Ks.length = true := by rw [taken_f hno]; decide
      refine EW.ordB [(0, 0, 0), (1, 0, 0), (2, 0, 0), (3, 0, 0), (4, 0, 0), (5, 0, 1), (6, 0, 0), (7, 0, 0), (8, 0, 0), (9, 0, 1), (10, 0, 1), (11, 0, 0), (12, 0, 0)] (by kernel_rfl) rfl (by kernel_rfl) ?_
      simp only [opsZ, List.getD_cons_zero, List.getD_cons_succ]
      first | refine ZE.move rfl rfl rfl rfl sz0 ?_
      refine ZE.len rfl rfl rfl rfl sz0 (fun W => hk.len W _) ?_
      first | refine ZE.move rfl rfl rfl rfl sz0 ?_
      first | refine ZE.nilc rfl rfl rfl rfl sz0 ?_
      refine ZE.field rfl rfl rfl rfl sz0 (fun W => g59_0 p W) ?_
      refine ZE.load rfl rfl rfl rfl sz1 (fun W hW => ldM (tbx.on (sb_of hW))) ?_
      first | refine ZE.move rfl rfl rfl rfl sz0 ?_
      first | refine ZE.nilc rfl rfl rfl rfl sz0 ?_
      refine ZE.field rfl rfl rfl rfl sz0 (fun W => g59_1 p W) ?_
      refine ZE.load rfl rfl rfl rfl sz1 (fun W hW => ld57 (tbx.on (sb_of hW))) ?_
      refine ZE.lenW rfl rfl rfl rfl sz1 (fun W hW => len57 (tbx.on (sb_of hW)).mp _) ?_
      refine ZE.bin rfl rfl rfl rfl rfl sz0 (fun W => int_sub (c := ((most - E.length : Nat) : Int)) (by rw [IntKind.wrap_i64]; omega) W _ _) ?_
      refine ZE.bin rfl rfl rfl rfl rfl sz0 (fun W => int_gt_d _ _ W _ _) ?_
      rintro W hW
      refine EW.on ?_
      refine EW.cond_d rfl (fun h51 => ?_) (fun h51 => ?_)
      · refine EW.seq ?_
        refine EW.region ?_
        first | refine WL.assign rfl rfl rfl ?_
        refine WL.done ?_
        refine EW.on ?_
        refine EW.ret ?_
        refine pr_then ?_
        exact EW.returns Try.results7 rfl ⟨by unfold adN; rw [if_neg h17, if_neg hno1, if_pos (by omega)], fun _ => tbx.on hW, fun e => absurd e (by unfold adN; rw [if_neg h17, if_neg hno1, if_pos (by omega)]; decide), Fx.of_below (bt be hW)⟩
      · refine EW.skip ?_
        refine EW.on ?_
        refine EW.seq ?_
        refine EW.seq ?_
        refine EW.region ?_
        first | refine WL.move rfl rfl rfl ?_
        refine WL.len rfl rfl rfl (hk.len _ _) ?_
        first | refine WL.move rfl rfl rfl ?_
        refine WL.done ?_
        refine EW.on ?_
        refine EW.block ?_
        refine EW.loop (a2E p t f v Ks.length) (A2R w p r most E c t f Ks) (fun x => Ks.length - x) 0 [0, 1, 2, 52, 53, 54] rfl ⟨Nat.zero_le _, by simpa [adE] using tbx.on hW, Fx.of_below (bt be hW)⟩ ?_
        rintro x wj ⟨hxm, tbj, fj⟩
        show EW _ _ _ _ [(0, .pointer (some ⟨p, 0, none⟩)), (1, u32v t), (2, u32v f), (52, v), (53, .int .i64 (Ks.length : Int)), (54, .int .i64 (x : Int))] _
        refine EW.seq ?_
        refine EW.region ?_
        refine WL.bin rfl rfl rfl rfl (int_lt_d _ _ _ _ _) ?_
        refine WL.done ?_
        refine EW.on ?_
        refine EW.seq ?_
        refine EW.cond_d rfl (fun h55 => ?_) (fun h55 => ?_)
        · refine EW.skip ?_
          refine EW.on ?_
          refine EW.seq ?_
          refine EW.block ?_
          refine EW.seq ?_
          have hlt : x < Ks.length := by omega
          obtain ⟨K, hK⟩ : ∃ K, Ks[x]? = some K := ⟨_, List.getElem?_eq_getElem hlt⟩
          have hkx : Kl wj v Ks := hk.fx fj (fun b hb => hkr b hb)
          obtain ⟨ad, ix, lx⟩ := hk.get hK
          have hKl := hk.at32 hK
          obtain ⟨q8, w2, w3, r2, r3, b3, l3, hq8⟩ := newK wj K hKl
          have tb3 := tbj.on l3
          refine EW.region ?_
          first | refine WL.move rfl rfl rfl ?_
          refine WL.index rfl rfl rfl rfl (ix _) ?_
          refine WL.load rfl rfl rfl (lx _ hkx) ?_
          refine WL.new rfl rfl r2 ?_
          first | refine WL.assign rfl rfl rfl ?_
          refine WL.store rfl rfl rfl r3 ?_
          refine WL.done ?_
          refine EW.on ?_
          refine EW.ordB [(0, 0, 0), (1, 0, 0), (2, 0, 0), (3, 0, 1), (4, 0, 0), (5, 0, 0), (6, 0, 0), (7, 0, 1), (8, 0, 0), (9, 0, 0), (10, 0, 1), (11, 1, 0)] (by kernel_rfl) rfl (by kernel_rfl) ?_
          simp only [opsZ, List.getD_cons_zero, List.getD_cons_succ]
          first | refine ZE.move rfl rfl rfl rfl sz0 ?_
          first | refine ZE.nilc rfl rfl rfl rfl sz0 ?_
          refine ZE.field rfl rfl rfl rfl sz0 (fun W => g59_1 p W) ?_
          refine ZE.load rfl rfl rfl rfl sz1 (fun W hW => ld57 (tb3.on (sb_of hW))) ?_
          first | refine ZE.move rfl rfl rfl rfl sz0 ?_
          first | refine ZE.move rfl rfl rfl rfl sz0 ?_
          first | refine ZE.move rfl rfl rfl rfl sz0 ?_
          refine ZE.conv rfl rfl rfl rfl sz1 (fun W hW => cvU _ (by omega) W) ?_
          refine ZE.bin rfl rfl rfl rfl rfl sz0 (fun W => addU f x (by omega) W _ _) ?_
          refine ZE.buildN [(0, u32v t), (1, u32v (f + x))] rfl rfl rfl rfl sz0 (fun W => b63 _ _ W) ?_
          refine ZE.load rfl rfl rfl rfl sz1 (fun W hW => ld29 (b3.on (sb_of hW)) hKl) ?_
          refine ZE.mup (fun W => Tb W p r most (E ++ adE t f c (Ks.take (x + 1))) (c + (x + 1)) ∧ Fx (fun k => k = r) w3 W) rfl rfl rfl rfl (fun _ _ => .inl rfl) (fun W hW => ?_) ?_
          · obtain ⟨w', u1, u2, u3⟩ := run_up (tb3.on hW).mp t (f + x) K ⟨ht, by show f + x < _; omega, hKl⟩ (adE_lk (hno x (by omega)))
            rw [List.append_assoc, ← adE_snoc t f c Ks x K hK] at u2
            exact ⟨w', u1, ⟨(tb3.on hW).bl.fx u3 h.ne, u2⟩, (Fx.of_below hW).trans u3 (fun _ _ e => e)⟩
          rintro W ⟨hT, hF⟩
          refine pn_block ?_
          refine EW.on ?_
          refine EW.region ?_
          refine WL.bin rfl rfl rfl rfl (int_add (c := ((x + 1 : Nat) : Int)) (by rw [IntKind.wrap_i64]; omega) _ _ _) ?_
          first | refine WL.move rfl rfl rfl ?_
          refine WL.done ?_
          exact EW.again (E := a2E p t f v Ks.length) (R := A2R w p r most E c t f Ks) (m := fun x => Ks.length - x) (x := x) (x + 1) [0, 1, 2, 52, 53, 54] rfl ⟨by omega, hT, (fj.then_below l3).and hF⟩ (by show Ks.length - (x + 1) < Ks.length - x; omega)
        · refine EW.exit ?_
          refine px_then ?_
          refine px_then ?_
          refine px_block ?_
          refine EW.on ?_
          refine EW.seq ?_
          refine EW.region ?_
          first | refine WL.assign rfl rfl rfl ?_
          refine WL.done ?_
          refine EW.on ?_
          refine EW.ret ?_
          exact EW.returns Try.results7 rfl ⟨by unfold adN; rw [if_neg h17, if_neg hno1, if_neg (by omega)], fun e => absurd (by unfold adN; rw [if_neg h17, if_neg hno1, if_neg (by omega)]) e, fun _ => (by rw [show x = Ks.length from by omega, List.take_length] at tbj; exact tbj), fj⟩
end Go.Proofs.Ytggehhlobjjmpaa
