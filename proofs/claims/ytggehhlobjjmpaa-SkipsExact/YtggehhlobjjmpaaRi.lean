import Derived.Test.YtggehhlobjjmpaaRh
import Derived.Test.YtggehhlobjjmpaaRw
import Derived.Deep.Slices
set_option linter.unusedVariables false
set_option linter.unusedSimpArgs false
namespace Go.Proofs.Ytggehhlobjjmpaa
open Go.ChangeShapes Go.WideShapes Go.ChangeAt Go.RowKit

theorem len44 (ao : Option Addr) (n c : Nat) (W : World) (ty : TypeId) : (Builtin.len_ #[44] ty #[.slice ao n c]).run Try.prog W = .ok (.int .i64 (n : Int)) W := by
  go_simp
theorem idx44 (ad : Addr) (n cap m : Nat) (h : m < n) (W : World) : (Instr.indexAt 44 (.slice (some ad) n cap) (.int .i64 (m : Int))).run Try.prog W = .ok (.pointer (some (ad.add (m * 4)))) W := by
  have hm : (m : Int) < (n : Int) := by omega
  have h1 : 4 * m = m * 4 := by omega
  go_simp
/-- An order of the script as it stands in memory. -/
structure OpX where
  kd : Int
  t : Nat
  n : Nat
  kw : Value
  ks : List (List UInt8)
structure OpX.ok (x : OpX) (w : World) : Prop where
  ht : x.t < 4294967296
  hn : x.n < 4294967296
  hk : Kl w x.kw x.ks
  hl : x.ks.length * 32 ≤ 140737488351232
section
variable {H : Type} {enc : TypeId × Value → H} {W : World} {base : Nat} {spare : Nat → Bool} {held : Bool} {fuel : Nat} {cs : List Value} {x : DataW H × List MemPlace}
theorem op_of (h : DataW.trod enc Try.prog W base spare held fuel 55 cs = some x) (hw : ∀ n ∈ x.1.weights Try.prog 55, n ≤ 140737488351232) : ∃ X : OpX, cs = opC X.kd X.t X.n X.kw ∧ X.ok W := by
  obtain ⟨hl, n, hf⟩ := fld_of Try.underlying55 h
  have h4 : Try.prog.cellsOf 55 = 4 := by kernel_rfl
  rw [h4] at hl
  obtain ⟨y0, t0, m0⟩ := fld_at hf 0 (ft := 3) (off := 0) (sz := 1) rfl rfl rfl (by kernel_rfl)
  obtain ⟨y1, t1, m1⟩ := fld_at hf 1 (ft := 31) (off := 1) (sz := 1) rfl rfl rfl (by kernel_rfl)
  obtain ⟨y2, t2, m2⟩ := fld_at hf 2 (ft := 31) (off := 2) (sz := 1) rfl rfl rfl (by kernel_rfl)
  obtain ⟨y3, t3, m3⟩ := fld_at hf 3 (ft := 22) (off := 3) (sz := 1) rfl rfl rfl (by kernel_rfl)
  obtain ⟨k, e0, _, _⟩ := DataW.trod_int Try.underlying3 t0
  obtain ⟨a, la, e1⟩ := u32_of t1
  obtain ⟨b, lb, e2⟩ := u32_of t2
  obtain ⟨v, Ks, e3, hk, hm⟩ := keys_of t3 (fun n hn => hw n (m3 n hn))
  refine ⟨⟨k, a, b, v, Ks⟩, ?_, ⟨la, lb, hk, hm⟩⟩
  show cs = [Value.int .i64 k] ++ ([u32v a] ++ ([u32v b] ++ [v]))
  rw [← e0, ← e1, ← e2, ← e3, List.drop_zero, List.take_of_length_le (l := cs.drop 3) (by rw [List.length_drop]; omega), show cs.drop 3 = (cs.drop 2).drop 1 from by rw [List.drop_drop], List.take_append_drop, show cs.drop 2 = (cs.drop 1).drop 1 from by rw [List.drop_drop], List.take_append_drop, List.take_append_drop]
/-- The script as the law takes it. -/
structure Scr (w : World) (sv : Value) (n : Nat) : Prop where
  len : ∀ (W : World) (ty : TypeId), (Builtin.len_ #[44] ty #[sv]).run Try.prog W = .ok (.int .i64 (n : Int)) W
  at_ : ∀ i, i < n → ∃ x : OpX, x.ok w ∧ ∃ ad, (∀ W, (Instr.indexAt 44 sv (.int .i64 (i : Int))).run Try.prog W = .ok (.pointer (some ad)) W) ∧ ∀ W, Below w.heap.size w W → (Instr.loadAt 55 (.pointer (some ad))).run Try.prog W = .ok (opV x.kd x.t x.n x.kw) W
set_option maxRecDepth 100000 in
theorem script_of (h : DataW.trod enc Try.prog W base spare held fuel 44 cs = some x) (hw : ∀ n ∈ x.1.weights Try.prog 44, n ≤ 140737488351232) : ∃ v n, cs = [v] ∧ Scr W v n := by
  rcases Deep.open_slice Try.underlying44 h with ⟨rfl, _⟩ | ⟨a, len, cap, m, n, D, Pl, rfl, _, hl, hm, hmm, hxx, hx⟩
  · exact ⟨_, 0, rfl, ⟨fun W ty => len44 _ _ _ W ty, fun i hi => absurd hi (Nat.not_lt_zero _)⟩⟩
  · have hlm : len ≤ m := by rw [hmm]; split <;> omega
    have h4 : Try.prog.cellsOf 55 = 4 := by kernel_rfl
    refine ⟨_, len, rfl, ⟨fun W ty => len44 _ _ _ W ty, fun i hi => ?_⟩⟩
    obtain ⟨cs', h1, h2⟩ := hx i (by omega)
    rw [h4] at h1
    obtain ⟨_, hlen, hc⟩ := World.cells?_some h1
    obtain ⟨X, rfl, hX⟩ := op_of h2 (fun k hk => hw k (by
      rw [hxx]
      simp only [DataW.weights, Try.underlying44]
      exact List.mem_cons_of_mem _ (List.mem_append.2 (.inl (weights_all (d := D i) (List.mem_map.2 ⟨i, List.mem_range.2 hi, rfl⟩) k hk)))))
    refine ⟨X, hX, _, fun W => idx44 a len cap i hi W, fun W' hW => run_loadA (cs := opC X.kd X.t X.n X.kw) (At.below (fun j v hj => ?_) hW) Try.underlying55 rfl (by show _ = some 4; kernel_rfl)⟩
    have hjl : j < 4 := (List.getElem?_eq_some_iff.1 hj).1
    exact (hc j hjl).trans hj
end
theorem step_any {w0 w : World} {dk p r q : Nat} {v : Value} {most : Nat} {E : List Me} {c : Nat} {L : List Sk} (D : Ds w0 dk p r q v most E c L w) (x : OpX) (hx : x.ok w0) : Calls Try.prog 17 #[.pointer (some ⟨dk, 0, none⟩), opV x.kd x.t x.n x.kw] w fun e w' => e = .returned (.bool true) ∧ ∃ p' r' v' E' c' L', Ds w0 dk p' r' q v' most E' c' L' w' := by
  obtain ⟨kd, t, n, kw, Ks⟩ := x
  obtain ⟨ht, hn, hk, hl⟩ := hx
  dsimp only at ht hn hk hl ⊢
  by_cases h1 : kd = 1
  · subst h1; exact step_add D t n ht hn hk hl (fun b hb => hk.lt hb)
  by_cases h2 : kd = 2
  · subst h2; exact step_find D t n kw
  by_cases h3 : kd = 3
  · subst h3; exact step_take D t n kw
  by_cases h4 : kd = 4
  · subst h4; exact step_list D t n kw
  by_cases h5 : kd = 5
  · subst h5; exact step_copy D t n ht hn kw
  exact step_else D kd h1 h2 h3 h4 h5 t n kw
theorem eqP24 {po : Option Addr} (h : po = none ∨ ∃ p, po = some ⟨p, 0, none⟩) (W : World) (x y : Operand) : (do eqGuard .eql 24 x y (.pointer po) (.pointer none); binOp .eql 24 (.pointer po) (.pointer none) : Sem Value).run Try.prog W = .ok (.bool po.isNone) W := by
  rcases h with rfl | ⟨p, rfl⟩ <;> go_simp
theorem eqP45 {po : Option Addr} (h : po = none ∨ ∃ p, po = some ⟨p, 0, none⟩) (W : World) (x y : Operand) : (do eqGuard .eql 45 x y (.pointer po) (.pointer none); binOp .eql 45 (.pointer po) (.pointer none) : Sem Value).run Try.prog W = .ok (.bool po.isNone) W := by
  rcases h with rfl | ⟨p, rfl⟩ <;> go_simp
theorem ne4_same {a b : Bool} (h : a = b) (W : World) (x y : Operand) : (do eqGuard .neq 4 x y (.bool a) (.bool b); binOp .neq 4 (.bool a) (.bool b) : Sem Value).run Try.prog W = .ok (.bool false) W := by
  subst h
  cases a <;> go_simp
theorem new_all (m : Int) (w : World) : Calls Try.prog 6 #[.int .i64 m] w fun e w' => ∃ po, e = .returned (.tuple #[.pointer po, .int .i64 (if 0 ≤ m ∧ m ≤ 256 then 0 else 2)]) ∧ (po = none ∨ ∃ p, po = some ⟨p, 0, none⟩) ∧ po.isNone = !decide (0 ≤ m ∧ m ≤ 256) ∧ Below w.heap.size w w' := by
  by_cases h : 0 ≤ m ∧ m ≤ 256
  · refine (new_ok m h w).mono fun e w' ⟨p, r, h1, h2, h3, h4, h5⟩ => ⟨_, by rw [if_pos h]; exact h1, .inr ⟨p, rfl⟩, by simp [h], h5⟩
  · refine (new_no m (by omega) w).mono fun e w' ⟨h1, h2⟩ => ⟨_, by rw [if_neg h]; exact h1, .inl rfl, by simp [h], by rw [h2]; exact Below.refl _ _⟩
theorem rnew_all (m : Int) (w : World) : Calls Try.prog 14 #[.int .i64 m] w fun e w' => ∃ po, e = .returned (.tuple #[.pointer po, .int .i64 (if 0 ≤ m ∧ m ≤ 256 then 0 else 2)]) ∧ (po = none ∨ ∃ p, po = some ⟨p, 0, none⟩) ∧ po.isNone = !decide (0 ≤ m ∧ m ≤ 256) ∧ Below w.heap.size w w' := by
  by_cases h : 0 ≤ m ∧ m ≤ 256
  · refine (rnew_ok m h w).mono fun e w' ⟨p, h1, h2, h3, h5⟩ => ⟨_, by rw [if_pos h]; exact h1, .inr ⟨p, rfl⟩, by simp [h], h5⟩
  · refine (rnew_no m (by omega) w).mono fun e w' ⟨h1, h2⟩ => ⟨_, by rw [if_neg h]; exact h1, .inl rfl, by simp [h], by rw [h2]; exact Below.refl _ _⟩
theorem load_all (m : Int) {v : Value} {l : List Sk} {w : World} (hl : Sl w v l) (hll : l.length < 4611686018427387904) : Calls Try.prog 15 #[.int .i64 m, v] w fun e w' => ∃ po, e = .returned (.tuple #[.pointer po, .int .i64 (ldN m l)]) ∧ (po = none ∨ ∃ p, po = some ⟨p, 0, none⟩) ∧ po.isNone = decide (ldN m l ≠ 0) ∧ Below w.heap.size w w' ∧ (po.isNone = false → ∃ p r, po = some ⟨p, 0, none⟩ ∧ Tb w' p r m.toNat (lodE l) l.length ∧ w.heap.size ≤ p ∧ w.heap.size ≤ r) :=
  (load_any m hl hll).mono fun e w' ⟨h1, h2⟩ => by
    rcases h2 with ⟨h2, h3⟩ | ⟨h2, p, r, h3, h4, h5, h6⟩
    · exact ⟨none, h3, .inl rfl, by simp [h2], h1, fun e => by cases e⟩
    · exact ⟨some ⟨p, 0, none⟩, by rw [h2]; exact h3, .inr ⟨p, rfl⟩, by simp [h2], h1, fun _ => ⟨p, r, rfl, h4, h5, h6⟩⟩
theorem rload_all (m : Int) {v : Value} {l : List Sk} {w : World} (hl : Sl w v l) (hll : l.length < 4611686018427387904) : Calls Try.prog 16 #[.int .i64 m, v] w fun e w' => ∃ po, e = .returned (.tuple #[.pointer po, .int .i64 (ldN m l)]) ∧ (po = none ∨ ∃ p, po = some ⟨p, 0, none⟩) ∧ po.isNone = decide (ldN m l ≠ 0) ∧ Below w.heap.size w w' ∧ (po.isNone = false → ∃ q u, po = some ⟨q, 0, none⟩ ∧ Rt w' q u m.toNat l ∧ w.heap.size ≤ q ∧ (∀ b, u.ownBlock = some b → w.heap.size ≤ b ∧ b ≠ q)) :=
  (rload_any m hl hll).mono fun e w' ⟨h1, h2⟩ => by
    rcases h2 with ⟨h2, h3⟩ | ⟨h2, q, u, h3, h4, h5, h6⟩
    · exact ⟨none, h3, .inl rfl, by simp [h2], h1, fun e => by cases e⟩
    · exact ⟨some ⟨q, 0, none⟩, by rw [h2]; exact h3, .inr ⟨q, rfl⟩, by simp [h2], h1, fun _ => ⟨q, u, rfl, h4, h5, h6⟩⟩
theorem ldN0 {m : Int} {l : List Sk} (h : ldN m l = 0) : 0 ≤ m ∧ m ≤ 256 ∧ (l.length : Int) ≤ m ∧ l.Pairwise Lt := by
  unfold ldN at h
  split at h
  · cases h
  · split at h
    · cases h
    · split at h
      · exact ⟨by omega, by omega, by omega, ‹_›⟩
      · cases h
end Go.Proofs.Ytggehhlobjjmpaa
