import Derived.Test.YtacimelcmkhhlaaRl
import Derived.Test.YtacimelcmkhhlaaKn
import Derived.Deep.Slices
set_option linter.unusedVariables false
set_option linter.unusedSimpArgs false
namespace Go.Proofs.Ytacimelcmkhhlaa
open Go.ChangeShapes Go.WideShapes Go.ChangeAt Go.RowKit

theorem lenOps (ao : Option Addr) (n c : Nat) (W : World) (ty : TypeId) : (Builtin.len_ #[55] ty #[.slice ao n c]).run Try.prog W = .ok (.int .i64 (n : Int)) W := by
  go_simp
theorem idx55 (ad : Addr) (n cap m : Nat) (h : m < n) (W : World) : (Instr.indexAt 55 (.slice (some ad) n cap) (.int .i64 (m : Int))).run Try.prog W = .ok (.pointer (some (ad.add (351 * m)))) W := by
  have hm : (m : Int) < (n : Int) := by omega
  have h1 : m * 351 = 351 * m := by omega
  go_simp
  try simp [h1]
theorem weights_all {H : Type} {P : Program} {e : TypeId} : ∀ {l : List (DataW H)} {d : DataW H}, d ∈ l → ∀ n ∈ d.weights P e, n ∈ DataW.weightsAll P e l
  | [], _, h, _, _ => by simp at h
  | a :: r, d, h, n, hn => by
    rw [DataW.weightsAll, List.mem_append]
    rcases List.mem_cons.1 h with rfl | h
    · exact .inl hn
    · exact .inr (weights_all h n hn)
section
variable {H : Type} {enc : TypeId × Value → H} {W : World} {base : Nat} {spare : Nat → Bool} {held : Bool} {fuel : Nat} {cs : List Value} {x : DataW H × List MemPlace}
theorem op_of (h : DataW.trod enc Try.prog W base spare held fuel 62 cs = some x) (hw : ∀ n ∈ x.1.weights Try.prog 62, n ≤ 140737488351232) : ∃ X : OpX, cs = opC X.kd X.s X.l X.bv ∧ X.ok W := by
  obtain ⟨hl, n, hf⟩ := fld_of Try.underlying62 h
  have h351 : Try.prog.cellsOf 62 = 351 := by kernel_rfl
  rw [h351] at hl
  obtain ⟨y0, t0, m0⟩ := fld_at hf 0 (ft := 3) (off := 0) (sz := 1) rfl rfl rfl (by kernel_rfl)
  obtain ⟨y1, t1, m1⟩ := fld_at hf 1 (ft := 33) (off := 1) (sz := 343) rfl rfl rfl (by kernel_rfl)
  obtain ⟨y2, t2, m2⟩ := fld_at hf 2 (ft := 43) (off := 344) (sz := 6) rfl rfl rfl (by kernel_rfl)
  obtain ⟨y3, t3, m3⟩ := fld_at hf 3 (ft := 38) (off := 350) (sz := 1) rfl rfl rfl (by kernel_rfl)
  obtain ⟨k, e0, _, _⟩ := DataW.trod_int Try.underlying3 t0
  obtain ⟨g1, k1, e1⟩ := sta_of t1
  obtain ⟨g2, k2, e2⟩ := lim_of t2
  obtain ⟨v, bs, e3, hb, hm⟩ := bytes_cs t3 (fun n hn => hw n (m3 n hn))
  refine ⟨⟨k, g1, g2, v, bs⟩, ?_, ⟨k1, k2, hb, by show bs.length ≤ _; omega⟩⟩
  unfold opC
  dsimp only
  rw [← e0, ← e1, ← e2, ← e3, List.drop_zero, List.take_of_length_le (l := cs.drop 350) (by rw [List.length_drop]; omega), show cs.drop 350 = (cs.drop 344).drop 6 from by rw [List.drop_drop], List.take_append_drop, show cs.drop 344 = (cs.drop 1).drop 343 from by rw [List.drop_drop], List.take_append_drop, List.take_append_drop]
/-- The script as the law takes it. -/
structure Scr (w : World) (sv : Value) (n : Nat) : Prop where
  len : ∀ (W : World) (ty : TypeId), (Builtin.len_ #[55] ty #[sv]).run Try.prog W = .ok (.int .i64 (n : Int)) W
  at_ : ∀ i, i < n → ∃ x : OpX, x.ok w ∧ ∃ ad, (∀ W, (Instr.indexAt 55 sv (.int .i64 (i : Int))).run Try.prog W = .ok (.pointer (some ad)) W) ∧ ∀ W, Below w.heap.size w W → (Instr.loadAt 62 (.pointer (some ad))).run Try.prog W = .ok (.agg (opC x.kd x.s x.l x.bv).toArray) W
set_option maxRecDepth 100000 in
theorem script_of (h : DataW.trod enc Try.prog W base spare held fuel 55 cs = some x) (hw : ∀ n ∈ x.1.weights Try.prog 55, n ≤ 140737488351232) : ∃ v n, cs = [v] ∧ Scr W v n := by
  rcases Deep.open_slice Try.underlying55 h with ⟨rfl, _⟩ | ⟨a, len, cap, m, n, D, Pl, rfl, _, hl, hm, hmm, hxx, hx⟩
  · exact ⟨_, 0, rfl, ⟨fun W ty => lenOps _ _ _ W ty, fun i hi => absurd hi (Nat.not_lt_zero _)⟩⟩
  · have hlm : len ≤ m := by rw [hmm]; split <;> omega
    have h351 : Try.prog.cellsOf 62 = 351 := by kernel_rfl
    refine ⟨_, len, rfl, ⟨fun W ty => lenOps _ _ _ W ty, fun i hi => ?_⟩⟩
    obtain ⟨cs', h1, h2⟩ := hx i (by omega)
    rw [h351] at h1
    obtain ⟨_, hlen, hc⟩ := World.cells?_some h1
    obtain ⟨X, rfl, hX⟩ := op_of h2 (fun k hk => hw k (by
      rw [hxx]
      simp only [DataW.weights, Try.underlying55]
      exact List.mem_cons_of_mem _ (List.mem_append.2 (.inl (weights_all (d := D i) (List.mem_map.2 ⟨i, List.mem_range.2 hi, rfl⟩) k hk)))))
    refine ⟨X, hX, _, fun W => idx55 a len cap i hi W, fun W' hW => run_loadA (cs := opC X.kd X.s X.l X.bv) (At.below (fun j v hj => ?_) hW) Try.underlying62 rfl (by rw [opC_len hX.ks]; kernel_rfl)⟩
    have hjl : j < 351 := by
      have := (List.getElem?_eq_some_iff.1 hj).1
      rw [opC_len hX.ks] at this
      exact this
    rw [show 351 * i = i * 351 by omega]
    exact (hc j hjl).trans hj
end
end Go.Proofs.Ytacimelcmkhhlaa
