import Derived.Test.YtiefgmgjlhjjhaaDoorFxG
import Derived.Test.YtiefgmgjlhjjhaaDoorPq
import Derived.Stop.LaidErr
import Derived.ChangeMaps5
set_option linter.unusedVariables false
set_option linter.unusedSimpArgs false
namespace Go.Proofs.YtiefgmgjlhjjhaaDoor
open Go.ChangeShapes Go.WideShapes Go.ChangeAt Go.RowKit

namespace Row
theorem cells3 : Tryd.prog.cellsOf 3 = 1 := by kernel_rfl
theorem bd64 {n : Int} (h : (Lit.int .i64 n).wf = true) : -9223372036854775808 ≤ n ∧ n ≤ 9223372036854775807 := by
  have := bounds_i64 h; omega
theorem bd32 {n : Int} (h : (Lit.int .u32 n).wf = true) : 0 ≤ n ∧ n < 4294967296 := by
  have := bounds_u32 h; omega
set_option maxRecDepth 100000 in
theorem u32_of {H : Type} {enc : TypeId × Value → H} {W : World} {base : Nat} {v : Value} {d : DataW H} {p : List MemPlace} (hv : Value.okWide Tryd.prog W .any base 22 v) (h : ∃ m, DataW.trod enc Tryd.prog W 0 (fun _ => true) true m 22 v.cells.toList = some (d, p)) : ∃ n : Nat, v = u32v n ∧ n < 4294967296 := by
  obtain ⟨z, rfl, _, _, wf⟩ := open_int Tryd.underlying22 hv h
  obtain ⟨h1, h2⟩ := bd32 wf
  exact ⟨z.toNat, by unfold u32v; rw [Int.toNat_of_nonneg h1], by omega⟩
set_option maxRecDepth 100000 in
/-- Numbers that came in. -/
theorem ints_of {H : Type} {enc : TypeId × Value → H} {W : World} {base : Nat} {v : Value} {d : DataW H} {p : List MemPlace} (hv : Value.okWide Tryd.prog W .any base 23 v) (h : ∃ m, DataW.trod enc Tryd.prog W 0 (fun _ => true) true m 23 v.cells.toList = some (d, p)) : ∃ zs, Hi W v zs ∧ ∀ z ∈ zs, -9223372036854775808 ≤ z ∧ z ≤ 9223372036854775807 := by
  obtain ⟨a0, len0, cap0, rfl⟩ := okWide_slice Tryd.underlying23 hv
  obtain ⟨fuel, hf⟩ := h
  rcases open_ints Tryd.underlying23 Tryd.underlying3 cells3 hf with ⟨hcs, _⟩ | ⟨x, l, c, zs, hcs, _, hl, hm, hz, hx, hcell, hwz⟩
  · simp [Value.cells] at hcs
    obtain ⟨rfl, rfl, rfl⟩ := hcs
    exact ⟨[], Li.nil _ _, fun z hz => by cases hz⟩
  · simp [Value.cells] at hcs
    obtain ⟨rfl, rfl, rfl⟩ := hcs
    have hzl : len0 ≤ zs.length := by simp at hz; omega
    have hlen : (zs.take len0).length = len0 := by rw [List.length_take]; omega
    refine ⟨zs.take len0, ⟨.inr ⟨x, cap0, by rw [ir_len, hlen], by rw [ir_len, hlen]; exact hl⟩, fun y hy => ?_, fun i y hy => ?_⟩, fun z hz => bd64 (hwz z (List.mem_of_mem_take hz))⟩
    · obtain ⟨z, _, rfl⟩ := List.mem_map.1 hy; rfl
    · unfold ir at hy
      rw [List.getElem?_map] at hy
      cases hq : (zs.take len0)[i]? with
      | none => rw [hq] at hy; cases hy
      | some z =>
        rw [hq] at hy
        cases hy
        have hi : i < len0 := by have := (List.getElem?_eq_some_iff.1 hq).1; omega
        rw [List.getElem?_take_of_lt hi, List.getElem?_eq_getElem (by omega)] at hq
        refine ⟨x, cap0, by rw [ir_len, hlen], fun j u hj => ?_⟩
        cases j with
        | succ j => simp at hj
        | zero =>
          simp only [List.getElem?_cons_zero, Option.some.injEq] at hj
          rw [Nat.mul_one, addr_add, Nat.add_zero, hcell i (by omega), List.getD_eq_getElem?_getD, List.getElem?_eq_getElem (by omega), Option.getD_some, Option.some.inj hq, hj]
end Row
end Go.Proofs.YtiefgmgjlhjjhaaDoor
