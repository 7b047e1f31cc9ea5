import Derived.Test.YtacancfmgnmpiaaLow
import Derived.Test.YtacancfmgnmpiaaRowK
import Derived.Lib.SmallJoins
set_option linter.unusedVariables false
set_option linter.unusedSimpArgs false
namespace Go.Proofs.Ytacancfmgnmpiaa
open Go.ChangeShapes Go.WideShapes Go.ChangeAt Go.RowKit
namespace Row
theorem cells40 : Try.prog.cellsOf 40 = 66 := by kernel_rfl
theorem cells3 : Try.prog.cellsOf 3 = 1 := by kernel_rfl
theorem cells4 : Try.prog.cellsOf 4 = 1 := by kernel_rfl
/-- The input of CurveLow that came in. -/
theorem low_of {H : Type} {enc : TypeId × Value → H} {W : World} {base : Nat} {v : Value} {d : DataW H} {p : List MemPlace} (hv : Value.okWide Try.prog W .any base 40 v) (h : ∃ m, DataW.trod enc Try.prog W 0 (fun _ => true) true m 40 v.cells.toList = some (d, p)) :
    ∃ (k u : List UInt8) (z : Int) (b : Bool), k.length = 32 ∧ u.length = 32 ∧ v = .agg (lowS k u z b).toArray := by
  simp only [Value.okWide, Try.underlying40] at hv
  obtain ⟨cs, rfl, _, _⟩ := hv
  obtain ⟨fuel, hf⟩ := h
  have hcs : (Value.agg cs).cells.toList = cs.toList := by simp [Value.cells]
  rw [hcs] at hf
  obtain ⟨y0, y1, y2, y3, n, _, hl, t0, t1, t2, t3⟩ := _root_.Go.Joins.trod_struct4 Try.underlying40 hf
  rw [cells40] at hl
  simp only [cells24, cells3, cells4] at t0 t1 t2 t3
  obtain ⟨z0, q0, e0, w0⟩ := row_of_trod Try.underlying24 Try.underlying5 cells5 cells24 t0
  obtain ⟨z1, q1, e1, w1⟩ := row_of_trod Try.underlying24 Try.underlying5 cells5 cells24 t1
  obtain ⟨z, e2, _, _⟩ := DataW.trod_int Try.underlying3 t2
  obtain ⟨b, e3, _⟩ := DataW.trod_bool Try.underlying4 t3
  refine ⟨z0.map fun z => UInt8.ofNat z.toNat, z1.map fun z => UInt8.ofNat z.toNat, z, b, by simp [q0], by simp [q1], ?_⟩
  have key : cs.toList = lowS (z0.map fun z => UInt8.ofNat z.toNat) (z1.map fun z => UInt8.ofNat z.toNat) z b := by
    unfold lowS
    rw [← bytes_row z0 w0, ← bytes_row z1 w1, ← e0, ← e1]
    generalize cs.toList = L at hl e2 e3 ⊢
    have s0 : L = L.take 32 ++ L.drop 32 := (List.take_append_drop 32 L).symm
    have s1 : L.drop 32 = (L.drop 32).take 32 ++ L.drop 64 := by
      have := (List.take_append_drop 32 (L.drop 32)).symm
      rwa [List.drop_drop] at this
    have s2 : L.drop 64 = (L.drop 64).take 1 ++ L.drop 65 := by
      have := (List.take_append_drop 1 (L.drop 64)).symm
      rwa [List.drop_drop] at this
    have s3 : L.drop 65 = (L.drop 65).take 1 := by
      rw [List.take_of_length_le (by rw [List.length_drop]; omega)]
    have f2 : (L.drop 64).take 1 = [.int .i64 z] := e2
    have f3 : (L.drop 65).take 1 = [.bool b] := e3
    conv => lhs; rw [s0, s1, s2, f2, s3, f3]
    rfl
  rw [← key]
end Row
end Go.Proofs.Ytacancfmgnmpiaa

namespace Go.Proofs.Ytacancfmgnmpiaa.curveLow
open Go.ChangeShapes Go.WideShapes Go.ChangeAt Go.RowKit

set_option maxRecDepth 100000 in
theorem lifted (os : Os) (started : os.Started) (H : Type) (enc : TypeId × Value → H) :
    ReturnsInHanded {} Try.checked os 7 .any (Rows.curveLowSpec.pre6 enc Try.prog Try.f7 Rows.curveLowRow.domain false) (Rows.curveLowSpec.post enc Try.prog Try.f7 false true false false) := by
  refine returnsInHanded_of_change_sized (C := Try.checked) Row.own started (by kernel_rfl) Try.func7
    (ChangeSpec.witness6 (enc := enc) (C := Try.checked) false ⟨#[], #[.agg (lowS z32 z32 0 false).toArray], []⟩ 8 (by kernel_rfl) (by kernel_rfl) (by kernel_rfl) (by kernel_rfl)) ?_
  intro W base args ds gs before hval0 hW _ _ _
  have hval : ∀ (j : Nat) t v, Try.f7.params[j]? = some t → args[j]? = some v → Value.okWide Try.prog W .any base t v := hval0
  have hW' := hW
  obtain ⟨p, q, hA0, hV, rfl, hfz, hnd⟩ := hW
  have hA : DataW.TrodAll enc Try.prog W 0 (fun _ => true) true Try.f7.params.toList args.toList ds p := hA0
  rw [Try.params7] at hA hval
  obtain ⟨v0, vs0, d0, ds0, p0, q0, hargs, rfl, rfl, h0, r0⟩ := trodAll_cons hA
  obtain ⟨rfl, rfl, rfl⟩ := trodAll_nil r0
  obtain rfl : args = #[v0] := by cases args; simp_all
  obtain ⟨rfl, rfl⟩ := trodVars_none hV
  have lt0 : ∀ x ∈ p0, x.block < W.heap.size := by obtain ⟨m, hm⟩ := h0; exact DataW.trod_lt m _ _ _ hm
  obtain ⟨k, u, z, b, lk, lu, rfl⟩ := Row.low_of (hval 0 40 v0 rfl rfl) h0
  clear hA0 hval0 hval
  refine (lowlaw_any k u z b lk lu W).mono fun e W' ⟨he, bel⟩ => ?_
  subst he
  exact ⟨_, rfl, _, _, _, [], _, [], hW', trodAll_mk1 (shut_bool Try.underlying4 _), (trodAll_cons_mk (Below.trod Row.laidOut (by kernel_rfl) (of_decide_eq_true (by kernel_rfl)) h0 bel lt0) trodAll_mk0), rfl, bel.frame _, fun h => by cases h⟩

theorem over : Rows.curveLowRow.holds Try.pinned (OpenSpec.ofChange Rows.curveLowSpec) :=
  OpenClaim.holds_of_wide 7 Try.f7 rfl rfl rfl rfl rfl rfl rfl ⟨rfl, rfl, rfl, rfl, rfl⟩ rfl rfl rfl rfl rfl (by kernel_rfl) Try.func7 (by kernel_rfl)
    (of_decide_eq_true (by kernel_rfl)) (by unfold Func.isWrapper; first | (rw [if_pos (by decide +kernel)]; kernel_rfl) | (rw [if_neg (by decide +kernel)]; exact ⟨rfl, rfl⟩))
    (fun os started H enc _ => lifted os started H enc)

end Go.Proofs.Ytacancfmgnmpiaa.curveLow

namespace Go.Proofs.Ytacancfmgnmpiaa
theorem curveLow_holds : Rows.CurveLowSaid := curveLow.over
end Go.Proofs.Ytacancfmgnmpiaa
