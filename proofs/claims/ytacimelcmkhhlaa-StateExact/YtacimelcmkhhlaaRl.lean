import Derived.Test.YtacimelcmkhhlaaRw
import Derived.Test.YtacimelcmkhhlaaJp
set_option linter.unusedVariables false
set_option linter.unusedSimpArgs false
namespace Go.Proofs.Ytacimelcmkhhlaa
open Go.ChangeShapes Go.WideShapes Go.ChangeAt Go.RowKit

section
variable {H : Type} {enc : TypeId × Value → H} {W : World} {base : Nat} {spare : Nat → Bool} {held : Bool} {fuel : Nat} {cs : List Value} {x : DataW H × List MemPlace}
theorem lim_of (h : DataW.trod enc Try.prog W base spare held fuel 43 cs = some x) : ∃ g : Lm, g.ok ∧ cs = g.cs := by
  obtain ⟨hl, n, hf⟩ := fld_of Try.underlying43 h
  have h6 : Try.prog.cellsOf 43 = 6 := by kernel_rfl
  rw [h6] at hl
  obtain ⟨y0, t0, m0⟩ := fld_at hf 0 (ft := 3) (off := 0) (sz := 1) rfl rfl rfl (by kernel_rfl)
  obtain ⟨y1, t1, m1⟩ := fld_at hf 1 (ft := 3) (off := 1) (sz := 1) rfl rfl rfl (by kernel_rfl)
  obtain ⟨y2, t2, m2⟩ := fld_at hf 2 (ft := 3) (off := 2) (sz := 1) rfl rfl rfl (by kernel_rfl)
  obtain ⟨y3, t3, m3⟩ := fld_at hf 3 (ft := 3) (off := 3) (sz := 1) rfl rfl rfl (by kernel_rfl)
  obtain ⟨y4, t4, m4⟩ := fld_at hf 4 (ft := 3) (off := 4) (sz := 1) rfl rfl rfl (by kernel_rfl)
  obtain ⟨y5, t5, m5⟩ := fld_at hf 5 (ft := 28) (off := 5) (sz := 1) rfl rfl rfl (by kernel_rfl)
  obtain ⟨k0, e0, _, _⟩ := DataW.trod_int Try.underlying3 t0
  obtain ⟨k1, e1, _, _⟩ := DataW.trod_int Try.underlying3 t1
  obtain ⟨k2, e2, _, _⟩ := DataW.trod_int Try.underlying3 t2
  obtain ⟨k3, e3, _, _⟩ := DataW.trod_int Try.underlying3 t3
  obtain ⟨k4, e4, _, _⟩ := DataW.trod_int Try.underlying3 t4
  obtain ⟨k5, l5, e5⟩ := u32_of t5
  refine ⟨⟨k0, k1, k2, k3, k4, k5⟩, ⟨l5⟩, ?_⟩
  have hc : Lm.cs ⟨k0, k1, k2, k3, k4, k5⟩ = [.int .i64 k0] ++ ([.int .i64 k1] ++ ([.int .i64 k2] ++ ([.int .i64 k3] ++ ([.int .i64 k4] ++ [u32v k5])))) := rfl
  rw [hc, ← e0, ← e1, ← e2, ← e3, ← e4, ← e5, List.drop_zero, List.take_of_length_le (l := cs.drop 5) (by rw [List.length_drop]; omega), show cs.drop 5 = (cs.drop 4).drop 1 from by rw [List.drop_drop], List.take_append_drop, show cs.drop 4 = (cs.drop 3).drop 1 from by rw [List.drop_drop], List.take_append_drop, show cs.drop 3 = (cs.drop 2).drop 1 from by rw [List.drop_drop], List.take_append_drop, show cs.drop 2 = (cs.drop 1).drop 1 from by rw [List.drop_drop], List.take_append_drop, List.take_append_drop]
end
end Go.Proofs.Ytacimelcmkhhlaa
