import Derived.Test.YtnfikgnploockaaDoorRows
import Derived.WalkKit
import Derived.ProofKit
import Derived.OpenShut
import Derived.ChangeOld
import Derived.Below
import Derived.SizedLaws
import Derived.Lib.LaidTab
import Derived.Deep.Slices
import Derived.Test.YtnfikgnploockaaDoorComp
namespace Go.Proofs.YtnfikgnploockaaDoor
open Go.ChangeShapes Go.WideShapes Go.ChangeAt Go.RowKit
namespace Row

theorem own : ownKnob Tryd.prog.godebug = none := by kernel_rfl
theorem laidOut : laidOutB Tryd.prog = true := by kernel_rfl
theorem cells5 : Tryd.prog.cellsOf 5 = 1 := by kernel_rfl
theorem gTabType : (Tryd.prog.globals[0]?).map (·.type) = some 75 := by kernel_rfl
theorem cells59 : Tryd.prog.cellsOf 75 = 64 := by kernel_rfl
theorem cells38 : Tryd.prog.cellsOf 62 = 1 := by kernel_rfl

theorem wf_byte {n : Int} (h : (Lit.int .u8 n).wf = true) : 0 ≤ n ∧ n < 256 := by
  have := (bounds_u8 h); omega

theorem kn_length : Kn.length = 64 := by kernel_rfl
theorem kn_small : Kn.all (· < 4294967296) = true := by kernel_rfl
theorem kw_wn (t : Nat) (ht : t < 64) : wn (kw t) = ((Kn.map (fun n : Nat => (n : Int))).getD t 0) := by
  have hl : t < Kn.length := by rw [kn_length]; exact ht
  have hs : Kn[t] < 4294967296 := by
    have := List.all_eq_true.1 kn_small Kn[t] (List.getElem_mem hl)
    simpa using this
  unfold wn kw
  simp only [List.getD_eq_getElem?_getD, List.getElem?_map, List.getElem?_eq_getElem hl, Option.getD_some, Option.map_some]
  rw [BitVec.toNat_ofNat, Nat.mod_eq_of_lt hs]

set_option maxRecDepth 100000 in
/-- The laid table, by its name. -/
theorem consts_of {W : World} (nm : String) (hg : Tryd.prog.globalNamed nm = some 0) (h : laidMetH Tryd.prog [(nm, Rows.laid_lethe_sha_constants)] W) : Kst W := fun t ht => by
  rw [kw_wn t ht]
  have htab : Lib.TabIs Tryd.prog W nm .u32 (Kn.map (fun n : Nat => (n : Int))) := Lib.tabIs_of_head (rest := []) hg gTabType Tryd.underlying75 Tryd.underlying62 cells38 cells59 h
  have hl : t < (Kn.map (fun n : Nat => (n : Int))).length := by rw [List.length_map, kn_length]; exact ht
  have := htab.cell hg t hl
  simpa [List.getD_eq_getElem?_getD, List.getElem?_eq_getElem hl] using this

end Row
end Go.Proofs.YtnfikgnploockaaDoor
