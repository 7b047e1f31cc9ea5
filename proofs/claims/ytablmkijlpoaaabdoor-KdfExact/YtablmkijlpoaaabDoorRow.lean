import Derived.Test.YtablmkijlpoaaabDoorRows
import Derived.WalkKit
import Derived.ProofKit
import Derived.OpenShut
import Derived.ChangeOld
import Derived.Below
import Derived.SizedLaws
import Derived.Lib.LaidTab
import Derived.Deep.Slices
import Derived.Test.YtablmkijlpoaaabDoorComp
namespace Go.Proofs.YtablmkijlpoaaabDoor
open Go.ChangeShapes Go.WideShapes Go.ChangeAt Go.RowKit
namespace Row

theorem own : ownKnob Tryd.prog.godebug = none := by kernel_rfl
theorem laidOut : laidOutB Tryd.prog = true := by kernel_rfl
theorem cells5 : Tryd.prog.cellsOf 5 = 1 := by kernel_rfl
theorem gTabType : (Tryd.prog.globals[0]?).map (·.type) = some 80 := by kernel_rfl
theorem cells59 : Tryd.prog.cellsOf 80 = 64 := by kernel_rfl
theorem cells38 : Tryd.prog.cellsOf 69 = 1 := by kernel_rfl

theorem wf_byte {n : Int} (h : (Lit.int .u8 n).wf = true) : 0 ≤ n ∧ n < 256 := by
  have := (bounds_u8 h); omega

/-- A slice of bytes that came in. -/
theorem bytes_of {H : Type} {enc : TypeId × Value → H} {W : World} {base : Nat} {v : Value} {d : DataW H} {p : List MemPlace} (hv : Value.okWide Tryd.prog W .any base 29 v) (h : ∃ m, DataW.trod enc Tryd.prog W 0 (fun _ => true) true m 29 v.cells.toList = some (d, p)) :
    ∃ bs, Has W v bs ∧ bs.length ≤ 9223372036854775807 := by
  obtain ⟨a0, len0, cap0, rfl⟩ := okWide_slice Tryd.underlying29 hv
  obtain ⟨fuel, hf⟩ := h
  rcases open_ints Tryd.underlying29 Tryd.underlying5 cells5 hf with ⟨hcs, _⟩ | ⟨x, l, c, zs, hcs, _, hl, hm, hz, hx, hcell, hwz⟩
  · simp [Value.cells] at hcs
    obtain ⟨rfl, rfl, rfl⟩ := hcs
    exact ⟨[], Has.nil _, by simp⟩
  · simp [Value.cells] at hcs
    obtain ⟨rfl, rfl, rfl⟩ := hcs
    have hzl : len0 ≤ zs.length := by simp at hz; omega
    have hlen : ((zs.take len0).map fun n => UInt8.ofNat n.toNat).length = len0 := by simp; omega
    unfold maxLen at hm
    refine ⟨(zs.take len0).map fun n => UInt8.ofNat n.toNat, .inr ⟨x, cap0, by rw [hlen], by rw [hlen]; exact hl, fun i u hu => ?_⟩, by rw [hlen]; omega⟩
    have hi : i < len0 := by
      rcases Nat.lt_or_ge i len0 with h | h
      · exact h
      · rw [List.getElem?_eq_none (by omega)] at hu; cases hu
    rw [List.getElem?_map, List.getElem?_take_of_lt hi, List.getElem?_eq_getElem (by omega)] at hu
    simp only [Option.map_some, Option.some.injEq] at hu
    rw [hcell i (by omega), ← hu]
    have hb := wf_byte (hwz _ (List.getElem_mem (show i < zs.length by omega)))
    simp only [List.getD_eq_getElem?_getD, List.getElem?_eq_getElem (show i < zs.length by omega), Option.getD_some, byt]
    rw [UInt8.toNat_ofNat', Nat.mod_eq_of_lt (by omega)]
    congr 2
    omega

theorem kn_length : Kn.length = 64 := by kernel_rfl
theorem kn_small : Kn.all (· < 4294967296) = true := by kernel_rfl
theorem kw_wn (t : Nat) (ht : t < 64) : wn (kw t) = ((Kn.map (fun n : Nat => (n : Int))).getD t 0) := by
  have hl : t < Kn.length := by rw [kn_length]; exact ht
  have hs : Kn[t] < 4294967296 := by
    have := List.all_eq_true.1 kn_small Kn[t] (List.getElem_mem hl)
    simpa using this
  unfold wn kw
  simp only [List.getD_eq_getElem?_getD, List.getElem?_map, List.getElem?_eq_getElem hl, Option.getD_some, Option.map_some]
  rw [BitVec.toNat_ofNat, Nat.mod_eq_of_lt hs]

/-- The laid table, by its name. -/
theorem consts_of {W : World} (nm : String) (hg : Tryd.prog.globalNamed nm = some 0) (h : laidMetH Tryd.prog [(nm, Rows.laid_lethe_sha_constants)] W) : Kst W := fun t ht => by
  rw [kw_wn t ht]
  have htab : Lib.TabIs Tryd.prog W nm .u32 (Kn.map (fun n : Nat => (n : Int))) := Lib.tabIs_of_head (rest := []) hg gTabType Tryd.underlying80 Tryd.underlying69 cells38 cells59 h
  have hl : t < (Kn.map (fun n : Nat => (n : Int))).length := by rw [List.length_map, kn_length]; exact ht
  have := htab.cell hg t hl
  simpa [List.getD_eq_getElem?_getD, List.getElem?_eq_getElem hl] using this

end Row
end Go.Proofs.YtablmkijlpoaaabDoor
