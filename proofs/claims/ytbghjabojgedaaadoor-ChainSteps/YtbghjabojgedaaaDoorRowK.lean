import Derived.Stop.LaidErr
import Derived.Test.YtbghjabojgedaaaDoorTurnG
import Derived.Test.YtbghjabojgedaaaDoorRefa
import Derived.Test.YtbghjabojgedaaaDoorCb
set_option linter.unusedVariables false
set_option linter.unusedSimpArgs false
namespace Go.Proofs.YtbghjabojgedaaaDoor
open Go.ChangeShapes Go.WideShapes Go.ChangeAt Go.RowKit
namespace Row
theorem cells23 : Tryd.prog.cellsOf 23 = 32 := by kernel_rfl
/-- An array of numbers that came in. -/
theorem row_of_trod {H : Type} {enc : TypeId × Value → H} {P : Program} {W : World} {base : Nat} {spare : Nat → Bool} {held : Bool} {fuel : Nat} {t e : TypeId} {n : Nat} {k : IntKind} {cs : List Value} {x : DataW H × List MemPlace} (ht : P.underlying t = some (.array n e)) (he : P.underlying e = some (.int k)) (hce : P.cellsOf e = 1) (hct : P.cellsOf t = n)
    (h : DataW.trod enc P W base spare held fuel t cs = some x) : ∃ zs : List Int, zs.length = n ∧ cs = zs.map (Value.int k) ∧ ∀ z ∈ zs, (Lit.int k z).wf = true := by
  obtain ⟨xs, m, _, _, hl, hlen, hf⟩ := DataW.trod_array ht h
  rw [hct] at hl
  obtain ⟨F, hF⟩ := Deep.choose_lt (α := Int) (n := n) (p := fun i z => cs[i]? = some (.int k z) ∧ (Lit.int k z).wf = true) (fun i hi => by
    have h1 := hf i hi
    rw [hce, List.getElem?_eq_getElem (by omega)] at h1
    obtain ⟨z, e0, _, wf⟩ := DataW.trod_int he h1
    refine ⟨z, ?_, wf⟩
    have h2 : ((cs.drop (i * 1)).take 1)[0]? = some (.int k z) := by rw [e0]; rfl
    simpa using h2)
  refine ⟨(List.range n).map F, by simp, List.ext_getElem? fun i => ?_, fun z hz => ?_⟩
  · rcases Nat.lt_or_ge i n with hi | hi
    · rw [(hF i hi).1]; simp [hi]
    · rw [List.getElem?_eq_none (by omega), List.getElem?_eq_none (by simp; omega)]
  · obtain ⟨i, hi, rfl⟩ := List.mem_map.1 hz
    exact (hF i (List.mem_range.1 hi)).2
theorem bytes_row (zs : List Int) (h : ∀ z ∈ zs, (Lit.int .u8 z).wf = true) : zs.map (Value.int .u8) = (zs.map fun z => UInt8.ofNat z.toNat).map byt := by
  rw [List.map_map]
  refine List.map_congr_left fun z hz => ?_
  have hb := wf_byte (h z hz)
  simp only [Function.comp, byt]
  rw [UInt8.toNat_ofNat', Nat.mod_eq_of_lt (by omega)]
  congr 1
  omega

/-- A key that came in. -/
theorem key_of {H : Type} {enc : TypeId × Value → H} {W : World} {base : Nat} {v : Value} {d : DataW H} {p : List MemPlace} (hv : Value.okWide Tryd.prog W .any base 23 v) (h : ∃ m, DataW.trod enc Tryd.prog W 0 (fun _ => true) true m 23 v.cells.toList = some (d, p)) :
    ∃ k : List UInt8, k.length = 32 ∧ v = .agg (k.map byt).toArray := by
  simp only [Value.okWide, u23] at hv
  obtain ⟨cs, rfl, _, _⟩ := hv
  obtain ⟨fuel, hf⟩ := h
  obtain ⟨zs, hl, hc, hw⟩ := row_of_trod u23 Tryd.underlying5 cells5 cells23 hf
  refine ⟨zs.map fun z => UInt8.ofNat z.toNat, by simp [hl], ?_⟩
  rw [← bytes_row zs hw, ← hc]
  simp [Value.cells]
/-- The three laid tables. -/
theorem consts3 {W : World} (n1 n2 n0 : String) (g1 : Tryd.prog.globalNamed n1 = some 2) (g2 : Tryd.prog.globalNamed n2 = some 1) (g0 : Tryd.prog.globalNamed n0 = some 0)
    (h : laidMetH Tryd.prog [(n1, Rows.laid_lethe_letheref02_constants), (n2, Rows.laid_lethe_letheref02_begin), (n0, Rows.laid_lethe_sha_constants)] W) : Kst W ∧ Rst W ∧ Bst W := by
  have hm : laidMet Tryd.prog [(n1, Rows.laid_lethe_letheref02_constants), (n2, Rows.laid_lethe_letheref02_begin), (n0, Rows.laid_lethe_sha_constants)] W := h
  have hm1 := hm.tail
  have hm2 := hm1.tail
  refine ⟨consts_of n0 g0 hm2, fun t ht => ?_, fun t ht => ?_⟩
  · rw [kw_wn t ht]
    have htab : Lib.TabIs Tryd.prog W n1 .u64 (Kn.map (fun n : Nat => (n : Int))) := Lib.tabIs_of_head (t := 80) (e := 74) (n := 64) g1 (by kernel_rfl) (by kernel_rfl) (by kernel_rfl) (by kernel_rfl) (by kernel_rfl) hm
    have hl : t < (Kn.map (fun n : Nat => (n : Int))).length := by rw [List.length_map, kn_length]; exact ht
    have := htab.cell g1 t hl
    simpa [List.getD_eq_getElem?_getD, List.getElem?_eq_getElem hl] using this
  · have htab : Lib.TabIs Tryd.prog W n2 .u64 (iv.map wn) := Lib.tabIs_of_head (t := 79) (e := 74) (n := 8) g2 (by kernel_rfl) (by kernel_rfl) (by kernel_rfl) (by kernel_rfl) (by kernel_rfl) hm1
    have hl : t < (iv.map wn).length := by rw [List.length_map, iv_length]; exact ht
    have := htab.cell g2 t hl
    rw [this]
    congr 2
    rw [List.getD_eq_getElem?_getD, List.getElem?_eq_getElem hl, List.getElem_map, List.getD_eq_getElem?_getD, List.getElem?_eq_getElem (by rw [iv_length]; exact ht)]
    rfl
end Row
end Go.Proofs.YtbghjabojgedaaaDoor
