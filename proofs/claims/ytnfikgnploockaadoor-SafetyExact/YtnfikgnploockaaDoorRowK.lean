import Derived.Stop.LaidErr
import Derived.ChangeMaps5
import Derived.Test.YtnfikgnploockaaDoorPureG
import Derived.Test.YtnfikgnploockaaDoorSf
set_option linter.unusedVariables false
set_option linter.unusedSimpArgs false
namespace Go.Proofs.YtnfikgnploockaaDoor
open Go.ChangeShapes Go.WideShapes Go.ChangeAt Go.RowKit
namespace Row
theorem cells23 : Tryd.prog.cellsOf 23 = 32 := by kernel_rfl
set_option maxRecDepth 100000 in
/-- An array of numbers that came in. -/
theorem row_of_trod {H : Type} {enc : TypeId × Value → H} {P : Program} {W : World} {base : Nat} {spare : Nat → Bool} {held : Bool} {fuel : Nat} {t e : TypeId} {n : Nat} {k : IntKind} {cs : List Value} {x : DataW H × List MemPlace} (ht : P.underlying t = some (.array n e)) (he : P.underlying e = some (.int k)) (hce : P.cellsOf e = 1) (hct : P.cellsOf t = n)
    (h : DataW.trod enc P W base spare held fuel t cs = some x) : ∃ zs : List Int, zs.length = n ∧ cs = zs.map (Value.int k) ∧ ∀ z ∈ zs, (Lit.int k z).wf = true := by
  obtain ⟨xs, m, _, _, hl, hlen, hf⟩ := DataW.trod_array ht h
  rw [hct] at hl
  obtain ⟨F, hF⟩ := Deep.choose_lt (α := Int) (n := n) (p := fun i z => cs[i]? = some (.int k z) ∧ (Lit.int k z).wf = true) (fun i hi => by
    have h1 := hf i hi
    rw [hce, List.getElem?_eq_getElem (by omega)] at h1
    obtain ⟨z, e0, _, wf⟩ := DataW.trod_int he h1
    refine ⟨z, ?_, wf⟩
    have h2 : ((cs.drop (i * 1)).take 1)[0]? = some (.int k z) := by rw [e0]; rfl
    simpa using h2)
  refine ⟨(List.range n).map F, by simp, List.ext_getElem? fun i => ?_, fun z hz => ?_⟩
  · rcases Nat.lt_or_ge i n with hi | hi
    · rw [(hF i hi).1]; simp [hi]
    · rw [List.getElem?_eq_none (by omega), List.getElem?_eq_none (by simp; omega)]
  · obtain ⟨i, hi, rfl⟩ := List.mem_map.1 hz
    exact (hF i (List.mem_range.1 hi)).2
theorem bytes_row (zs : List Int) (h : ∀ z ∈ zs, (Lit.int .u8 z).wf = true) : zs.map (Value.int .u8) = (zs.map fun z => UInt8.ofNat z.toNat).map byt := by
  rw [List.map_map]
  refine List.map_congr_left fun z hz => ?_
  have hb := wf_byte (h z hz)
  simp only [Function.comp, byt]
  rw [UInt8.toNat_ofNat', Nat.mod_eq_of_lt (by omega)]
  congr 1
  omega

set_option maxRecDepth 100000 in
/-- A key that came in. -/
theorem key_of {H : Type} {enc : TypeId × Value → H} {W : World} {base : Nat} {v : Value} {d : DataW H} {p : List MemPlace} (hv : Value.okWide Tryd.prog W .any base 23 v) (h : ∃ m, DataW.trod enc Tryd.prog W 0 (fun _ => true) true m 23 v.cells.toList = some (d, p)) :
    ∃ k : List UInt8, k.length = 32 ∧ v = .agg (k.map byt).toArray := by
  simp only [Value.okWide, u23] at hv
  obtain ⟨cs, rfl, _, _⟩ := hv
  obtain ⟨fuel, hf⟩ := h
  obtain ⟨zs, hl, hc, hw⟩ := row_of_trod u23 Tryd.underlying5 cells5 cells23 hf
  refine ⟨zs.map fun z => UInt8.ofNat z.toNat, by simp [hl], ?_⟩
  rw [← bytes_row zs hw, ← hc]
  simp [Value.cells]
def db32 : List UInt8 := [0, 1, 28, 2, 29, 14, 24, 3, 30, 22, 20, 15, 25, 17, 4, 8, 31, 27, 13, 23, 21, 19, 16, 7, 26, 12, 18, 6, 11, 5, 10, 9]
def db64 : List UInt8 := [0, 1, 56, 2, 57, 49, 28, 3, 61, 58, 42, 50, 38, 29, 17, 4, 62, 47, 59, 36, 45, 43, 51, 22, 53, 39, 33, 30, 24, 18, 12, 5, 63, 55, 48, 27, 60, 41, 37, 16, 46, 35, 44, 21, 52, 32, 23, 11, 54, 26, 40, 15, 34, 20, 31, 10, 25, 14, 19, 9, 13, 8, 7, 6]
set_option maxRecDepth 100000 in
/-- The program's laid tables. -/
theorem consts2 {W : World} (n1 n0 : String) (g1 : Tryd.prog.globalNamed n1 = some 3) (e1 : n1 = pnm) (g0 : Tryd.prog.globalNamed n0 = some 0)
    (hm : laidMet Tryd.prog [(n1, Rows.laid_internal_strconv_uint64pow10), (n0, Rows.laid_lethe_sha_constants)] W) : Lst W := by
  have htab : Lib.TabIs Tryd.prog W n1 .u64 Lib.pow10Tab := Lib.tabIs_of_head (t := 108) (e := 78) (n := 20) g1 (by kernel_rfl) (by kernel_rfl) (by kernel_rfl) (by kernel_rfl) (by kernel_rfl) hm
  have hc := htab.cell g1 0 (by rw [Lib.pow10Tab_length]; decide)
  subst e1
  exact ⟨consts_of n0 g0 hm.tail, htab, cell_lt hc⟩
set_option maxRecDepth 100000 in
theorem consts4 {W : World} (n5 n6 n1 n0 : String) (g1 : Tryd.prog.globalNamed n1 = some 3) (e1 : n1 = pnm) (g0 : Tryd.prog.globalNamed n0 = some 0)
    (h : laidMetH Tryd.prog [(n5, Rows.laid_math_bits_deBruijn32tab), (n6, Rows.laid_math_bits_deBruijn64tab), (n1, Rows.laid_internal_strconv_uint64pow10), (n0, Rows.laid_lethe_sha_constants)] W) : Lst W := by
  have hm : laidMet Tryd.prog [(n5, Rows.laid_math_bits_deBruijn32tab), (n6, Rows.laid_math_bits_deBruijn64tab), (n1, Rows.laid_internal_strconv_uint64pow10), (n0, Rows.laid_lethe_sha_constants)] W := h
  exact consts2 n1 n0 g1 e1 g0 hm.tail.tail
set_option maxRecDepth 100000 in
/-- A string that came in. -/
theorem str_of {H : Type} {enc : TypeId × Value → H} {W : World} {base : Nat} {v : Value} {d : DataW H} {p : List MemPlace} (hv : Value.okWide Tryd.prog W .any base 9 v) (h : ∃ m, DataW.trod enc Tryd.prog W 0 (fun _ => true) true m 9 v.cells.toList = some (d, p)) : ∃ l : List UInt8, v = sv l := by
  obtain ⟨s, rfl, _, _, _⟩ := Go.ChangeMaps.open_string Tryd.underlying9 hv h
  exact ⟨s.data.toList, by unfold sv; cases s; simp⟩
end Row
end Go.Proofs.YtnfikgnploockaaDoor
