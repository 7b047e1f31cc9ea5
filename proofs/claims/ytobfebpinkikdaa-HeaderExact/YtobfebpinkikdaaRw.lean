import Derived.Test.YtobfebpinkikdaaWordsG
import Derived.Test.YtobfebpinkikdaaHb
import Derived.Deep.Strs
import Derived.ShutString
import Derived.JoinedCond
set_option linter.unusedVariables false
set_option linter.unusedSimpArgs false
namespace Go.Proofs.Ytobfebpinkikdaa
open Go.ChangeShapes Go.WideShapes Go.ChangeAt Go.RowKit

theorem bytes_cs {H : Type} {enc : TypeId × Value → H} {W : World} {base : Nat} {spare : Nat → Bool} {held : Bool} {fuel : Nat} {cs : List Value} {x : DataW H × List MemPlace} (h : DataW.trod enc Try.prog W base spare held fuel 31 cs = some x) (hw : ∀ n ∈ x.1.weights Try.prog 31, n ≤ 140737488351232) :
    ∃ v bs, cs = [v] ∧ Has W v bs ∧ bs.length ≤ 140737488351232 := by
  rcases open_ints Try.underlying31 Try.underlying5 Row.cells5 h with ⟨rfl, _⟩ | ⟨a, len, cap, zs, rfl, _, hl, hm, hz, hx, hcell, hwz⟩
  · exact ⟨_, [], rfl, Has.nil _, by decide⟩
  · have hzl : len ≤ zs.length := by rw [hz]; split <;> omega
    have hlen : ((zs.take len).map fun n => UInt8.ofNat n.toNat).length = len := by simp; omega
    have hb5 : Try.prog.bytesOf 5 = 1 := by kernel_rfl
    have hle : len ≤ 140737488351232 := by
      have h1 := hw (((lits (H := H) .u8 (zs.take len)).length + (lits (H := H) .u8 (zs.drop len)).length) * Try.prog.bytesOf 5) (by rw [hx]; simp [DataW.weights, Try.underlying31])
      rw [hb5] at h1
      simp only [lits, List.length_map, List.length_take, List.length_drop] at h1
      omega
    refine ⟨_, (zs.take len).map fun n => UInt8.ofNat n.toNat, rfl, .inr ⟨a, cap, by rw [hlen], by rw [hlen]; exact hl, fun i u hu => ?_⟩, by rw [hlen]; exact hle⟩
    have hi : i < len := by
      rcases Nat.lt_or_ge i len with h | h
      · exact h
      · rw [List.getElem?_eq_none (by omega)] at hu; cases hu
    rw [List.getElem?_map, List.getElem?_take_of_lt hi, List.getElem?_eq_getElem (by omega)] at hu
    simp only [Option.map_some, Option.some.injEq] at hu
    rw [hcell i (by omega), ← hu]
    have hb := Row.wf_byte (hwz _ (List.getElem_mem (show i < zs.length by omega)))
    simp only [List.getD_eq_getElem?_getD, List.getElem?_eq_getElem (show i < zs.length by omega), Option.getD_some, byt]
    rw [UInt8.toNat_ofNat', Nat.mod_eq_of_lt (by omega), Int.toNat_of_nonneg hb.1]
section
variable {H : Type} {enc : TypeId × Value → H} {W : World} {base : Nat} {spare : Nat → Bool} {held : Bool} {fuel : Nat} {cs : List Value} {x : DataW H × List MemPlace}
theorem fld_of {t : TypeId} {fs : Array Field} (ht : Try.prog.underlying t = some (.struct fs)) (h : DataW.trod enc Try.prog W base spare held fuel t cs = some x) : cs.length = Try.prog.cellsOf t ∧ ∃ n, ∀ (i : Nat) (f : Field), fs[i]? = some f → ∃ y, DataW.trod enc Try.prog W base spare held n f.type ((cs.drop f.offset).take (Try.prog.cellsOf f.type)) = some y ∧ ∀ m ∈ y.1.weights Try.prog f.type, m ∈ x.1.weights Try.prog t := by
  obtain ⟨xs, n, _, hx, hl, hlen, hf⟩ := DataW.trod_struct ht h
  refine ⟨hl, n, fun i f hi => ?_⟩
  have hil : i < fs.size := (Array.getElem?_eq_some_iff.1 hi).1
  refine ⟨xs[i]'(by omega), by rw [hf i f hi, List.getElem?_eq_getElem (by omega)], fun m hm => ?_⟩
  rw [hx]
  simp only [DataW.weights, ht]
  exact DataW.weights_mem_each (j := i) (by rw [List.getElem?_map, Array.getElem?_toList, hi]; rfl) (by rw [List.getElem?_map, List.getElem?_eq_getElem (by omega)]; rfl) m hm
theorem fld_at {t ft : TypeId} {fs : Array Field} {n off sz : Nat} (hf : ∀ (i : Nat) (f : Field), fs[i]? = some f → ∃ y, DataW.trod enc Try.prog W base spare held n f.type ((cs.drop f.offset).take (Try.prog.cellsOf f.type)) = some y ∧ ∀ m ∈ y.1.weights Try.prog f.type, m ∈ x.1.weights Try.prog t) (i : Nat) {f : Field} (hi : fs[i]? = some f) (ht : f.type = ft) (ho : f.offset = off) (hs : Try.prog.cellsOf ft = sz) : ∃ y, DataW.trod enc Try.prog W base spare held n ft ((cs.drop off).take sz) = some y ∧ ∀ m ∈ y.1.weights Try.prog ft, m ∈ x.1.weights Try.prog t := by
  subst ht ho hs
  exact hf i f hi
theorem key_of (h : DataW.trod enc Try.prog W base spare held fuel 23 cs = some x) : ∃ K : List UInt8, K.length = 32 ∧ cs = K.map byt := by
  obtain ⟨zs, hl, e, hw⟩ := Row.row_of_trod u23 Try.underlying5 Row.cells5 (by kernel_rfl) h
  exact ⟨zs.map fun z => UInt8.ofNat z.toNat, by rw [List.length_map]; exact hl, by rw [e, Row.bytes_row zs hw]⟩
theorem sid_of (h : DataW.trod enc Try.prog W base spare held fuel 28 cs = some x) : ∃ K : List UInt8, K.length = 16 ∧ cs = K.map byt := by
  obtain ⟨zs, hl, e, hw⟩ := Row.row_of_trod u28 Try.underlying5 Row.cells5 (by kernel_rfl) h
  exact ⟨zs.map fun z => UInt8.ofNat z.toNat, by rw [List.length_map]; exact hl, by rw [e, Row.bytes_row zs hw]⟩
theorem u32_of (h : DataW.trod enc Try.prog W base spare held fuel 24 cs = some x) : ∃ n : Nat, n < 4294967296 ∧ cs = [u32v n] := by
  obtain ⟨z, e, _, hw⟩ := DataW.trod_int Try.underlying24 h
  have hb := bounds_u32 hw
  exact ⟨z.toNat, by omega, by rw [e]; unfold u32v; congr 2; omega⟩
theorem parts3 (cs : List Value) (a b : Nat) (h : cs.length = a + (b + 1)) : cs = cs.take a ++ ((cs.drop a).take b ++ (cs.drop (a + b)).take 1) := by
  rw [List.take_of_length_le (l := cs.drop (a + b)) (by rw [List.length_drop]; omega), ← List.drop_drop, List.take_append_drop, List.take_append_drop]
theorem hel_of (h : DataW.trod enc Try.prog W base spare held fuel 26 cs = some x) : ∃ g : Hl, g.ok ∧ cs = g.cs := by
  obtain ⟨hl, n, hf⟩ := fld_of Try.underlying26 h
  have h65 : Try.prog.cellsOf 26 = 65 := by kernel_rfl
  rw [h65] at hl
  obtain ⟨y0, t0, m0⟩ := fld_at hf 0 (ft := 23) (off := 0) (sz := 32) rfl rfl rfl (by kernel_rfl)
  obtain ⟨y1, t1, m1⟩ := fld_at hf 1 (ft := 23) (off := 32) (sz := 32) rfl rfl rfl (by kernel_rfl)
  obtain ⟨y2, t2, m2⟩ := fld_at hf 2 (ft := 24) (off := 64) (sz := 1) rfl rfl rfl (by kernel_rfl)
  obtain ⟨K0, l0, e0⟩ := key_of t0
  obtain ⟨K1, l1, e1⟩ := key_of t1
  obtain ⟨p, lp, e2⟩ := u32_of t2
  refine ⟨⟨K0, K1, p⟩, ⟨l0, l1, lp⟩, ?_⟩
  rw [parts3 cs 32 32 hl]
  unfold Hl.cs
  rw [← e0, ← e1, ← e2, List.drop_zero]
theorem off_of_trod (h : DataW.trod enc Try.prog W base spare held fuel 42 cs = some x) : ∃ g : Of, g.ok ∧ cs = g.cs := by
  obtain ⟨hl, n, hf⟩ := fld_of Try.underlying42 h
  have h65 : Try.prog.cellsOf 42 = 65 := by kernel_rfl
  rw [h65] at hl
  obtain ⟨y0, t0, m0⟩ := fld_at hf 0 (ft := 23) (off := 0) (sz := 32) rfl rfl rfl (by kernel_rfl)
  obtain ⟨y1, t1, m1⟩ := fld_at hf 1 (ft := 24) (off := 32) (sz := 1) rfl rfl rfl (by kernel_rfl)
  obtain ⟨y2, t2, m2⟩ := fld_at hf 2 (ft := 23) (off := 33) (sz := 32) rfl rfl rfl (by kernel_rfl)
  obtain ⟨K0, l0, e0⟩ := key_of t0
  obtain ⟨p, lp, e1⟩ := u32_of t1
  obtain ⟨K1, l1, e2⟩ := key_of t2
  refine ⟨⟨K0, p, K1⟩, ⟨l0, lp, l1⟩, ?_⟩
  unfold Of.cs
  rw [← e0, ← e1, ← e2, List.drop_zero, List.take_of_length_le (l := cs.drop 33) (by rw [List.length_drop]; omega), show cs.drop 33 = (cs.drop 32).drop 1 from by rw [List.drop_drop], List.take_append_drop, List.take_append_drop]
theorem hed_of (h : DataW.trod enc Try.prog W base spare held fuel 30 cs = some x) : ∃ g : Hd, g.ok ∧ cs = g.cs := by
  obtain ⟨hl, n, hf⟩ := fld_of Try.underlying30 h
  have h51 : Try.prog.cellsOf 30 = 51 := by kernel_rfl
  rw [h51] at hl
  obtain ⟨y0, t0, m0⟩ := fld_at hf 0 (ft := 28) (off := 0) (sz := 16) rfl rfl rfl (by kernel_rfl)
  obtain ⟨y1, t1, m1⟩ := fld_at hf 1 (ft := 24) (off := 16) (sz := 1) rfl rfl rfl (by kernel_rfl)
  obtain ⟨y2, t2, m2⟩ := fld_at hf 2 (ft := 23) (off := 17) (sz := 32) rfl rfl rfl (by kernel_rfl)
  obtain ⟨y3, t3, m3⟩ := fld_at hf 3 (ft := 24) (off := 49) (sz := 1) rfl rfl rfl (by kernel_rfl)
  obtain ⟨y4, t4, m4⟩ := fld_at hf 4 (ft := 24) (off := 50) (sz := 1) rfl rfl rfl (by kernel_rfl)
  obtain ⟨K0, l0, e0⟩ := sid_of t0
  obtain ⟨a, la, e1⟩ := u32_of t1
  obtain ⟨K1, l1, e2⟩ := key_of t2
  obtain ⟨b, lb, e3⟩ := u32_of t3
  obtain ⟨c, lc, e4⟩ := u32_of t4
  refine ⟨⟨K0, a, K1, b, c⟩, ⟨l0, la, l1, lb, lc⟩, ?_⟩
  unfold Hd.cs
  rw [← e0, ← e1, ← e2, ← e3, ← e4, List.drop_zero, List.take_of_length_le (l := cs.drop 50) (by rw [List.length_drop]; omega), show cs.drop 50 = (cs.drop 49).drop 1 from by rw [List.drop_drop], List.take_append_drop, show cs.drop 49 = (cs.drop 17).drop 32 from by rw [List.drop_drop], List.take_append_drop, show cs.drop 17 = (cs.drop 16).drop 1 from by rw [List.drop_drop], List.take_append_drop, List.take_append_drop]
theorem pak_of (h : DataW.trod enc Try.prog W base spare held fuel 33 cs = some x) (hw : ∀ n ∈ x.1.weights Try.prog 33, n ≤ 140737488351232) : ∃ (g : Pk) (body : List UInt8), g.ok ∧ cs = g.cs ∧ Has W g.bv body ∧ body.length ≤ 140737488351232 := by
  obtain ⟨hl, n, hf⟩ := fld_of Try.underlying33 h
  have h118 : Try.prog.cellsOf 33 = 118 := by kernel_rfl
  rw [h118] at hl
  obtain ⟨y0, t0, m0⟩ := fld_at hf 0 (ft := 3) (off := 0) (sz := 1) rfl rfl rfl (by kernel_rfl)
  obtain ⟨y1, t1, m1⟩ := fld_at hf 1 (ft := 26) (off := 1) (sz := 65) rfl rfl rfl (by kernel_rfl)
  obtain ⟨y2, t2, m2⟩ := fld_at hf 2 (ft := 30) (off := 66) (sz := 51) rfl rfl rfl (by kernel_rfl)
  obtain ⟨y3, t3, m3⟩ := fld_at hf 3 (ft := 31) (off := 117) (sz := 1) rfl rfl rfl (by kernel_rfl)
  obtain ⟨k, e0, _, _⟩ := DataW.trod_int Try.underlying3 t0
  obtain ⟨g1, k1, e1⟩ := hel_of t1
  obtain ⟨g2, k2, e2⟩ := hed_of t2
  obtain ⟨v, body, e3, hb, hm⟩ := bytes_cs t3 (fun n hn => hw n (m3 n hn))
  refine ⟨⟨k, g1, g2, v⟩, body, ⟨k1, k2⟩, ?_, hb, hm⟩
  unfold Pk.cs
  rw [← e0, ← e1, ← e2, ← e3, List.drop_zero, List.take_of_length_le (l := cs.drop 117) (by rw [List.length_drop]; omega), show cs.drop 117 = (cs.drop 66).drop 51 from by rw [List.drop_drop], List.take_append_drop, show cs.drop 66 = (cs.drop 1).drop 65 from by rw [List.drop_drop], List.take_append_drop, List.take_append_drop]
end
end Go.Proofs.Ytobfebpinkikdaa
