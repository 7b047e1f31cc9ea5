import Derived.Test.YtacimelcmkhhlaaWordsG
import Derived.Test.YtacimelcmkhhlaaJd
import Derived.Deep.Strs
import Derived.ShutString
import Derived.JoinedCond
set_option linter.unusedVariables false
set_option linter.unusedSimpArgs false
namespace Go.Proofs.Ytacimelcmkhhlaa
open Go.ChangeShapes Go.WideShapes Go.ChangeAt Go.RowKit

theorem bytes_cs {H : Type} {enc : TypeId × Value → H} {W : World} {base : Nat} {spare : Nat → Bool} {held : Bool} {fuel : Nat} {cs : List Value} {x : DataW H × List MemPlace} (h : DataW.trod enc Try.prog W base spare held fuel 38 cs = some x) (hw : ∀ n ∈ x.1.weights Try.prog 38, n ≤ 140737488351232) :
    ∃ v bs, cs = [v] ∧ Has W v bs ∧ bs.length ≤ 140737488351232 := by
  rcases open_ints Try.underlying38 Try.underlying5 Row.cells5 h with ⟨rfl, _⟩ | ⟨a, len, cap, zs, rfl, _, hl, hm, hz, hx, hcell, hwz⟩
  · exact ⟨_, [], rfl, Has.nil _, by decide⟩
  · have hzl : len ≤ zs.length := by rw [hz]; split <;> omega
    have hlen : ((zs.take len).map fun n => UInt8.ofNat n.toNat).length = len := by simp; omega
    have hb5 : Try.prog.bytesOf 5 = 1 := by kernel_rfl
    have hle : len ≤ 140737488351232 := by
      have h1 := hw (((lits (H := H) .u8 (zs.take len)).length + (lits (H := H) .u8 (zs.drop len)).length) * Try.prog.bytesOf 5) (by rw [hx]; simp [DataW.weights, Try.underlying38])
      rw [hb5] at h1
      simp only [lits, List.length_map, List.length_take, List.length_drop] at h1
      omega
    refine ⟨_, (zs.take len).map fun n => UInt8.ofNat n.toNat, rfl, .inr ⟨a, cap, by rw [hlen], by rw [hlen]; exact hl, fun i u hu => ?_⟩, by rw [hlen]; exact hle⟩
    have hi : i < len := by
      rcases Nat.lt_or_ge i len with h | h
      · exact h
      · rw [List.getElem?_eq_none (by omega)] at hu; cases hu
    rw [List.getElem?_map, List.getElem?_take_of_lt hi, List.getElem?_eq_getElem (by omega)] at hu
    simp only [Option.map_some, Option.some.injEq] at hu
    rw [hcell i (by omega), ← hu]
    have hb := Row.wf_byte (hwz _ (List.getElem_mem (show i < zs.length by omega)))
    simp only [List.getD_eq_getElem?_getD, List.getElem?_eq_getElem (show i < zs.length by omega), Option.getD_some, byt]
    rw [UInt8.toNat_ofNat', Nat.mod_eq_of_lt (by omega), Int.toNat_of_nonneg hb.1]
section
variable {H : Type} {enc : TypeId × Value → H} {W : World} {base : Nat} {spare : Nat → Bool} {held : Bool} {fuel : Nat} {cs : List Value} {x : DataW H × List MemPlace}
theorem fld_of {t : TypeId} {fs : Array Field} (ht : Try.prog.underlying t = some (.struct fs)) (h : DataW.trod enc Try.prog W base spare held fuel t cs = some x) : cs.length = Try.prog.cellsOf t ∧ ∃ n, ∀ (i : Nat) (f : Field), fs[i]? = some f → ∃ y, DataW.trod enc Try.prog W base spare held n f.type ((cs.drop f.offset).take (Try.prog.cellsOf f.type)) = some y ∧ ∀ m ∈ y.1.weights Try.prog f.type, m ∈ x.1.weights Try.prog t := by
  obtain ⟨xs, n, _, hx, hl, hlen, hf⟩ := DataW.trod_struct ht h
  refine ⟨hl, n, fun i f hi => ?_⟩
  have hil : i < fs.size := (Array.getElem?_eq_some_iff.1 hi).1
  refine ⟨xs[i]'(by omega), by rw [hf i f hi, List.getElem?_eq_getElem (by omega)], fun m hm => ?_⟩
  rw [hx]
  simp only [DataW.weights, ht]
  exact DataW.weights_mem_each (j := i) (by rw [List.getElem?_map, Array.getElem?_toList, hi]; rfl) (by rw [List.getElem?_map, List.getElem?_eq_getElem (by omega)]; rfl) m hm
theorem fld_at {t ft : TypeId} {fs : Array Field} {n off sz : Nat} (hf : ∀ (i : Nat) (f : Field), fs[i]? = some f → ∃ y, DataW.trod enc Try.prog W base spare held n f.type ((cs.drop f.offset).take (Try.prog.cellsOf f.type)) = some y ∧ ∀ m ∈ y.1.weights Try.prog f.type, m ∈ x.1.weights Try.prog t) (i : Nat) {f : Field} (hi : fs[i]? = some f) (ht : f.type = ft) (ho : f.offset = off) (hs : Try.prog.cellsOf ft = sz) : ∃ y, DataW.trod enc Try.prog W base spare held n ft ((cs.drop off).take sz) = some y ∧ ∀ m ∈ y.1.weights Try.prog ft, m ∈ x.1.weights Try.prog t := by
  subst ht ho hs
  exact hf i f hi
theorem key_of (h : DataW.trod enc Try.prog W base spare held fuel 25 cs = some x) : ∃ K : List UInt8, K.length = 32 ∧ cs = K.map byt := by
  obtain ⟨zs, hl, e, hw⟩ := Row.row_of_trod u25 Try.underlying5 Row.cells5 (by kernel_rfl) h
  exact ⟨zs.map fun z => UInt8.ofNat z.toNat, by rw [List.length_map]; exact hl, by rw [e, Row.bytes_row zs hw]⟩
theorem sid_of (h : DataW.trod enc Try.prog W base spare held fuel 23 cs = some x) : ∃ K : List UInt8, K.length = 16 ∧ cs = K.map byt := by
  obtain ⟨zs, hl, e, hw⟩ := Row.row_of_trod u23 Try.underlying5 Row.cells5 (by kernel_rfl) h
  exact ⟨zs.map fun z => UInt8.ofNat z.toNat, by rw [List.length_map]; exact hl, by rw [e, Row.bytes_row zs hw]⟩
theorem u32_of (h : DataW.trod enc Try.prog W base spare held fuel 28 cs = some x) : ∃ n : Nat, n < 4294967296 ∧ cs = [u32v n] := by
  obtain ⟨z, e, _, hw⟩ := DataW.trod_int Try.underlying28 h
  have hb := bounds_u32 hw
  exact ⟨z.toNat, by omega, by rw [e]; unfold u32v; congr 2; omega⟩
theorem parts3 (cs : List Value) (a b : Nat) (h : cs.length = a + (b + 1)) : cs = cs.take a ++ ((cs.drop a).take b ++ (cs.drop (a + b)).take 1) := by
  rw [List.take_of_length_le (l := cs.drop (a + b)) (by rw [List.length_drop]; omega), ← List.drop_drop, List.take_append_drop, List.take_append_drop]
theorem hel_of (h : DataW.trod enc Try.prog W base spare held fuel 30 cs = some x) : ∃ g : Hl, g.ok ∧ cs = g.cs := by
  obtain ⟨hl, n, hf⟩ := fld_of Try.underlying30 h
  have h65 : Try.prog.cellsOf 30 = 65 := by kernel_rfl
  rw [h65] at hl
  obtain ⟨y0, t0, m0⟩ := fld_at hf 0 (ft := 25) (off := 0) (sz := 32) rfl rfl rfl (by kernel_rfl)
  obtain ⟨y1, t1, m1⟩ := fld_at hf 1 (ft := 25) (off := 32) (sz := 32) rfl rfl rfl (by kernel_rfl)
  obtain ⟨y2, t2, m2⟩ := fld_at hf 2 (ft := 28) (off := 64) (sz := 1) rfl rfl rfl (by kernel_rfl)
  obtain ⟨K0, l0, e0⟩ := key_of t0
  obtain ⟨K1, l1, e1⟩ := key_of t1
  obtain ⟨p, lp, e2⟩ := u32_of t2
  refine ⟨⟨K0, K1, p⟩, ⟨l0, l1, lp⟩, ?_⟩
  rw [parts3 cs 32 32 hl]
  unfold Hl.cs
  rw [← e0, ← e1, ← e2, List.drop_zero]
theorem bnd_of (h : DataW.trod enc Try.prog W base spare held fuel 31 cs = some x) : ∃ K : List UInt8, K.length = 64 ∧ cs = K.map byt := by
  obtain ⟨zs, hl, e, hw⟩ := Row.row_of_trod u31 Try.underlying5 Row.cells5 (by kernel_rfl) h
  exact ⟨zs.map fun z => UInt8.ofNat z.toNat, by rw [List.length_map]; exact hl, by rw [e, Row.bytes_row zs hw]⟩
theorem par_of (h : DataW.trod enc Try.prog W base spare held fuel 27 cs = some x) : ∃ K L : List UInt8, K.length = 32 ∧ L.length = 32 ∧ cs = K.map byt ++ L.map byt := by
  obtain ⟨hl, n, hf⟩ := fld_of Try.underlying27 h
  have h64 : Try.prog.cellsOf 27 = 64 := by kernel_rfl
  rw [h64] at hl
  obtain ⟨y0, t0, m0⟩ := fld_at hf 0 (ft := 25) (off := 0) (sz := 32) rfl rfl rfl (by kernel_rfl)
  obtain ⟨y1, t1, m1⟩ := fld_at hf 1 (ft := 25) (off := 32) (sz := 32) rfl rfl rfl (by kernel_rfl)
  obtain ⟨K0, l0, e0⟩ := key_of t0
  obtain ⟨K1, l1, e1⟩ := key_of t1
  refine ⟨K0, K1, l0, l1, ?_⟩
  rw [← e0, ← e1, List.drop_zero, List.take_of_length_le (l := cs.drop 32) (by rw [List.length_drop]; omega), List.take_append_drop]
theorem cs_pair (s : Sg) : s.cs = s.sid.map byt ++ (s.root.map byt ++ ((s.pri.map byt ++ s.pub.map byt) ++ (s.peer.map byt ++ (s.sk.map byt ++ (s.rk.map byt ++ ([u32v s.own] ++ ([u32v s.turns] ++ ([u32v s.sent] ++ ([u32v s.got] ++ ([u32v s.prev] ++ ([u32v s.ser] ++ (s.hl.cs ++ s.bind.map byt)))))))))))) := by simp [Sg.cs]
theorem sta_of (h : DataW.trod enc Try.prog W base spare held fuel 33 cs = some x) : ∃ g : Sg, g.ok ∧ cs = g.cs := by
  obtain ⟨hl, n, hf⟩ := fld_of Try.underlying33 h
  have h343 : Try.prog.cellsOf 33 = 343 := by kernel_rfl
  rw [h343] at hl
  obtain ⟨y0, t0, m0⟩ := fld_at hf 0 (ft := 23) (off := 0) (sz := 16) rfl rfl rfl (by kernel_rfl)
  obtain ⟨y1, t1, m1⟩ := fld_at hf 1 (ft := 25) (off := 16) (sz := 32) rfl rfl rfl (by kernel_rfl)
  obtain ⟨y2, t2, m2⟩ := fld_at hf 2 (ft := 27) (off := 48) (sz := 64) rfl rfl rfl (by kernel_rfl)
  obtain ⟨y3, t3, m3⟩ := fld_at hf 3 (ft := 25) (off := 112) (sz := 32) rfl rfl rfl (by kernel_rfl)
  obtain ⟨y4, t4, m4⟩ := fld_at hf 4 (ft := 25) (off := 144) (sz := 32) rfl rfl rfl (by kernel_rfl)
  obtain ⟨y5, t5, m5⟩ := fld_at hf 5 (ft := 25) (off := 176) (sz := 32) rfl rfl rfl (by kernel_rfl)
  obtain ⟨y6, t6, m6⟩ := fld_at hf 6 (ft := 28) (off := 208) (sz := 1) rfl rfl rfl (by kernel_rfl)
  obtain ⟨y7, t7, m7⟩ := fld_at hf 7 (ft := 28) (off := 209) (sz := 1) rfl rfl rfl (by kernel_rfl)
  obtain ⟨y8, t8, m8⟩ := fld_at hf 8 (ft := 28) (off := 210) (sz := 1) rfl rfl rfl (by kernel_rfl)
  obtain ⟨y9, t9, m9⟩ := fld_at hf 9 (ft := 28) (off := 211) (sz := 1) rfl rfl rfl (by kernel_rfl)
  obtain ⟨y10, t10, m10⟩ := fld_at hf 10 (ft := 28) (off := 212) (sz := 1) rfl rfl rfl (by kernel_rfl)
  obtain ⟨y11, t11, m11⟩ := fld_at hf 11 (ft := 28) (off := 213) (sz := 1) rfl rfl rfl (by kernel_rfl)
  obtain ⟨y12, t12, m12⟩ := fld_at hf 12 (ft := 30) (off := 214) (sz := 65) rfl rfl rfl (by kernel_rfl)
  obtain ⟨y13, t13, m13⟩ := fld_at hf 13 (ft := 31) (off := 279) (sz := 64) rfl rfl rfl (by kernel_rfl)
  obtain ⟨K0, l0, e0⟩ := sid_of t0
  obtain ⟨K1, l1, e1⟩ := key_of t1
  obtain ⟨K2, L2, l2, l2', e2⟩ := par_of t2
  obtain ⟨K3, l3, e3⟩ := key_of t3
  obtain ⟨K4, l4, e4⟩ := key_of t4
  obtain ⟨K5, l5, e5⟩ := key_of t5
  obtain ⟨K6, l6, e6⟩ := u32_of t6
  obtain ⟨K7, l7, e7⟩ := u32_of t7
  obtain ⟨K8, l8, e8⟩ := u32_of t8
  obtain ⟨K9, l9, e9⟩ := u32_of t9
  obtain ⟨K10, l10, e10⟩ := u32_of t10
  obtain ⟨K11, l11, e11⟩ := u32_of t11
  obtain ⟨K12, l12, e12⟩ := hel_of t12
  obtain ⟨K13, l13, e13⟩ := bnd_of t13
  refine ⟨⟨K0, K1, K2, L2, K3, K4, K5, K6, K7, K8, K9, K10, K11, K12, K13⟩, ⟨l0, l1, l2, l2', l3, l4, l5, l6, l7, l8, l9, l10, l11, l12, l13⟩, ?_⟩
  rw [cs_pair]
  dsimp only
  rw [← e0, ← e1, ← e2, ← e3, ← e4, ← e5, ← e6, ← e7, ← e8, ← e9, ← e10, ← e11, ← e12, ← e13, List.drop_zero, List.take_of_length_le (l := cs.drop 279) (by rw [List.length_drop]; omega), show cs.drop 279 = (cs.drop 214).drop 65 from by rw [List.drop_drop], List.take_append_drop, show cs.drop 214 = (cs.drop 213).drop 1 from by rw [List.drop_drop], List.take_append_drop, show cs.drop 213 = (cs.drop 212).drop 1 from by rw [List.drop_drop], List.take_append_drop, show cs.drop 212 = (cs.drop 211).drop 1 from by rw [List.drop_drop], List.take_append_drop, show cs.drop 211 = (cs.drop 210).drop 1 from by rw [List.drop_drop], List.take_append_drop, show cs.drop 210 = (cs.drop 209).drop 1 from by rw [List.drop_drop], List.take_append_drop, show cs.drop 209 = (cs.drop 208).drop 1 from by rw [List.drop_drop], List.take_append_drop, show cs.drop 208 = (cs.drop 176).drop 32 from by rw [List.drop_drop], List.take_append_drop, show cs.drop 176 = (cs.drop 144).drop 32 from by rw [List.drop_drop], List.take_append_drop, show cs.drop 144 = (cs.drop 112).drop 32 from by rw [List.drop_drop], List.take_append_drop, show cs.drop 112 = (cs.drop 48).drop 64 from by rw [List.drop_drop], List.take_append_drop, show cs.drop 48 = (cs.drop 16).drop 32 from by rw [List.drop_drop], List.take_append_drop, List.take_append_drop]
end
end Go.Proofs.Ytacimelcmkhhlaa
