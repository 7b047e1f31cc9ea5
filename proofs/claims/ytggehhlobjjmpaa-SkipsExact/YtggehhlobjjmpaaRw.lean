import Derived.Test.YtggehhlobjjmpaaRowK
import Derived.Test.YtggehhlobjjmpaaSk
import Derived.Deep.Strs
import Derived.ShutString
import Derived.JoinedCond
set_option linter.unusedVariables false
set_option linter.unusedSimpArgs false
namespace Go.Proofs.Ytggehhlobjjmpaa
open Go.ChangeShapes Go.WideShapes Go.ChangeAt Go.RowKit

section
variable {H : Type} {enc : TypeId × Value → H} {W : World} {base : Nat} {spare : Nat → Bool} {held : Bool} {fuel : Nat} {cs : List Value} {x : DataW H × List MemPlace}
theorem fld_of {t : TypeId} {fs : Array Field} (ht : Try.prog.underlying t = some (.struct fs)) (h : DataW.trod enc Try.prog W base spare held fuel t cs = some x) : cs.length = Try.prog.cellsOf t ∧ ∃ n, ∀ (i : Nat) (f : Field), fs[i]? = some f → ∃ y, DataW.trod enc Try.prog W base spare held n f.type ((cs.drop f.offset).take (Try.prog.cellsOf f.type)) = some y ∧ ∀ m ∈ y.1.weights Try.prog f.type, m ∈ x.1.weights Try.prog t := by
  obtain ⟨xs, n, _, hx, hl, hlen, hf⟩ := DataW.trod_struct ht h
  refine ⟨hl, n, fun i f hi => ?_⟩
  have hil : i < fs.size := (Array.getElem?_eq_some_iff.1 hi).1
  refine ⟨xs[i]'(by omega), by rw [hf i f hi, List.getElem?_eq_getElem (by omega)], fun m hm => ?_⟩
  rw [hx]
  simp only [DataW.weights, ht]
  exact DataW.weights_mem_each (j := i) (by rw [List.getElem?_map, Array.getElem?_toList, hi]; rfl) (by rw [List.getElem?_map, List.getElem?_eq_getElem (by omega)]; rfl) m hm
theorem fld_at {t ft : TypeId} {fs : Array Field} {n off sz : Nat} (hf : ∀ (i : Nat) (f : Field), fs[i]? = some f → ∃ y, DataW.trod enc Try.prog W base spare held n f.type ((cs.drop f.offset).take (Try.prog.cellsOf f.type)) = some y ∧ ∀ m ∈ y.1.weights Try.prog f.type, m ∈ x.1.weights Try.prog t) (i : Nat) {f : Field} (hi : fs[i]? = some f) (ht : f.type = ft) (ho : f.offset = off) (hs : Try.prog.cellsOf ft = sz) : ∃ y, DataW.trod enc Try.prog W base spare held n ft ((cs.drop off).take sz) = some y ∧ ∀ m ∈ y.1.weights Try.prog ft, m ∈ x.1.weights Try.prog t := by
  subst ht ho hs
  exact hf i f hi
theorem weights_all {t : TypeId} {d : DataW H} : ∀ {l : List (DataW H)}, d ∈ l → ∀ m ∈ d.weights Try.prog t, m ∈ DataW.weightsAll Try.prog t l
  | a :: r, h, m, hm => by
    simp only [DataW.weightsAll, List.mem_append]
    rcases List.mem_cons.1 h with rfl | h
    · exact .inl hm
    · exact .inr (weights_all h m hm)
theorem key_of (h : DataW.trod enc Try.prog W base spare held fuel 29 cs = some x) : ∃ K : List UInt8, K.length = 32 ∧ cs = K.map byt := by
  obtain ⟨zs, hl, e, hw⟩ := Row.row_of_trod u29 Try.underlying5 Row.cells5 (by kernel_rfl) h
  exact ⟨zs.map fun z => UInt8.ofNat z.toNat, by rw [List.length_map]; exact hl, by rw [e, Row.bytes_row zs hw]⟩
theorem u32_of (h : DataW.trod enc Try.prog W base spare held fuel 31 cs = some x) : ∃ n : Nat, n < 4294967296 ∧ cs = [u32v n] := by
  obtain ⟨z, e, _, hw⟩ := DataW.trod_int Try.underlying31 h
  have hb := bounds_u32 hw
  exact ⟨z.toNat, by omega, by rw [e]; unfold u32v; congr 2; omega⟩
theorem sk_of (h : DataW.trod enc Try.prog W base spare held fuel 39 cs = some x) : ∃ s : Sk, s.ok ∧ cs = s.cs := by
  obtain ⟨hl, n, hf⟩ := fld_of Try.underlying39 h
  have h34 : Try.prog.cellsOf 39 = 34 := by kernel_rfl
  rw [h34] at hl
  obtain ⟨y0, t0, m0⟩ := fld_at hf 0 (ft := 31) (off := 0) (sz := 1) rfl rfl rfl (by kernel_rfl)
  obtain ⟨y1, t1, m1⟩ := fld_at hf 1 (ft := 31) (off := 1) (sz := 1) rfl rfl rfl (by kernel_rfl)
  obtain ⟨y2, t2, m2⟩ := fld_at hf 2 (ft := 29) (off := 2) (sz := 32) rfl rfl rfl (by kernel_rfl)
  obtain ⟨a, la, e0⟩ := u32_of t0
  obtain ⟨b, lb, e1⟩ := u32_of t1
  obtain ⟨K, lk, e2⟩ := key_of t2
  refine ⟨⟨a, b, K⟩, ⟨la, lb, lk⟩, ?_⟩
  unfold Sk.cs
  rw [← e0, ← e1, ← e2, List.drop_zero, List.take_of_length_le (l := cs.drop 2) (by rw [List.length_drop]; omega), show cs.drop 2 = (cs.drop 1).drop 1 from by rw [List.drop_drop], List.take_append_drop, List.take_append_drop]
set_option maxRecDepth 100000 in
theorem keys_of (h : DataW.trod enc Try.prog W base spare held fuel 22 cs = some x) (hw : ∀ n ∈ x.1.weights Try.prog 22, n ≤ 140737488351232) : ∃ v Ks, cs = [v] ∧ Kl W v Ks ∧ Ks.length * 32 ≤ 140737488351232 := by
  rcases Deep.open_slice Try.underlying22 h with ⟨rfl, _⟩ | ⟨a, len, cap, m, n, D, Pl, rfl, _, hl, hm, hmm, hxx, hx⟩
  · exact ⟨_, [], rfl, ⟨Li.nil 32 W⟩, by decide⟩
  · have hlm : len ≤ m := by rw [hmm]; split <;> omega
    have hc32 : Try.prog.cellsOf 29 = 32 := by kernel_rfl
    obtain ⟨F, hF⟩ := Deep.choose_lt (α := List UInt8) (n := len) (p := fun i K => K.length = 32 ∧ At W (a.add (i * 32)) (K.map byt)) (fun i hi => by
      obtain ⟨cs', h1, h2⟩ := hx i (by omega)
      rw [hc32] at h1
      obtain ⟨_, hlen, hc⟩ := World.cells?_some h1
      obtain ⟨K, hK, rfl⟩ := key_of h2
      refine ⟨K, hK, fun j v hj => ?_⟩
      have hjl : j < 32 := by rw [← hlen]; exact (List.getElem?_eq_some_iff.1 hj).1
      exact (hc j hjl).trans hj)
    have hlen : ((List.range len).map F).length = len := by simp
    have hby : Try.prog.bytesOf 29 = 32 := by kernel_rfl
    have hle : len * 32 ≤ 140737488351232 := by
      have h1 := hw ((((List.range len).map D).length + ((List.range (m - len)).map fun j => D (len + j)).length) * Try.prog.bytesOf 29) (by rw [hxx]; simp [DataW.weights, Try.underlying22])
      rw [hby] at h1
      simp only [List.length_map, List.length_range] at h1
      omega
    refine ⟨_, (List.range len).map F, rfl, ⟨⟨.inr ⟨a, cap, by rw [kcs_len, hlen], by rw [kcs_len, hlen]; exact hl⟩, kcs_sz (fun K hK => ?_), fun i y hy => ?_⟩⟩, by rw [hlen]; exact hle⟩
    · obtain ⟨i, hi, rfl⟩ := List.mem_map.1 hK
      exact (hF i (List.mem_range.1 hi)).1
    · have hi : i < len := by
        have := (List.getElem?_eq_some_iff.1 hy).1
        rw [kcs_len, hlen] at this; exact this
      have ho : y = (F i).map byt := by
        unfold kcs at hy
        simp [hi] at hy
        exact hy.symm
      exact ⟨a, cap, by rw [kcs_len, hlen], by rw [ho]; exact (hF i hi).2⟩
set_option maxRecDepth 100000 in
theorem skl_of (h : DataW.trod enc Try.prog W base spare held fuel 36 cs = some x) (hw : ∀ n ∈ x.1.weights Try.prog 36, n ≤ 140737488351232) : ∃ v l, cs = [v] ∧ Sl W v l ∧ l.length * 40 ≤ 140737488351232 := by
  rcases Deep.open_slice Try.underlying36 h with ⟨rfl, _⟩ | ⟨a, len, cap, m, n, D, Pl, rfl, _, hl, hm, hmm, hxx, hx⟩
  · exact ⟨_, [], rfl, ⟨Li.nil 34 W, fun s hs => by cases hs⟩, by decide⟩
  · have hlm : len ≤ m := by rw [hmm]; split <;> omega
    have hc34 : Try.prog.cellsOf 39 = 34 := by kernel_rfl
    obtain ⟨F, hF⟩ := Deep.choose_lt (α := Sk) (n := len) (p := fun i s => s.ok ∧ At W (a.add (i * 34)) s.cs) (fun i hi => by
      obtain ⟨cs', h1, h2⟩ := hx i (by omega)
      rw [hc34] at h1
      obtain ⟨_, hlen, hc⟩ := World.cells?_some h1
      obtain ⟨s, hs, rfl⟩ := sk_of h2
      refine ⟨s, hs, fun j v hj => ?_⟩
      have hjl : j < 34 := by rw [← hlen]; exact (List.getElem?_eq_some_iff.1 hj).1
      exact (hc j hjl).trans hj)
    have hlen : ((List.range len).map F).length = len := by simp
    have hby : Try.prog.bytesOf 39 = 40 := by kernel_rfl
    have hle : len * 40 ≤ 140737488351232 := by
      have h1 := hw ((((List.range len).map D).length + ((List.range (m - len)).map fun j => D (len + j)).length) * Try.prog.bytesOf 39) (by rw [hxx]; simp [DataW.weights, Try.underlying36])
      rw [hby] at h1
      simp only [List.length_map, List.length_range] at h1
      omega
    have hok : ∀ s ∈ (List.range len).map F, s.ok := fun s hs => by
      obtain ⟨i, hi, rfl⟩ := List.mem_map.1 hs
      exact (hF i (List.mem_range.1 hi)).1
    refine ⟨_, (List.range len).map F, rfl, ⟨⟨.inr ⟨a, cap, by rw [scs_len, hlen], by rw [scs_len, hlen]; exact hl⟩, scs_sz hok, fun i y hy => ?_⟩, hok⟩, by rw [hlen]; exact hle⟩
    have hi : i < len := by
      have := (List.getElem?_eq_some_iff.1 hy).1
      rw [scs_len, hlen] at this; exact this
    have ho : y = (F i).cs := by
      unfold scs at hy
      simp [hi] at hy
      exact hy.symm
    exact ⟨a, cap, by rw [scs_len, hlen], by rw [ho]; exact (hF i hi).2⟩
theorem ld3at (n : Int) (ad : Addr) (W : World) (h : W.cell? ad = some (.int .i64 n)) : (Instr.loadAt 3 (.pointer (some ad))).run Try.prog W = .ok (.int .i64 n) W := by go_simp
theorem idx23a (ad : Addr) (n cap m : Nat) (h : m < n) (W : World) : (Instr.indexAt 23 (.slice (some ad) n cap) (.int .i64 (m : Int))).run Try.prog W = .ok (.pointer (some (ad.add m))) W := by
  have hm : (m : Int) < (n : Int) := by omega
  go_simp
theorem ints_of (h : DataW.trod enc Try.prog W base spare held fuel 23 cs = some x) : ∃ v m, cs = [v] ∧ In W v m := by
  rcases open_ints Try.underlying23 Try.underlying3 (by kernel_rfl) h with ⟨rfl, _⟩ | ⟨a, len, cap, zs, rfl, _, hl, hm, hz, hx, hcell, hwz⟩
  · exact ⟨_, 0, rfl, ⟨⟨_, _, rfl⟩, fun i hi => absurd hi (Nat.not_lt_zero _)⟩⟩
  · have hzl : len ≤ zs.length := by rw [hz]; split <;> omega
    refine ⟨_, len, rfl, ⟨⟨_, _, rfl⟩, fun i hi => ?_⟩⟩
    have hil : i < zs.length := by omega
    have hb := bounds_i64 (hwz _ (List.getElem_mem hil))
    have hg : zs.getD i 0 = zs[i] := by rw [List.getD_eq_getElem?_getD, List.getElem?_eq_getElem hil]; rfl
    refine ⟨zs[i], a.add i, ⟨by omega, by omega⟩, fun W' => idx23a a len cap i hi W', fun W' hW' => ld3at _ _ W' ?_⟩
    have hc := hcell i hil
    rw [hg] at hc
    rw [hW'.cell (cell_lt hc)]
    exact hc
end
end Go.Proofs.Ytggehhlobjjmpaa
