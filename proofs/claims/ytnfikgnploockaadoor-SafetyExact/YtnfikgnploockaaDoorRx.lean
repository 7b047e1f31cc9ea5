import Derived.Test.YtnfikgnploockaaDoorRowK
import Derived.Test.YtnfikgnploockaaDoorSp
import Derived.Deep.Strs
import Derived.ShutString
import Derived.JoinedCond
import Derived.Deep.Slices
set_option linter.unusedVariables false
set_option linter.unusedSimpArgs false
namespace Go.Proofs.YtnfikgnploockaaDoor
open Go.ChangeShapes Go.WideShapes Go.ChangeAt Go.RowKit

theorem len43 (ao : Option Addr) (n c : Nat) (W : World) (ty : TypeId) : (Builtin.len_ #[43] ty #[.slice ao n c]).run Tryd.prog W = .ok (.int .i64 (n : Int)) W := by
  go_simp
theorem idx43 (ad : Addr) (n cap m : Nat) (h : m < n) (W : World) : (Instr.indexAt 43 (.slice (some ad) n cap) (.int .i64 (m : Int))).run Tryd.prog W = .ok (.pointer (some (ad.add (68 * m)))) W := by
  have hm : (m : Int) < (n : Int) := by omega
  have h1 : m * 68 = 68 * m := by omega
  go_simp
  try simp [h1]
theorem weights_all {H : Type} {P : Program} {e : TypeId} : ∀ {l : List (DataW H)} {d : DataW H}, d ∈ l → ∀ n ∈ d.weights P e, n ∈ DataW.weightsAll P e l
  | [], _, h, _, _ => by simp at h
  | a :: r, d, h, n, hn => by
    rw [DataW.weightsAll, List.mem_append]
    rcases List.mem_cons.1 h with rfl | h
    · exact .inl hn
    · exact .inr (weights_all h n hn)
section
variable {H : Type} {enc : TypeId × Value → H} {W : World} {base : Nat} {spare : Nat → Bool} {held : Bool} {fuel : Nat} {cs : List Value} {x : DataW H × List MemPlace}
theorem fld_of {t : TypeId} {fs : Array Field} (ht : Tryd.prog.underlying t = some (.struct fs)) (h : DataW.trod enc Tryd.prog W base spare held fuel t cs = some x) : cs.length = Tryd.prog.cellsOf t ∧ ∃ n, ∀ (i : Nat) (f : Field), fs[i]? = some f → ∃ y, DataW.trod enc Tryd.prog W base spare held n f.type ((cs.drop f.offset).take (Tryd.prog.cellsOf f.type)) = some y ∧ ∀ m ∈ y.1.weights Tryd.prog f.type, m ∈ x.1.weights Tryd.prog t := by
  obtain ⟨xs, n, _, hx, hl, hlen, hf⟩ := DataW.trod_struct ht h
  refine ⟨hl, n, fun i f hi => ?_⟩
  have hil : i < fs.size := (Array.getElem?_eq_some_iff.1 hi).1
  refine ⟨xs[i]'(by omega), by rw [hf i f hi, List.getElem?_eq_getElem (by omega)], fun m hm => ?_⟩
  rw [hx]
  simp only [DataW.weights, ht]
  exact DataW.weights_mem_each (j := i) (by rw [List.getElem?_map, Array.getElem?_toList, hi]; rfl) (by rw [List.getElem?_map, List.getElem?_eq_getElem (by omega)]; rfl) m hm
theorem fld_at {t ft : TypeId} {fs : Array Field} {n off sz : Nat} (hf : ∀ (i : Nat) (f : Field), fs[i]? = some f → ∃ y, DataW.trod enc Tryd.prog W base spare held n f.type ((cs.drop f.offset).take (Tryd.prog.cellsOf f.type)) = some y ∧ ∀ m ∈ y.1.weights Tryd.prog f.type, m ∈ x.1.weights Tryd.prog t) (i : Nat) {f : Field} (hi : fs[i]? = some f) (ht : f.type = ft) (ho : f.offset = off) (hs : Tryd.prog.cellsOf ft = sz) : ∃ y, DataW.trod enc Tryd.prog W base spare held n ft ((cs.drop off).take sz) = some y ∧ ∀ m ∈ y.1.weights Tryd.prog ft, m ∈ x.1.weights Tryd.prog t := by
  subst ht ho hs
  exact hf i f hi
theorem kcs_of (h : DataW.trod enc Tryd.prog W base spare held fuel 23 cs = some x) : ∃ K : List UInt8, K.length = 32 ∧ cs = K.map byt := by
  obtain ⟨zs, hl, e, hw⟩ := Row.row_of_trod u23 Tryd.underlying5 Row.cells5 (by kernel_rfl) h
  exact ⟨zs.map fun z => UInt8.ofNat z.toNat, by rw [List.length_map]; exact hl, by rw [e, Row.bytes_row zs hw]⟩
theorem str_cs (h : DataW.trod enc Tryd.prog W base spare held fuel 9 cs = some x) (hw : ∀ n ∈ x.1.weights Tryd.prog 9, n ≤ 140737488351232) : ∃ l : List UInt8, cs = [sv l] ∧ l.length ≤ 140737488351232 := by
  obtain ⟨s, e, hx, _⟩ := DataW.trod_string Tryd.underlying9 h
  refine ⟨s.data.toList, by rw [e]; unfold sv; cases s; simp, hw _ ?_⟩
  rw [hx]
  simp [DataW.weights]
set_option maxRecDepth 100000 in
theorem op_of (h : DataW.trod enc Tryd.prog W base spare held fuel 46 cs = some x) (hw : ∀ n ∈ x.1.weights Tryd.prog 46, n ≤ 140737488351232) : ∃ X : Opx, cs = X.cs ∧ X.ok := by
  obtain ⟨hl, n, hf⟩ := fld_of Tryd.underlying46 h
  have h68 : Tryd.prog.cellsOf 46 = 68 := by kernel_rfl
  rw [h68] at hl
  obtain ⟨y0, t0, m0⟩ := fld_at hf 0 (ft := 3) (off := 0) (sz := 1) rfl rfl rfl (by kernel_rfl)
  obtain ⟨y1, t1, m1⟩ := fld_at hf 1 (ft := 9) (off := 1) (sz := 1) rfl rfl rfl (by kernel_rfl)
  obtain ⟨y2, t2, m2⟩ := fld_at hf 2 (ft := 9) (off := 2) (sz := 1) rfl rfl rfl (by kernel_rfl)
  obtain ⟨y3, t3, m3⟩ := fld_at hf 3 (ft := 23) (off := 3) (sz := 32) rfl rfl rfl (by kernel_rfl)
  obtain ⟨y4, t4, m4⟩ := fld_at hf 4 (ft := 23) (off := 35) (sz := 32) rfl rfl rfl (by kernel_rfl)
  obtain ⟨y5, t5, m5⟩ := fld_at hf 5 (ft := 9) (off := 67) (sz := 1) rfl rfl rfl (by kernel_rfl)
  obtain ⟨k, e0, _, _⟩ := DataW.trod_int Tryd.underlying3 t0
  obtain ⟨g1, e1, _⟩ := str_cs t1 (fun n hn => hw n (m1 n hn))
  obtain ⟨g2, e2, _⟩ := str_cs t2 (fun n hn => hw n (m2 n hn))
  obtain ⟨g3, k3, e3⟩ := kcs_of t3
  obtain ⟨g4, k4, e4⟩ := kcs_of t4
  obtain ⟨g5, e5, k5⟩ := str_cs t5 (fun n hn => hw n (m5 n hn))
  refine ⟨⟨k, g1, g2, g3, g4, g5⟩, ?_, ⟨k3, k4, by show g5.length ≤ _; omega⟩⟩
  unfold Opx.cs
  dsimp only
  rw [← e0, ← e1, ← e2, ← e3, ← e4, ← e5, List.drop_zero, List.take_of_length_le (l := cs.drop 67) (by rw [List.length_drop]; omega), show cs.drop 67 = (cs.drop 35).drop 32 from by rw [List.drop_drop], List.take_append_drop, show cs.drop 35 = (cs.drop 3).drop 32 from by rw [List.drop_drop], List.take_append_drop, show cs.drop 3 = (cs.drop 2).drop 1 from by rw [List.drop_drop], List.take_append_drop, show cs.drop 2 = (cs.drop 1).drop 1 from by rw [List.drop_drop], List.take_append_drop, List.take_append_drop]
/-- The script as the law takes it. -/
structure Scr (w : World) (sv : Value) (n : Nat) : Prop where
  len : ∀ (W : World) (ty : TypeId), (Builtin.len_ #[43] ty #[sv]).run Tryd.prog W = .ok (.int .i64 (n : Int)) W
  at_ : ∀ i, i < n → ∃ x : Opx, x.ok ∧ ∃ ad, (∀ W, (Instr.indexAt 43 sv (.int .i64 (i : Int))).run Tryd.prog W = .ok (.pointer (some ad)) W) ∧ ∀ W, Below w.heap.size w W → (Instr.loadAt 46 (.pointer (some ad))).run Tryd.prog W = .ok x.v W
set_option maxRecDepth 100000 in
theorem script_of (h : DataW.trod enc Tryd.prog W base spare held fuel 43 cs = some x) (hw : ∀ n ∈ x.1.weights Tryd.prog 43, n ≤ 140737488351232) : ∃ v n, cs = [v] ∧ Scr W v n := by
  rcases Deep.open_slice Tryd.underlying43 h with ⟨rfl, _⟩ | ⟨a, len, cap, m, n, D, Pl, rfl, _, hl, hm, hmm, hxx, hx⟩
  · exact ⟨_, 0, rfl, ⟨fun W ty => len43 _ _ _ W ty, fun i hi => absurd hi (Nat.not_lt_zero _)⟩⟩
  · have hlm : len ≤ m := by rw [hmm]; split <;> omega
    have h68 : Tryd.prog.cellsOf 46 = 68 := by kernel_rfl
    refine ⟨_, len, rfl, ⟨fun W ty => len43 _ _ _ W ty, fun i hi => ?_⟩⟩
    obtain ⟨cs', h1, h2⟩ := hx i (by omega)
    rw [h68] at h1
    obtain ⟨_, hlen, hc⟩ := World.cells?_some h1
    obtain ⟨X, rfl, hX⟩ := op_of h2 (fun k hk => hw k (by
      rw [hxx]
      simp only [DataW.weights, Tryd.underlying43]
      exact List.mem_cons_of_mem _ (List.mem_append.2 (.inl (weights_all (d := D i) (List.mem_map.2 ⟨i, List.mem_range.2 hi, rfl⟩) k hk)))))
    refine ⟨X, hX, _, fun W => idx43 a len cap i hi W, fun W' hW => run_loadA (cs := X.cs) (At.below (fun j v hj => ?_) hW) Tryd.underlying46 rfl (by rw [Opx.len hX]; kernel_rfl)⟩
    have hjl : j < 68 := by
      have := (List.getElem?_eq_some_iff.1 hj).1
      rw [Opx.len hX] at this
      exact this
    rw [show 68 * i = i * 68 by omega]
    exact (hc j hjl).trans hj
end
set_option maxRecDepth 100000 in
/-- The document's laid tables. -/
theorem Row.consts6 {W : World} (n2 n1 n5 n6 n3 n0 : String) (g2 : Tryd.prog.globalNamed n2 = some 2) (g1 : Tryd.prog.globalNamed n1 = some 1) (g3 : Tryd.prog.globalNamed n3 = some 3) (e3 : n3 = pnm) (g0 : Tryd.prog.globalNamed n0 = some 0)
    (h : laidMetH Tryd.prog [(n2, Rows.laid_lethe_letheref02_constants), (n1, Rows.laid_lethe_letheref02_begin), (n5, Rows.laid_math_bits_deBruijn32tab), (n6, Rows.laid_math_bits_deBruijn64tab), (n3, Rows.laid_internal_strconv_uint64pow10), (n0, Rows.laid_lethe_sha_constants)] W) : Dst W := by
  have hm : laidMet Tryd.prog [(n2, Rows.laid_lethe_letheref02_constants), (n1, Rows.laid_lethe_letheref02_begin), (n5, Rows.laid_math_bits_deBruijn32tab), (n6, Rows.laid_math_bits_deBruijn64tab), (n3, Rows.laid_internal_strconv_uint64pow10), (n0, Rows.laid_lethe_sha_constants)] W := h
  have hm1 := hm.tail
  refine ⟨Row.consts2 n3 n0 g3 e3 g0 hm1.tail.tail.tail, fun t ht => ?_, fun t ht => ?_⟩
  · rw [Row.kw_wn t ht]
    have htab : Lib.TabIs Tryd.prog W n2 .u64 (Kn.map (fun n : Nat => (n : Int))) := Lib.tabIs_of_head (t := 95) (e := 78) (n := 64) g2 (by kernel_rfl) (by kernel_rfl) (by kernel_rfl) (by kernel_rfl) (by kernel_rfl) hm
    have hl : t < (Kn.map (fun n : Nat => (n : Int))).length := by rw [List.length_map, Row.kn_length]; exact ht
    have := htab.cell g2 t hl
    simpa [List.getD_eq_getElem?_getD, List.getElem?_eq_getElem hl] using this
  · have htab : Lib.TabIs Tryd.prog W n1 .u64 (iv.map wn) := Lib.tabIs_of_head (t := 94) (e := 78) (n := 8) g1 (by kernel_rfl) (by kernel_rfl) (by kernel_rfl) (by kernel_rfl) (by kernel_rfl) hm1
    have hl : t < (iv.map wn).length := by rw [List.length_map, iv_length]; exact ht
    have := htab.cell g1 t hl
    rw [this]
    congr 2
    rw [List.getD_eq_getElem?_getD, List.getElem?_eq_getElem hl, List.getElem_map, List.getD_eq_getElem?_getD, List.getElem?_eq_getElem (by rw [iv_length]; exact ht)]
    rfl
end Go.Proofs.YtnfikgnploockaaDoor
