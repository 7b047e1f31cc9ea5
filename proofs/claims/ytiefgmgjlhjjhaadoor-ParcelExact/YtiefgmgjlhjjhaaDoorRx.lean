import Derived.Test.YtiefgmgjlhjjhaaDoorPsG
import Derived.Test.YtiefgmgjlhjjhaaDoorDp
import Derived.Deep.Strs
import Derived.ShutString
import Derived.JoinedCond
import Derived.Deep.Slices
set_option linter.unusedVariables false
set_option linter.unusedSimpArgs false
namespace Go.Proofs.YtiefgmgjlhjjhaaDoor
open Go.ChangeShapes Go.WideShapes Go.ChangeAt Go.RowKit

theorem len45 (ao : Option Addr) (n c : Nat) (W : World) (ty : TypeId) : (Builtin.len_ #[45] ty #[.slice ao n c]).run Tryd.prog W = .ok (.int .i64 (n : Int)) W := by
  go_simp
theorem idx45 (ad : Addr) (n cap m : Nat) (h : m < n) (W : World) : (Instr.indexAt 45 (.slice (some ad) n cap) (.int .i64 (m : Int))).run Tryd.prog W = .ok (.pointer (some (ad.add (4 * m)))) W := by
  have hm : (m : Int) < (n : Int) := by omega
  have h1 : m * 4 = 4 * m := by omega
  go_simp
  try simp [h1]
theorem weights_all {H : Type} {P : Program} {e : TypeId} : ∀ {l : List (DataW H)} {d : DataW H}, d ∈ l → ∀ n ∈ d.weights P e, n ∈ DataW.weightsAll P e l
  | [], _, h, _, _ => by simp at h
  | a :: r, d, h, n, hn => by
    rw [DataW.weightsAll, List.mem_append]
    rcases List.mem_cons.1 h with rfl | h
    · exact .inl hn
    · exact .inr (weights_all h n hn)
theorem bytes_cs {H : Type} {enc : TypeId × Value → H} {W : World} {base : Nat} {spare : Nat → Bool} {held : Bool} {fuel : Nat} {cs : List Value} {x : DataW H × List MemPlace} (h : DataW.trod enc Tryd.prog W base spare held fuel 24 cs = some x) (hw : ∀ n ∈ x.1.weights Tryd.prog 24, n ≤ 140737488351232) :
    ∃ v bs, cs = [v] ∧ Has W v bs ∧ bs.length ≤ 140737488351232 := by
  rcases open_ints Tryd.underlying24 Tryd.underlying5 Row.cells5 h with ⟨rfl, _⟩ | ⟨a, len, cap, zs, rfl, _, hl, hm, hz, hx, hcell, hwz⟩
  · exact ⟨_, [], rfl, Has.nil _, by decide⟩
  · have hzl : len ≤ zs.length := by rw [hz]; split <;> omega
    have hlen : ((zs.take len).map fun n => UInt8.ofNat n.toNat).length = len := by simp; omega
    have hb5 : Tryd.prog.bytesOf 5 = 1 := by kernel_rfl
    have hle : len ≤ 140737488351232 := by
      have h1 := hw (((lits (H := H) .u8 (zs.take len)).length + (lits (H := H) .u8 (zs.drop len)).length) * Tryd.prog.bytesOf 5) (by rw [hx]; simp [DataW.weights, Tryd.underlying24])
      rw [hb5] at h1
      simp only [lits, List.length_map, List.length_take, List.length_drop] at h1
      omega
    refine ⟨_, (zs.take len).map fun n => UInt8.ofNat n.toNat, rfl, .inr ⟨a, cap, by rw [hlen], by rw [hlen]; exact hl, fun i u hu => ?_⟩, by rw [hlen]; exact hle⟩
    have hi : i < len := by
      rcases Nat.lt_or_ge i len with h | h
      · exact h
      · rw [List.getElem?_eq_none (by omega)] at hu; cases hu
    rw [List.getElem?_map, List.getElem?_take_of_lt hi, List.getElem?_eq_getElem (by omega)] at hu
    simp only [Option.map_some, Option.some.injEq] at hu
    rw [hcell i (by omega), ← hu]
    have hb := Row.wf_byte (hwz _ (List.getElem_mem (show i < zs.length by omega)))
    simp only [List.getD_eq_getElem?_getD, List.getElem?_eq_getElem (show i < zs.length by omega), Option.getD_some, byt]
    rw [UInt8.toNat_ofNat', Nat.mod_eq_of_lt (by omega), Int.toNat_of_nonneg hb.1]
section
variable {H : Type} {enc : TypeId × Value → H} {W : World} {base : Nat} {spare : Nat → Bool} {held : Bool} {fuel : Nat} {cs : List Value} {x : DataW H × List MemPlace}
theorem fld_of {t : TypeId} {fs : Array Field} (ht : Tryd.prog.underlying t = some (.struct fs)) (h : DataW.trod enc Tryd.prog W base spare held fuel t cs = some x) : cs.length = Tryd.prog.cellsOf t ∧ ∃ n, ∀ (i : Nat) (f : Field), fs[i]? = some f → ∃ y, DataW.trod enc Tryd.prog W base spare held n f.type ((cs.drop f.offset).take (Tryd.prog.cellsOf f.type)) = some y ∧ ∀ m ∈ y.1.weights Tryd.prog f.type, m ∈ x.1.weights Tryd.prog t := by
  obtain ⟨xs, n, _, hx, hl, hlen, hf⟩ := DataW.trod_struct ht h
  refine ⟨hl, n, fun i f hi => ?_⟩
  have hil : i < fs.size := (Array.getElem?_eq_some_iff.1 hi).1
  refine ⟨xs[i]'(by omega), by rw [hf i f hi, List.getElem?_eq_getElem (by omega)], fun m hm => ?_⟩
  rw [hx]
  simp only [DataW.weights, ht]
  exact DataW.weights_mem_each (j := i) (by rw [List.getElem?_map, Array.getElem?_toList, hi]; rfl) (by rw [List.getElem?_map, List.getElem?_eq_getElem (by omega)]; rfl) m hm
theorem fld_at {t ft : TypeId} {fs : Array Field} {n off sz : Nat} (hf : ∀ (i : Nat) (f : Field), fs[i]? = some f → ∃ y, DataW.trod enc Tryd.prog W base spare held n f.type ((cs.drop f.offset).take (Tryd.prog.cellsOf f.type)) = some y ∧ ∀ m ∈ y.1.weights Tryd.prog f.type, m ∈ x.1.weights Tryd.prog t) (i : Nat) {f : Field} (hi : fs[i]? = some f) (ht : f.type = ft) (ho : f.offset = off) (hs : Tryd.prog.cellsOf ft = sz) : ∃ y, DataW.trod enc Tryd.prog W base spare held n ft ((cs.drop off).take sz) = some y ∧ ∀ m ∈ y.1.weights Tryd.prog ft, m ∈ x.1.weights Tryd.prog t := by
  subst ht ho hs
  exact hf i f hi
theorem str_cs (h : DataW.trod enc Tryd.prog W base spare held fuel 9 cs = some x) : ∃ l : List UInt8, cs = [sv l] := by
  obtain ⟨s, e, hx, _⟩ := DataW.trod_string Tryd.underlying9 h
  exact ⟨s.data.toList, by rw [e]; unfold sv; cases s; simp⟩
theorem u32_cs (h : DataW.trod enc Tryd.prog W base spare held fuel 22 cs = some x) : ∃ n : Nat, n < 4294967296 ∧ cs = [u32v n] := by
  obtain ⟨z, e, _, hw⟩ := DataW.trod_int Tryd.underlying22 h
  have hb := bounds_u32 hw
  exact ⟨z.toNat, by omega, by rw [e]; unfold u32v; congr 2; omega⟩
theorem Ox.len (o : Ox) : o.cs.length = 4 := rfl
set_option maxRecDepth 100000 in
theorem op_of (h : DataW.trod enc Tryd.prog W base spare held fuel 51 cs = some x) (hw : ∀ n ∈ x.1.weights Tryd.prog 51, n ≤ 140737488351232) : ∃ X : Ox, cs = X.cs ∧ X.ok W := by
  obtain ⟨hl, n, hf⟩ := fld_of Tryd.underlying51 h
  have h4 : Tryd.prog.cellsOf 51 = 4 := by kernel_rfl
  rw [h4] at hl
  obtain ⟨y0, t0, m0⟩ := fld_at hf 0 (ft := 3) (off := 0) (sz := 1) rfl rfl rfl (by kernel_rfl)
  obtain ⟨y1, t1, m1⟩ := fld_at hf 1 (ft := 9) (off := 1) (sz := 1) rfl rfl rfl (by kernel_rfl)
  obtain ⟨y2, t2, m2⟩ := fld_at hf 2 (ft := 22) (off := 2) (sz := 1) rfl rfl rfl (by kernel_rfl)
  obtain ⟨y3, t3, m3⟩ := fld_at hf 3 (ft := 24) (off := 3) (sz := 1) rfl rfl rfl (by kernel_rfl)
  obtain ⟨k, e0, _, _⟩ := DataW.trod_int Tryd.underlying3 t0
  obtain ⟨g1, e1⟩ := str_cs t1
  obtain ⟨g2, k2, e2⟩ := u32_cs t2
  obtain ⟨v, bs, e3, hb, hm⟩ := bytes_cs t3 (fun n hn => hw n (m3 n hn))
  refine ⟨⟨k, g1, g2, v⟩, ?_, k2, bs, hb, by omega⟩
  match cs, hl with
  | [a, b, c, d], _ =>
    simp only [List.drop_zero, List.take_succ_cons, List.take_zero, List.drop_succ_cons] at e0 e1 e2 e3
    cases e0
    cases e1
    cases e2
    cases e3
    rfl
/-- The script as the law takes it. -/
structure Scr (w : World) (sv : Value) (n : Nat) : Prop where
  len : ∀ (W : World) (ty : TypeId), (Builtin.len_ #[45] ty #[sv]).run Tryd.prog W = .ok (.int .i64 (n : Int)) W
  at_ : ∀ i, i < n → ∃ x : Ox, x.ok w ∧ ∃ ad, (∀ W, (Instr.indexAt 45 sv (.int .i64 (i : Int))).run Tryd.prog W = .ok (.pointer (some ad)) W) ∧ ∀ W, Below w.heap.size w W → (Instr.loadAt 51 (.pointer (some ad))).run Tryd.prog W = .ok x.v W
set_option maxRecDepth 100000 in
theorem script_of (h : DataW.trod enc Tryd.prog W base spare held fuel 45 cs = some x) (hw : ∀ n ∈ x.1.weights Tryd.prog 45, n ≤ 140737488351232) : ∃ v n, cs = [v] ∧ Scr W v n := by
  rcases Deep.open_slice Tryd.underlying45 h with ⟨rfl, _⟩ | ⟨a, len, cap, m, n, D, Pl, rfl, _, hl, hm, hmm, hxx, hx⟩
  · exact ⟨_, 0, rfl, ⟨fun W ty => len45 _ _ _ W ty, fun i hi => absurd hi (Nat.not_lt_zero _)⟩⟩
  · have hlm : len ≤ m := by rw [hmm]; split <;> omega
    have h4 : Tryd.prog.cellsOf 51 = 4 := by kernel_rfl
    refine ⟨_, len, rfl, ⟨fun W ty => len45 _ _ _ W ty, fun i hi => ?_⟩⟩
    obtain ⟨cs', h1, h2⟩ := hx i (by omega)
    rw [h4] at h1
    obtain ⟨_, hlen, hc⟩ := World.cells?_some h1
    obtain ⟨X, rfl, hX⟩ := op_of h2 (fun k hk => hw k (by
      rw [hxx]
      simp only [DataW.weights, Tryd.underlying45]
      exact List.mem_cons_of_mem _ (List.mem_append.2 (.inl (weights_all (d := D i) (List.mem_map.2 ⟨i, List.mem_range.2 hi, rfl⟩) k hk)))))
    refine ⟨X, hX, _, fun W => idx45 a len cap i hi W, fun W' hW => run_loadA (cs := X.cs) (At.below (fun j v hj => ?_) hW) Tryd.underlying51 rfl (by rw [Ox.len]; kernel_rfl)⟩
    have hjl : j < 4 := by
      have := (List.getElem?_eq_some_iff.1 hj).1
      rw [Ox.len] at this
      exact this
    rw [show 4 * i = i * 4 by omega]
    exact (hc j hjl).trans hj
end
set_option maxRecDepth 100000 in
/-- The three laid tables. -/
theorem Row.consts3 {W : World} (n2 n1 n0 : String) (g2 : Tryd.prog.globalNamed n2 = some 2) (g1 : Tryd.prog.globalNamed n1 = some 1) (g0 : Tryd.prog.globalNamed n0 = some 0)
    (h : laidMetH Tryd.prog [(n2, Rows.laid_lethe_letheref02_constants), (n1, Rows.laid_lethe_letheref02_begin), (n0, Rows.laid_lethe_sha_constants)] W) : Kst W ∧ Rst W ∧ Bst W := by
  have hm : laidMet Tryd.prog [(n2, Rows.laid_lethe_letheref02_constants), (n1, Rows.laid_lethe_letheref02_begin), (n0, Rows.laid_lethe_sha_constants)] W := h
  have hm1 := hm.tail
  refine ⟨Row.consts_of n0 g0 hm1.tail, fun t ht => ?_, fun t ht => ?_⟩
  · rw [Row.kw_wn t ht]
    have htab : Lib.TabIs Tryd.prog W n2 .u64 (Kn.map (fun n : Nat => (n : Int))) := Lib.tabIs_of_head (t := 145) (e := 143) (n := 64) g2 (by kernel_rfl) (by kernel_rfl) (by kernel_rfl) (by kernel_rfl) (by kernel_rfl) hm
    have hl : t < (Kn.map (fun n : Nat => (n : Int))).length := by rw [List.length_map, Row.kn_length]; exact ht
    have := htab.cell g2 t hl
    simpa [List.getD_eq_getElem?_getD, List.getElem?_eq_getElem hl] using this
  · have htab : Lib.TabIs Tryd.prog W n1 .u64 (iv.map wn) := Lib.tabIs_of_head (t := 144) (e := 143) (n := 8) g1 (by kernel_rfl) (by kernel_rfl) (by kernel_rfl) (by kernel_rfl) (by kernel_rfl) hm1
    have hl : t < (iv.map wn).length := by rw [List.length_map, iv_length]; exact ht
    have := htab.cell g1 t hl
    rw [this]
    congr 2
    rw [List.getD_eq_getElem?_getD, List.getElem?_eq_getElem hl, List.getElem_map, List.getD_eq_getElem?_getD, List.getElem?_eq_getElem (by rw [iv_length]; exact ht)]
    rfl
end Go.Proofs.YtiefgmgjlhjjhaaDoor
