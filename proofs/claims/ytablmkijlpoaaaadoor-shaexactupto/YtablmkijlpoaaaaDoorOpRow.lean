import Derived.Test.YtablmkijlpoaaaaDoorScr
import Derived.Test.YtablmkijlpoaaaaDoorRow
import Derived.Test.YtablmkijlpoaaaaDoorRefa
import Derived.Deep.Slices
import Derived.Deep.Strs
import Derived.Stop.LaidErr
namespace Go.Proofs.YtablmkijlpoaaaaDoor
open Go.ChangeShapes Go.WideShapes Go.ChangeAt Go.RowKit

namespace Bulk
theorem one_le {H : Type} (d : DataW H) : 1 ≤ Rows.uptoBulk d := by
  cases d with
  | lit l => cases l <;> simp [Rows.uptoBulk]
  | nil => simp [Rows.uptoBulk]
  | ptr d => simp [Rows.uptoBulk]
  | slice elems spare => simp [Rows.uptoBulk]
  | agg parts => simp [Rows.uptoBulk]
  | iface t d => simp [Rows.uptoBulk]
  | map entries => simp [Rows.uptoBulk]
  | held h => simp [Rows.uptoBulk]
theorem mem_le {H : Type} {d : DataW H} {l : List (DataW H)} (h : d ∈ l) : Rows.uptoBulk d ≤ Rows.uptoBulkAll l := by
  induction l with
  | nil => cases h
  | cons x r ih =>
    simp only [Rows.uptoBulkAll]
    rcases List.mem_cons.1 h with e | e
    · subst e; omega
    · have := ih e; omega
theorem len_le {H : Type} (l : List (DataW H)) : l.length ≤ Rows.uptoBulkAll l := by
  induction l with
  | nil => simp [Rows.uptoBulkAll]
  | cons x r ih => have := one_le x; simp only [Rows.uptoBulkAll, List.length_cons]; omega
end Bulk

theorem cells37x : Tryd.prog.cellsOf 37 = 77 := by kernel_rfl
theorem cells3x : Tryd.prog.cellsOf 3 = 1 := by kernel_rfl
theorem cells27x : Tryd.prog.cellsOf 27 = 1 := by kernel_rfl
theorem cells5x : Tryd.prog.cellsOf 5 = 1 := by kernel_rfl
theorem cells33x : Tryd.prog.cellsOf 33 = 1 := by kernel_rfl
theorem cells34x : Tryd.prog.cellsOf 34 = 8 := by kernel_rfl
theorem cells35x : Tryd.prog.cellsOf 35 = 64 := by kernel_rfl

theorem bytes_bulk {H : Type} {enc : TypeId × Value → H} {W : World} {base : Nat} {spare : Nat → Bool} {held : Bool} {fuel : Nat} {cs : List Value} {x : DataW H × List MemPlace} (h : DataW.trod enc Tryd.prog W base spare held fuel 27 cs = some x) :
    ∃ v bs, cs = [v] ∧ Has W v bs ∧ bs.length ≤ Rows.uptoBulk x.1 := by
  rcases open_ints Tryd.underlying27 Tryd.underlying5 cells5x h with ⟨rfl, _⟩ | ⟨a, len, cap, zs, rfl, _, hl, hm, hz, hx, hcell, hwz⟩
  · exact ⟨_, [], rfl, Has.nil _, by simp⟩
  · have hzl : len ≤ zs.length := by rw [hz]; split <;> omega
    have hlen : ((zs.take len).map fun n => UInt8.ofNat n.toNat).length = len := by simp; omega
    refine ⟨_, (zs.take len).map fun n => UInt8.ofNat n.toNat, rfl, .inr ⟨a, cap, by rw [hlen], by rw [hlen]; exact hl, fun i u hu => ?_⟩, ?_⟩
    · have hi : i < len := by
        rcases Nat.lt_or_ge i len with h | h
        · exact h
        · rw [List.getElem?_eq_none (by omega)] at hu; cases hu
      rw [List.getElem?_map, List.getElem?_take_of_lt hi, List.getElem?_eq_getElem (by omega)] at hu
      simp only [Option.map_some, Option.some.injEq] at hu
      rw [hcell i (by omega), ← hu]
      have hb := Row.wf_byte (hwz _ (List.getElem_mem (show i < zs.length by omega)))
      simp only [List.getD_eq_getElem?_getD, List.getElem?_eq_getElem (show i < zs.length by omega), Option.getD_some, byt]
      rw [UInt8.toNat_ofNat', Nat.mod_eq_of_lt (by omega)]
      congr 2
      omega
    · rw [hx, hlen]
      simp only [Rows.uptoBulk]
      have := Bulk.len_le (H := H) (lits .u8 (zs.take len))
      simp only [lits, List.length_map, List.length_take] at this
      simp only [lits]
      omega

theorem trod_struct7 {H : Type} {enc : TypeId × Value → H} {P : Program} {w : World} {base : Nat} {spare : Nat → Bool} {held : Bool} {t : TypeId} {f0 f1 f2 f3 f4 f5 f6 : Field} {fuel : Nat} {cs : List Value} {x : DataW H × List MemPlace} (ht : P.underlying t = some (.struct #[f0, f1, f2, f3, f4, f5, f6])) (h : DataW.trod enc P w base spare held fuel t cs = some x) :
    ∃ y0 y1 y2 y3 y4 y5 y6 n, x.1 = .agg [y0.1, y1.1, y2.1, y3.1, y4.1, y5.1, y6.1] ∧ DataW.trod enc P w base spare held n f0.type ((cs.drop f0.offset).take (P.cellsOf f0.type)) = some y0 ∧
      DataW.trod enc P w base spare held n f1.type ((cs.drop f1.offset).take (P.cellsOf f1.type)) = some y1 ∧ DataW.trod enc P w base spare held n f2.type ((cs.drop f2.offset).take (P.cellsOf f2.type)) = some y2 ∧
      DataW.trod enc P w base spare held n f3.type ((cs.drop f3.offset).take (P.cellsOf f3.type)) = some y3 ∧ DataW.trod enc P w base spare held n f4.type ((cs.drop f4.offset).take (P.cellsOf f4.type)) = some y4 ∧ DataW.trod enc P w base spare held n f5.type ((cs.drop f5.offset).take (P.cellsOf f5.type)) = some y5 ∧
      DataW.trod enc P w base spare held n f6.type ((cs.drop f6.offset).take (P.cellsOf f6.type)) = some y6 := by
  obtain ⟨xs, n, _, rfl, hl, hlen, hf⟩ := DataW.trod_struct ht h
  match xs, hlen with
  | [y0, y1, y2, y3, y4, y5, y6], _ => exact ⟨y0, y1, y2, y3, y4, y5, y6, n, by simp, by simpa using hf 0 f0 rfl, by simpa using hf 1 f1 rfl, by simpa using hf 2 f2 rfl, by simpa using hf 3 f3 rfl, by simpa using hf 4 f4 rfl, by simpa using hf 5 f5 rfl, by simpa using hf 6 f6 rfl⟩

/-- An array of numbers that came in. -/
theorem row_of_trod {H : Type} {enc : TypeId × Value → H} {P : Program} {W : World} {base : Nat} {spare : Nat → Bool} {held : Bool} {fuel : Nat} {t e : TypeId} {n : Nat} {k : IntKind} {cs : List Value} {x : DataW H × List MemPlace} (ht : P.underlying t = some (.array n e)) (he : P.underlying e = some (.int k)) (hce : P.cellsOf e = 1) (hct : P.cellsOf t = n)
    (h : DataW.trod enc P W base spare held fuel t cs = some x) : ∃ zs : List Int, zs.length = n ∧ cs = zs.map (Value.int k) ∧ ∀ z ∈ zs, (Lit.int k z).wf = true := by
  obtain ⟨xs, m, _, _, hl, hlen, hf⟩ := DataW.trod_array ht h
  rw [hct] at hl
  obtain ⟨F, hF⟩ := Deep.choose_lt (α := Int) (n := n) (p := fun i z => cs[i]? = some (.int k z) ∧ (Lit.int k z).wf = true) (fun i hi => by
    have h1 := hf i hi
    rw [hce, List.getElem?_eq_getElem (by omega)] at h1
    obtain ⟨z, e0, _, wf⟩ := DataW.trod_int he h1
    refine ⟨z, ?_, wf⟩
    have h2 : ((cs.drop (i * 1)).take 1)[0]? = some (.int k z) := by rw [e0]; rfl
    simpa using h2)
  refine ⟨(List.range n).map F, by simp, List.ext_getElem? fun i => ?_, fun z hz => ?_⟩
  · rcases Nat.lt_or_ge i n with hi | hi
    · rw [(hF i hi).1]; simp [hi]
    · rw [List.getElem?_eq_none (by omega), List.getElem?_eq_none (by simp; omega)]
  · obtain ⟨i, hi, rfl⟩ := List.mem_map.1 hz
    exact (hF i (List.mem_range.1 hi)).2

theorem words_of (zs : List Int) (h : ∀ z ∈ zs, (Lit.int .u32 z).wf = true) : zs.map (Value.int .u32) = wvs (zs.map fun z => BitVec.ofNat 32 z.toNat) := by
  unfold wvs
  rw [List.map_map]
  refine List.map_congr_left fun z hz => ?_
  have hb : 0 ≤ z ∧ z < 4294967296 := by have := bounds_u32 (h z hz); omega
  simp only [Function.comp, wv, wn, BitVec.toNat_ofNat]
  rw [Nat.mod_eq_of_lt (by omega)]
  congr 1
  omega
theorem bytes_row (zs : List Int) (h : ∀ z ∈ zs, (Lit.int .u8 z).wf = true) : zs.map (Value.int .u8) = (zs.map fun z => UInt8.ofNat z.toNat).map byt := by
  rw [List.map_map]
  refine List.map_congr_left fun z hz => ?_
  have hb := Row.wf_byte (h z hz)
  simp only [Function.comp, byt]
  rw [UInt8.toNat_ofNat', Nat.mod_eq_of_lt (by omega)]
  congr 1
  omega

instance : Inhabited Opd := ⟨⟨0, 0, 0, .slice none 0 0, .slice none 0 0, [], [], [], []⟩⟩

theorem idx22 (ad : Addr) (n cap m : Nat) (h : m < n) (W : World) : (Instr.indexAt 22 (.slice (some ad) n cap) (.int .i64 (m : Int))).run Tryd.prog W = .ok (.pointer (some (ad.add (m * 77)))) W := by
  have hm : (m : Int) < (n : Int) := by omega
  go_simp

theorem split77 (cs : List Value) (h : cs.length = 77) : ∃ c0 c1 c2 c3 c4 A B, cs = [c0, c1, c2, c3, c4] ++ (A ++ B) ∧ A.length = 8 ∧ B.length = 64 := by
  match cs, h with
  | c0 :: c1 :: c2 :: c3 :: c4 :: r, h =>
    have hr : r.length = 72 := by simpa using h
    exact ⟨c0, c1, c2, c3, c4, r.take 8, r.drop 8, by simp, by simp; omega, by simp; omega⟩

set_option maxRecDepth 100000 in
theorem script_of_trod {H : Type} {enc : TypeId × Value → H} {W : World} {base : Nat} {spare : Nat → Bool} {held : Bool} {fuel : Nat} {cs : List Value} {x : DataW H × List MemPlace} (h : DataW.trod enc Tryd.prog W base spare held fuel 22 cs = some x) (hb : Rows.uptoBulk x.1 ≤ 1048576) :
    ∃ v os, cs = [v] ∧ Script W v os ∧ os.length ≤ 1048576 := by
  rcases Deep.open_slice Tryd.underlying22 h with ⟨rfl, _⟩ | ⟨a, len, cap, m, n, D, Pl, rfl, _, hl, hm, hmm, hxx, hx⟩
  · exact ⟨_, [], rfl, ⟨fun W ty => by go_simp, fun k o hk => by simp at hk⟩, by simp⟩
  · have hlm : len ≤ m := by rw [hmm]; split <;> omega
    have hbulk : ∀ i, i < len → Rows.uptoBulk (D i) ≤ 1048576 := fun i hi => by
      rw [hxx] at hb
      simp only [Rows.uptoBulk] at hb
      have := Bulk.mem_le (H := H) (d := D i) (l := (List.range len).map D) (List.mem_map.2 ⟨i, List.mem_range.2 hi, rfl⟩)
      omega
    have hlen0 : len ≤ 1048576 := by
      rw [hxx] at hb
      simp only [Rows.uptoBulk] at hb
      have := Bulk.len_le (H := H) ((List.range len).map D)
      simp at this
      omega
    obtain ⟨F, hF⟩ := Deep.choose_lt (α := Opd) (n := len) (p := fun i o => At W (a.add (i * 77)) o.cells ∧ o.ok W) (fun i hi => by
      obtain ⟨cs', h1, h2⟩ := hx i (by omega)
      rw [cells37x] at h1
      obtain ⟨_, hlen, hc⟩ := World.cells?_some h1
      obtain ⟨y0, y1, y2, y3, y4, y5, y6, k, hagg, t0, t1, t2, t3, t4, t5, t6⟩ := trod_struct7 Tryd.underlying37 h2
      obtain ⟨c0, c1, c2, c3, c4, A, B, rfl, hA, hB⟩ := split77 cs' hlen
      have hbi := hbulk i hi
      dsimp only at hagg
      rw [hagg] at hbi
      simp only [Rows.uptoBulk, Rows.uptoBulkAll] at hbi
      dsimp only at t0 t1 t2 t3 t4 t5 t6
      rw [cells3x] at t0 t1 t2
      rw [cells27x] at t3 t4
      rw [cells34x] at t5
      rw [cells35x] at t6
      obtain ⟨k0, e0, _, _⟩ := DataW.trod_int Tryd.underlying3 t0
      obtain ⟨k1, e1, _, _⟩ := DataW.trod_int Tryd.underlying3 t1
      obtain ⟨k2, e2, _, _⟩ := DataW.trod_int Tryd.underlying3 t2
      obtain ⟨v3, b3, e3, hh3, hl3⟩ := bytes_bulk t3
      obtain ⟨v4, b4, e4, hh4, hl4⟩ := bytes_bulk t4
      obtain ⟨z5, l5, e5, w5⟩ := row_of_trod Tryd.underlying34 Tryd.underlying33 cells33x cells34x t5
      obtain ⟨z6, l6, e6, w6⟩ := row_of_trod Tryd.underlying35 Tryd.underlying5 cells5x cells35x t6
      simp only [List.cons_append, List.nil_append, List.drop_zero, List.take_succ_cons, List.take_zero, List.drop_succ_cons, List.cons.injEq, and_true] at e0 e1 e2 e3 e4 e5 e6
      rw [List.take_append_of_le_length (by omega), List.take_of_length_le (by omega)] at e5
      rw [show (8 : Nat) = A.length from hA.symm] at e6
      rw [List.drop_left, List.take_of_length_le (by omega)] at e6
      subst e0 e1 e2 e3 e4 e5 e6
      refine ⟨⟨k0, k1, k2, c3, c4, z5.map fun z => BitVec.ofNat 32 z.toNat, z6.map fun z => UInt8.ofNat z.toNat, b3, b4⟩, fun j v hj => ?_, hh3, hh4, by dsimp only; omega, by dsimp only; omega, by simp; omega, by simp; omega⟩
      unfold Opd.cells opC at hj
      dsimp only at hj
      rw [← words_of z5 w5, ← bytes_row z6 w6] at hj
      have hjl : j < 77 := by
        have := (List.getElem?_eq_some_iff.1 hj).1
        simp at this
        omega
      exact (hc j hjl).trans hj)
    have hlen : ((List.range len).map F).length = len := by simp
    refine ⟨_, (List.range len).map F, rfl, ⟨fun W ty => ?_, fun i o hi => ?_⟩, by rw [hlen]; exact hlen0⟩
    · rw [hlen]; go_simp
    · have hi' : i < len := by
        have := (List.getElem?_eq_some_iff.1 hi).1
        rw [hlen] at this; exact this
      have ho : F i = o := by simpa [hi'] using hi
      subst ho
      exact ⟨a.add (i * 77), fun W => idx22 a len cap i hi' W, (hF i hi').1, (hF i hi').2⟩

namespace Row
/-- The three laid tables. -/
theorem consts3 {W : World} (n1 n2 n0 : String) (g1 : Tryd.prog.globalNamed n1 = some 1) (g2 : Tryd.prog.globalNamed n2 = some 2) (g0 : Tryd.prog.globalNamed n0 = some 0)
    (h : laidMetH Tryd.prog [(n1, Rows.laid_lethe_letheref02_constants), (n2, Rows.laid_lethe_letheref02_begin), (n0, Rows.laid_lethe_sha_constants)] W) : Kst W ∧ Rst W ∧ Bst W := by
  have hm : laidMet Tryd.prog [(n1, Rows.laid_lethe_letheref02_constants), (n2, Rows.laid_lethe_letheref02_begin), (n0, Rows.laid_lethe_sha_constants)] W := h
  have hm1 := hm.tail
  have hm2 := hm1.tail
  refine ⟨consts_of n0 g0 hm2, fun t ht => ?_, fun t ht => ?_⟩
  · rw [kw_wn t ht]
    have htab : Lib.TabIs Tryd.prog W n1 .u64 (Kn.map (fun n : Nat => (n : Int))) := Lib.tabIs_of_head (t := 78) (e := 77) (n := 64) g1 (by kernel_rfl) (by kernel_rfl) (by kernel_rfl) (by kernel_rfl) (by kernel_rfl) hm
    have hl : t < (Kn.map (fun n : Nat => (n : Int))).length := by rw [List.length_map, kn_length]; exact ht
    have := htab.cell g1 t hl
    simpa [List.getD_eq_getElem?_getD, List.getElem?_eq_getElem hl] using this
  · have htab : Lib.TabIs Tryd.prog W n2 .u64 (iv.map wn) := Lib.tabIs_of_head (t := 80) (e := 77) (n := 8) g2 (by kernel_rfl) (by kernel_rfl) (by kernel_rfl) (by kernel_rfl) (by kernel_rfl) hm1
    have hl : t < (iv.map wn).length := by rw [List.length_map, iv_length]; exact ht
    have := htab.cell g2 t hl
    rw [this]
    congr 2
    rw [List.getD_eq_getElem?_getD, List.getElem?_eq_getElem hl, List.getElem_map, List.getD_eq_getElem?_getD, List.getElem?_eq_getElem (by rw [iv_length]; exact ht)]
    rfl
end Row
end Go.Proofs.YtablmkijlpoaaaaDoor
