import Derived.Test.YtgfgabgnejnipaaExact
import Derived.Test.YtgfgabgnejnipaaRow
import Derived.Deep.Slices
import Derived.Deep.Strs
namespace Go.Proofs.Ytgfgabgnejnipaa
open Go.ChangeShapes Go.WideShapes Go.ChangeAt Go.RowKit

namespace Bulk
theorem one_le {H : Type} (d : DataW H) : 1 ≤ Rows.uptoBulk d := by
  cases d with
  | lit l => cases l <;> simp [Rows.uptoBulk]
  | nil => simp [Rows.uptoBulk]
  | ptr d => simp [Rows.uptoBulk]
  | slice elems spare => simp [Rows.uptoBulk]
  | agg parts => simp [Rows.uptoBulk]
  | iface t d => simp [Rows.uptoBulk]
  | map entries => simp [Rows.uptoBulk]
  | held h => simp [Rows.uptoBulk]
theorem mem_le {H : Type} {d : DataW H} {l : List (DataW H)} (h : d ∈ l) : Rows.uptoBulk d ≤ Rows.uptoBulkAll l := by
  induction l with
  | nil => cases h
  | cons x r ih =>
    simp only [Rows.uptoBulkAll]
    rcases List.mem_cons.1 h with e | e
    · subst e; omega
    · have := ih e; omega
theorem len_le {H : Type} (l : List (DataW H)) : l.length ≤ Rows.uptoBulkAll l := by
  induction l with
  | nil => simp [Rows.uptoBulkAll]
  | cons x r ih => have := one_le x; simp only [Rows.uptoBulkAll, List.length_cons]; omega
end Bulk

theorem cells73 : Try.prog.cellsOf 73 = 6 := by kernel_rfl
theorem cells3x : Try.prog.cellsOf 3 = 1 := by kernel_rfl
theorem cells22x : Try.prog.cellsOf 22 = 1 := by kernel_rfl
theorem cells5x : Try.prog.cellsOf 5 = 1 := by kernel_rfl
theorem cells9x : Try.prog.cellsOf 9 = 1 := by kernel_rfl

theorem bytes_bulk {H : Type} {enc : TypeId × Value → H} {W : World} {base : Nat} {spare : Nat → Bool} {held : Bool} {fuel : Nat} {cs : List Value} {x : DataW H × List MemPlace} (h : DataW.trod enc Try.prog W base spare held fuel 22 cs = some x) :
    ∃ v bs, cs = [v] ∧ Has W v bs ∧ bs.length ≤ Rows.uptoBulk x.1 := by
  rcases open_ints Try.underlying22 Try.underlying5 cells5x h with ⟨rfl, _⟩ | ⟨a, len, cap, zs, rfl, _, hl, hm, hz, hx, hcell, hwz⟩
  · exact ⟨_, [], rfl, Has.nil _, by simp⟩
  · have hzl : len ≤ zs.length := by rw [hz]; split <;> omega
    have hlen : ((zs.take len).map fun n => UInt8.ofNat n.toNat).length = len := by simp; omega
    refine ⟨_, (zs.take len).map fun n => UInt8.ofNat n.toNat, rfl, .inr ⟨a, cap, by rw [hlen], by rw [hlen]; exact hl, fun i u hu => ?_⟩, ?_⟩
    · have hi : i < len := by
        rcases Nat.lt_or_ge i len with h | h
        · exact h
        · rw [List.getElem?_eq_none (by omega)] at hu; cases hu
      rw [List.getElem?_map, List.getElem?_take_of_lt hi, List.getElem?_eq_getElem (by omega)] at hu
      simp only [Option.map_some, Option.some.injEq] at hu
      rw [hcell i (by omega), ← hu]
      have hb := Row.wf_byte (hwz _ (List.getElem_mem (show i < zs.length by omega)))
      simp only [List.getD_eq_getElem?_getD, List.getElem?_eq_getElem (show i < zs.length by omega), Option.getD_some, byt]
      rw [UInt8.toNat_ofNat', Nat.mod_eq_of_lt (by omega)]
      congr 2
      omega
    · rw [hx, hlen]
      simp only [Rows.uptoBulk]
      have := Bulk.len_le (H := H) (lits .u8 (zs.take len))
      simp only [lits, List.length_map, List.length_take] at this
      simp only [lits]
      omega

theorem trod_struct6 {H : Type} {enc : TypeId × Value → H} {P : Program} {w : World} {base : Nat} {spare : Nat → Bool} {held : Bool} {t : TypeId} {f0 f1 f2 f3 f4 f5 : Field} {fuel : Nat} {cs : List Value} {x : DataW H × List MemPlace} (ht : P.underlying t = some (.struct #[f0, f1, f2, f3, f4, f5])) (h : DataW.trod enc P w base spare held fuel t cs = some x) :
    ∃ y0 y1 y2 y3 y4 y5 n, x.1 = .agg [y0.1, y1.1, y2.1, y3.1, y4.1, y5.1] ∧ DataW.trod enc P w base spare held n f0.type ((cs.drop f0.offset).take (P.cellsOf f0.type)) = some y0 ∧
      DataW.trod enc P w base spare held n f1.type ((cs.drop f1.offset).take (P.cellsOf f1.type)) = some y1 ∧ DataW.trod enc P w base spare held n f2.type ((cs.drop f2.offset).take (P.cellsOf f2.type)) = some y2 ∧
      DataW.trod enc P w base spare held n f3.type ((cs.drop f3.offset).take (P.cellsOf f3.type)) = some y3 ∧ DataW.trod enc P w base spare held n f4.type ((cs.drop f4.offset).take (P.cellsOf f4.type)) = some y4 ∧ DataW.trod enc P w base spare held n f5.type ((cs.drop f5.offset).take (P.cellsOf f5.type)) = some y5 := by
  obtain ⟨xs, n, _, rfl, hl, hlen, hf⟩ := DataW.trod_struct ht h
  match xs, hlen with
  | [y0, y1, y2, y3, y4, y5], _ => exact ⟨y0, y1, y2, y3, y4, y5, n, by simp, by simpa using hf 0 f0 rfl, by simpa using hf 1 f1 rfl, by simpa using hf 2 f2 rfl, by simpa using hf 3 f3 rfl, by simpa using hf 4 f4 rfl, by simpa using hf 5 f5 rfl⟩

theorem list6 {α : Type} (l : List α) (h : l.length = 6) : ∃ a b c d e f, l = [a, b, c, d, e, f] := by
  match l, h with
  | [a, b, c, d, e, f], _ => exact ⟨a, b, c, d, e, f, rfl⟩

instance : Inhabited Opd := ⟨⟨0, 0, 0, .slice none 0 0, .slice none 0 0, .empty, [], []⟩⟩

theorem idx58 (ad : Addr) (n cap m : Nat) (h : m < n) (W : World) : (Instr.indexAt 58 (.slice (some ad) n cap) (.int .i64 (m : Int))).run Try.prog W = .ok (.pointer (some (ad.add (m * 6)))) W := by
  have hm : (m : Int) < (n : Int) := by omega
  go_simp

set_option maxRecDepth 100000 in
theorem script_of_trod {H : Type} {enc : TypeId × Value → H} {W : World} {base : Nat} {spare : Nat → Bool} {held : Bool} {fuel : Nat} {cs : List Value} {x : DataW H × List MemPlace} (h : DataW.trod enc Try.prog W base spare held fuel 58 cs = some x) (hb : Rows.uptoBulk x.1 ≤ 1048576) :
    ∃ v os, cs = [v] ∧ Script W v os ∧ os.length ≤ 1048576 := by
  rcases Deep.open_slice Try.underlying58 h with ⟨rfl, _⟩ | ⟨a, len, cap, m, n, D, Pl, rfl, _, hl, hm, hmm, hxx, hx⟩
  · exact ⟨_, [], rfl, ⟨fun W ty => by go_simp, fun k hk => by simp at hk⟩, by simp⟩
  · have hlm : len ≤ m := by rw [hmm]; split <;> omega
    have hbulk : ∀ i, i < len → Rows.uptoBulk (D i) ≤ 1048576 := fun i hi => by
      rw [hxx] at hb
      simp only [Rows.uptoBulk] at hb
      have := Bulk.mem_le (H := H) (d := D i) (l := (List.range len).map D) (List.mem_map.2 ⟨i, List.mem_range.2 hi, rfl⟩)
      omega
    have hlen0 : len ≤ 1048576 := by
      rw [hxx] at hb
      simp only [Rows.uptoBulk] at hb
      have := Bulk.len_le (H := H) ((List.range len).map D)
      simp at this
      omega
    obtain ⟨F, hF⟩ := Deep.choose_lt (α := Opd) (n := len) (p := fun i o => OpAt W (a.add (i * 6)) o ∧ o.ok W) (fun i hi => by
      obtain ⟨cs', h1, h2⟩ := hx i (by omega)
      rw [cells73] at h1
      obtain ⟨_, hlen, hc⟩ := World.cells?_some h1
      obtain ⟨y0, y1, y2, y3, y4, y5, k, hagg, t0, t1, t2, t3, t4, t5⟩ := trod_struct6 Try.underlying73 h2
      obtain ⟨c0, c1, c2, c3, c4, c5, rfl⟩ := list6 cs' hlen
      have hbi := hbulk i hi
      dsimp only at hagg
      rw [hagg] at hbi
      simp only [Rows.uptoBulk, Rows.uptoBulkAll] at hbi
      dsimp only at t0 t1 t2 t3 t4 t5
      rw [cells3x] at t0 t1 t2
      rw [cells22x] at t3 t4
      rw [cells9x] at t5
      obtain ⟨k0, e0, _, _⟩ := DataW.trod_int Try.underlying3 t0
      obtain ⟨k1, e1, _, _⟩ := DataW.trod_int Try.underlying3 t1
      obtain ⟨k2, e2, _, _⟩ := DataW.trod_int Try.underlying3 t2
      obtain ⟨v3, b3, e3, hh3, hl3⟩ := bytes_bulk t3
      obtain ⟨v4, b4, e4, hh4, hl4⟩ := bytes_bulk t4
      obtain ⟨s5, e5, hx5, _⟩ := DataW.trod_string Try.underlying9 t5
      simp at e0 e1 e2 e3 e4 e5
      subst e0 e1 e2 e3 e4 e5
      have hs5 : s5.size ≤ 1048576 := by
        rw [hx5] at hbi
        simp only [Rows.uptoBulk] at hbi
        have e : s5.data.toList.length = s5.size := by rw [Array.length_toList]; rfl
        omega
      have q0 := hc 0 (by omega)
      have q1 := hc 1 (by omega)
      have q2 := hc 2 (by omega)
      have q3 := hc 3 (by omega)
      have q4 := hc 4 (by omega)
      have q5 := hc 5 (by omega)
      exact ⟨⟨k0, k1, k2, c3, c4, s5, b3, b4⟩, ⟨q0, q1, q2, q3, q4, q5⟩, hh3, hh4, by dsimp only; omega, by dsimp only; omega, hs5⟩)
    have hlen : ((List.range len).map F).length = len := by simp
    refine ⟨_, (List.range len).map F, rfl, ⟨fun W ty => ?_, fun i hi => ?_⟩, by rw [hlen]; exact hlen0⟩
    · rw [hlen]; go_simp
    · have hi' : i < len := by rw [hlen] at hi; exact hi
      refine ⟨a.add (i * 6), fun W => idx58 a len cap i hi' W, ?_⟩
      simp only [List.getElem_map, List.getElem_range]
      exact hF i hi'

end Go.Proofs.Ytgfgabgnejnipaa
