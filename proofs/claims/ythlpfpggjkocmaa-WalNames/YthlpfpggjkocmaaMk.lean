import Derived.Test.YthlpfpggjkocmaaChn
import Derived.Test.YthlpfpggjkocmaaCut
import Derived.Laws.MakeOwn
import Derived.Laws.IdiomCopy
set_option linter.unusedVariables false
set_option linter.unusedSimpArgs false
namespace Go.Proofs.Ythlpfpggjkocmaa
open Go.RowKit

theorem made_one (z : Value) (hz : z.cells = #[z]) (n : Nat) : madeCells z.cells n = (List.replicate n z).toArray := by
  rw [hz]
  apply Array.ext
  · simp [size_madeCells]
  · intro i h1 h2
    simp [madeCells]
    rw [Nat.mod_one]; rfl
theorem Try.info3 : (Try.prog.info? 3).map (fun i => (i.zero, i.size, i.bytes)) = some (some (.int .i64 0), 1, 8) := by kernel_rfl
theorem Try.info134 : (Try.prog.info? 134).map (fun i => (i.zero, i.size, i.bytes)) = some (some (.int .u64 0), 1, 8) := by kernel_rfl
theorem run_mk34 (w : World) (l : Nat) (h : l ≤ 140737488355328) : (Instr.makeSlice 37 (.int .i64 (l : Int)) (.int .i64 (l : Int))).run Try.prog w = .ok (.slice (some ⟨w.heap.size, 0, none⟩) l l) (w.alloc (.cells ((List.replicate l (0 : UInt8)).map byt).toArray 5)) := by
  obtain ⟨i0, hi, hz0, hz1, hz2⟩ := info_parts Try.info5
  have hrun := run_make (P := Try.prog) w 37 5 i0 (.int .u8 0) Try.underlying37 hi hz0 .i64 .i64 l l (by omega) (by omega) (by rw [hz2]; omega) (by omega)
  rw [hz1, Int.toNat_natCast, Nat.mul_one, made_one _ rfl] at hrun
  rw [hrun, List.map_replicate]
  rfl
theorem run_mk73 (w : World) (l : Nat) (h : l ≤ 17592186044416) : (Instr.makeSlice 85 (.int .i64 (l : Int)) (.int .i64 (l : Int))).run Try.prog w = .ok (.slice (some ⟨w.heap.size, 0, none⟩) l l) (w.alloc (.cells (List.replicate l (Value.int .i64 0)).toArray 3)) := by
  obtain ⟨i0, hi, hz0, hz1, hz2⟩ := info_parts Try.info3
  have hrun := run_make (P := Try.prog) w 85 3 i0 (.int .i64 0) Try.underlying85 hi hz0 .i64 .i64 l l (by omega) (by omega) (by rw [hz2]; omega) (by omega)
  rw [hz1, Int.toNat_natCast, Nat.mul_one, made_one _ rfl] at hrun
  exact hrun
theorem run_mk36 (w : World) (l : Nat) (h : l ≤ 17592186044416) : (Instr.makeSlice 86 (.int .i64 (l : Int)) (.int .i64 (l : Int))).run Try.prog w = .ok (.slice (some ⟨w.heap.size, 0, none⟩) l l) (w.alloc (.cells (List.replicate l (Value.int .u64 0)).toArray 134)) := by
  obtain ⟨i0, hi, hz0, hz1, hz2⟩ := info_parts Try.info134
  have hrun := run_make (P := Try.prog) w 86 134 i0 (.int .u64 0) Try.underlying86 hi hz0 .i64 .i64 l l (by omega) (by omega) (by rw [hz2]; omega) (by omega)
  rw [hz1, Int.toNat_natCast, Nat.mul_one, made_one _ rfl] at hrun
  exact hrun
theorem alloc_setCell (w : World) (cs : List Value) (t : TypeId) (j : Nat) (v : Value) : (w.alloc (.cells cs.toArray t)).setCell ⟨w.heap.size, j, none⟩ v = w.alloc (.cells (cs.set j v).toArray t) := by
  unfold World.setCell World.alloc
  simp only [World.mk.injEq, and_true]
  apply Array.ext
  · simp
  · intro i h1 h2
    by_cases hi : i = w.heap.size
    · subst hi
      rw [Array.getElem_modify_self]
      simp
    · rw [Array.getElem_modify_of_ne (Ne.symm hi)]
      simp at h1
      simp [Array.getElem_push, show i < w.heap.size by omega]
theorem alloc_setCells (w : World) (t : TypeId) : ∀ (vs : List Value) (o : Nat) (cs : List Value), o + vs.length ≤ cs.length → (w.alloc (.cells cs.toArray t)).setCells w.heap.size o vs = w.alloc (.cells (cs.take o ++ vs ++ cs.drop (o + vs.length)).toArray t)
  | [], o, cs, _ => by simp [World.setCells]
  | v :: r, o, cs, h => by
    rw [World.setCells, alloc_setCell, alloc_setCells w t r (o + 1) (cs.set o v) (by simp at h ⊢; omega), splice_one cs o v r h]

theorem info5s : (Try.prog.info? 5).map (·.size) = some 1 := by kernel_rfl
theorem info39s : (Try.prog.info? 134).map (·.size) = some 1 := by kernel_rfl

theorem copied_any (v : Value) (bs : List UInt8) (hb : bs.length ≤ 140737488355328) (w : World) (hv : Has w v bs) :
    Calls Try.prog 43 #[v] w fun e w' => e = .returned (.slice (some ⟨w.heap.size, 0, none⟩) bs.length bs.length) ∧ w' = w.alloc (.cells (bs.map byt).toArray 5) := by
  have hlen := hv.len
  have hmk := run_mk34 w bs.length hb
  obtain ⟨n, hn⟩ : ∃ n, bs.length = n := ⟨_, rfl⟩
  have hcp : (Builtin.copy_ #[37, 37] 3 #[.slice (some ⟨w.heap.size, 0, none⟩) bs.length bs.length, v]).run Try.prog (w.alloc (.cells ((List.replicate bs.length (0 : UInt8)).map byt).toArray 5)) = .ok (.int .i64 (bs.length : Int)) (w.alloc (.cells (bs.map byt).toArray 5)) := by
    rcases hv with ⟨rfl, rfl⟩ | ⟨ad, cap, rfl, h2, h3⟩
    · have := run_copy_none (P := Try.prog) (w.alloc (.cells ((List.replicate 0 (0 : UInt8)).map byt).toArray 5)) 37 37 3 5 (some ⟨w.heap.size, 0, none⟩) none 0 0 0 0 Try.underlying37 info5s (by simp)
      simpa [goInt] using this
    · have hB := Blk.new w ((List.replicate bs.length (0 : UInt8)).map byt) 5
      have := run_copy_cells (P := Try.prog) (w.alloc (.cells ((List.replicate bs.length (0 : UInt8)).map byt).toArray 5)) 37 37 3 5 w.heap.size 0 bs.length bs.length ad bs.length cap (bs.map byt) Try.underlying37 info5s (by simp)
        (fun j v hj => by
          rw [List.getElem?_map, Option.map_eq_some_iff] at hj
          obtain ⟨u, hu, rfl⟩ := hj
          have := h3 j u hu
          rw [Below.cell (below_new w _) (cell_lt this)]
          exact this)
        (fun j hj => by
          rw [Nat.zero_add, hB.cell, List.getElem?_eq_getElem (by simpa using hj)]; rfl) (fun j _ => hB.frozen _) (byt_one _)
      rw [alloc_setCells w 5 (bs.map byt) 0 _ (by simp)] at this
      simpa [goInt] using this
  rw [hn] at hlen hmk hcp ⊢
  obtain ⟨w1, hw1⟩ : ∃ w1, w.alloc (.cells ((List.replicate n (0 : UInt8)).map byt).toArray 5) = w1 := ⟨_, rfl⟩
  obtain ⟨w2, hw2⟩ : ∃ w2, w.alloc (.cells (bs.map byt).toArray 5) = w2 := ⟨_, rfl⟩
  obtain ⟨g, hg⟩ : ∃ g, w.heap.size = g := ⟨_, rfl⟩
  rw [hw1, hg] at hmk
  rw [hw1, hw2, hg] at hcp
  rw [hw2, hg]
  clear hw1 hw2 hg hv
  go_enter Try.func43, Try.ntmps43
  go_wp2
  go_ret
  exact ⟨rfl, rfl⟩
end Go.Proofs.Ythlpfpggjkocmaa
