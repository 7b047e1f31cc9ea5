import Derived.Test.YtplfelfmkgjijaaNn
import Derived.Test.YtplfelfmkgjijaaRw
set_option linter.unusedVariables false
set_option linter.unusedSimpArgs false
namespace Go.Proofs.Ytplfelfmkgjijaa
open Go.RowKit

theorem and1 (a : Int) : ∃ c : Int, (c = 0 ∨ c = 1) ∧ ∀ (W : World) (x y : Operand), (do eqGuard .and 3 x y (.int .i64 a) (.int .i64 1); binOp .and 3 (.int .i64 a) (.int .i64 1) : Sem Value).run Try.prog W = .ok (.int .i64 c) W := by
  refine ⟨bits .and .i64 a 1, ?_, fun W x y => by go_simp⟩
  have e : bits .and .i64 a 1 = IntKind.i64.wrap (((BitVec.ofInt 64 a) &&& (BitVec.ofInt 64 1)).toNat : Int) := rfl
  have h : ((BitVec.ofInt 64 a) &&& (BitVec.ofInt 64 1)).toNat = (BitVec.ofInt 64 a).toNat % 2 := by
    rw [BitVec.toNat_and]
    have : (BitVec.ofInt 64 1).toNat = 1 := by decide
    rw [this, Nat.and_one_is_mod]
  rw [e, h, IntKind.wrap_i64]
  omega
theorem bool_ne_f (b : Bool) (W : World) (x y : Operand) : (do eqGuard .neq 4 x y (.bool b) (.bool b); binOp .neq 4 (.bool b) (.bool b) : Sem Value).run Try.prog W = .ok (.bool false) W := by
  cases b <;> go_simp
theorem z47 : (Try.prog.info? 47).map (fun i => (i.zero, i.size)) = some (some (Op5.g ⟨0, 0, 0, 0, .slice none 0 0, []⟩), 5) := by kernel_rfl
theorem newO (w : World) (o : Op5) (ho : ∃ ao n c, o.v = .slice ao n c) : ∃ q w1 w2, (Instr.alloc 47 true (.tuple #[])).run Try.prog w = .ok (.pointer (some ⟨q, 0, none⟩)) w1 ∧ (Instr.storeAt 47 (.pointer (some ⟨q, 0, none⟩)) o.g).run Try.prog w1 = .ok () w2 ∧ Blk w2 q o.cs 47 ∧ Below w.heap.size w w2 ∧ q = w.heap.size := by
  have r1 := run_newR 47 (Op5.cs ⟨0, 0, 0, 0, .slice none 0 0, []⟩) (fun w => (zero_of_info z47).1 w) w _ rfl
  have b1 := Blk.new w (Op5.cs ⟨0, 0, 0, 0, .slice none 0 0, []⟩) 47
  have l1 : Below w.heap.size w (w.alloc (.cells (Op5.cs ⟨0, 0, 0, 0, .slice none 0 0, []⟩).toArray 47)) := below_new _ _
  have hone : o.cs.toArray.all (·.oneCell') = true := by
    obtain ⟨ao, n, c, e⟩ := ho
    unfold Op5.cs
    rw [e, List.all_toArray]
    rfl
  obtain ⟨w2, r2, b2, f2⟩ := b1.stA (ty := 47) (vs := o.cs) (o := 0) (a := []) (m := Op5.cs ⟨0, 0, 0, 0, .slice none 0 0, []⟩) (b := []) (i47 o) hone (by simp) rfl rfl
  exact ⟨_, _, w2, r1, r2, by simpa using b2, l1.trans (f2.below (fun k hk h => by omega) l1.size), rfl⟩
theorem z44 : (Try.prog.info? 44).map (fun i => (i.zero, i.size)) = some (some (Sn.g ⟨Fl.z, false⟩), 5) := by kernel_rfl
theorem newN (w : World) (s : Sn) (hs : s.x.sh) : ∃ q w1 w2, (Instr.alloc 44 true (.tuple #[])).run Try.prog w = .ok (.pointer (some ⟨q, 0, none⟩)) w1 ∧ (Instr.storeAt 44 (.pointer (some ⟨q, 0, none⟩)) s.g).run Try.prog w1 = .ok () w2 ∧ Blk w2 q s.cs 44 ∧ Below w.heap.size w w2 ∧ q = w.heap.size := by
  have r1 := run_newR 44 (Sn.cs ⟨Fl.z, false⟩) (fun w => (zero_of_info z44).1 w) w _ rfl
  have b1 := Blk.new w (Sn.cs ⟨Fl.z, false⟩) 44
  have l1 : Below w.heap.size w (w.alloc (.cells (Sn.cs ⟨Fl.z, false⟩).toArray 44)) := below_new _ _
  obtain ⟨w2, r2, b2, f2⟩ := b1.stA (ty := 44) (vs := s.cs) (o := 0) (a := []) (m := Sn.cs ⟨Fl.z, false⟩) (b := []) (i44 s) (Sn.alls hs) (by simp) rfl rfl
  exact ⟨_, _, w2, r1, r2, by simpa using b2, l1.trans (f2.below (fun k hk h => by omega) l1.size), rfl⟩
theorem ld44 {w : World} {q : Nat} {s : Sn} {t : TypeId} (hb : Blk w q s.cs t) : (Instr.loadAt 44 (.pointer (some ⟨q, 0, none⟩))).run Try.prog w = .ok s.g w :=
  hb.ldA (a := []) (m := s.cs) (b := []) Try.underlying44 rfl (i44 s) (by simp) rfl
theorem g44_0 (q : Nat) (W : World) : (Instr.fieldAt 44 (.pointer (some ⟨q, 0, none⟩)) 0).run Try.prog W = .ok (.pointer (some ⟨q, 0, none⟩)) W := by go_simp
theorem g47_0 (q : Nat) (W : World) : (Instr.fieldAt 47 (.pointer (some ⟨q, 0, none⟩)) 0).run Try.prog W = .ok (.pointer (some ⟨q, 0, none⟩)) W := by go_simp
theorem g47_1 (q : Nat) (W : World) : (Instr.fieldAt 47 (.pointer (some ⟨q, 0, none⟩)) 1).run Try.prog W = .ok (.pointer (some ⟨q, 1, none⟩)) W := by go_simp
theorem g47_2 (q : Nat) (W : World) : (Instr.fieldAt 47 (.pointer (some ⟨q, 0, none⟩)) 2).run Try.prog W = .ok (.pointer (some ⟨q, 2, none⟩)) W := by go_simp
theorem g47_3 (q : Nat) (W : World) : (Instr.fieldAt 47 (.pointer (some ⟨q, 0, none⟩)) 3).run Try.prog W = .ok (.pointer (some ⟨q, 3, none⟩)) W := by go_simp
theorem g47_4 (q : Nat) (W : World) : (Instr.fieldAt 47 (.pointer (some ⟨q, 0, none⟩)) 4).run Try.prog W = .ok (.pointer (some ⟨q, 4, none⟩)) W := by go_simp
theorem b44 (x : Fl) (b : Bool) (hx : x.sh) (w : World) : (Instr.build 44 [(0, x.g), (1, .bool b)].toArray).run Try.prog w = .ok (Sn.g ⟨x, b⟩) w := by
  obtain ⟨n, f, t, v, bs⟩ := x
  obtain ⟨ao, l, c, e⟩ := hx
  simp only at e
  subst e
  unfold Sn.g Sn.cs Fl.g Fl.cs
  go_simp
/-- The letters ab. -/
theorem ab (w : World) : ∃ v w1 w2, (Instr.buildSlice 29 2 [(0, byt 97), (1, byt 98)].toArray).run Try.prog w = .ok v w1 ∧ (Go.convert 29 29 v).run Try.prog w1 = .ok v w2 ∧ Has w2 v [97, 98] ∧ Fresh w v ∧ Below w.heap.size w w2 := by
  have h1 : (Instr.buildSlice 29 2 [(0, byt 97), (1, byt 98)].toArray).run Try.prog w = .ok (.slice (some ⟨w.heap.size, 0, none⟩) 2 2) (w.alloc (.cells ([97, 98].map byt).toArray 5)) := by
    unfold byt; go_simp; try rfl
  have h2 := Go.Lib.run_convert_bytes_const (P := Try.prog) w 29 5 ([97, 98].map byt).toArray 2 2 Try.underlying29 Try.underlying5
  refine ⟨_, _, _, h1, h2, .inr ⟨_, 2, rfl, Nat.le_refl _, fun i u hu => ?_⟩, fun k hk => by simp [Value.ownBlock] at hk; omega, below_new _ _⟩
  rw [add_plain]
  have hg := heap_alloc_new w (.cells ([97, 98].map byt).toArray 5 (2, 3))
  unfold World.cell?
  show (match (w.alloc (.cells ([97, 98].map byt).toArray 5 (2, 3))).heap[w.heap.size]? with | some (.cells cs _ _) => _ | _ => _) = _
  rw [hg]
  rcases i with _ | _ | i
  · simp at hu; subst hu; rfl
  · simp at hu; subst hu; rfl
  · simp at hu
theorem here_app (S : List Sn) (s : Sn) : hereD (S ++ [s]) = fun j => if j = S.length then (if s.h then some s.x.d else none) else hereD S j := by
  funext j
  unfold hereD
  by_cases e : j = S.length
  · rw [if_pos e, e, List.getElem?_append_right (Nat.le_refl _), Nat.sub_self]
    rfl
  · rw [if_neg e]
    rcases Nat.lt_or_ge j S.length with h | h
    · rw [List.getElem?_append_left h]
    · rw [List.getElem?_eq_none (by simp; omega), List.getElem?_eq_none h]
/-- Nothing must come any more. -/
theorem Bg.empty {w0 w : World} {p r N : Nat} {vl : Value} {S : List Sn} {E : List Me} {c : Nat} {H : Nat → Option Dt} (h : Bg w0 w p r N vl S E c H) (hH : ∀ k, H k = none) : E = [] := by
  cases E with
  | nil => rfl
  | cons m l =>
    exfalso
    have h0 := h.lo m (by simp)
    obtain ⟨x, hx⟩ := lk_key (E := m :: l) (k := m.x.n) (by simp)
    have h1 := h.rl m.x.n.toNat
    rw [Int.toNat_of_nonneg h0, hx, hH] at h1
    cases h1
structure Y15 (wr : World) (q : Option Nat) (v : Value) (bs : List UInt8) (W : World) : Prop where
  own : Own W wr.heap.size v bs
  bl : ∀ q', q = some q' → Blk W q' Fl.z.cs 36 ∧ wr.heap.size ≤ q'
  be : Below wr.heap.size wr W
end Go.Proofs.Ytplfelfmkgjijaa
