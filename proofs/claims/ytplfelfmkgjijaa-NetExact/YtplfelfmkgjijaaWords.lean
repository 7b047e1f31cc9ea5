import Derived.Test.YtplfelfmkgjijaaBase
import Derived.WalkKit
import Derived.WalkSpells
import Derived.WalkLawsBesides
import Derived.Laws.BitsAllLaws
import Derived.Laws.Externs
import Derived.Deep.MidRow
import Derived.Deep.WholeRow
set_option linter.unusedVariables false
set_option linter.unusedSimpArgs false
namespace Go.Proofs.Ytplfelfmkgjijaa
open Go.RowKit


/-- A word of 64 bits as a number. -/
def wn (x : BitVec 64) : Int := (x.toNat : Int)
def wv (x : BitVec 64) : Value := .int .u64 (wn x)
def wvs (l : List (BitVec 64)) : List Value := l.map wv

theorem wlt (x : BitVec 64) : x.toNat < 18446744073709551616 := x.isLt
theorem wn_nonneg (x : BitVec 64) : 0 ≤ wn x := Int.natCast_nonneg _
theorem wn_lt (x : BitVec 64) : wn x < 18446744073709551616 := by have := wlt x; unfold wn; omega

theorem wadd (x y : BitVec 64) : IntKind.u64.wrap (wn x + wn y) = wn (x + y) := by
  unfold wn
  rw [IntKind.wrap_u64, BitVec.toNat_add]; omega
theorem wsub (x y : BitVec 64) : IntKind.u64.wrap (wn x - wn y) = wn (x - y) := by
  have := wlt x
  have := wlt y
  unfold wn
  rw [IntKind.wrap_u64, BitVec.toNat_sub]; omega
theorem wmul (x y : BitVec 64) : IntKind.u64.wrap (wn x * wn y) = wn (x * y) := by
  unfold wn
  rw [IntKind.wrap_u64, BitVec.toNat_mul, ← Int.natCast_mul]; omega
theorem wxor (x y : BitVec 64) : bits .xor .u64 (wn x) (wn y) = wn (x ^^^ y) := by
  unfold wn
  rw [u64_xor_nat _ _ (wlt x) (wlt y), BitVec.toNat_xor]
theorem wand (x y : BitVec 64) : bits .and .u64 (wn x) (wn y) = wn (x &&& y) := by
  unfold wn
  rw [u64_and_nat _ _ (wlt x) (wlt y), BitVec.toNat_and]
theorem wor (x y : BitVec 64) : bits .or .u64 (wn x) (wn y) = wn (x ||| y) := by
  unfold wn
  rw [u64_or_nat _ _ (wlt x) (wlt y), BitVec.toNat_or]
theorem wshl (x : BitVec 64) (k : Nat) : IntKind.u64.wrap (wn x * 2 ^ k) = wn (x <<< k) := by
  unfold wn
  rw [IntKind.wrap_u64, BitVec.toNat_shiftLeft, Nat.shiftLeft_eq, Int.natCast_emod, Int.natCast_mul, Int.natCast_pow]
  rfl
theorem wshr (x : BitVec 64) (k : Nat) : wn x / 2 ^ k = wn (x >>> k) := by
  unfold wn
  rw [BitVec.toNat_ushiftRight, Nat.shiftRight_eq_div_pow, Int.natCast_ediv, Int.natCast_pow]
  rfl

/-- The limb's mask. -/
def mk51 : BitVec 64 := 2251799813685247#64
theorem wand51 (x : BitVec 64) : bits .and .u64 (wn x) (2251799813685247 : Int) = wn (x &&& mk51) := wand x mk51
theorem wshr51 (x : BitVec 64) : wn x / (2251799813685248 : Int) = wn (x >>> 51) := wshr x 51
theorem wmul19 (x : BitVec 64) : IntKind.u64.wrap ((19 : Int) * wn x) = wn (19#64 * x) := wmul 19#64 x
theorem wand32 (x : BitVec 64) : bits .and .u64 (wn x) (4294967295 : Int) = wn (x &&& 4294967295#64) := wand x 4294967295#64
theorem wshr32 (x : BitVec 64) : wn x / (4294967296 : Int) = wn (x >>> 32) := wshr x 32
theorem wshl13 (x : BitVec 64) : IntKind.u64.wrap (wn x * (8192 : Int)) = wn (x <<< 13) := wshl x 13

/-- Block g is a row of cells, none of them frozen. -/
def Blk (w : World) (g : Nat) (cs : List Value) (t : TypeId) : Prop := w.heap[g]? = some (.cells cs.toArray t (0, 0))

theorem Blk.lt {w : World} {g : Nat} {cs : List Value} {t : TypeId} (h : Blk w g cs t) : g < w.heap.size := by
  rcases Nat.lt_or_ge g w.heap.size with hl | hl
  · exact hl
  · unfold Blk at h; rw [Array.getElem?_eq_none hl] at h; cases h
theorem Blk.cell {w : World} {g : Nat} {cs : List Value} {t : TypeId} (h : Blk w g cs t) (j : Nat) : w.cell? ⟨g, j, none⟩ = cs[j]? := by
  rw [cell_of_row w g j _ t (0, 0) h]; simp
theorem Blk.frozen {w : World} {g : Nat} {cs : List Value} {t : TypeId} (h : Blk w g cs t) (j : Nat) : w.frozen? ⟨g, j, none⟩ = false := frozen_of_row w g j _ t h
theorem Blk.drewN {w : World} {g : Nat} {cs : List Value} {t : TypeId} (h : Blk w g cs t) (n : Nat) : Blk (w.drewN n) g cs t := by
  unfold Blk at h ⊢
  rw [← h]
  simp
theorem Blk.drew {w : World} {g : Nat} {cs : List Value} {t : TypeId} (h : Blk w g cs t) : Blk w.drew g cs t := h
theorem Blk.below {w w' : World} {n g : Nat} {cs : List Value} {t : TypeId} (h : Blk w g cs t) (hb : Below n w w') (hg : g < n) : Blk w' g cs t := by
  unfold Blk at h ⊢
  rw [hb.block g hg]; exact h
theorem Blk.on {w w' : World} {g : Nat} {cs : List Value} {t : TypeId} (h : Blk w g cs t) (hb : Below w.heap.size w w') : Blk w' g cs t := h.below hb h.lt
theorem Blk.new (w : World) (cs : List Value) (t : TypeId) : Blk (w.alloc (.cells cs.toArray t)) w.heap.size cs t := heap_alloc_new w _
theorem Blk.alloc {w : World} {g : Nat} {cs : List Value} {t : TypeId} (h : Blk w g cs t) (o : Obj) : Blk (w.alloc o) g cs t := by
  have hl := h.lt
  unfold Blk at h ⊢
  rw [← h]; exact Below.heap_alloc w o g hl
theorem Blk.set {w : World} {g : Nat} {cs : List Value} {t : TypeId} (h : Blk w g cs t) (j : Nat) (v : Value) : Blk (w.setCell ⟨g, j, none⟩ v) g (cs.set j v) t := by
  have := heap_setCell_same w g j _ t v h
  unfold Blk
  rw [this]
  simp
theorem Blk.setOther {w : World} {g : Nat} {cs : List Value} {t : TypeId} (h : Blk w g cs t) (k j : Nat) (v : Value) (hk : g ≠ k) : Blk (w.setCell ⟨k, j, none⟩ v) g cs t := by
  unfold Blk
  rw [heap_setCell_other w ⟨k, j, none⟩ g v hk]; exact h
theorem Blk.setRow {w : World} {g : Nat} {cs : List Value} {t : TypeId} (h : Blk w g cs t) (ds : List Value) : Blk (w.setRow g ds.toArray) g ds t := setRow_heap w g _ _ t (0, 0) h
theorem Blk.setRowOther {w : World} {g : Nat} {cs : List Value} {t : TypeId} (h : Blk w g cs t) (k : Nat) (ds : Array Value) (hk : g ≠ k) : Blk (w.setRow k ds) g cs t := by
  unfold Blk
  rw [setRow_other w k g ds hk]; exact h

theorem below_setRow {n : Nat} {w w' : World} (h : Below n w w') (g : Nat) (cs : Array Value) (hg : n ≤ g) : Below n w (w'.setRow g cs) :=
  ⟨h.os, h.tape, h.output, by rw [setRow_size]; exact h.size, fun k hk => by rw [setRow_other w' g k cs (by omega)]; exact h.block k hk⟩
theorem below_drewN {B : Nat} {a w : World} (h : Below B a w) : ∀ n, Below B a (w.drewN n)
  | 0 => h
  | n + 1 => by
    have := (below_drewN h n).drew
    first | exact this | simpa [World.drewN] using this

section
variable {P : Program} {ops : Array Oper} {rest : List Oper} {o : Oper} {a : Act} {w : World} {Q : Exit → Act → World → Prop}

/-- 'box' of a row. -/
theorem wpList_box (hgd : o.guard = none) (t : TypeId) (x : Operand) (ho : o.op = .box t x) (cs : List Value) (hx : a.eval x = .agg cs.toArray)
    (h : wpList P ops Q rest (a.put o.dst (.pointer (some ⟨w.heap.size, 0, none⟩))) (w.alloc (.cells cs.toArray t))) : wpList P ops Q (o :: rest) a w := by
  refine wpList_plain hgd fun K hK => ?_
  unfold Oper.wp execOp
  simp [ho, hx, Instr.box, newVar, Value.cells]
  exact hK _ _ h
theorem wpList_boxAt (hgd : o.guard = none) (t : TypeId) (x : Operand) (ho : o.op = .box t x) (cs : List Value) (hx : a.eval x = .agg cs.toArray) (g : Nat) (hg : w.heap.size = g)
    (h : wpList P ops Q rest (a.put o.dst (.pointer (some ⟨g, 0, none⟩))) (w.alloc (.cells cs.toArray t))) : wpList P ops Q (o :: rest) a w := by
  subst hg
  exact wpList_box hgd t x ho cs hx h
/-- A new variable that is a row. -/
theorem wpList_new (hgd : o.guard = none) (t : TypeId) (ho : o.op = .alloc t) (cs : List Value) (hz : ∀ w, (zeroValue t).run P w = .ok (.agg cs.toArray) w)
    (h : wpList P ops Q rest (a.put o.dst (.pointer (some ⟨w.heap.size, 0, none⟩))) (w.alloc (.cells cs.toArray t))) : wpList P ops Q (o :: rest) a w := by
  refine wpList_plain hgd fun K hK => ?_
  have hK := hK _ _ h
  unfold Oper.wp execOp
  simp [ho, Instr.alloc, hz, newVar, Value.cells]
  exact hK
theorem wpList_newAt (hgd : o.guard = none) (t : TypeId) (ho : o.op = .alloc t) (cs : List Value) (hz : ∀ w, (zeroValue t).run P w = .ok (.agg cs.toArray) w) (g : Nat) (hg : w.heap.size = g)
    (h : wpList P ops Q rest (a.put o.dst (.pointer (some ⟨g, 0, none⟩))) (w.alloc (.cells cs.toArray t))) : wpList P ops Q (o :: rest) a w := by
  subst hg
  exact wpList_new hgd t ho cs hz h
end

theorem run_new {P : Program} {ev : Operand → Value} {o : Oper} (t : TypeId) (ho : o.op = .alloc t) (cs : List Value) (hz : ∀ w, (zeroValue t).run P w = .ok (.agg cs.toArray) w) (w : World) : (execOp ev o).run P w = .ok (.value (.pointer (some ⟨w.heap.size, 0, none⟩))) (w.alloc (.cells cs.toArray t)) := by
  simp [execOp, ho, Instr.alloc, hz, newVar, newRow, Value.cells]


end Go.Proofs.Ytplfelfmkgjijaa
