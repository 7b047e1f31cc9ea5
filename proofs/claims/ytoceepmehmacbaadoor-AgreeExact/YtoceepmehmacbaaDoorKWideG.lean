import Derived.Test.YtoceepmehmacbaaDoorRefbG
import Derived.Test.YtoceepmehmacbaaDoorGb
import Derived.Deep.Strs
import Derived.ShutString
import Derived.JoinedCond
import Derived.Deep.Slices
import Derived.Test.YtoceepmehmacbaaDoorRows
import Derived.WalkKit
import Derived.WalkSpells
import Derived.WalkLawsBesides
import Derived.Laws.BitsAllLaws
import Derived.Laws.Externs
import Derived.Deep.MidRow
import Derived.Deep.WholeRow
import Derived.Deep.RegionHeld3
import Derived.Handy
set_option linter.unusedVariables false
set_option linter.unusedSimpArgs false
namespace Go.Proofs.YtoceepmehmacbaaDoor
open Go.ChangeShapes Go.WideShapes Go.ChangeAt Go.RowKit

section
variable {H : Type} {enc : TypeId × Value → H} {W : World} {base : Nat} {spare : Nat → Bool} {held : Bool} {fuel : Nat} {cs : List Value} {x : DataW H × List MemPlace}
theorem fld_of {t : TypeId} {fs : Array Field} (ht : Tryd.prog.underlying t = some (.struct fs)) (h : DataW.trod enc Tryd.prog W base spare held fuel t cs = some x) : cs.length = Tryd.prog.cellsOf t ∧ ∃ n, ∀ (i : Nat) (f : Field), fs[i]? = some f → ∃ y, DataW.trod enc Tryd.prog W base spare held n f.type ((cs.drop f.offset).take (Tryd.prog.cellsOf f.type)) = some y ∧ ∀ m ∈ y.1.weights Tryd.prog f.type, m ∈ x.1.weights Tryd.prog t := by
  obtain ⟨xs, n, _, hx, hl, hlen, hf⟩ := DataW.trod_struct ht h
  refine ⟨hl, n, fun i f hi => ?_⟩
  have hil : i < fs.size := (Array.getElem?_eq_some_iff.1 hi).1
  refine ⟨xs[i]'(by omega), by rw [hf i f hi, List.getElem?_eq_getElem (by omega)], fun m hm => ?_⟩
  rw [hx]
  simp only [DataW.weights, ht]
  exact DataW.weights_mem_each (j := i) (by rw [List.getElem?_map, Array.getElem?_toList, hi]; rfl) (by rw [List.getElem?_map, List.getElem?_eq_getElem (by omega)]; rfl) m hm
theorem fld_at {t ft : TypeId} {fs : Array Field} {n off sz : Nat} (hf : ∀ (i : Nat) (f : Field), fs[i]? = some f → ∃ y, DataW.trod enc Tryd.prog W base spare held n f.type ((cs.drop f.offset).take (Tryd.prog.cellsOf f.type)) = some y ∧ ∀ m ∈ y.1.weights Tryd.prog f.type, m ∈ x.1.weights Tryd.prog t) (i : Nat) {f : Field} (hi : fs[i]? = some f) (ht : f.type = ft) (ho : f.offset = off) (hs : Tryd.prog.cellsOf ft = sz) : ∃ y, DataW.trod enc Tryd.prog W base spare held n ft ((cs.drop off).take sz) = some y ∧ ∀ m ∈ y.1.weights Tryd.prog ft, m ∈ x.1.weights Tryd.prog t := by
  subst ht ho hs
  exact hf i f hi
theorem kcs_of (h : DataW.trod enc Tryd.prog W base spare held fuel 23 cs = some x) : ∃ K : List UInt8, K.length = 32 ∧ cs = K.map byt := by
  obtain ⟨zs, hl, e, hw⟩ := Row.row_of_trod u23 Tryd.underlying5 Row.cells5 (by kernel_rfl) h
  exact ⟨zs.map fun z => UInt8.ofNat z.toNat, by rw [List.length_map]; exact hl, by rw [e, Row.bytes_row zs hw]⟩
theorem u32_of (h : DataW.trod enc Tryd.prog W base spare held fuel 26 cs = some x) : ∃ n : Nat, n < 4294967296 ∧ cs = [u32v n] := by
  obtain ⟨z, e, _, hw⟩ := DataW.trod_int Tryd.underlying26 h
  have hb := bounds_u32 hw
  exact ⟨z.toNat, by omega, by rw [e]; unfold u32v; congr 2; omega⟩
theorem parts3 (cs : List Value) (a b : Nat) (h : cs.length = a + (b + 1)) : cs = cs.take a ++ ((cs.drop a).take b ++ (cs.drop (a + b)).take 1) := by
  rw [List.take_of_length_le (l := cs.drop (a + b)) (by rw [List.length_drop]; omega), ← List.drop_drop, List.take_append_drop, List.take_append_drop]
theorem hel_of (h : DataW.trod enc Tryd.prog W base spare held fuel 33 cs = some x) : ∃ g : Hl, g.ok ∧ cs = g.cs := by
  obtain ⟨hl, n, hf⟩ := fld_of Tryd.underlying33 h
  have h65 : Tryd.prog.cellsOf 33 = 65 := by kernel_rfl
  rw [h65] at hl
  obtain ⟨y0, t0, m0⟩ := fld_at hf 0 (ft := 23) (off := 0) (sz := 32) rfl rfl rfl (by kernel_rfl)
  obtain ⟨y1, t1, m1⟩ := fld_at hf 1 (ft := 23) (off := 32) (sz := 32) rfl rfl rfl (by kernel_rfl)
  obtain ⟨y2, t2, m2⟩ := fld_at hf 2 (ft := 26) (off := 64) (sz := 1) rfl rfl rfl (by kernel_rfl)
  obtain ⟨K0, l0, e0⟩ := kcs_of t0
  obtain ⟨K1, l1, e1⟩ := kcs_of t1
  obtain ⟨p, lp, e2⟩ := u32_of t2
  refine ⟨⟨K0, K1, p⟩, ⟨l0, l1, lp⟩, ?_⟩
  rw [parts3 cs 32 32 hl]
  unfold Hl.cs
  rw [← e0, ← e1, ← e2, List.drop_zero]
theorem off_of_trod (h : DataW.trod enc Tryd.prog W base spare held fuel 28 cs = some x) : ∃ g : Of, g.ok ∧ cs = g.cs := by
  obtain ⟨hl, n, hf⟩ := fld_of Tryd.underlying28 h
  have h65 : Tryd.prog.cellsOf 28 = 65 := by kernel_rfl
  rw [h65] at hl
  obtain ⟨y0, t0, m0⟩ := fld_at hf 0 (ft := 23) (off := 0) (sz := 32) rfl rfl rfl (by kernel_rfl)
  obtain ⟨y1, t1, m1⟩ := fld_at hf 1 (ft := 26) (off := 32) (sz := 1) rfl rfl rfl (by kernel_rfl)
  obtain ⟨y2, t2, m2⟩ := fld_at hf 2 (ft := 23) (off := 33) (sz := 32) rfl rfl rfl (by kernel_rfl)
  obtain ⟨K0, l0, e0⟩ := kcs_of t0
  obtain ⟨p, lp, e1⟩ := u32_of t1
  obtain ⟨K1, l1, e2⟩ := kcs_of t2
  refine ⟨⟨K0, p, K1⟩, ⟨l0, lp, l1⟩, ?_⟩
  unfold Of.cs
  rw [← e0, ← e1, ← e2, List.drop_zero, List.take_of_length_le (l := cs.drop 33) (by rw [List.length_drop]; omega), show cs.drop 33 = (cs.drop 32).drop 1 from by rw [List.drop_drop], List.take_append_drop, List.take_append_drop]
set_option maxRecDepth 100000 in
theorem prr_of {t : TypeId} {fs : Array Field} (ht : Tryd.prog.underlying t = some (.struct fs)) (f0 f1 : Field) (hf0 : fs[0]? = some f0) (hf1 : fs[1]? = some f1) (e0 : f0.type = 23 ∧ f0.offset = 0) (e1 : f1.type = 23 ∧ f1.offset = 32) (hc : Tryd.prog.cellsOf t = 64) (h : DataW.trod enc Tryd.prog W base spare held fuel t cs = some x) : ∃ g : Pr, g.ok ∧ cs = g.cs := by
  obtain ⟨hl, n, hf⟩ := fld_of ht h
  rw [hc] at hl
  obtain ⟨y0, t0, m0⟩ := fld_at hf 0 (ft := 23) (off := 0) (sz := 32) hf0 e0.1 e0.2 (by kernel_rfl)
  obtain ⟨y1, t1, m1⟩ := fld_at hf 1 (ft := 23) (off := 32) (sz := 32) hf1 e1.1 e1.2 (by kernel_rfl)
  obtain ⟨K0, l0, g0⟩ := kcs_of t0
  obtain ⟨K1, l1, g1⟩ := kcs_of t1
  refine ⟨⟨K0, K1⟩, ⟨l0, l1⟩, ?_⟩
  unfold Pr.cs
  rw [← g0, ← g1, List.drop_zero, List.take_of_length_le (l := cs.drop 32) (by rw [List.length_drop]; omega), List.take_append_drop]
set_option maxRecDepth 100000 in
theorem par_of (h : DataW.trod enc Tryd.prog W base spare held fuel 25 cs = some x) : ∃ g : Pr, g.ok ∧ cs = g.cs := prr_of Tryd.underlying25 _ _ rfl rfl ⟨rfl, rfl⟩ ⟨rfl, rfl⟩ (by kernel_rfl) h
end
section
variable {H : Type} {enc : TypeId × Value → H} {W : World} {base : Nat} {v : Value} {d : DataW H} {p : List MemPlace}
end
end Go.Proofs.YtoceepmehmacbaaDoor
set_option linter.unusedVariables false
set_option linter.unusedSimpArgs false
namespace Go.Proofs.YtoceepmehmacbaaDoor.Cv
open Go.RowKit

theorem hide {p : Prop} (h : p) : Hid p := h

/-- A byte as a value. -/
def byt (b : UInt8) : Value := .int .u8 (b.toNat : Int)

/-- A word of 64 bits as a number. -/
def wn (x : BitVec 64) : Int := (x.toNat : Int)
def wv (x : BitVec 64) : Value := .int .u64 (wn x)
def wvs (l : List (BitVec 64)) : List Value := l.map wv

theorem wlt (x : BitVec 64) : x.toNat < 18446744073709551616 := x.isLt
theorem wn_nonneg (x : BitVec 64) : 0 ≤ wn x := Int.natCast_nonneg _
theorem wadd (x y : BitVec 64) : IntKind.u64.wrap (wn x + wn y) = wn (x + y) := by
  unfold wn
  rw [IntKind.wrap_u64, BitVec.toNat_add]; omega
theorem wsub (x y : BitVec 64) : IntKind.u64.wrap (wn x - wn y) = wn (x - y) := by
  have := wlt x
  have := wlt y
  unfold wn
  rw [IntKind.wrap_u64, BitVec.toNat_sub]; omega
theorem wmul (x y : BitVec 64) : IntKind.u64.wrap (wn x * wn y) = wn (x * y) := by
  unfold wn
  rw [IntKind.wrap_u64, BitVec.toNat_mul, ← Int.natCast_mul]; omega
theorem wxor (x y : BitVec 64) : bits .xor .u64 (wn x) (wn y) = wn (x ^^^ y) := by
  unfold wn
  rw [u64_xor_nat _ _ (wlt x) (wlt y), BitVec.toNat_xor]
theorem wand (x y : BitVec 64) : bits .and .u64 (wn x) (wn y) = wn (x &&& y) := by
  unfold wn
  rw [u64_and_nat _ _ (wlt x) (wlt y), BitVec.toNat_and]
theorem wor (x y : BitVec 64) : bits .or .u64 (wn x) (wn y) = wn (x ||| y) := by
  unfold wn
  rw [u64_or_nat _ _ (wlt x) (wlt y), BitVec.toNat_or]
theorem wshl (x : BitVec 64) (k : Nat) : IntKind.u64.wrap (wn x * 2 ^ k) = wn (x <<< k) := by
  unfold wn
  rw [IntKind.wrap_u64, BitVec.toNat_shiftLeft, Nat.shiftLeft_eq, Int.natCast_emod, Int.natCast_mul, Int.natCast_pow]
  rfl
theorem wshr (x : BitVec 64) (k : Nat) : wn x / 2 ^ k = wn (x >>> k) := by
  unfold wn
  rw [BitVec.toNat_ushiftRight, Nat.shiftRight_eq_div_pow, Int.natCast_ediv, Int.natCast_pow]
  rfl

/-- The limb's mask. -/
def mk51 : BitVec 64 := 2251799813685247#64
theorem wand51 (x : BitVec 64) : bits .and .u64 (wn x) (2251799813685247 : Int) = wn (x &&& mk51) := wand x mk51
theorem wshr51 (x : BitVec 64) : wn x / (2251799813685248 : Int) = wn (x >>> 51) := wshr x 51
theorem wmul19 (x : BitVec 64) : IntKind.u64.wrap ((19 : Int) * wn x) = wn (19#64 * x) := wmul 19#64 x
theorem wand32 (x : BitVec 64) : bits .and .u64 (wn x) (4294967295 : Int) = wn (x &&& 4294967295#64) := wand x 4294967295#64
theorem wshr32 (x : BitVec 64) : wn x / (4294967296 : Int) = wn (x >>> 32) := wshr x 32
theorem wshl13 (x : BitVec 64) : IntKind.u64.wrap (wn x * (8192 : Int)) = wn (x <<< 13) := wshl x 13

/-- Block g is a row of cells, none of them frozen. -/
def Blk (w : World) (g : Nat) (cs : List Value) (t : TypeId) : Prop := w.heap[g]? = some (.cells cs.toArray t (0, 0))

theorem Blk.lt {w : World} {g : Nat} {cs : List Value} {t : TypeId} (h : Blk w g cs t) : g < w.heap.size := by
  rcases Nat.lt_or_ge g w.heap.size with hl | hl
  · exact hl
  · unfold Blk at h; rw [Array.getElem?_eq_none hl] at h; cases h
theorem Blk.cell {w : World} {g : Nat} {cs : List Value} {t : TypeId} (h : Blk w g cs t) (j : Nat) : w.cell? ⟨g, j, none⟩ = cs[j]? := by
  rw [cell_of_row w g j _ t (0, 0) h]; simp
theorem Blk.frozen {w : World} {g : Nat} {cs : List Value} {t : TypeId} (h : Blk w g cs t) (j : Nat) : w.frozen? ⟨g, j, none⟩ = false := frozen_of_row w g j _ t h
theorem Blk.drew {w : World} {g : Nat} {cs : List Value} {t : TypeId} (h : Blk w g cs t) : Blk w.drew g cs t := h
theorem Blk.below {w w' : World} {n g : Nat} {cs : List Value} {t : TypeId} (h : Blk w g cs t) (hb : Below n w w') (hg : g < n) : Blk w' g cs t := by
  unfold Blk at h ⊢
  rw [hb.block g hg]; exact h
theorem Blk.on {w w' : World} {g : Nat} {cs : List Value} {t : TypeId} (h : Blk w g cs t) (hb : Below w.heap.size w w') : Blk w' g cs t := h.below hb h.lt
theorem Blk.new (w : World) (cs : List Value) (t : TypeId) : Blk (w.alloc (.cells cs.toArray t)) w.heap.size cs t := heap_alloc_new w _
theorem Blk.alloc {w : World} {g : Nat} {cs : List Value} {t : TypeId} (h : Blk w g cs t) (o : Obj) : Blk (w.alloc o) g cs t := by
  have hl := h.lt
  unfold Blk at h ⊢
  rw [← h]; exact Below.heap_alloc w o g hl
theorem Blk.set {w : World} {g : Nat} {cs : List Value} {t : TypeId} (h : Blk w g cs t) (j : Nat) (v : Value) : Blk (w.setCell ⟨g, j, none⟩ v) g (cs.set j v) t := by
  have := heap_setCell_same w g j _ t v h
  unfold Blk
  rw [this]
  simp
theorem Blk.setOther {w : World} {g : Nat} {cs : List Value} {t : TypeId} (h : Blk w g cs t) (k j : Nat) (v : Value) (hk : g ≠ k) : Blk (w.setCell ⟨k, j, none⟩ v) g cs t := by
  unfold Blk
  rw [heap_setCell_other w ⟨k, j, none⟩ g v hk]; exact h
theorem Blk.setRow {w : World} {g : Nat} {cs : List Value} {t : TypeId} (h : Blk w g cs t) (ds : List Value) : Blk (w.setRow g ds.toArray) g ds t := setRow_heap w g _ _ t (0, 0) h
theorem Blk.setRowOther {w : World} {g : Nat} {cs : List Value} {t : TypeId} (h : Blk w g cs t) (k : Nat) (ds : Array Value) (hk : g ≠ k) : Blk (w.setRow k ds) g cs t := by
  unfold Blk
  rw [setRow_other w k g ds hk]; exact h

theorem below_setRow {n : Nat} {w w' : World} (h : Below n w w') (g : Nat) (cs : Array Value) (hg : n ≤ g) : Below n w (w'.setRow g cs) :=
  ⟨h.os, h.tape, h.output, by rw [setRow_size]; exact h.size, fun k hk => by rw [setRow_other w' g k cs (by omega)]; exact h.block k hk⟩
section
variable {P : Program} {ops : Array Oper} {rest : List Oper} {o : Oper} {a : Act} {w : World} {Q : Exit → Act → World → Prop}

/-- 'box' of a row. -/
theorem wpList_box (hgd : o.guard = none) (t : TypeId) (x : Operand) (ho : o.op = .box t x) (cs : List Value) (hx : a.eval x = .agg cs.toArray)
    (h : wpList P ops Q rest (a.put o.dst (.pointer (some ⟨w.heap.size, 0, none⟩))) (w.alloc (.cells cs.toArray t))) : wpList P ops Q (o :: rest) a w := by
  refine wpList_plain hgd fun K hK => ?_
  unfold Oper.wp execOp
  simp [ho, hx, Instr.box, newVar, Value.cells]
  exact hK _ _ h
theorem wpList_boxAt (hgd : o.guard = none) (t : TypeId) (x : Operand) (ho : o.op = .box t x) (cs : List Value) (hx : a.eval x = .agg cs.toArray) (g : Nat) (hg : w.heap.size = g)
    (h : wpList P ops Q rest (a.put o.dst (.pointer (some ⟨g, 0, none⟩))) (w.alloc (.cells cs.toArray t))) : wpList P ops Q (o :: rest) a w := by
  subst hg
  exact wpList_box hgd t x ho cs hx h
/-- A new variable that is a row. -/
theorem wpList_new (hgd : o.guard = none) (t : TypeId) (ho : o.op = .alloc t) (cs : List Value) (hz : ∀ w, (zeroValue t).run P w = .ok (.agg cs.toArray) w)
    (h : wpList P ops Q rest (a.put o.dst (.pointer (some ⟨w.heap.size, 0, none⟩))) (w.alloc (.cells cs.toArray t))) : wpList P ops Q (o :: rest) a w := by
  refine wpList_plain hgd fun K hK => ?_
  have hK := hK _ _ h
  unfold Oper.wp execOp
  simp [ho, Instr.alloc, hz, newVar, Value.cells]
  exact hK
theorem wpList_newAt (hgd : o.guard = none) (t : TypeId) (ho : o.op = .alloc t) (cs : List Value) (hz : ∀ w, (zeroValue t).run P w = .ok (.agg cs.toArray) w) (g : Nat) (hg : w.heap.size = g)
    (h : wpList P ops Q rest (a.put o.dst (.pointer (some ⟨g, 0, none⟩))) (w.alloc (.cells cs.toArray t))) : wpList P ops Q (o :: rest) a w := by
  subst hg
  exact wpList_new hgd t ho cs hz h
end

theorem run_new {P : Program} {ev : Operand → Value} {o : Oper} (t : TypeId) (ho : o.op = .alloc t) (cs : List Value) (hz : ∀ w, (zeroValue t).run P w = .ok (.agg cs.toArray) w) (w : World) : (execOp ev o).run P w = .ok (.value (.pointer (some ⟨w.heap.size, 0, none⟩))) (w.alloc (.cells cs.toArray t)) := by
  simp [execOp, ho, Instr.alloc, hz, newVar, newRow, Value.cells]

end Go.Proofs.YtoceepmehmacbaaDoor.Cv
set_option linter.unusedVariables false
set_option linter.unusedSimpArgs false
namespace Go.Proofs.YtoceepmehmacbaaDoor.Cv
open Go.RowKit

/-- The upper word of a product, as math/bits reckons it. -/
def mhi (x y : BitVec 64) : BitVec 64 :=
  let t := (x >>> 32) * (y &&& 4294967295#64) + ((x &&& 4294967295#64) * (y &&& 4294967295#64)) >>> 32
  (x >>> 32) * (y >>> 32) + t >>> 32 + ((t &&& 4294967295#64) + (x &&& 4294967295#64) * (y >>> 32)) >>> 32

theorem lo32 (x : BitVec 64) : (x &&& 4294967295#64).toNat = x.toNat % 4294967296 := by
  rw [BitVec.toNat_and]
  exact Nat.and_two_pow_sub_one_eq_mod x.toNat 32
theorem hi32 (x : BitVec 64) : (x >>> 32).toNat = x.toNat / 4294967296 := by
  rw [BitVec.toNat_ushiftRight, Nat.shiftRight_eq_div_pow]

theorem mhi_nat (x y : BitVec 64) : (mhi x y).toNat = x.toNat * y.toNat / 18446744073709551616 := by
  have hx := wlt x
  have hy := wlt y
  unfold mhi
  simp only [BitVec.toNat_add, BitVec.toNat_mul, lo32, hi32]
  obtain ⟨a, ha⟩ : ∃ a, x.toNat / 4294967296 = a := ⟨_, rfl⟩
  obtain ⟨b, hb⟩ : ∃ b, x.toNat % 4294967296 = b := ⟨_, rfl⟩
  obtain ⟨c, hc⟩ : ∃ c, y.toNat / 4294967296 = c := ⟨_, rfl⟩
  obtain ⟨d, hd⟩ : ∃ d, y.toNat % 4294967296 = d := ⟨_, rfl⟩
  rw [ha, hb, hc, hd]
  have hx' : x.toNat = 4294967296 * a + b := by omega
  have hy' : y.toNat = 4294967296 * c + d := by omega
  have la : a < 4294967296 := by omega
  have lb : b < 4294967296 := by omega
  have lc : c < 4294967296 := by omega
  have ld : d < 4294967296 := by omega
  rw [hx', hy']
  have e : (4294967296 * a + b) * (4294967296 * c + d) = 18446744073709551616 * (a * c) + 4294967296 * (a * d) + 4294967296 * (b * c) + b * d := by
    grind
  rw [e]
  have m1 : a * c ≤ 4294967295 * 4294967295 := Nat.mul_le_mul (by omega) (by omega)
  have m2 : a * d ≤ 4294967295 * 4294967295 := Nat.mul_le_mul (by omega) (by omega)
  have m3 : b * c ≤ 4294967295 * 4294967295 := Nat.mul_le_mul (by omega) (by omega)
  have m4 : b * d ≤ 4294967295 * 4294967295 := Nat.mul_le_mul (by omega) (by omega)
  generalize a * c = ac at *
  generalize a * d = ad at *
  generalize b * c = bc at *
  generalize b * d = bd at *
  clear e hx' hy' ha hb hc hd hx hy
  omega

set_option maxRecDepth 100000 in
theorem mul64_any (x y : BitVec 64) (w : World) :
    Calls Tryd.prog 71 #[.int .u64 (wn x), .int .u64 (wn y)] w fun e w' => e = .returned (.tuple #[.int .u64 (wn (mhi x y)), .int .u64 (wn (x * y))]) ∧ w' = w := by
  have h1 := wand32
  have h2 := wshr32
  have h3 := wmul
  have h4 := wadd
  go_enter Tryd.func71, Tryd.ntmps71
  go_wp2
  simp [bodyPost, results, Tryd.results71, go_sem]
  rfl

/-- The carry of a sum. -/
def cry (x y : BitVec 64) : BitVec 64 := BitVec.ofNat 64 ((x.toNat + y.toNat) / 18446744073709551616)
def cry3 (x y c : BitVec 64) : BitVec 64 := BitVec.ofNat 64 ((x.toNat + y.toNat + c.toNat) / 18446744073709551616)
theorem cry_nat (x y : BitVec 64) : (cry x y).toNat = (x.toNat + y.toNat) / 18446744073709551616 := by
  have := wlt x
  have := wlt y
  unfold cry
  rw [BitVec.toNat_ofNat]; omega
theorem cry_le (x y : BitVec 64) : (cry x y).toNat ≤ 1 := by
  have := wlt x
  have := wlt y
  rw [cry_nat]; omega

theorem add64 (x y c : BitVec 64) (hc : c.toNat ≤ 1) (w : World) : (callFunc 72 #[.int .u64 (wn x), .int .u64 (wn y), .int .u64 (wn c)]).run Tryd.prog w =
    .ok (.value (.tuple #[.int .u64 (wn (x + y + c)), .int .u64 (wn (cry3 x y c))])) w := by
  have := wlt x
  have := wlt y
  rw [run_callFunc_extern Tryd.func72 (by kernel_rfl) (by kernel_rfl) (by kernel_rfl) (e := add64Entry) (by kernel_rfl), run_add64 (wn x) (wn y) (wn c) (wn_nonneg x) (wn_nonneg y) (wn_nonneg c) (by unfold wn; omega)]
  simp only [Result.andThen]
  have e1 : (wn x + wn y + wn c) % 18446744073709551616 = wn (x + y + c) := by
    unfold wn
    rw [BitVec.toNat_add, BitVec.toNat_add]; omega
  have e2 : (wn x + wn y + wn c) / 18446744073709551616 = wn (cry3 x y c) := by
    unfold wn cry3
    rw [BitVec.toNat_ofNat]; omega
  rw [e1, e2]
theorem add64_0 (x y : BitVec 64) (w : World) : (callFunc 72 #[.int .u64 (wn x), .int .u64 (wn y), .int .u64 0]).run Tryd.prog w =
    .ok (.value (.tuple #[.int .u64 (wn (x + y)), .int .u64 (wn (cry x y))])) w := by
  have := add64 x y 0#64 (by decide) w
  have e : cry3 x y 0#64 = cry x y := rfl
  rw [e, BitVec.add_zero] at this
  exact this

/-- A number of 128 bits. -/
def wd (h l : BitVec 64) : Value := .agg #[.int .u64 (wn h), .int .u64 (wn l)]
def plh (h l x y : BitVec 64) : BitVec 64 := h + mhi x y + cry l (x * y)
def pll (l x y : BitVec 64) : BitVec 64 := l + x * y

set_option maxRecDepth 100000 in
theorem plus_any (h l x y : BitVec 64) (w : World) :
    Calls Tryd.prog 55 #[.agg #[.int .u64 (wn h), .int .u64 (wn l)], .int .u64 (wn x), .int .u64 (wn y)] w fun e w' => e = .returned (.agg #[.int .u64 (wn (plh h l x y)), .int .u64 (wn (pll l x y))]) ∧ Below w.heap.size w w' := by
  have hc := cry_le l (x * y)
  go_enter Tryd.func55, Tryd.ntmps55
  go_wp2_with (first | (go_at_call 71; refine (mul64_any x y _).mono ?_; rintro e w' ⟨rfl, rfl⟩) | simp only [add64_0] | simp only [add64 _ _ _ hc])
  simp [bodyPost, results, Tryd.results55, go_sem]
  refine ⟨⟨rfl, rfl⟩, ?_⟩
  go_grown

/-- What lies above 51 bits. -/
def abv (h l : BitVec 64) : BitVec 64 := h <<< 13 ||| l >>> 51

set_option maxRecDepth 100000 in
theorem above_any (h l : BitVec 64) (w : World) :
    Calls Tryd.prog 57 #[.agg #[.int .u64 (wn h), .int .u64 (wn l)]] w fun e w' => e = .returned (.int .u64 (wn (abv h l))) ∧ Below w.heap.size w w' := by
  have h1 := wshl13
  have h2 := wshr51
  have h3 := wor
  go_enter Tryd.func57, Tryd.ntmps57
  go_wp2
  go_ret
  refine ⟨rfl, ?_⟩
  go_grown

/-- The limbs of an element. -/
structure L5 where
  a : BitVec 64
  b : BitVec 64
  c : BitVec 64
  d : BitVec 64
  e : BitVec 64
def L5.list (x : L5) : List (BitVec 64) := [x.a, x.b, x.c, x.d, x.e]
def L5.cs (x : L5) : List Value := [.int .u64 (wn x.a), .int .u64 (wn x.b), .int .u64 (wn x.c), .int .u64 (wn x.d), .int .u64 (wn x.e)]
def L5.v (x : L5) : Value := .agg x.cs.toArray
def carr (x : L5) : L5 := ⟨(x.a &&& mk51) + 19#64 * x.e >>> 51, (x.b &&& mk51) + x.a >>> 51, (x.c &&& mk51) + x.b >>> 51, (x.d &&& mk51) + x.c >>> 51, (x.e &&& mk51) + x.d >>> 51⟩

set_option maxRecDepth 100000 in
theorem carried_any (x : L5) (w : World) :
    Calls Tryd.prog 56 #[.agg #[.int .u64 (wn x.a), .int .u64 (wn x.b), .int .u64 (wn x.c), .int .u64 (wn x.d), .int .u64 (wn x.e)]] w fun e w' => e = .returned (carr x).v ∧ Below w.heap.size w w' := by
  have h1 := wand51
  have h2 := wshr51
  have h3 := wadd
  have h4 := wmul19
  obtain ⟨a, b, c, d, e⟩ := x
  go_enter Tryd.func56, Tryd.ntmps56
  go_wp2
  simp [bodyPost, results, Tryd.results56, go_sem]
  refine ⟨rfl, ?_⟩
  go_grown

def small (n : BitVec 32) : L5 := ⟨n.setWidth 64, 0, 0, 0, 0⟩
theorem small_wn (n : BitVec 32) : (n.toNat : Int) = wn (n.setWidth 64) := by
  have := n.isLt
  unfold wn
  rw [BitVec.toNat_setWidth]; omega

set_option maxRecDepth 100000 in
theorem small_any (n : BitVec 32) (w : World) :
    Calls Tryd.prog 34 #[.int .u32 (n.toNat : Int)] w fun e w' => e = .returned (small n).v ∧ Below w.heap.size w w' := by
  have h1 : IntKind.u64.wrap (n.toNat : Int) = wn (n.setWidth 64) := by
    rw [← small_wn, IntKind.wrap_u64]
    have := n.isLt
    omega
  obtain ⟨m, hm⟩ : ∃ m : Int, m = (n.toNat : Int) := ⟨_, rfl⟩
  rw [← hm] at h1 ⊢
  clear hm
  go_enter Tryd.func34, Tryd.ntmps34
  go_wp2
  simp [bodyPost, results, Tryd.results34, go_sem]
  refine ⟨rfl, ?_⟩
  go_grown

end Go.Proofs.YtoceepmehmacbaaDoor.Cv
