import Derived.Test.YtmbgeojjklboeaaGreatDoorRows
import Derived.WalkKit
import Derived.WalkSpells
import Derived.WalkLawsBesides
import Derived.Laws.BytesArg
import Derived.Laws.AppendOwnNone
import Derived.Lib.SliceRun
import Derived.ProofKit
import Derived.OpenShut
import Derived.ChangeOld
import Derived.Below
import Derived.SizedLaws
import Derived.Deep.Slices
import Derived.Laws.BitsAllLaws
import Derived.Laws.Externs
import Derived.Deep.MidRow
import Derived.Deep.WholeRow
import Derived.Orders
set_option linter.unusedVariables false
set_option linter.unusedSimpArgs false
namespace Go.Proofs.YtmbgeojjklboeaaGreatDoor
open Go.RowKit

theorem hide {p : Prop} (h : p) : Hid p := h

/-- A byte as a value. -/
def byt (b : UInt8) : Value := .int .u8 (b.toNat : Int)

/-- The slice value v holds the bytes bs in the world w. -/
def Has (w : World) (v : Value) (bs : List UInt8) : Prop :=
  (v = .slice none 0 0 ∧ bs = []) ∨ ∃ ad cap, v = .slice (some ad) bs.length cap ∧ bs.length ≤ cap ∧ ∀ i u, bs[i]? = some u → w.cell? (ad.add i) = some (byt u)

theorem Has.cellsEq {w w' : World} {v : Value} {bs : List UInt8} (h : Has w v bs) (hb : ∀ a u, w.cell? a = some u → w'.cell? a = some u) : Has w' v bs := by
  rcases h with h | ⟨ad, cap, h1, h2, h3⟩
  · exact .inl h
  · exact .inr ⟨ad, cap, h1, h2, fun i u hu => hb _ _ (h3 i u hu)⟩

theorem cell_lt {w : World} {a : Addr} {u : Value} (h : w.cell? a = some u) : a.block < w.heap.size := by
  unfold World.cell? at h
  rcases Nat.lt_or_ge a.block w.heap.size with hl | hl
  · exact hl
  · rw [Array.getElem?_eq_none hl] at h; simp at h

theorem Has.below {w w' : World} {v : Value} {bs : List UInt8} (h : Has w v bs) (hb : Below w.heap.size w w') : Has w' v bs :=
  h.cellsEq fun _ _ hu => (hb.cell (cell_lt hu)).trans hu

theorem str_map (bs : List UInt8) : strOfNums (bs.map fun b => (b.toNat : Int)) = ⟨bs.toArray⟩ := by
  unfold strOfNums
  simp only [List.map_map]
  congr 2
  conv => rhs; rw [← List.map_id bs]
  apply List.map_congr_left
  intro x _
  simp

theorem Has.convert {w : World} {v : Value} {bs : List UInt8} (h : Has w v bs) : (convert 49 9 v).run Tryz.prog w = .ok (.string ⟨bs.toArray⟩) w := by
  rcases h with ⟨rfl, rfl⟩ | ⟨ad, cap, rfl, h2, h3⟩
  · exact run_convert_bytes_nil w 49 5 Tryz.underlying49 Tryz.underlying5 0 0 9 Tryz.underlying9
  · have hl : (loadCells ad bs.length).run Tryz.prog w = .ok ((bs.map fun b => (b.toNat : Int)).map (Value.int .u8)).toArray w := by
      have := run_loadCells_list (P := Tryz.prog) w ad ((bs.map fun b => (b.toNat : Int)).map (Value.int .u8)) (fun j v hj => by
        simp only [List.getElem?_map, Option.map_map, Option.map_eq_some_iff] at hj
        obtain ⟨u, hu, rfl⟩ := hj
        exact h3 j u hu)
      simpa using this
    rw [run_convert_bytes_string w 49 9 5 _ bs.length cap Tryz.underlying49 Tryz.underlying5 Tryz.underlying9, run_bytesToString w _ bs.length cap _ hl, foldl_push_bytes]
    have := str_map bs
    unfold strOfNums at this
    simp only [ByteArray.empty, ByteArray.emptyWithCapacity]
    rw [← this]
    simp
    rfl

theorem or_u8 (a b : UInt8) : bits .or .u8 (a.toNat : Int) (b.toNat : Int) = ((a ||| b).toNat : Int) := by
  rw [(bits_nat .u8 8 (by decide) wraps_u8 a.toNat b.toNat a.toNat_lt b.toNat_lt).2, UInt8.toNat_or]
/-- The slice value v, made by the call itself (from block 'base' on), owns the bytes bs. -/
def Own (w : World) (base : Nat) (v : Value) (bs : List UInt8) : Prop := w.ownsRow base 5 1 v bs.length (bs.map byt)

theorem add_plain (g k : Nat) : (⟨g, 0, none⟩ : Addr).add k = ⟨g, k, none⟩ := by
  unfold Addr.add; split <;> simp_all

theorem Own.has {w : World} {base : Nat} {v : Value} {bs : List UInt8} (h : Own w base v bs) : Has w v bs := by
  obtain ⟨_, h | ⟨g, cap, cur, hv, hg, hh, hn, hc, hs, ht⟩⟩ := h
  · exact .inl ⟨h.1, List.eq_nil_of_length_eq_zero h.2⟩
  · refine .inr ⟨⟨g, 0, none⟩, cap, hv, hn, fun i u hu => ?_⟩
    rw [add_plain]
    have hi : i < bs.length := by
      rcases Nat.lt_or_ge i bs.length with h | h
      · exact h
      · rw [List.getElem?_eq_none h] at hu; cases hu
    have e : cur[i]? = some (byt u) := by
      have : (bs.map byt)[i]? = some (byt u) := by simp [hu]
      rw [← ht, Nat.mul_one, List.getElem?_take_of_lt hi, Array.getElem?_toList] at this
      exact this
    simp [World.cell?, hh, e]

theorem Own.blocks {w w' : World} {base : Nat} {v : Value} {bs : List UInt8} (h : Own w base v bs) (hb : ∀ k, k < w.heap.size → w'.heap[k]? = w.heap[k]?) : Own w' base v bs := by
  obtain ⟨h1, h | ⟨g, cap, cur, hv, hg, hh, r⟩⟩ := h
  · exact ⟨h1, .inl h⟩
  · refine ⟨h1, .inr ⟨g, cap, cur, hv, hg, ?_, r⟩⟩
    rw [hb g ?_, hh]
    rcases Nat.lt_or_ge g w.heap.size with hl | hl
    · exact hl
    · rw [Array.getElem?_eq_none hl] at hh; cases hh

theorem Own.below {w w' : World} {base : Nat} {v : Value} {bs : List UInt8} (h : Own w base v bs) (hb : Below w.heap.size w w') : Own w' base v bs := h.blocks hb.block

theorem Tryz.info5 : (Tryz.prog.info? 5).map (fun i => (i.zero, i.size, i.bytes)) = some (some (.int .u8 0), 1, 1) := by kernel_rfl

theorem byt_one (bs : List UInt8) : ∀ u ∈ bs.map byt, u.oneCell' = true := by
  intro u hu
  obtain ⟨b, _, rfl⟩ := List.mem_map.1 hu
  rfl

theorem growBy_le (need : Nat) : ∀ rounds c, c < need → Builtin.growBy need rounds c ≤ need + (need + 768) / 4
  | 0, c, h => by unfold Builtin.growBy; omega
  | rounds + 1, c, h => by
    unfold Builtin.growBy
    rw [if_neg (by omega)]
    by_cases hc : c + (c + 768) / 4 < need
    · exact growBy_le need rounds _ hc
    · cases rounds with
      | zero => unfold Builtin.growBy; omega
      | succ r => unfold Builtin.growBy; rw [if_pos (by omega)]; omega

theorem nextcap_le (need old : Nat) (h : old < need) : Builtin.nextslicecap need old ≤ need + (need + 768) / 4 := by
  unfold Builtin.nextslicecap
  split
  · omega
  · split
    · omega
    · exact growBy_le need 4 old h

end Go.Proofs.YtmbgeojjklboeaaGreatDoor

set_option linter.unusedVariables false
set_option linter.unusedSimpArgs false
namespace Go.Proofs.YtmbgeojjklboeaaGreatDoor
open Go.ChangeShapes Go.WideShapes Go.ChangeAt Go.RowKit
namespace Row

theorem own : ownKnob Tryz.prog.godebug = none := by kernel_rfl
theorem laidOut : laidOutB Tryz.prog = true := by kernel_rfl
theorem cells5 : Tryz.prog.cellsOf 5 = 1 := by kernel_rfl
theorem wf_byte {n : Int} (h : (Lit.int .u8 n).wf = true) : 0 ≤ n ∧ n < 256 := by
  have := (bounds_u8 h); omega

end Row
end Go.Proofs.YtmbgeojjklboeaaGreatDoor

set_option linter.unusedVariables false
set_option linter.unusedSimpArgs false
namespace Go.Proofs.YtmbgeojjklboeaaGreatDoor
open Go.RowKit

/-- A word of 64 bits as a number. -/
def wn (x : BitVec 64) : Int := (x.toNat : Int)
def wv (x : BitVec 64) : Value := .int .u64 (wn x)
theorem wlt (x : BitVec 64) : x.toNat < 18446744073709551616 := x.isLt
theorem wn_nonneg (x : BitVec 64) : 0 ≤ wn x := Int.natCast_nonneg _
theorem wxor (x y : BitVec 64) : bits .xor .u64 (wn x) (wn y) = wn (x ^^^ y) := by
  unfold wn
  rw [u64_xor_nat _ _ (wlt x) (wlt y), BitVec.toNat_xor]
theorem wand (x y : BitVec 64) : bits .and .u64 (wn x) (wn y) = wn (x &&& y) := by
  unfold wn
  rw [u64_and_nat _ _ (wlt x) (wlt y), BitVec.toNat_and]
theorem wshl (x : BitVec 64) (k : Nat) : IntKind.u64.wrap (wn x * 2 ^ k) = wn (x <<< k) := by
  unfold wn
  rw [IntKind.wrap_u64, BitVec.toNat_shiftLeft, Nat.shiftLeft_eq, Int.natCast_emod, Int.natCast_mul, Int.natCast_pow]
  rfl
theorem wshr (x : BitVec 64) (k : Nat) : wn x / 2 ^ k = wn (x >>> k) := by
  unfold wn
  rw [BitVec.toNat_ushiftRight, Nat.shiftRight_eq_div_pow, Int.natCast_ediv, Int.natCast_pow]
  rfl

theorem wshl13 (x : BitVec 64) : IntKind.u64.wrap (wn x * (8192 : Int)) = wn (x <<< 13) := wshl x 13

/-- Block g is a row of cells, none of them frozen. -/
def Blk (w : World) (g : Nat) (cs : List Value) (t : TypeId) : Prop := w.heap[g]? = some (.cells cs.toArray t (0, 0))

theorem Blk.lt {w : World} {g : Nat} {cs : List Value} {t : TypeId} (h : Blk w g cs t) : g < w.heap.size := by
  rcases Nat.lt_or_ge g w.heap.size with hl | hl
  · exact hl
  · unfold Blk at h; rw [Array.getElem?_eq_none hl] at h; cases h
theorem Blk.cell {w : World} {g : Nat} {cs : List Value} {t : TypeId} (h : Blk w g cs t) (j : Nat) : w.cell? ⟨g, j, none⟩ = cs[j]? := by
  rw [cell_of_row w g j _ t (0, 0) h]; simp
theorem Blk.frozen {w : World} {g : Nat} {cs : List Value} {t : TypeId} (h : Blk w g cs t) (j : Nat) : w.frozen? ⟨g, j, none⟩ = false := frozen_of_row w g j _ t h
theorem Blk.below {w w' : World} {n g : Nat} {cs : List Value} {t : TypeId} (h : Blk w g cs t) (hb : Below n w w') (hg : g < n) : Blk w' g cs t := by
  unfold Blk at h ⊢
  rw [hb.block g hg]; exact h
theorem Blk.on {w w' : World} {g : Nat} {cs : List Value} {t : TypeId} (h : Blk w g cs t) (hb : Below w.heap.size w w') : Blk w' g cs t := h.below hb h.lt
theorem Blk.new (w : World) (cs : List Value) (t : TypeId) : Blk (w.alloc (.cells cs.toArray t)) w.heap.size cs t := heap_alloc_new w _
theorem Blk.alloc {w : World} {g : Nat} {cs : List Value} {t : TypeId} (h : Blk w g cs t) (o : Obj) : Blk (w.alloc o) g cs t := by
  have hl := h.lt
  unfold Blk at h ⊢
  rw [← h]; exact Below.heap_alloc w o g hl
theorem Blk.set {w : World} {g : Nat} {cs : List Value} {t : TypeId} (h : Blk w g cs t) (j : Nat) (v : Value) : Blk (w.setCell ⟨g, j, none⟩ v) g (cs.set j v) t := by
  have := heap_setCell_same w g j _ t v h
  unfold Blk
  rw [this]
  simp
theorem Blk.setOther {w : World} {g : Nat} {cs : List Value} {t : TypeId} (h : Blk w g cs t) (k j : Nat) (v : Value) (hk : g ≠ k) : Blk (w.setCell ⟨k, j, none⟩ v) g cs t := by
  unfold Blk
  rw [heap_setCell_other w ⟨k, j, none⟩ g v hk]; exact h
theorem Blk.setRow {w : World} {g : Nat} {cs : List Value} {t : TypeId} (h : Blk w g cs t) (ds : List Value) : Blk (w.setRow g ds.toArray) g ds t := setRow_heap w g _ _ t (0, 0) h
theorem below_setRow {n : Nat} {w w' : World} (h : Below n w w') (g : Nat) (cs : Array Value) (hg : n ≤ g) : Below n w (w'.setRow g cs) :=
  ⟨h.os, h.tape, h.output, by rw [setRow_size]; exact h.size, fun k hk => by rw [setRow_other w' g k cs (by omega)]; exact h.block k hk⟩
section
variable {P : Program} {ops : Array Oper} {rest : List Oper} {o : Oper} {a : Act} {w : World} {Q : Exit → Act → World → Prop}

/-- 'box' of a row. -/
theorem wpList_box (hgd : o.guard = none) (t : TypeId) (x : Operand) (ho : o.op = .box t x) (cs : List Value) (hx : a.eval x = .agg cs.toArray)
    (h : wpList P ops Q rest (a.put o.dst (.pointer (some ⟨w.heap.size, 0, none⟩))) (w.alloc (.cells cs.toArray t))) : wpList P ops Q (o :: rest) a w := by
  refine wpList_plain hgd fun K hK => ?_
  unfold Oper.wp execOp
  simp [ho, hx, Instr.box, newVar, Value.cells]
  exact hK _ _ h
theorem wpList_boxAt (hgd : o.guard = none) (t : TypeId) (x : Operand) (ho : o.op = .box t x) (cs : List Value) (hx : a.eval x = .agg cs.toArray) (g : Nat) (hg : w.heap.size = g)
    (h : wpList P ops Q rest (a.put o.dst (.pointer (some ⟨g, 0, none⟩))) (w.alloc (.cells cs.toArray t))) : wpList P ops Q (o :: rest) a w := by
  subst hg
  exact wpList_box hgd t x ho cs hx h
/-- A new variable that is a row. -/
theorem wpList_new (hgd : o.guard = none) (t : TypeId) (ho : o.op = .alloc t) (cs : List Value) (hz : ∀ w, (zeroValue t).run P w = .ok (.agg cs.toArray) w)
    (h : wpList P ops Q rest (a.put o.dst (.pointer (some ⟨w.heap.size, 0, none⟩))) (w.alloc (.cells cs.toArray t))) : wpList P ops Q (o :: rest) a w := by
  refine wpList_plain hgd fun K hK => ?_
  have hK := hK _ _ h
  unfold Oper.wp execOp
  simp [ho, Instr.alloc, hz, newVar, Value.cells]
  exact hK
theorem wpList_newAt (hgd : o.guard = none) (t : TypeId) (ho : o.op = .alloc t) (cs : List Value) (hz : ∀ w, (zeroValue t).run P w = .ok (.agg cs.toArray) w) (g : Nat) (hg : w.heap.size = g)
    (h : wpList P ops Q rest (a.put o.dst (.pointer (some ⟨g, 0, none⟩))) (w.alloc (.cells cs.toArray t))) : wpList P ops Q (o :: rest) a w := by
  subst hg
  exact wpList_new hgd t ho cs hz h
end

theorem run_new {P : Program} {ev : Operand → Value} {o : Oper} (t : TypeId) (ho : o.op = .alloc t) (cs : List Value) (hz : ∀ w, (zeroValue t).run P w = .ok (.agg cs.toArray) w) (w : World) : (execOp ev o).run P w = .ok (.value (.pointer (some ⟨w.heap.size, 0, none⟩))) (w.alloc (.cells cs.toArray t)) := by
  simp [execOp, ho, Instr.alloc, hz, newVar, newRow, Value.cells]

end Go.Proofs.YtmbgeojjklboeaaGreatDoor

set_option linter.unusedVariables false
set_option linter.unusedSimpArgs false
namespace Go.Proofs.YtmbgeojjklboeaaGreatDoor
open Go.RowKit

section
variable {P : Program} {ops : Array Oper} {Q : Exit → Act → World → Prop} {md : Region.Mode} {S : World → Prop} {T : Nat}

/-- In state a the operation o yields v in every world of S; a call may make blocks. -/
def Uni (P : Program) (ops : Array Oper) (S : World → Prop) (o : Oper) (v : Value) (a : Act) : Prop :=
  (Region.wanted o (yielded ops a.tmps) = true ∧ ((∀ w, S w → (execOp a.eval o).run P w = .ok (.value v) w) ∨
    ∃ f args, (∀ w, S w → (execOp a.eval o).run P w = .ok (.enter f args) w) ∧ ∀ w, S w → Calls P f args w (fun e w' => e = .returned v ∧ Below w.heap.size w w'))) ∨
  (Region.wanted o (yielded ops a.tmps) = false ∧ v = undef)

theorem Uni.of_same {o : Oper} {v : Value} {a a' : Act} (hy : Uni P ops S o v a) (he : execOp a'.eval o = execOp a.eval o)
    (hw : Region.wanted o (yielded ops a'.tmps) = Region.wanted o (yielded ops a.tmps)) : Uni P ops S o v a' := by
  unfold Uni at *
  rw [he, hw]
  exact hy

/-- One operation: of one value everywhere, or a new variable. -/
def opR (P : Program) (ops : Array Oper) (S : World → Prop) (i : Nat) (K : Act → (World → Prop) → Prop) (a : Act) (C : World → Prop) : Prop :=
  ∃ o, ops[i]? = some o ∧ ((∃ v, Uni P ops S o v a ∧ K (a.put o.dst v) C) ∨
    (o.guard = none ∧ ∃ t zs, o.op = .alloc t ∧ (∀ w, (zeroValue t).run P w = .ok (.agg (List.toArray zs)) w) ∧
      ∀ g, (∃ w, C w ∧ w.heap.size = g) → K (a.put o.dst (.pointer (some ⟨g, 0, none⟩))) (fun w => C w ∧ Blk w g zs t)))

/-- Have the first T come up? -/
def full (T : Nat) (listed : Array Bool) : Bool := (List.range T).all fun i => listed.getD i true

def wpAnyR (P : Program) (md : Region.Mode) (ops : Array Oper) (Q : Exit → Act → World → Prop) (S : World → Prop) (T : Nat) : Nat → Array Bool → Act → (World → Prop) → Prop
  | 0, listed, a, C => full T listed = true ∧ ∀ w, C w → wpAny P md ops Q 0 listed a w
  | n + 1, listed, a, C => if full T listed = true then ∀ w, C w → wpAny P md ops Q (n + 1) listed a w
      else Region.ready md ops listed ≠ [] ∧ ∀ i ∈ Region.ready md ops listed, opR P ops S i (fun a' C' => wpAnyR P md ops Q S T n (listed.setIfInBounds i true) a' C') a C

theorem opR_mono {i : Nat} {K K' : Act → (World → Prop) → Prop} (hK : ∀ a C, K a C → K' a C) {a : Act} {C : World → Prop} (h : opR P ops S i K a C) : opR P ops S i K' a C := by
  obtain ⟨o, ho, ⟨v, hv, h⟩ | ⟨hg, t, zs, ht, hz, h⟩⟩ := h
  · exact ⟨o, ho, .inl ⟨v, hv, hK _ _ h⟩⟩
  · exact ⟨o, ho, .inr ⟨hg, t, zs, ht, hz, fun g hg => hK _ _ (h g hg)⟩⟩

def Stable (C : World → Prop) : Prop := ∀ w w', C w → Below w.heap.size w w' → C w'

theorem Stable.blk {C : World → Prop} (h : Stable C) (g : Nat) (zs : List Value) (t : TypeId) : Stable (fun w => C w ∧ Blk w g zs t) :=
  fun w w' hc hb => ⟨h w w' hc.1 hb, hc.2.on hb⟩

theorem wpAny_of_R : ∀ (n : Nat) (listed : Array Bool) (a : Act) (C : World → Prop), Stable C → (∀ w, C w → S w) → wpAnyR P md ops Q S T n listed a C → ∀ w, C w → wpAny P md ops Q n listed a w
  | 0, _, _, _, _, _, h, w, hw => h.2 w hw
  | n + 1, listed, a, C, hC, hS, h, w, hw => by
    unfold wpAnyR at h
    split at h
    · exact h w hw
    · refine ⟨fun h0 => absurd h0 h.1, fun i hi => ?_⟩
      obtain ⟨o, ho, ⟨v, hv, hk⟩ | ⟨hg, t, zs, ht, hz, hk⟩⟩ := h.2 i hi
      · unfold wpOp
        simp only [ho]
        rcases hv with ⟨hwa, hv | ⟨f, args, hv, hc⟩⟩ | ⟨hwa, rfl⟩
        · simp only [hwa, if_true, Oper.wp, hv w (hS w hw), Oper.upon]
          exact .inl (wpAny_of_R n _ _ C hC hS hk w hw)
        · simp only [hwa, if_true, Oper.wp, hv w (hS w hw), Oper.upon]
          refine .inl ((hc w (hS w hw)).mono fun e w' ⟨he, hb⟩ => ?_)
          subst he
          exact wpAny_of_R n _ _ C hC hS hk w' (hC w w' hw hb)
        · simp only [hwa, Bool.false_eq_true, if_false]
          exact wpAny_of_R n _ _ C hC hS hk w hw
      · unfold wpOp
        have hwa : Region.wanted o (yielded ops a.tmps) = true := by simp [Region.wanted, hg]
        simp only [ho, hwa, if_true, Oper.wp, run_new t ht zs hz w, Oper.upon]
        refine .inl (wpAny_of_R n _ _ _ (hC.blk w.heap.size zs t) (fun w h => hS w h.1) (hk _ ⟨w, hw, rfl⟩) _ ⟨hC w _ hw ?_, Blk.new w zs t⟩)
        exact (Below.refl _ _).alloc (Nat.le_refl _) _

/-- One operation oj, apart from oi. -/
theorem opR_put {j : Nat} {oi oj : Oper} {v : Value} (hj : ops[j]? = some oj) (hap : oi.apart ops oj = true)
    (hsi : ∀ cs b, oi.op ≠ .select cs b) (hsj : ∀ cs b, oj.op ≠ .select cs b) {K : Act → (World → Prop) → Prop} {a : Act} {C : World → Prop}
    (hy : Uni P ops S oi v a) (h : opR P ops S j K (a.put oi.dst v) C) :
    opR P ops S j (fun a' C' => Uni P ops S oi v a' ∧ K (a'.put oi.dst v) C') a C := by
  obtain ⟨h1, h2, h3⟩ := Oper.apart_spec hap
  have keep : ∀ u, Uni P ops S oi v (a.put oj.dst u) := fun u => hy.of_same (execOp_put oi hsi a oj.dst u h3) (wanted_put oi a oj.dst u h3)
  obtain ⟨o, ho, h⟩ := h
  obtain rfl : oj = o := Option.some.inj (hj.symm.trans ho)
  refine ⟨oj, hj, ?_⟩
  rcases h with ⟨u, hu, hk⟩ | ⟨hg, t, zs, ht, hz, hk⟩
  · refine .inl ⟨u, hu.of_same (execOp_put oj hsj a oi.dst v h1).symm (wanted_put oj a oi.dst v h1).symm, keep u, ?_⟩
    rw [← Act.put_comm a v u h2]; exact hk
  · refine .inr ⟨hg, t, zs, ht, hz, fun g hgw => ⟨keep _, ?_⟩⟩
    rw [← Act.put_comm a v _ h2]; exact hk g hgw

theorem full_set {listed : Array Bool} {i : Nat} (h : full T listed = true) : full T (listed.setIfInBounds i true) = true := by
  simp only [full, List.all_eq_true, List.mem_range] at *
  intro j hj
  by_cases hij : i = j
  · subst hij
    rcases Nat.lt_or_ge i listed.size with hl | hl
    · simp [hl]
    · simp [hl]
  · rw [getD_set_ne true hij]; exact h j hj

/-- Does number k wait for number i? -/
def waits (md : Region.Mode) (ops : Array Oper) (k i : Nat) : Bool := match ops[k]? with
  | some o => o.after.any fun e => Region.binds md e && e.on == i
  | none => false
/-- Where i is the last of the first T to come up, none of the others can come ahead of it. -/
def lastOk (md : Region.Mode) (ops : Array Oper) (T i : Nat) : Bool :=
  (List.range T).any (fun k => k != i && waits md ops k i) ||
    (List.range ops.size).all fun j => decide (j < T) || waits md ops j i || (List.range j).any fun k => decide (T ≤ k) && waits md ops j k

def Closed (md : Region.Mode) (ops : Array Oper) (listed : Array Bool) : Prop :=
  ∀ j o, ops[j]? = some o → listed.getD j false = true → ∀ e ∈ o.after, Region.binds md e = true → listed.getD e.on false = true

theorem waits_spec {k i : Nat} (h : waits md ops k i = true) : ∃ o, ops[k]? = some o ∧ ∃ e ∈ o.after, Region.binds md e = true ∧ e.on = i := by
  unfold waits at h
  split at h
  · rename_i o ho
    obtain ⟨e, he, hb⟩ := Array.any_eq_true'.1 h
    simp only [Bool.and_eq_true, beq_iff_eq] at hb
    exact ⟨o, ho, e, he, hb⟩
  · cases h

theorem getD_conv {l : Array Bool} {k : Nat} (hk : k < l.size) (h : l.getD k true = true) : l.getD k false = true := by
  simpa [hk] using h
theorem getD_no {l : Array Bool} {k : Nat} (h : l.getD k true = false) : ¬ l.getD k false = true := by
  rcases Nat.lt_or_ge k l.size with hl | hl
  · simp [hl] at h ⊢; exact h
  · simp [hl] at h

theorem Closed.set {l : Array Bool} {i : Nat} (h : Closed md ops l) (hi : i ∈ Region.ready md ops l) : Closed md ops (l.setIfInBounds i true) := by
  intro j o hj hl e he hb
  obtain ⟨hun, oi, hoi, hall⟩ := mem_ready.1 hi
  by_cases hij : i = j
  · subst hij
    obtain rfl : oi = o := Option.some.inj (hoi.symm.trans hj)
    exact getD_set_true (hall e he hb)
  · rw [getD_set_ne false hij] at hl
    exact getD_set_true (h j o hj hl e he hb)

theorem last_one {l : Array Bool} {i : Nat} (hc : Closed md ops l) (hsz : l.size = ops.size) (hT : T ≤ ops.size) (hok : lastOk md ops T i = true) (hr : i ∈ Region.ready md ops l) (hfl : full T (l.setIfInBounds i true) = true) :
    ∀ j ∈ Region.ready md ops l, j = i := by
  have hun := (mem_ready.1 hr).1
  have hno := getD_no hun
  have hall : ∀ k, k < T → k ≠ i → l.getD k false = true := fun k hk hki => by
    simp only [full, List.all_eq_true, List.mem_range] at hfl
    have := hfl k hk
    rw [getD_set_ne true (Ne.symm hki)] at this
    exact getD_conv (by omega) this
  unfold lastOk at hok
  rw [Bool.or_eq_true] at hok
  rcases hok with hok | hok
  · obtain ⟨k, hk, hkw⟩ := List.any_eq_true.1 hok
    simp only [Bool.and_eq_true, bne_iff_ne, List.mem_range] at hkw hk
    obtain ⟨o, ho, e, he, hb, hon⟩ := waits_spec hkw.2
    exact absurd (hon ▸ hc k o ho (hall k hk hkw.1) e he hb) hno
  · have tail : ∀ n j, j < n → T ≤ j → ∀ o, ops[j]? = some o → (∀ e ∈ o.after, Region.binds md e = true → l.getD e.on false = true) → False := by
      intro n
      induction n with
      | zero => intro j hj; omega
      | succ n ih =>
        intro j hj hTj o ho hal
        have hlt : j < ops.size := (Array.getElem?_eq_some_iff.1 ho).1
        have := List.all_eq_true.1 hok j (List.mem_range.2 hlt)
        simp only [Bool.or_eq_true, decide_eq_true_eq] at this
        rcases this with (h | h) | h
        · omega
        · obtain ⟨o', ho', e, he, hb, hon⟩ := waits_spec h
          obtain rfl : o = o' := Option.some.inj (ho.symm.trans ho')
          exact hno (hon ▸ hal e he hb)
        · obtain ⟨k, hk, hkw⟩ := List.any_eq_true.1 h
          simp only [Bool.and_eq_true, decide_eq_true_eq, List.mem_range] at hkw hk
          obtain ⟨o', ho', e, he, hb, hon⟩ := waits_spec hkw.2
          obtain rfl : o = o' := Option.some.inj (ho.symm.trans ho')
          have hkl := hon ▸ hal e he hb
          obtain ⟨ok, hok'⟩ : ∃ ok, ops[k]? = some ok := ⟨ops[k]'(by omega), by simp [show k < ops.size by omega]⟩
          exact ih k (by omega) hkw.1 ok hok' (hc k ok hok' hkl)
    intro j hj
    obtain ⟨hjun, oj, hoj, hja⟩ := mem_ready.1 hj
    by_cases hji : j = i
    · exact hji
    · exfalso
      rcases Nat.lt_or_ge j T with hjT | hjT
      · exact getD_no hjun (hall j hjT hji)
      · exact tail (j + 1) j (by omega) hjT oj hoj hja

theorem not_full {l : Array Bool} {i : Nat} (hi : i < T) (hr : i ∈ Region.ready md ops l) : full T l = false := by
  cases h : full T l with
  | false => rfl
  | true =>
    simp only [full, List.all_eq_true, List.mem_range] at h
    have h1 := h i hi
    rw [(mem_ready.1 hr).1] at h1
    cases h1

/-- An operation of one value everywhere may be taken first. -/
theorem wpAnyR_first {i : Nat} {oi : Oper} {v : Value} (hi : ops[i]? = some oi) (hsel : ∀ (j : Nat) (o : Oper) cs b, ops[j]? = some o → o.op ≠ .select cs b)
    (hiT : i < T) (hT : T ≤ ops.size) (hok : lastOk md ops T i = true) :
    ∀ (fuel : Nat) (listed : Array Bool) (a : Act) (C : World → Prop),
      (∀ j oj, ops[j]? = some oj → j ≠ i → listed.getD j true = false → (∀ e ∈ oj.after, Region.binds md e = true → e.on ≠ i) → oi.apart ops oj = true) →
      i ∈ Region.ready md ops listed → Closed md ops listed → listed.size = ops.size →
      Uni P ops S oi v a →
      wpAnyR P md ops Q S T fuel (listed.setIfInBounds i true) (a.put oi.dst v) C → wpAnyR P md ops Q S T (fuel + 1) listed a C := by
  intro fuel
  induction fuel with
  | zero =>
    intro listed a C _ hr hcl hsz hy H
    have hone := last_one hcl hsz hT hok hr H.1
    have hf := not_full hiT hr
    unfold wpAnyR
    rw [if_neg (by rw [hf]; simp)]
    refine ⟨fun h => (by rw [h] at hr; cases hr), fun j hj => ?_⟩
    obtain rfl : j = i := hone j hj
    exact ⟨oi, hi, .inl ⟨v, hy, H⟩⟩
  | succ fuel ih =>
    intro listed a C hfree hr hcl hsz hy H
    have hf := not_full hiT hr
    unfold wpAnyR
    rw [if_neg (by rw [hf]; simp)]
    refine ⟨fun h => (by rw [h] at hr; cases hr), fun j hj => ?_⟩
    by_cases hji : j = i
    · subst hji; exact ⟨oi, hi, .inl ⟨v, hy, H⟩⟩
    · by_cases hfl : full T (listed.setIfInBounds i true) = true
      · exact absurd (last_one hcl hsz hT hok hr hfl j hj) hji
      · unfold wpAnyR at H
        rw [if_neg hfl] at H
        have h1 := H.2 j (ready_mono hj hji)
        obtain ⟨hjun, oj, hoj, hall⟩ := mem_ready.1 hj
        have hnot : ∀ e ∈ oj.after, Region.binds md e = true → e.on ≠ i := fun e he hb heq => by
          exact getD_no (mem_ready.1 hr).1 (heq ▸ hall e he hb)
        have h2 := opR_put hoj (hfree j oj hoj hji hjun hnot) (fun cs b => hsel i oi cs b hi) (fun cs b => hsel j oj cs b hoj) hy h1
        have hfree' : ∀ k ok, ops[k]? = some ok → k ≠ i → (listed.setIfInBounds j true).getD k true = false →
            (∀ e ∈ ok.after, Region.binds md e = true → e.on ≠ i) → oi.apart ops ok = true := fun k ok hk hki hun hno => by
          refine hfree k ok hk hki ?_ hno
          by_cases hjk : j = k
          · subst hjk; exact hjun
          · rw [getD_set_ne true hjk] at hun; exact hun
        have hr' := ready_mono hr (Ne.symm hji)
        refine opR_mono (fun a' C' h3 => ih (listed.setIfInBounds j true) a' C' hfree' hr' (hcl.set hj) (by simpa using hsz) h3.1 ?_) h2
        rw [Array.setIfInBounds_comm _ _ hji]
        exact h3.2

/-- The first operations, of one value each, in the text's order. -/
def wpLex (P : Program) (ops : Array Oper) (S : World → Prop) (K : Act → Prop) : List Oper → Act → Prop
  | [], a => K a
  | o :: rest, a => ∃ v, Uni P ops S o v a ∧ wpLex P ops S K rest (a.put o.dst v)

/-- May the operations from number k on, n of them, be taken in the text's order? -/
def lexOk (md : Region.Mode) (ops : Array Oper) (T : Nat) : Nat → Nat → Array Bool → Bool
  | 0, _, _ => true
  | n + 1, k, listed => (Region.ready md ops listed).contains k && Region.free md ops listed k && lastOk md ops T k && decide (k < T) && lexOk md ops T n (k + 1) (listed.setIfInBounds k true)

def firstN : Nat → Nat → Array Bool → Array Bool
  | 0, _, listed => listed
  | n + 1, k, listed => firstN n (k + 1) (listed.setIfInBounds k true)

theorem wpAnyR_lex (hs : Region.noSelect ops = true) (hT : T ≤ ops.size) (C : World → Prop) (F : Nat) : ∀ (l : List Oper) (k : Nat) (listed : Array Bool) (a : Act), (∀ j, j < l.length → l[j]? = ops[k + j]?) →
    lexOk md ops T l.length k listed = true → Closed md ops listed → listed.size = ops.size →
    wpLex P ops S (fun a' => wpAnyR P md ops Q S T F (firstN l.length k listed) a' C) l a → wpAnyR P md ops Q S T (F + l.length) listed a C
  | [], _, _, _, _, _, _, _, h => h
  | o :: l, k, listed, a, hl, hB, hcl, hsz, ⟨v, hv, h⟩ => by
    have h0 : ops[k]? = some o := by simpa using (hl 0 (by simp)).symm
    simp only [List.length_cons, lexOk, Bool.and_eq_true, decide_eq_true_eq] at hB
    obtain ⟨⟨⟨⟨hr, hf⟩, hok⟩, hkT⟩, hB'⟩ := hB
    have hr' : k ∈ Region.ready md ops listed := by simpa using hr
    exact wpAnyR_first h0 (Region.noSelect_spec hs) hkT hT hok (F + l.length) listed a C (Region.free_spec h0 hf) hr' hcl hsz hv
      (wpAnyR_lex hs hT C F l (k + 1) _ _ (fun j hj => by have := hl (j + 1) (by simpa using hj); simpa [Nat.add_assoc, Nat.add_comm 1 j] using this) hB' (hcl.set hr') (by simpa using hsz) h)

theorem closed_none (n : Nat) : Closed md ops (Array.replicate n false) := fun j o _ h => by
  rcases Nat.lt_or_ge j n with hl | hl
  · simp [hl] at h
  · simp [hl] at h
end
end Go.Proofs.YtmbgeojjklboeaaGreatDoor
