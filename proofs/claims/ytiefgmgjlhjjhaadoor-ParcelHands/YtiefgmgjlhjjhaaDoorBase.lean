import Derived.Test.YtiefgmgjlhjjhaaDoorRows
import Derived.WalkKit
import Derived.WalkSpells
import Derived.WalkLawsBesides
import Derived.Laws.BytesArg
import Derived.Laws.AppendOwnNone
import Derived.Lib.SliceRun
namespace Go.Proofs.YtiefgmgjlhjjhaaDoor
open Go.RowKit

theorem hide {p : Prop} (h : p) : Hid p := h

/-- A byte as a value. -/
def byt (b : UInt8) : Value := .int .u8 (b.toNat : Int)

/-- The slice value v holds the bytes bs in the world w. -/
def Has (w : World) (v : Value) (bs : List UInt8) : Prop :=
  (v = .slice none 0 0 ∧ bs = []) ∨ ∃ ad cap, v = .slice (some ad) bs.length cap ∧ bs.length ≤ cap ∧ ∀ i u, bs[i]? = some u → w.cell? (ad.add i) = some (byt u)

theorem Has.nil (w : World) : Has w (.slice none 0 0) [] := .inl ⟨rfl, rfl⟩

theorem Has.cellsEq {w w' : World} {v : Value} {bs : List UInt8} (h : Has w v bs) (hb : ∀ a u, w.cell? a = some u → w'.cell? a = some u) : Has w' v bs := by
  rcases h with h | ⟨ad, cap, h1, h2, h3⟩
  · exact .inl h
  · exact .inr ⟨ad, cap, h1, h2, fun i u hu => hb _ _ (h3 i u hu)⟩

theorem cell_lt {w : World} {a : Addr} {u : Value} (h : w.cell? a = some u) : a.block < w.heap.size := by
  unfold World.cell? at h
  rcases Nat.lt_or_ge a.block w.heap.size with hl | hl
  · exact hl
  · rw [Array.getElem?_eq_none hl] at h; simp at h

theorem Has.below {w w' : World} {v : Value} {bs : List UInt8} (h : Has w v bs) (hb : Below w.heap.size w w') : Has w' v bs :=
  h.cellsEq fun _ _ hu => (hb.cell (cell_lt hu)).trans hu

theorem str_map (bs : List UInt8) : strOfNums (bs.map fun b => (b.toNat : Int)) = ⟨bs.toArray⟩ := by
  unfold strOfNums
  simp only [List.map_map]
  congr 2
  conv => rhs; rw [← List.map_id bs]
  apply List.map_congr_left
  intro x _
  simp

theorem Has.convert {w : World} {v : Value} {bs : List UInt8} (h : Has w v bs) : (convert 24 9 v).run Tryd.prog w = .ok (.string ⟨bs.toArray⟩) w := by
  rcases h with ⟨rfl, rfl⟩ | ⟨ad, cap, rfl, h2, h3⟩
  · exact run_convert_bytes_nil w 24 5 Tryd.underlying24 Tryd.underlying5 0 0 9 Tryd.underlying9
  · have hl : (loadCells ad bs.length).run Tryd.prog w = .ok ((bs.map fun b => (b.toNat : Int)).map (Value.int .u8)).toArray w := by
      have := run_loadCells_list (P := Tryd.prog) w ad ((bs.map fun b => (b.toNat : Int)).map (Value.int .u8)) (fun j v hj => by
        simp only [List.getElem?_map, Option.map_map, Option.map_eq_some_iff] at hj
        obtain ⟨u, hu, rfl⟩ := hj
        exact h3 j u hu)
      simpa using this
    rw [run_convert_bytes_string w 24 9 5 _ bs.length cap Tryd.underlying24 Tryd.underlying5 Tryd.underlying9, run_bytesToString w _ bs.length cap _ hl, foldl_push_bytes]
    have := str_map bs
    unfold strOfNums at this
    simp only [ByteArray.empty, ByteArray.emptyWithCapacity]
    rw [← this]
    simp
    rfl


/-- The slice value v, made by the call itself (from block 'base' on), owns the bytes bs. -/
def Own (w : World) (base : Nat) (v : Value) (bs : List UInt8) : Prop := w.ownsRow base 5 1 v bs.length (bs.map byt)

theorem add_plain (g k : Nat) : (⟨g, 0, none⟩ : Addr).add k = ⟨g, k, none⟩ := by
  unfold Addr.add; split <;> simp_all

theorem Own.has {w : World} {base : Nat} {v : Value} {bs : List UInt8} (h : Own w base v bs) : Has w v bs := by
  obtain ⟨_, h | ⟨g, cap, cur, hv, hg, hh, hn, hc, hs, ht⟩⟩ := h
  · exact .inl ⟨h.1, List.eq_nil_of_length_eq_zero h.2⟩
  · refine .inr ⟨⟨g, 0, none⟩, cap, hv, hn, fun i u hu => ?_⟩
    rw [add_plain]
    have hi : i < bs.length := by
      rcases Nat.lt_or_ge i bs.length with h | h
      · exact h
      · rw [List.getElem?_eq_none h] at hu; cases hu
    have e : cur[i]? = some (byt u) := by
      have : (bs.map byt)[i]? = some (byt u) := by simp [hu]
      rw [← ht, Nat.mul_one, List.getElem?_take_of_lt hi, Array.getElem?_toList] at this
      exact this
    simp [World.cell?, hh, e]

theorem Own.blocks {w w' : World} {base : Nat} {v : Value} {bs : List UInt8} (h : Own w base v bs) (hb : ∀ k, k < w.heap.size → w'.heap[k]? = w.heap[k]?) : Own w' base v bs := by
  obtain ⟨h1, h | ⟨g, cap, cur, hv, hg, hh, r⟩⟩ := h
  · exact ⟨h1, .inl h⟩
  · refine ⟨h1, .inr ⟨g, cap, cur, hv, hg, ?_, r⟩⟩
    rw [hb g ?_, hh]
    rcases Nat.lt_or_ge g w.heap.size with hl | hl
    · exact hl
    · rw [Array.getElem?_eq_none hl] at hh; cases hh

theorem Own.below {w w' : World} {base : Nat} {v : Value} {bs : List UInt8} (h : Own w base v bs) (hb : Below w.heap.size w w') : Own w' base v bs := h.blocks hb.block

theorem Own.ownBlock {w : World} {base : Nat} {v : Value} {bs : List UInt8} (h : Own w base v bs) : ∀ k, v.ownBlock = some k → base ≤ k := by
  intro k hk
  obtain ⟨_, ⟨rfl, _⟩ | ⟨g, cap, cur, rfl, hg, _⟩⟩ := h
  · cases hk
  · simp [Value.ownBlock] at hk; omega

theorem Tryd.info5 : (Tryd.prog.info? 5).map (fun i => (i.zero, i.size, i.bytes)) = some (some (.int .u8 0), 1, 1) := by kernel_rfl

theorem byt_one (bs : List UInt8) : ∀ u ∈ bs.map byt, u.oneCell' = true := by
  intro u hu
  obtain ⟨b, _, rfl⟩ := List.mem_map.1 hu
  rfl

theorem grown_refl (w : World) (row : Option Nat) : w.grownBy w row := ⟨rfl, rfl, rfl, Nat.le_refl _, fun _ _ _ => rfl⟩

theorem growBy_le (need : Nat) : ∀ rounds c, c < need → Builtin.growBy need rounds c ≤ need + (need + 768) / 4
  | 0, c, h => by unfold Builtin.growBy; omega
  | rounds + 1, c, h => by
    unfold Builtin.growBy
    rw [if_neg (by omega)]
    by_cases hc : c + (c + 768) / 4 < need
    · exact growBy_le need rounds _ hc
    · cases rounds with
      | zero => unfold Builtin.growBy; omega
      | succ r => unfold Builtin.growBy; rw [if_pos (by omega)]; omega

theorem nextcap_le (need old : Nat) (h : old < need) : Builtin.nextslicecap need old ≤ need + (need + 768) / 4 := by
  unfold Builtin.nextslicecap
  split
  · omega
  · split
    · omega
    · exact growBy_le need 4 old h

/-- 'append' of bytes to bytes of the call's own. -/
theorem run_app (w : World) (base : Nat) (v : Value) (bs : List UInt8) (hown : Own w base v bs) (ad : Addr) (cap : Nat) (ys : List UInt8) (hh : ∀ i u, ys[i]? = some u → w.cell? (ad.add i) = some (byt u))
    (hb : bs.length + ys.length ≤ 150000000000000) (hbase : base ≤ w.heap.size) (ty : TypeId) :
    ∃ v' w', (Builtin.append_ #[24, 24] ty #[v, .slice (some ad) ys.length cap]).run Tryd.prog w = .ok v' w' ∧ Own w' base v' (bs ++ ys) ∧ w.grownBy w' v.ownBlock := by
  obtain ⟨i0, hi, hz0, hz1, hz2⟩ := info_parts Tryd.info5
  have hnews : ∀ j u, (ys.map byt)[j]? = some u → w.cell? (ad.add j) = some u := by
    intro j u hj
    simp only [List.getElem?_map, Option.map_eq_some_iff] at hj
    obtain ⟨b, hb, rfl⟩ := hj
    exact hh j b hb
  by_cases hsmall : bs.length + ys.length ≤ 140737488355328
  · obtain ⟨v', w', r1, r2, r3, _⟩ := run_append_own (P := Tryd.prog) w base 24 ty 5 i0 (.int .u8 0) 1 1 Tryd.underlying24 hi hz0 hz1 hz2 rfl (by decide) v _ _ hown ad ys.length cap (ys.map byt) (by simp) hnews (byt_one ys) (by unfold maxLen; omega) (by omega) hbase
    exact ⟨v', w', r1, by simpa [Own] using r2, r3⟩
  · -- too long for the kit's law: what is there is moved, or there is room
    have hge := grownCap_ge w
    have made : ∀ old, Own (w.drew.alloc (.cells ((bs.map byt).toArray ++ (ys.map byt).toArray ++ Builtin.zeroCells (Value.int .u8 0).cells (grownCap w (bs.length + ys.length) old 5 - (bs.length + ys.length))) 5)) base (.slice (some ⟨w.heap.size, 0, none⟩) (bs.length + ys.length) (grownCap w (bs.length + ys.length) old 5)) (bs ++ ys) := by
      intro old
      have hg := hge (bs.length + ys.length) old 5
      refine ⟨by simp, .inr ⟨w.heap.size, _, _, by rw [List.length_append], hbase, heap_alloc_new w.drew _, by rw [List.length_append]; exact hg, grownCap_le_maxLen w _ old 5 (by unfold maxLen; omega), ?_, ?_⟩⟩
      · simp only [Array.size_append, List.size_toArray, List.length_map, size_zeroCells, Value.cells]
        simp
        omega
      · simp only [Array.toList_append, Nat.mul_one, List.append_assoc]
        rw [← List.append_assoc, ← List.map_append, ← List.length_map (f := byt)]
        exact List.take_left
    have grew : ∀ (o : Obj) (row : Option Nat), w.grownBy (w.drew.alloc o) row := fun o row => ⟨rfl, rfl, rfl, by simp, fun k hk _ => Below.heap_alloc w.drew o k hk⟩
    have hown' := hown
    obtain ⟨h1, ⟨rfl, hz⟩ | ⟨g, cp, cur, rfl, hg, hh2, hn, hc, hs, ht⟩⟩ := hown'
    · have hbs : bs = [] := List.eq_nil_of_length_eq_zero hz
      subst hbs
      have hr := run_append_nil (P := Tryd.prog) w 24 ty 5 i0 (.int .u8 0) Tryd.underlying24 hi hz0 ad ys.length cap (ys.map byt) (by simp [hz1]) hnews (by simp at hsmall; omega) (by simp at hb; omega) (by rw [hz2]; simp at hb; omega)
      have m := made 0
      simp only [List.map_nil, List.length_nil, Nat.zero_add, List.nil_append, Array.empty_append] at m
      exact ⟨_, _, hr, m, grew _ _⟩
    · by_cases hroom : bs.length + ys.length ≤ cp
      · obtain ⟨w', q1, q2, q3⟩ := run_append_fits (P := Tryd.prog) w base 24 ty 5 i0 1 Tryd.underlying24 hi hz1 g bs.length cp (bs.map byt) hown ad ys.length cap (ys.map byt) (by simp) hnews (byt_one ys) hroom
        exact ⟨_, w', q1, by simpa [Own] using q2, q3⟩
      · have holds : ∀ j u, (bs.map byt)[j]? = some u → w.cell? ((⟨g, 0, none⟩ : Addr).add j) = some u := World.ownsRow.cells hown (g := g) rfl
        have hcap := nextcap_le (bs.length + ys.length) cp (by omega)
        have hr := run_append_grow (P := Tryd.prog) w 24 ty 5 i0 (.int .u8 0) Tryd.underlying24 hi hz0 ⟨g, 0, none⟩ bs.length cp (bs.map byt) (by simp [hz1]) holds ad ys.length cap (ys.map byt) (by simp [hz1]) hnews (by omega) (by omega) (by rw [hz2]; omega)
        exact ⟨_, _, hr, made cp, grew _ _⟩

/-- 'append(s, x...)', s the call's own bytes, x any bytes. -/
theorem wpList_app {w : World} {ops : Array Oper} {rest : List Oper} {o : Oper} {a : Act} {Q : Exit → Act → World → Prop} (hgd : o.guard = none) (s x : Operand)
    (ho : o.op = .call { callee := .builtin .append, args := #[s, x], argTypes := #[24, 24] }) (base : Nat) (v : Value) (bs : List UInt8) (hs : a.eval s = v) (hown : Own w base v bs)
    (sv : Value) (ys : List UInt8) (hx : a.eval x = sv) (hh : Has w sv ys) (hb : bs.length + ys.length ≤ 150000000000000) (hbase : base ≤ w.heap.size)
    (h : ∀ v' w', Own w' base v' (bs ++ ys) → w.grownBy w' v.ownBlock → wpList Tryd.prog ops Q rest (a.put o.dst v') w') : wpList Tryd.prog ops Q (o :: rest) a w := by
  obtain ⟨i0, hi, hz0, hz1, hz2⟩ := info_parts Tryd.info5
  rcases hh with ⟨rfl, rfl⟩ | ⟨ad, cap, rfl, h2, h3⟩
  · refine wpList_append_own_none hgd s x 24 ho base 5 i0 1 Tryd.underlying24 hi v _ _ hs hown hx ?_
    have := h v w (by simpa using hown) (grown_refl _ _)
    exact this
  · obtain ⟨v', w', hrun, r1, r2⟩ := run_app w base v bs hown ad cap ys h3 hb hbase o.type
    refine wpList_plain hgd fun K hK => ?_
    unfold Oper.wp
    simp [execOp, ho, resolve, invoke, builtin, hs, hx, hrun, Result.andThen]
    exact hK _ _ (h v' w' r1 r2)

/-- The slice value v (of type [][]byte) holds the parts, each of which holds its bytes. -/
def Parts (w : World) (v : Value) (ps : List (Value × List UInt8)) : Prop :=
  (v = .slice none 0 0 ∧ ps = []) ∨ ∃ ad cap, v = .slice (some ad) ps.length cap ∧ ps.length ≤ cap ∧ ∀ i p, ps[i]? = some p → w.cell? (ad.add i) = some p.1 ∧ Has w p.1 p.2

end Go.Proofs.YtiefgmgjlhjjhaaDoor
