import Derived.Test.YtiefgmgjlhjjhaaDoorHa
import Derived.Laws.StructEq
import Derived.ChangeKeysEq
set_option linter.unusedVariables false
set_option linter.unusedSimpArgs false
namespace Go.Proofs.YtiefgmgjlhjjhaaDoor
open Go.RowKit

/-- A key as a value. -/
def kv (K : List UInt8) : Value := .agg (K.map byt).toArray
def u32v (n : Nat) : Value := .int .u32 (n : Int)
section
variable {w : World} {q o : Nat} {cs a m b : List Value} {t : TypeId}
theorem Blk.range (hb : Blk w q cs t) (hc : cs = a ++ (m ++ b)) (ho : a.length = o) : w.rangeAt q o m := fun j v hj => by
  have hl := (List.getElem?_eq_some_iff.1 hj).1
  rw [hb.cell, hc, List.getElem?_append_right (by omega), ho, Nat.add_sub_cancel_left, List.getElem?_append_left hl]
  exact hj
theorem Blk.ldA (hb : Blk w q cs t) {ty : TypeId} {d : TypeDesc} (hu : Tryd.prog.underlying ty = some d) (hd : d.isRow = true) (hi : (Tryd.prog.info? ty).map (·.size) = some m.length) (hc : cs = a ++ (m ++ b)) (ho : a.length = o) : (Instr.loadAt ty (.pointer (some ⟨q, o, none⟩))).run Tryd.prog w = .ok (.agg m.toArray) w :=
  run_loadAt_mid w q o ty m d (hb.range hc ho) hu hd hi
theorem Blk.stA (hb : Blk w q cs t) {ty : TypeId} {vs : List Value} (hi : (Tryd.prog.info? ty).map (·.size) = some vs.length) (h1 : vs.toArray.all (·.oneCell') = true) (hc : cs = a ++ (m ++ b)) (ho : a.length = o) (hm : m.length = vs.length) : ∃ w', (Instr.storeAt ty (.pointer (some ⟨q, o, none⟩)) (.agg vs.toArray)).run Tryd.prog w = .ok () w' ∧ Blk w' q (a ++ (vs ++ b)) t ∧ Fx (fun k => k = q) w w' := by
  have hl : o + vs.length ≤ cs.length := by rw [hc, List.length_append, List.length_append]; omega
  refine ⟨_, run_storeAt_mid w q o ty vs.toArray (fun j hj => ⟨?_, hb.frozen _⟩) (by rw [List.size_toArray]; exact hi) h1, ?_, Fx.setCells (S := fun k => k = q) q rfl _ _ _⟩
  · rw [List.size_toArray] at hj
    rw [hb.cell, List.getElem?_eq_getElem (by omega)]; rfl
  · have := Blk.setCells vs o w cs hb hl
    have e : cs.take o ++ vs ++ cs.drop (o + vs.length) = a ++ (vs ++ b) := by
      rw [hc, ← ho, List.take_left, ← hm, ← List.drop_drop, List.drop_left, List.drop_left, List.append_assoc]
    rw [e] at this
    exact this
theorem Blk.st1 (hb : Blk w q cs t) {x : Value} (hc : cs = a ++ ([x] ++ b)) (ho : a.length = o) (v : Value) : Blk (w.setCell ⟨q, o, none⟩ v) q (a ++ ([v] ++ b)) t := by
  have := hb.set o v
  rw [hc] at this
  rw [List.set_append_right _ _ (by omega), ho, Nat.sub_self] at this
  exact this
theorem Blk.at1 (hb : Blk w q cs t) {x : Value} (hc : cs = a ++ ([x] ++ b)) (ho : a.length = o) : w.cell? ⟨q, o, none⟩ = some x := by
  rw [hb.cell, hc, List.getElem?_append_right (by omega), ho, Nat.sub_self]; rfl
theorem Blk.stB (hb : Blk w q cs t) {x : Value} (hc : cs = a ++ ([x] ++ b)) (ho : a.length = o) (v : Value) (hv : ∃ ao n c, v = .slice ao n c) : ∃ w', (Instr.storeAt 24 (.pointer (some ⟨q, o, none⟩)) v).run Tryd.prog w = .ok () w' ∧ Blk w' q (a ++ ([v] ++ b)) t ∧ Fx (fun k => k = q) w w' := by
  obtain ⟨ao, n, c, rfl⟩ := hv
  have h := hb.at1 hc ho
  have hf := hb.frozen o
  refine ⟨w.setCell ⟨q, o, none⟩ (.slice ao n c), ?_, hb.st1 hc ho _, Fx.setCell (S := fun k => k = q) _ _ _ _ rfl⟩
  go_simp
theorem Blk.hasA (hb : Blk w q cs t) {K : List UInt8} (hc : cs = a ++ (K.map byt ++ b)) (ho : a.length = o) (c : Nat) (hk : K.length ≤ c) : Has w (.slice (some ⟨q, o, none⟩) K.length c) K :=
  .inr ⟨⟨q, o, none⟩, c, rfl, hk, fun i u hu => by
    rw [Addr.add_mid]
    exact hb.range hc ho i (byt u) (by rw [List.getElem?_map, hu]; rfl)⟩
end
theorem box_any (t : TypeId) (cs : List Value) (w : World) : ∃ w1 q, (Instr.box t (.agg cs.toArray)).run Tryd.prog w = .ok (.pointer (some ⟨q, 0, none⟩)) w1 ∧ Blk w1 q cs t ∧ Below w.heap.size w w1 ∧ q = w.heap.size :=
  ⟨_, _, run_boxR t _ w _ rfl, Blk.new _ _ _, below_new _ _, rfl⟩
theorem newB {t : TypeId} {cs : List Value} (hz : ∀ w, (zeroValue t).run Tryd.prog w = .ok (.agg cs.toArray) w) (w : World) : ∃ w1 q, (Instr.alloc t true (.tuple #[])).run Tryd.prog w = .ok (.pointer (some ⟨q, 0, none⟩)) w1 ∧ Blk w1 q cs t ∧ Below w.heap.size w w1 ∧ q = w.heap.size :=
  ⟨_, _, run_newR t _ hz w _ rfl, Blk.new _ _ _, below_new _ _, rfl⟩
theorem byts_one' (K : List UInt8) : (K.map byt).toArray.all (·.oneCell') = true := all_oneCell_toArray (fun v hv => by
  obtain ⟨u, _, rfl⟩ := List.mem_map.1 hv; rfl)
end Go.Proofs.YtiefgmgjlhjjhaaDoor
