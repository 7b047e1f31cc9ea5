import Derived.Test.YtablmkijlpoaaaaDoorRun
import Derived.Lib.AppendZeros
namespace Go.Proofs.YtablmkijlpoaaaaDoor
open Go.RowKit

theorem zero_bytes (n : Nat) : (Builtin.zeroCells (Value.int .u8 0).cells n).toList = (List.replicate n (0 : UInt8)).map byt := by
  apply List.ext_getElem
  · simp [Builtin.zeroCells, Value.cells]
  · intro i h1 h2
    simp [Builtin.zeroCells, Value.cells, Nat.mod_one]
    rfl

/-- 'append(s, make([]byte, n)...)', s the call's own bytes. -/
theorem run_zeros (w : World) (base : Nat) (v : Value) (bs : List UInt8) (hown : Own w base v bs) (n : Nat) (hb : bs.length + n ≤ 1000000) (hbase : base ≤ w.heap.size) (ty : TypeId) :
    ∃ v' w', (Builtin.append_ #[27, 3] ty #[v, .int .i64 (n : Int)]).run Tryd.prog w = .ok v' w' ∧ Own w' base v' (bs ++ List.replicate n 0) ∧ w.grownBy w' v.ownBlock := by
  obtain ⟨i0, hi, hz0, hz1, hz2⟩ := info_parts Tryd.info5
  have hw : IntKind.i64.wrap (n : Int) = n := by rw [IntKind.wrap_i64]; omega
  have hneg : ¬ ((n : Int) < 0) := by omega
  have h48i : ¬ (281474976710656 < (n : Int) * (i0.bytes : Int)) := by rw [hz2]; omega
  have hge := grownCap_ge w
  have hown' := hown
  rcases Nat.eq_zero_or_pos n with rfl | hpos
  · have w0 : IntKind.i64.wrap 0 = 0 := by rw [IntKind.wrap_i64]; omega
    refine ⟨v, w, ?_, by simpa using hown, grown_refl _ _⟩
    obtain ⟨_, ⟨rfl, hz⟩ | ⟨g, cp, cur, rfl, hg, hh2, hn, hc, hs, ht⟩⟩ := hown'
    · simp [Builtin.append_, run_underlying Tryd.underlying27, run_underlying Tryd.underlying3, sizeOf, typeInfo, hi, asInt, asIntOf, w0]
    · simp [Builtin.append_, run_underlying Tryd.underlying27, run_underlying Tryd.underlying3, sizeOf, typeInfo, hi, asInt, asIntOf, w0, hn, storeCells]
  · have hn0 : n ≠ 0 := by omega
    have hns : ¬ (n * i0.size = 0) := by rw [hz1]; omega
    have made : ∀ old, Own (w.drew.alloc (.cells ((bs.map byt).toArray ++ ((List.replicate n 0).map byt).toArray ++ Builtin.zeroCells (Value.int .u8 0).cells (grownCap w (bs.length + n) old 5 - (bs.length + n))) 5)) base (.slice (some ⟨w.heap.size, 0, none⟩) (bs.length + n) (grownCap w (bs.length + n) old 5)) (bs ++ List.replicate n 0) := by
      intro old
      have hg := hge (bs.length + n) old 5
      refine ⟨by simp, .inr ⟨w.heap.size, _, _, by rw [List.length_append, List.length_replicate], hbase, heap_alloc_new w.drew _, by rw [List.length_append, List.length_replicate]; exact hg, grownCap_le_maxLen w _ old 5 (by unfold maxLen; omega), ?_, ?_⟩⟩
      · simp only [Array.size_append, List.size_toArray, List.length_map, size_zeroCells, Value.cells]
        simp
        omega
      · simp only [Array.toList_append, Nat.mul_one, List.append_assoc]
        rw [← List.append_assoc, ← List.map_append, ← List.length_map (f := byt)]
        exact List.take_left
    have grew : ∀ (o : Obj) (row : Option Nat), w.grownBy (w.drew.alloc o) row := fun o row => ⟨rfl, rfl, rfl, by simp, fun k hk _ => Below.heap_alloc w.drew o k hk⟩
    have hzb : Builtin.zeroCells (Value.int .u8 0).cells n = ((List.replicate n (0 : UInt8)).map byt).toArray := by
      rw [← zero_bytes n]
    obtain ⟨h1, ⟨rfl, hz⟩ | ⟨g, cp, cur, rfl, hg, hh2, hn, hc, hs, ht⟩⟩ := hown'
    · have hbs : bs = [] := List.eq_nil_of_length_eq_zero hz
      subst hbs
      have hr := Lib.run_append_nil_zeros (P := Tryd.prog) w 27 3 ty 5 i0 (.int .u8 0) .i64 .i64 Tryd.underlying27 Tryd.underlying3 hi hz0 n hpos (by rw [hz1]; decide) (by omega) (by rw [hz2]; omega)
      have m := made 0
      rw [hzb] at hr
      simp only [List.map_nil, List.length_nil, Nat.zero_add, List.nil_append] at m
      exact ⟨_, _, hr, by simpa using m, grew _ _⟩
    · by_cases hroom : bs.length + n ≤ cp
      · have hst := run_storeCells_at Tryd.prog g (bs.length * 1) 5 ((List.replicate n (0 : UInt8)).map byt) 0 cur w hh2 (by rw [hs, List.length_map, List.length_replicate]; omega) (byt_one _)
        simp only [Nat.add_zero] at hst
        simp only [Nat.mul_one] at hst hs ht
        rw [← zero_bytes n] at hst
        have hzl := zero_bytes n
        generalize hZ : Builtin.zeroCells (Value.int .u8 0).cells n = Z at hst hzl
        have hst' : (storeCells ((⟨g, 0, none⟩ : Addr).add bs.length) Z.toList).run Tryd.prog w = .ok () (w.setRow g (cur.toList.take bs.length ++ Z.toList ++ cur.toList.drop (bs.length + Z.toList.length)).toArray) := by
          rw [add_plain]; exact hst
        have hr : (Builtin.append_ #[27, 3] ty #[.slice (some ⟨g, 0, none⟩) bs.length cp, .int .i64 (n : Int)]).run Tryd.prog w = .ok (.slice (some ⟨g, 0, none⟩) (bs.length + n) cp) (w.setRow g (cur.toList.take bs.length ++ Z.toList ++ cur.toList.drop (bs.length + Z.toList.length)).toArray) := by
          have h48n : ¬ (281474976710656 < (n : Int)) := by omega
          simp [Builtin.append_, run_underlying Tryd.underlying27, run_underlying Tryd.underlying3, sizeOf, typeInfo, zeroValue, hi, hz0, hz1, hz2, asInt, asIntOf, hw, hneg, hn0, h48n, hroom, hZ, hst', -List.append_assoc]
        have hlz : Z.toList.length = n := by rw [hzl, List.length_map, List.length_replicate]
        refine ⟨_, _, hr, ⟨by simp, .inr ⟨g, cp, _, by rw [List.length_append, List.length_replicate], hg, setRow_heap w g cur _ 5 _ hh2, by rw [List.length_append, List.length_replicate]; exact hroom, hc, ?_, ?_⟩⟩, ⟨rfl, rfl, rfl, by simp, fun k _ hk => setRow_other w g k _ (fun e => hk (by rw [e]; rfl))⟩⟩
        · simp only [List.size_toArray, List.length_append, List.length_take, List.length_drop, Array.length_toList, hlz]
          omega
        · rw [ht, hzl, List.length_append, Nat.mul_one, List.length_replicate, List.map_append]
          rw [show bs.length + n = (bs.map byt ++ (List.replicate n (0 : UInt8)).map byt).length by simp]
          exact List.take_left
      · have holds : ∀ j u, (bs.map byt)[j]? = some u → w.cell? ((⟨g, 0, none⟩ : Addr).add j) = some u := World.ownsRow.cells hown (g := g) rfl
        have hcap := nextcap_le (bs.length + n) cp (by omega)
        have hfo := run_firstCells_some (P := Tryd.prog) w.drew 1 bs.length ⟨g, 0, none⟩ bs.length cp (bs.map byt) (by simp) (by simpa using holds)
        have m := made cp
        rw [← hzb] at m
        generalize hZ : Builtin.zeroCells (Value.int .u8 0).cells n = Z at m
        have h48n : ¬ (281474976710656 < (n : Int)) := by omega
        have h63' : ¬ (9223372036854775807 < ((bs.length : Int) + (n : Int))) := by omega
        have h48' : ¬ (281474976710656 < Builtin.nextslicecap (bs.length + n) cp) := by omega
        refine ⟨_, _, ?_, m, grew _ _⟩
        simp [Builtin.append_, run_underlying Tryd.underlying27, run_underlying Tryd.underlying3, sizeOf, typeInfo, zeroValue, hi, hz0, hz1, hz2, asInt, asIntOf, hw, hneg, hn0, h48n, h63', h48', hroom, hZ, Question.forced, hfo, newRow, grownCap]

/-- 'append(s, make([]byte, n)...)' in a walk. -/
theorem wpList_zeros {w : World} {ops : Array Oper} {rest : List Oper} {o : Oper} {a : Act} {Q : Exit → Act → World → Prop} (hgd : o.guard = none) (s x : Operand)
    (ho : o.op = .call { callee := .builtin .append, args := #[s, x], argTypes := #[27, 3] }) (base : Nat) (v : Value) (bs : List UInt8) (hs : a.eval s = v) (hown : Own w base v bs)
    (n : Nat) (hx : a.eval x = .int .i64 (n : Int)) (hb : bs.length + n ≤ 1000000) (hbase : base ≤ w.heap.size)
    (h : ∀ v' w', Own w' base v' (bs ++ List.replicate n 0) → w.grownBy w' v.ownBlock → wpList Tryd.prog ops Q rest (a.put o.dst v') w') : wpList Tryd.prog ops Q (o :: rest) a w := by
  obtain ⟨v', w', hrun, r1, r2⟩ := run_zeros w base v bs hown n hb hbase o.type
  refine wpList_plain hgd fun K hK => ?_
  unfold Oper.wp
  simp [execOp, ho, resolve, invoke, builtin, hs, hx, hrun, Result.andThen]
  exact hK _ _ (h v' w' r1 r2)
end Go.Proofs.YtablmkijlpoaaaaDoor
