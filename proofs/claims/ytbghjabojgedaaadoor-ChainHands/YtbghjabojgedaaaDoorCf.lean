import Derived.Test.YtbghjabojgedaaaDoorCe
import Derived.Great.BuildSlice
import Derived.Laws.MakeOwn
import Derived.Laws.StructEq
import Derived.Great.CaseRows
set_option linter.unusedVariables false
set_option linter.unusedSimpArgs false
namespace Go.Proofs.YtbghjabojgedaaaDoor
open Go.RowKit

theorem eqK (L : List UInt8) (hl : L.length = 32) (W : World) : (Op.equalIn 10000 23 (.agg (L.map byt).toArray) (.agg (L.map byt).toArray)).run Tryd.prog W = .ok true W := by
  obtain ⟨i0, hi, _⟩ := info_parts Tryd.info5
  rw [run_equalIn_array W 9999 (L.map byt).toArray (L.map byt).toArray u23 hi]
  have hc : Tryd.prog.cellsOf 5 = 1 := by kernel_rfl
  rw [hc]
  exact eqItems_same L 9998 W _ (fun i hi => by rw [hl]; exact List.mem_range.1 hi)
theorem guardK : Tryd.prog.eqGuardType Tryd.prog.depth 23 = false := by kernel_rfl
theorem keq (L : List UInt8) (hl : L.length = 32) (W : World) (x y : Operand) : (do eqGuard .eql 23 x y (kv L) (kv L); binOp .eql 23 (kv L) (kv L) : Sem Value).run Tryd.prog W = .ok (.bool true) W := by
  have he := fun W => eqK L hl W
  have hg := guardK
  unfold kv
  go_simp
theorem kne (L : List UInt8) (hl : L.length = 32) (W : World) (x y : Operand) : (do eqGuard .neq 23 x y (kv L) (kv L); binOp .neq 23 (kv L) (kv L) : Sem Value).run Tryd.prog W = .ok (.bool false) W := by
  have he := fun W => eqK L hl W
  have hg := guardK
  unfold kv
  go_simp
/-- A list of keys, its bytes one behind the other. -/
structure Kr (w : World) (v : Value) (X : List UInt8) (n : Nat) : Prop where
  row : w.ownsRow 0 23 32 v n (X.map byt)
theorem Kr.len {w : World} {v : Value} {X : List UInt8} {n : Nat} (h : Kr w v X n) : X.length = 32 * n := by
  have := h.row.1
  rw [List.length_map] at this
  omega
theorem Kr.sl {w : World} {v : Value} {X : List UInt8} {n : Nat} (h : Kr w v X n) : ∃ ao c, v = .slice ao n c := by
  obtain ⟨_, ⟨rfl, rfl⟩ | ⟨g, cp, cur, rfl, _⟩⟩ := h.row
  · exact ⟨_, _, rfl⟩
  · exact ⟨_, _, rfl⟩
theorem Kr.fx {S : Nat → Prop} {w w' : World} {v : Value} {X : List UInt8} {n : Nat} (h : Kr w v X n) (hf : Fx S w w') (ho : ∀ k, v.ownBlock = some k → ¬ S k) : Kr w' v X n := by
  obtain ⟨hx, h1 | ⟨g, cp, cur, rfl, hg, hh2, hr⟩⟩ := h.row
  · exact ⟨hx, .inl h1⟩
  · refine ⟨hx, .inr ⟨g, cp, cur, rfl, hg, ?_, hr⟩⟩
    rw [hf.block g (by
      rcases Nat.lt_or_ge g w.heap.size with hl | hl
      · exact hl
      · rw [Array.getElem?_eq_none hl] at hh2; cases hh2) (ho g rfl)]
    exact hh2
theorem Kr.on {w w' : World} {v : Value} {X : List UInt8} {n : Nat} (h : Kr w v X n) (hb : Below w.heap.size w w') : Kr w' v X n := h.fx (S := fun _ => False) (Fx.of_below hb) (fun _ _ h => h)
theorem Kr.lt {w : World} {v : Value} {X : List UInt8} {n : Nat} (h : Kr w v X n) {k : Nat} (hk : v.ownBlock = some k) : k < w.heap.size := by
  obtain ⟨hx, ⟨rfl, _⟩ | ⟨g, cp, cur, rfl, hg, hh2, hr⟩⟩ := h.row
  · cases hk
  · simp only [Value.ownBlock, Option.some.injEq] at hk
    subst hk
    rcases Nat.lt_or_ge g w.heap.size with hl | hl
    · exact hl
    · rw [Array.getElem?_eq_none hl] at hh2; cases hh2
theorem Kr.nil (w : World) : Kr w (.slice none 0 0) [] 0 := ⟨⟨rfl, .inl ⟨rfl, rfl⟩⟩⟩
theorem Kr.of {w : World} {g n : Nat} {X : List UInt8} (h : Blk w g (X.map byt) 23) (hl : X.length = 32 * n) (hn : n ≤ 1000) : Kr w (.slice (some ⟨g, 0, none⟩) n n) X n :=
  ⟨by rw [List.length_map, hl, Nat.mul_comm], .inr ⟨g, n, _, rfl, Nat.zero_le _, h, Nat.le_refl _, by unfold maxLen; omega, by rw [List.size_toArray, List.length_map, hl, Nat.mul_comm], by rw [List.take_of_length_le]; rw [List.length_map, hl, Nat.mul_comm]; exact Nat.le_refl _⟩⟩
theorem len24 (ao : Option Addr) (n c : Nat) (W : World) (ty : TypeId) : (Builtin.len_ #[24] ty #[.slice ao n c]).run Tryd.prog W = .ok (.int .i64 (n : Int)) W := by go_simp
theorem Kr.lenv {w : World} {v : Value} {X : List UInt8} {n : Nat} (h : Kr w v X n) (W : World) (ty : TypeId) : (Builtin.len_ #[24] ty #[v]).run Tryd.prog W = .ok (.int .i64 (n : Int)) W := by
  obtain ⟨ao, c, rfl⟩ := h.sl
  exact len24 _ _ _ _ _
theorem idxL (g n c m : Nat) (h : m < n) (W : World) : (Instr.indexAt 24 (.slice (some ⟨g, 0, none⟩) n c) (.int .i64 (m : Int))).run Tryd.prog W = .ok (.pointer (some ⟨g, 32 * m, none⟩)) W := by
  have hm : (m : Int) < (n : Int) := by omega
  go_simp
  try simp
  try rw [add_plain]
  try simp [Nat.mul_comm]
/-- A key of a list. -/
def atK (X : List UInt8) (i : Nat) : List UInt8 := (X.drop (32 * i)).take 32
theorem atK_len (X : List UInt8) (n i : Nat) (h : X.length = 32 * n) (hi : i < n) : (atK X i).length = 32 := by
  unfold atK
  rw [List.length_take, List.length_drop]; omega
theorem Kr.item {w : World} {v : Value} {X : List UInt8} {n : Nat} (h : Kr w v X n) {i : Nat} (hi : i < n) : ∃ g, (∀ W, (Instr.indexAt 24 v (.int .i64 (i : Int))).run Tryd.prog W = .ok (.pointer (some ⟨g, 32 * i, none⟩)) W) ∧ ∀ W, Below w.heap.size w W → (Instr.loadAt 23 (.pointer (some ⟨g, 32 * i, none⟩))).run Tryd.prog W = .ok (kv (atK X i)) W := by
  have hl := h.len
  obtain ⟨g, hv⟩ : ∃ g, ∃ cp, v = .slice (some ⟨g, 0, none⟩) n cp := by
    obtain ⟨_, ⟨_, rfl⟩ | ⟨g, cp, cur, hv, _⟩⟩ := h.row
    · omega
    · exact ⟨g, cp, hv⟩
  obtain ⟨cp, rfl⟩ := hv
  refine ⟨g, fun W => idxL g n cp i hi W, fun W hW => run_loadAt_mid W g (32 * i) 23 _ _ (fun j u hj => ?_) u23 rfl (i23 (atK_len X n i hl hi))⟩
  obtain ⟨_, ⟨hv, _⟩ | ⟨g', cp', cur, hv, _, hh, hn, _, hs, ht⟩⟩ := (h.on hW).row
  · cases hv
  · simp only [Value.slice.injEq, Option.some.injEq, Addr.mk.injEq, and_true, true_and] at hv
    obtain ⟨rfl, rfl⟩ := hv
    have hj32 : j < 32 := by
      have := (List.getElem?_eq_some_iff.1 hj).1
      rw [List.length_map, atK_len X n i hl hi] at this
      exact this
    rw [cell_of_row _ _ (32 * i + j) _ 23 (0, 0) hh]
    have e : (X.map byt)[32 * i + j]? = some u := by
      rw [← hj]
      unfold atK
      rw [List.map_take, List.map_drop, List.getElem?_take, if_pos hj32, List.getElem?_drop]
    rw [← ht, List.getElem?_take] at e
    split at e
    · rw [← Array.getElem?_toList]; exact e
    · cases e
def skE (va vb : Value) (t : Nat) : List (Nat × Value) := [(0, va), (1, vb), (5, .int .i64 (t : Int))]
def SkI (w : World) (n t : Nat) (W : World) : Prop := t ≤ n ∧ Below w.heap.size w W
set_option maxRecDepth 100000 in
set_option maxHeartbeats 1000000 in
theorem same_any (va vb : Value) (X : List UInt8) (n : Nat) (hn : n ≤ 1000) (w : World) (ha : Kr w va X n) (hb : Kr w vb X n) : Calls Tryd.prog 7 #[va, vb] w fun e w' => e = .returned (.bool true) ∧ Below w.heap.size w w' := by
  refine calls_of_args [va, vb] Tryd.func7 rfl 26 Tryd.ntmps7 (by show 2 ≤ 26; decide) ?_
  refine EW.seq ?_
  refine EW.region ?_
  first | refine WL.assign rfl rfl rfl ?_
  refine WL.done ?_
  refine EW.on ?_
  refine EW.seq ?_
  refine EW.seq ?_
  refine EW.region ?_
  first | refine WL.move rfl rfl rfl ?_
  refine WL.len rfl rfl rfl (ha.lenv _ _) ?_
  first | refine WL.move rfl rfl rfl ?_
  refine WL.len rfl rfl rfl (hb.lenv _ _) ?_
  first | refine WL.bin rfl rfl rfl rfl (int_ne_f rfl _ _ _) ?_ | refine WL.bin rfl rfl rfl rfl (int_ne_t ‹_› _ _ _) ?_ | refine WL.bin rfl rfl rfl rfl (int_ne_f ‹_› _ _ _) ?_ | refine WL.bin rfl rfl rfl rfl (int_ne_t (by decide) _ _ _) ?_ | refine WL.bin rfl rfl rfl rfl (int_ne_d _ _ _ _ _) ?_
  refine WL.done ?_
  refine EW.on ?_
  refine EW.cond_f rfl ?_
  refine EW.skip ?_
  refine EW.on ?_
  refine EW.seq ?_
  refine EW.seq ?_
  refine EW.region ?_
  first | refine WL.assign rfl rfl rfl ?_
  refine WL.done ?_
  refine EW.on ?_
  refine EW.block ?_
  refine EW.loop (skE va vb) (SkI w n) (fun t => n - t) 0 [0, 1, 5] rfl ⟨Nat.zero_le _, Below.refl _ _⟩ ?_
  rintro t wi ⟨htl, be⟩
  show EW _ _ _ _ [(0, va), (1, vb), (5, .int .i64 (t : Int))] _
  refine EW.seq ?_
  refine EW.seq ?_
  refine EW.region ?_
  first | refine WL.move rfl rfl rfl ?_
  first | refine WL.move rfl rfl rfl ?_
  refine WL.len rfl rfl rfl (ha.lenv _ _) ?_
  first | refine WL.bin rfl rfl rfl rfl (int_lt_t ‹_› _ _ _) ?_ | refine WL.bin rfl rfl rfl rfl (int_lt_f ‹_› _ _ _) ?_ | refine WL.bin rfl rfl rfl rfl (int_lt_d _ _ _ _ _) ?_
  refine WL.done ?_
  refine EW.on ?_
  refine EW.cond_d rfl (fun h14 => ?_) (fun h14 => ?_)
  · refine EW.skip ?_
    refine EW.on ?_
    refine EW.seq ?_
    refine EW.block ?_
    refine EW.seq ?_
    have hlt : t < n := by omega
    obtain ⟨ga, ia, la⟩ := ha.item hlt
    obtain ⟨gb, ib, lb⟩ := hb.item hlt
    refine EW.ordB [(0, 0, 0), (1, 0, 0), (2, 0, 0), (3, 0, 1), (4, 0, 0), (5, 0, 0), (6, 0, 0), (7, 0, 1), (8, 0, 0)] (by kernel_rfl) rfl (by kernel_rfl) ?_
    simp only [opsZ, List.getD_cons_zero, List.getD_cons_succ]
    first | refine ZE.move rfl rfl rfl rfl sz0 ?_
    first | refine ZE.move rfl rfl rfl rfl sz0 ?_
    refine ZE.index rfl rfl rfl rfl rfl sz0 (fun W => ia W) ?_
    refine ZE.load rfl rfl rfl rfl sz1 (fun W hW => la W (bt be (sb_of hW))) ?_
    first | refine ZE.move rfl rfl rfl rfl sz0 ?_
    first | refine ZE.move rfl rfl rfl rfl sz0 ?_
    refine ZE.index rfl rfl rfl rfl rfl sz0 (fun W => ib W) ?_
    refine ZE.load rfl rfl rfl rfl sz1 (fun W hW => lb W (bt be (sb_of hW))) ?_
    refine ZE.bin rfl rfl rfl rfl rfl sz0 (fun W => kne _ (atK_len X n t ha.len (by omega)) W _ _) ?_
    rintro W hW
    refine EW.on ?_
    refine EW.cond_f rfl ?_
    refine EW.skip ?_
    refine pn_block ?_
    refine EW.on ?_
    refine EW.region ?_
    first | refine WL.move rfl rfl rfl ?_
    refine WL.bin rfl rfl rfl rfl (int_add (c := ((t + 1 : Nat) : Int)) (by rw [IntKind.wrap_i64]; omega) _ _ _) ?_
    first | refine WL.assign rfl rfl rfl ?_
    refine WL.done ?_
    refine EW.again (E := skE va vb) (R := SkI w n) (m := fun t => n - t) (x := t) (t + 1) [0, 1, 5] rfl ⟨by omega, bt be hW⟩ (by show n - (t + 1) < n - t; omega)
  · refine EW.exit ?_
    refine px_then ?_
    refine px_then ?_
    refine px_block ?_
    refine EW.on ?_
    refine EW.seq ?_
    refine EW.region ?_
    first | refine WL.assign rfl rfl rfl ?_
    refine WL.done ?_
    refine EW.on ?_
    refine EW.ret ?_
    exact EW.returns Tryd.results7 rfl ⟨rfl, be⟩
end Go.Proofs.YtbghjabojgedaaaDoor
