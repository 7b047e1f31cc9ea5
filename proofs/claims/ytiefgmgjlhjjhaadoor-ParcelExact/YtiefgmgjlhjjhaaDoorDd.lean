import Derived.Test.YtiefgmgjlhjjhaaDoorDc
set_option linter.unusedVariables false
set_option linter.unusedSimpArgs false
namespace Go.Proofs.YtiefgmgjlhjjhaaDoor
open Go.RowKit

attribute [local irreducible] sm sumOf cnt chk partB ptB lgL
theorem fi_n {L : List Rp} {a : List UInt8} {id : Nat} (h : L.findIdx? (isK a id) = none) : fiI L a id = -1 := by unfold fiI; rw [h]
theorem fi_s {L : List Rp} {a : List UInt8} {id i : Nat} (h : L.findIdx? (isK a id) = some i) : fiI L a id = (i : Int) := by unfold fiI; rw [h]
set_option maxRecDepth 100000 in
set_option maxHeartbeats 4000000 in
theorem rtake_nm (q : Nat) (v : Value) (most : Nat) (L : List Rp) (hL : L.length ≤ 1000000) (a : List UInt8) (id : Nat) (w : World) (ht : Rt w q v most L) (hnm : nmB a = false) : Calls Tryd.prog 32 #[.pointer (some ⟨q, 0, none⟩), sv a, u32v id] w fun e w' => e = .returned (.tuple #[.slice none 0 0, .int .i64 212]) ∧ w' = w := by
  refine calls_of_args [.pointer (some ⟨q, 0, none⟩), sv a, u32v id] Tryd.func32 rfl 40 Tryd.ntmps32 (by show 3 ≤ 40; decide) ?_
  refine EW.seq ?_
  refine EW.region ?_
  first | refine WL.assign rfl rfl rfl ?_
  first | refine WL.assign rfl rfl rfl ?_
  refine WL.done ?_
  refine EW.on ?_
  refine EW.seq ?_
  refine EW.seq ?_
  refine EW.region ?_
  first | refine WL.move rfl rfl rfl ?_
  refine WL.call [sv a] enter49 rfl rfl rfl (rname_any a _) ?_
  rintro _ wN ⟨rfl, hwN⟩
  refine ⟨_, rfl, ?_⟩
  rw [hwN, hnm]
  first | refine WL.un rfl rfl rfl (not_t _ _) ?_
  refine WL.done ?_
  refine EW.on ?_
  refine EW.cond_t rfl ?_
  refine EW.seq ?_
  refine EW.region ?_
  first | refine WL.assign rfl rfl rfl ?_
  first | refine WL.assign rfl rfl rfl ?_
  refine WL.done ?_
  refine EW.on ?_
  refine EW.ret ?_
  refine pr_then ?_
  exact EW.returns2 Tryd.results32 rfl rfl ⟨rfl, rfl⟩
set_option maxRecDepth 100000 in
set_option maxHeartbeats 4000000 in
theorem rtake_no (q : Nat) (v : Value) (most : Nat) (L : List Rp) (hL : L.length ≤ 1000000) (a : List UInt8) (id : Nat) (w : World) (ht : Rt w q v most L) (hnm : nmB a = true) (hf : L.findIdx? (isK a id) = none) : Calls Tryd.prog 32 #[.pointer (some ⟨q, 0, none⟩), sv a, u32v id] w fun e w' => e = .returned (.tuple #[.slice none 0 0, .int .i64 201]) ∧ w' = w := by
  have hfi := fi_n hf
  have hn0 : (-1 : Int) < 0 := by decide
  refine calls_of_args [.pointer (some ⟨q, 0, none⟩), sv a, u32v id] Tryd.func32 rfl 40 Tryd.ntmps32 (by show 3 ≤ 40; decide) ?_
  refine EW.seq ?_
  refine EW.region ?_
  first | refine WL.assign rfl rfl rfl ?_
  first | refine WL.assign rfl rfl rfl ?_
  refine WL.done ?_
  refine EW.on ?_
  refine EW.seq ?_
  refine EW.seq ?_
  refine EW.region ?_
  first | refine WL.move rfl rfl rfl ?_
  refine WL.call [sv a] enter49 rfl rfl rfl (rname_any a _) ?_
  rintro _ wN ⟨rfl, hwN⟩
  refine ⟨_, rfl, ?_⟩
  rw [hwN, hnm]
  first | refine WL.un rfl rfl rfl (not_t _ _) ?_
  refine WL.done ?_
  refine EW.on ?_
  refine EW.cond_f rfl ?_
  refine EW.skip ?_
  refine EW.on ?_
  refine EW.seq ?_
  refine EW.region ?_
  first | refine WL.move rfl rfl rfl ?_
  first | refine WL.move rfl rfl rfl ?_
  first | refine WL.move rfl rfl rfl ?_
  refine WL.call [.pointer (some ⟨q, 0, none⟩), sv a, u32v id] enter51 rfl rfl rfl (rfind_any q v most L hL a id w ht) ?_
  rintro _ wF ⟨rfl, hwF⟩
  refine ⟨_, rfl, ?_⟩
  rw [hwF, hfi]
  first | refine WL.assign rfl rfl rfl ?_
  refine WL.done ?_
  refine EW.on ?_
  refine EW.seq ?_
  refine EW.seq ?_
  refine EW.region ?_
  first | refine WL.move rfl rfl rfl ?_
  first | refine WL.bin rfl rfl rfl rfl (int_lt_t ‹_› _ _ _) ?_ | refine WL.bin rfl rfl rfl rfl (int_lt_f ‹_› _ _ _) ?_ | refine WL.bin rfl rfl rfl rfl (int_lt_d _ _ _ _ _) ?_
  refine WL.done ?_
  refine EW.on ?_
  refine EW.cond_t rfl ?_
  refine EW.seq ?_
  refine EW.region ?_
  first | refine WL.assign rfl rfl rfl ?_
  first | refine WL.assign rfl rfl rfl ?_
  refine WL.done ?_
  refine EW.on ?_
  refine EW.ret ?_
  refine pr_then ?_
  exact EW.returns2 Tryd.results32 rfl rfl ⟨rfl, rfl⟩
set_option maxRecDepth 100000 in
set_option maxHeartbeats 4000000 in
theorem rtake_part (q : Nat) (v : Value) (most : Nat) (L : List Rp) (hL : L.length ≤ 1000000) (a : List UInt8) (id : Nat) (w : World) (ht : Rt w q v most L) (hnm : nmB a = true) (i : Nat) (x : Rp) (hf : L.findIdx? (isK a id) = some i) (hx : L[i]? = some x) (hal : rall x.h = false) : Calls Tryd.prog 32 #[.pointer (some ⟨q, 0, none⟩), sv a, u32v id] w fun e w' => e = .returned (.tuple #[.slice none 0 0, .int .i64 261]) ∧ Below w.heap.size w w' := by
  have hfi := fi_s hf
  have hi : i < L.length := (List.getElem?_eq_some_iff.1 hx).1
  have hxm := List.mem_of_getElem? hx
  have hn0 : ¬ (i : Int) < 0 := by omega
  refine calls_of_args [.pointer (some ⟨q, 0, none⟩), sv a, u32v id] Tryd.func32 rfl 40 Tryd.ntmps32 (by show 3 ≤ 40; decide) ?_
  refine EW.seq ?_
  refine EW.region ?_
  first | refine WL.assign rfl rfl rfl ?_
  first | refine WL.assign rfl rfl rfl ?_
  refine WL.done ?_
  refine EW.on ?_
  refine EW.seq ?_
  refine EW.seq ?_
  refine EW.region ?_
  first | refine WL.move rfl rfl rfl ?_
  refine WL.call [sv a] enter49 rfl rfl rfl (rname_any a _) ?_
  rintro _ wN ⟨rfl, hwN⟩
  refine ⟨_, rfl, ?_⟩
  rw [hwN, hnm]
  first | refine WL.un rfl rfl rfl (not_t _ _) ?_
  refine WL.done ?_
  refine EW.on ?_
  refine EW.cond_f rfl ?_
  refine EW.skip ?_
  refine EW.on ?_
  refine EW.seq ?_
  refine EW.region ?_
  first | refine WL.move rfl rfl rfl ?_
  first | refine WL.move rfl rfl rfl ?_
  first | refine WL.move rfl rfl rfl ?_
  refine WL.call [.pointer (some ⟨q, 0, none⟩), sv a, u32v id] enter51 rfl rfl rfl (rfind_any q v most L hL a id w ht) ?_
  rintro _ wF ⟨rfl, hwF⟩
  refine ⟨_, rfl, ?_⟩
  rw [hwF, hfi]
  first | refine WL.assign rfl rfl rfl ?_
  refine WL.done ?_
  refine EW.on ?_
  refine EW.seq ?_
  refine EW.seq ?_
  refine EW.region ?_
  first | refine WL.move rfl rfl rfl ?_
  first | refine WL.bin rfl rfl rfl rfl (int_lt_t ‹_› _ _ _) ?_ | refine WL.bin rfl rfl rfl rfl (int_lt_f ‹_› _ _ _) ?_ | refine WL.bin rfl rfl rfl rfl (int_lt_d _ _ _ _ _) ?_
  refine WL.done ?_
  refine EW.on ?_
  refine EW.cond_f rfl ?_
  refine EW.skip ?_
  refine EW.on ?_
  refine EW.seq ?_
  refine EW.seq ?_
  refine EW.region ?_
  first | refine WL.move rfl rfl rfl ?_
  first | refine WL.nilc rfl rfl rfl ?_
  refine WL.field rfl rfl rfl (g82_0 _ _) ?_
  refine WL.load rfl rfl rfl (ld80 ht.bl rfl) ?_
  obtain ⟨g, cg, _, xi, xc, xl⟩ := ht.get hx
  first | refine WL.move rfl rfl rfl ?_
  refine WL.index rfl rfl rfl rfl (xi _) ?_
  refine WL.load rfl rfl rfl xl ?_
  refine WL.call [x.val] enter53 rfl rfl rfl (rwhole_any x w (ht.hs x hxm)) ?_
  rintro _ w1 ⟨rfl, l1⟩
  refine ⟨_, rfl, ?_⟩
  rw [hal]
  have T1 := ht.on l1
  first | refine WL.un rfl rfl rfl (not_t _ _) ?_
  refine WL.done ?_
  refine EW.on ?_
  refine EW.cond_t rfl ?_
  refine EW.seq ?_
  refine EW.region ?_
  first | refine WL.assign rfl rfl rfl ?_
  first | refine WL.assign rfl rfl rfl ?_
  refine WL.done ?_
  refine EW.on ?_
  refine EW.ret ?_
  refine pr_then ?_
  exact EW.returns2 Tryd.results32 rfl rfl ⟨rfl, l1⟩
set_option maxRecDepth 100000 in
set_option maxHeartbeats 4000000 in
theorem rtake_ok (q : Nat) (v : Value) (most : Nat) (L : List Rp) (hL : L.length ≤ 1000000) (a : List UInt8) (id : Nat) (w : World) (ht : Rt w q v most L) (hnm : nmB a = true) (i : Nat) (x : Rp) (hf : L.findIdx? (isK a id) = some i) (hx : L[i]? = some x) (hal : rall x.h = true) : Calls Tryd.prog 32 #[.pointer (some ⟨q, 0, none⟩), sv a, u32v id] w fun e w' => ∃ u v', e = .returned (.tuple #[u, .int .i64 0]) ∧ Ob w' w.heap.size u x.t.flatten ∧ Rt w' q v' most (L.take i ++ L.drop (i + 1)) ∧ Fx (fun k => k = q) w w' ∧ (∀ b, v'.ownBlock = some b → w.heap.size ≤ b) := by
  have hfi := fi_s hf
  have hi : i < L.length := (List.getElem?_eq_some_iff.1 hx).1
  have hxm := List.mem_of_getElem? hx
  have hn0 : ¬ (i : Int) < 0 := by omega
  refine calls_of_args [.pointer (some ⟨q, 0, none⟩), sv a, u32v id] Tryd.func32 rfl 40 Tryd.ntmps32 (by show 3 ≤ 40; decide) ?_
  refine EW.seq ?_
  refine EW.region ?_
  first | refine WL.assign rfl rfl rfl ?_
  first | refine WL.assign rfl rfl rfl ?_
  refine WL.done ?_
  refine EW.on ?_
  refine EW.seq ?_
  refine EW.seq ?_
  refine EW.region ?_
  first | refine WL.move rfl rfl rfl ?_
  refine WL.call [sv a] enter49 rfl rfl rfl (rname_any a _) ?_
  rintro _ wN ⟨rfl, hwN⟩
  refine ⟨_, rfl, ?_⟩
  rw [hwN, hnm]
  first | refine WL.un rfl rfl rfl (not_t _ _) ?_
  refine WL.done ?_
  refine EW.on ?_
  refine EW.cond_f rfl ?_
  refine EW.skip ?_
  refine EW.on ?_
  refine EW.seq ?_
  refine EW.region ?_
  first | refine WL.move rfl rfl rfl ?_
  first | refine WL.move rfl rfl rfl ?_
  first | refine WL.move rfl rfl rfl ?_
  refine WL.call [.pointer (some ⟨q, 0, none⟩), sv a, u32v id] enter51 rfl rfl rfl (rfind_any q v most L hL a id w ht) ?_
  rintro _ wF ⟨rfl, hwF⟩
  refine ⟨_, rfl, ?_⟩
  rw [hwF, hfi]
  first | refine WL.assign rfl rfl rfl ?_
  refine WL.done ?_
  refine EW.on ?_
  refine EW.seq ?_
  refine EW.seq ?_
  refine EW.region ?_
  first | refine WL.move rfl rfl rfl ?_
  first | refine WL.bin rfl rfl rfl rfl (int_lt_t ‹_› _ _ _) ?_ | refine WL.bin rfl rfl rfl rfl (int_lt_f ‹_› _ _ _) ?_ | refine WL.bin rfl rfl rfl rfl (int_lt_d _ _ _ _ _) ?_
  refine WL.done ?_
  refine EW.on ?_
  refine EW.cond_f rfl ?_
  refine EW.skip ?_
  refine EW.on ?_
  refine EW.seq ?_
  refine EW.seq ?_
  refine EW.region ?_
  first | refine WL.move rfl rfl rfl ?_
  first | refine WL.nilc rfl rfl rfl ?_
  refine WL.field rfl rfl rfl (g82_0 _ _) ?_
  refine WL.load rfl rfl rfl (ld80 ht.bl rfl) ?_
  obtain ⟨g, cg, _, xi, xc, xl⟩ := ht.get hx
  first | refine WL.move rfl rfl rfl ?_
  refine WL.index rfl rfl rfl rfl (xi _) ?_
  refine WL.load rfl rfl rfl xl ?_
  refine WL.call [x.val] enter53 rfl rfl rfl (rwhole_any x w (ht.hs x hxm)) ?_
  rintro _ w1 ⟨rfl, l1⟩
  refine ⟨_, rfl, ?_⟩
  rw [hal]
  have T1 := ht.on l1
  first | refine WL.un rfl rfl rfl (not_t _ _) ?_
  refine WL.done ?_
  refine EW.on ?_
  refine EW.cond_f rfl ?_
  refine EW.skip ?_
  refine EW.on ?_
  refine EW.seq ?_
  refine EW.region ?_
  first | refine WL.move rfl rfl rfl ?_
  first | refine WL.nilc rfl rfl rfl ?_
  refine WL.field rfl rfl rfl (g82_0 _ _) ?_
  refine WL.load rfl rfl rfl (ld80 T1.bl rfl) ?_
  obtain ⟨g', cg', _, xi', xc', xl'⟩ := T1.get hx
  first | refine WL.move rfl rfl rfl ?_
  refine WL.index rfl rfl rfl rfl (xi' _) ?_
  refine WL.load rfl rfl rfl xl' ?_
  refine WL.call [x.val] enter55 rfl rfl rfl (rtext_any x w1 (T1.hs x hxm)) ?_
  rintro _ w2 ⟨u, rfl, o2, l2⟩
  refine ⟨_, rfl, ?_⟩
  have T2 := T1.on l2
  first | refine WL.assign rfl rfl rfl ?_
  refine WL.done ?_
  refine EW.on ?_
  refine EW.seq ?_
  refine EW.region ?_
  first | refine WL.move rfl rfl rfl ?_
  first | refine WL.move rfl rfl rfl ?_
  refine WL.call [.pointer (some ⟨q, 0, none⟩), .int .i64 (i : Int)] enter56 rfl rfl rfl (rgone_any q v most L hL i hi w2 T2) ?_
  rintro _ w3 ⟨rfl, v3, T3, f3, nb3⟩
  refine ⟨_, rfl, ?_⟩
  refine WL.done ?_
  refine EW.on ?_
  refine EW.seq ?_
  refine EW.region ?_
  first | refine WL.move rfl rfl rfl ?_
  first | refine WL.assign rfl rfl rfl ?_
  first | refine WL.assign rfl rfl rfl ?_
  refine WL.done ?_
  refine EW.on ?_
  refine EW.ret ?_
  exact EW.returns2 Tryd.results32 rfl rfl ⟨u, v3, rfl, (o2.fx f3 (fun k hk e => by have e' : k = q := hk; have := o2.base k e; have := T1.bl.lt; omega)).lower (by have := l1.size; omega), T3, (Fx.of_below (bt l1 l2)).and f3, fun b hb => by have := nb3 b hb; have := (bt l1 l2).size; omega⟩
def rmis (h : List Bool) (n : Nat) : List Nat := (List.range n).filter fun i => !(h.getD i false)
theorem rmis_succ (h : List Bool) (n : Nat) : rmis h (n + 1) = rmis h n ++ (if h.getD n false then [] else [n]) := by
  unfold rmis
  rw [List.range_succ, List.filter_append]
  congr 1
  cases e : h.getD n false <;> simp only [List.filter_cons, List.filter_nil, e] <;> rfl
theorem rmis_len (h : List Bool) (n : Nat) : (rmis h n).length ≤ n := by
  unfold rmis
  exact Nat.le_trans (List.length_filter_le _ _) (by simp)
def miE (q i : Nat) (y : Nat × Value) : List (Nat × Value) := [(0, .pointer (some ⟨q, 0, none⟩)), (8, .int .i64 (i : Int)), (9, y.2), (10, .int .i64 (y.1 : Int))]
structure MiR (x : Rp) (w : World) (y : Nat × Value) (W : World) : Prop where
  le : y.1 ≤ x.n
  oi : Oi W w.heap.size y.2 (nI (rmis x.h y.1))
  be : Below w.heap.size w W
set_option maxRecDepth 100000 in
set_option maxHeartbeats 4000000 in
theorem rmiss_nm (q : Nat) (v : Value) (most : Nat) (L : List Rp) (hL : L.length ≤ 1000000) (a : List UInt8) (id : Nat) (w : World) (ht : Rt w q v most L) (hnm : nmB a = false) : Calls Tryd.prog 33 #[.pointer (some ⟨q, 0, none⟩), sv a, u32v id] w fun e w' => e = .returned (.tuple #[.slice none 0 0, .int .i64 212]) ∧ w' = w := by
  refine calls_of_args [.pointer (some ⟨q, 0, none⟩), sv a, u32v id] Tryd.func33 rfl 49 Tryd.ntmps33 (by show 3 ≤ 49; decide) ?_
  refine EW.seq ?_
  refine EW.region ?_
  first | refine WL.assign rfl rfl rfl ?_
  first | refine WL.assign rfl rfl rfl ?_
  refine WL.done ?_
  refine EW.on ?_
  refine EW.seq ?_
  refine EW.seq ?_
  refine EW.region ?_
  first | refine WL.move rfl rfl rfl ?_
  refine WL.call [sv a] enter49 rfl rfl rfl (rname_any a _) ?_
  rintro _ wN ⟨rfl, hwN⟩
  refine ⟨_, rfl, ?_⟩
  rw [hwN, hnm]
  first | refine WL.un rfl rfl rfl (not_t _ _) ?_
  refine WL.done ?_
  refine EW.on ?_
  refine EW.cond_t rfl ?_
  refine EW.seq ?_
  refine EW.region ?_
  first | refine WL.assign rfl rfl rfl ?_
  first | refine WL.assign rfl rfl rfl ?_
  refine WL.done ?_
  refine EW.on ?_
  refine EW.ret ?_
  refine pr_then ?_
  exact EW.returns2 Tryd.results33 rfl rfl ⟨rfl, rfl⟩
set_option maxRecDepth 100000 in
set_option maxHeartbeats 4000000 in
theorem rmiss_no (q : Nat) (v : Value) (most : Nat) (L : List Rp) (hL : L.length ≤ 1000000) (a : List UInt8) (id : Nat) (w : World) (ht : Rt w q v most L) (hnm : nmB a = true) (hf : L.findIdx? (isK a id) = none) : Calls Tryd.prog 33 #[.pointer (some ⟨q, 0, none⟩), sv a, u32v id] w fun e w' => e = .returned (.tuple #[.slice none 0 0, .int .i64 201]) ∧ w' = w := by
  have hfi := fi_n hf
  have hn0 : (-1 : Int) < 0 := by decide
  refine calls_of_args [.pointer (some ⟨q, 0, none⟩), sv a, u32v id] Tryd.func33 rfl 49 Tryd.ntmps33 (by show 3 ≤ 49; decide) ?_
  refine EW.seq ?_
  refine EW.region ?_
  first | refine WL.assign rfl rfl rfl ?_
  first | refine WL.assign rfl rfl rfl ?_
  refine WL.done ?_
  refine EW.on ?_
  refine EW.seq ?_
  refine EW.seq ?_
  refine EW.region ?_
  first | refine WL.move rfl rfl rfl ?_
  refine WL.call [sv a] enter49 rfl rfl rfl (rname_any a _) ?_
  rintro _ wN ⟨rfl, hwN⟩
  refine ⟨_, rfl, ?_⟩
  rw [hwN, hnm]
  first | refine WL.un rfl rfl rfl (not_t _ _) ?_
  refine WL.done ?_
  refine EW.on ?_
  refine EW.cond_f rfl ?_
  refine EW.skip ?_
  refine EW.on ?_
  refine EW.seq ?_
  refine EW.region ?_
  first | refine WL.move rfl rfl rfl ?_
  first | refine WL.move rfl rfl rfl ?_
  first | refine WL.move rfl rfl rfl ?_
  refine WL.call [.pointer (some ⟨q, 0, none⟩), sv a, u32v id] enter51 rfl rfl rfl (rfind_any q v most L hL a id w ht) ?_
  rintro _ wF ⟨rfl, hwF⟩
  refine ⟨_, rfl, ?_⟩
  rw [hwF, hfi]
  first | refine WL.assign rfl rfl rfl ?_
  refine WL.done ?_
  refine EW.on ?_
  refine EW.seq ?_
  refine EW.seq ?_
  refine EW.region ?_
  first | refine WL.move rfl rfl rfl ?_
  first | refine WL.bin rfl rfl rfl rfl (int_lt_t ‹_› _ _ _) ?_ | refine WL.bin rfl rfl rfl rfl (int_lt_f ‹_› _ _ _) ?_ | refine WL.bin rfl rfl rfl rfl (int_lt_d _ _ _ _ _) ?_
  refine WL.done ?_
  refine EW.on ?_
  refine EW.cond_t rfl ?_
  refine EW.seq ?_
  refine EW.region ?_
  first | refine WL.assign rfl rfl rfl ?_
  first | refine WL.assign rfl rfl rfl ?_
  refine WL.done ?_
  refine EW.on ?_
  refine EW.ret ?_
  refine pr_then ?_
  exact EW.returns2 Tryd.results33 rfl rfl ⟨rfl, rfl⟩
set_option maxRecDepth 100000 in
set_option maxHeartbeats 4000000 in
theorem rmiss_ok (q : Nat) (v : Value) (most : Nat) (L : List Rp) (hL : L.length ≤ 1000000) (a : List UInt8) (id : Nat) (w : World) (ht : Rt w q v most L) (hnm : nmB a = true) (i : Nat) (x : Rp) (hf : L.findIdx? (isK a id) = some i) (hx : L[i]? = some x) : Calls Tryd.prog 33 #[.pointer (some ⟨q, 0, none⟩), sv a, u32v id] w fun e w' => ∃ u, e = .returned (.tuple #[u, .int .i64 0]) ∧ Oi w' w.heap.size u (nI (rmis x.h x.n)) ∧ Below w.heap.size w w' := by
  have hfi := fi_s hf
  have hi : i < L.length := (List.getElem?_eq_some_iff.1 hx).1
  have hxm := List.mem_of_getElem? hx
  have hn0 : ¬ (i : Int) < 0 := by omega
  refine calls_of_args [.pointer (some ⟨q, 0, none⟩), sv a, u32v id] Tryd.func33 rfl 49 Tryd.ntmps33 (by show 3 ≤ 49; decide) ?_
  refine EW.seq ?_
  refine EW.region ?_
  first | refine WL.assign rfl rfl rfl ?_
  first | refine WL.assign rfl rfl rfl ?_
  refine WL.done ?_
  refine EW.on ?_
  refine EW.seq ?_
  refine EW.seq ?_
  refine EW.region ?_
  first | refine WL.move rfl rfl rfl ?_
  refine WL.call [sv a] enter49 rfl rfl rfl (rname_any a _) ?_
  rintro _ wN ⟨rfl, hwN⟩
  refine ⟨_, rfl, ?_⟩
  rw [hwN, hnm]
  first | refine WL.un rfl rfl rfl (not_t _ _) ?_
  refine WL.done ?_
  refine EW.on ?_
  refine EW.cond_f rfl ?_
  refine EW.skip ?_
  refine EW.on ?_
  refine EW.seq ?_
  refine EW.region ?_
  first | refine WL.move rfl rfl rfl ?_
  first | refine WL.move rfl rfl rfl ?_
  first | refine WL.move rfl rfl rfl ?_
  refine WL.call [.pointer (some ⟨q, 0, none⟩), sv a, u32v id] enter51 rfl rfl rfl (rfind_any q v most L hL a id w ht) ?_
  rintro _ wF ⟨rfl, hwF⟩
  refine ⟨_, rfl, ?_⟩
  rw [hwF, hfi]
  first | refine WL.assign rfl rfl rfl ?_
  refine WL.done ?_
  refine EW.on ?_
  refine EW.seq ?_
  refine EW.seq ?_
  refine EW.region ?_
  first | refine WL.move rfl rfl rfl ?_
  first | refine WL.bin rfl rfl rfl rfl (int_lt_t ‹_› _ _ _) ?_ | refine WL.bin rfl rfl rfl rfl (int_lt_f ‹_› _ _ _) ?_ | refine WL.bin rfl rfl rfl rfl (int_lt_d _ _ _ _ _) ?_
  refine WL.done ?_
  refine EW.on ?_
  refine EW.cond_f rfl ?_
  refine EW.skip ?_
  refine EW.on ?_
  refine EW.seq ?_
  refine EW.region ?_
  first | refine WL.assign rfl rfl rfl ?_
  refine WL.done ?_
  refine EW.on ?_
  refine EW.seq ?_
  refine EW.seq ?_
  refine EW.region ?_
  first | refine WL.assign rfl rfl rfl ?_
  refine WL.done ?_
  refine EW.on ?_
  refine EW.block ?_
  refine EW.loop (miE q i) (MiR x w) (fun y => x.n - y.1) (0, .slice none 0 0) [0, 8, 9, 10] rfl ⟨Nat.zero_le _, Oi.nil _ _, Below.refl _ _⟩ ?_
  rintro y W hR
  show EW _ _ _ _ [(0, .pointer (some ⟨q, 0, none⟩)), (8, .int .i64 (i : Int)), (9, y.2), (10, .int .i64 (y.1 : Int))] _
  have hle := hR.le
  have TW := ht.on hR.be
  have hxW := TW.hs x hxm
  have hn2 := hxW.n2
  obtain ⟨g, cg, _, xi, xc, xl⟩ := TW.get hx
  have s1 : IntKind.i64.wrap ((y.1 : Int) + 1) = ((y.1 + 1 : Nat) : Int) := by rw [IntKind.wrap_i64]; omega
  refine EW.seq ?_
  refine EW.seq ?_
  refine EW.region ?_
  first | refine WL.move rfl rfl rfl ?_
  first | refine WL.move rfl rfl rfl ?_
  first | refine WL.nilc rfl rfl rfl ?_
  refine WL.field rfl rfl rfl (g82_0 _ _) ?_
  refine WL.load rfl rfl rfl (ld80 TW.bl rfl) ?_
  first | refine WL.move rfl rfl rfl ?_
  refine WL.index rfl rfl rfl rfl (xi _) ?_
  refine WL.field rfl rfl rfl (h114_2 _ _ _) ?_
  refine WL.load rfl rfl rfl (ldIa (xc 2 _ rfl)) ?_
  refine WL.bin rfl rfl rfl rfl (int_lt_d _ _ _ _ _) ?_
  refine WL.done ?_
  refine EW.on ?_
  refine EW.cond_d rfl (fun h29 => ?_) (fun h29 => ?_)
  · have ht0 : y.1 < x.n := by omega
    obtain ⟨b, hb⟩ : ∃ b, x.h[y.1]? = some b := ⟨_, List.getElem?_eq_getElem (by rw [hxW.lh]; exact ht0)⟩
    obtain ⟨ad, c4, e1, hcell⟩ := hxW.bat hb
    have hg : x.h.getD y.1 false = b := by rw [List.getD_eq_getElem?_getD, hb]; rfl
    refine EW.skip ?_
    refine EW.on ?_
    refine EW.seq ?_
    refine EW.block ?_
    refine EW.seq ?_
    refine EW.region ?_
    first | refine WL.move rfl rfl rfl ?_
    first | refine WL.nilc rfl rfl rfl ?_
    refine WL.field rfl rfl rfl (g82_0 _ _) ?_
    refine WL.load rfl rfl rfl (ld80 TW.bl rfl) ?_
    first | refine WL.move rfl rfl rfl ?_
    refine WL.index rfl rfl rfl rfl (xi _) ?_
    refine WL.field rfl rfl rfl (h114_4 _ _ _) ?_
    refine WL.load rfl rfl rfl (ld107a (xc 4 _ rfl)) ?_
    first | refine WL.move rfl rfl rfl ?_
    rw [e1]
    refine WL.index rfl rfl rfl rfl (x107g _ _ _ _ ht0 _) ?_
    rw [← e1]
    refine WL.load rfl rfl rfl (ldBa hcell) ?_
    first | refine WL.un rfl rfl rfl (not_t _ _) ?_
    refine WL.done ?_
    refine EW.on ?_
    refine EW.cond_b rfl (fun h43 => ?_) (fun h43 => ?_)
    · skip
      refine EW.region ?_
      first | refine WL.move rfl rfl rfl ?_
      first | refine WL.move rfl rfl rfl ?_
      obtain ⟨s, W1, v2, W2, ra, rb, o2, be2, fx2, nw2⟩ := Oi.push hR.oi hR.be.size (y.1 : Int) (by rw [nI_len]; have := rmis_len x.h y.1; omega) 23
      refine WL.bslN [(0, .int .i64 (y.1 : Int))] rfl rfl rfl ra ?_
      refine WL.app rfl rfl rfl rfl rb ?_
      first | refine WL.assign rfl rfl rfl ?_
      refine WL.done ?_
      refine pn_block ?_
      refine EW.on ?_
      refine EW.region ?_
      first | refine WL.move rfl rfl rfl ?_
      first | refine WL.bin rfl rfl rfl rfl (int_add ‹_› _ _ _) ?_
      first | refine WL.assign rfl rfl rfl ?_
      refine WL.done ?_
      refine EW.again (y.1 + 1, v2) [0, 8, 9, 10] rfl ⟨by show y.1 + 1 ≤ x.n; omega, ?_, hR.be.trans be2⟩ (by show x.n - (y.1 + 1) < x.n - y.1; omega)
      show Oi W2 _ v2 (nI (rmis x.h (y.1 + 1)))
      rw [rmis_succ, hg]
      have e : b = false := by simpa using h43
      rw [e]; simp only [nI, List.map_append]; exact o2
    · skip
      refine EW.skip ?_
      refine pn_block ?_
      refine EW.on ?_
      refine EW.region ?_
      first | refine WL.move rfl rfl rfl ?_
      first | refine WL.bin rfl rfl rfl rfl (int_add ‹_› _ _ _) ?_
      first | refine WL.assign rfl rfl rfl ?_
      refine WL.done ?_
      refine EW.again (y.1 + 1, y.2) [0, 8, 9, 10] rfl ⟨by show y.1 + 1 ≤ x.n; omega, ?_, hR.be⟩ (by show x.n - (y.1 + 1) < x.n - y.1; omega)
      show Oi W _ y.2 (nI (rmis x.h (y.1 + 1)))
      rw [rmis_succ, hg]
      have e : b = true := by simpa using h43
      rw [e]; simpa using hR.oi
  · skip
    refine EW.exit ?_
    refine px_then ?_
    refine px_then ?_
    refine px_block ?_
    refine EW.on ?_
    refine EW.seq ?_
    refine EW.region ?_
    first | refine WL.move rfl rfl rfl ?_
    first | refine WL.assign rfl rfl rfl ?_
    first | refine WL.assign rfl rfl rfl ?_
    refine WL.done ?_
    refine EW.on ?_
    refine EW.ret ?_
    exact EW.returns2 Tryd.results33 rfl rfl ⟨y.2, rfl, (show y.1 = x.n by omega) ▸ hR.oi, hR.be⟩
def notR (a : List UInt8) (x : Rp) : Bool := !decide (x.p = a)
def dpL (L : List Rp) (a : List UInt8) (j : Nat) : List Rp := L.take j ++ (L.drop j).filter (notR a)
theorem dp_len (L : List Rp) (a : List UInt8) (j : Nat) : (dpL L a j).length ≤ L.length := by
  unfold dpL
  have h1 := List.length_filter_le (notR a) (L.drop j)
  rw [List.length_drop] at h1
  rw [List.length_append, List.length_take]; omega
theorem dp_at {L : List Rp} {a : List UInt8} {j : Nat} {x : Rp} (hx : L[j]? = some x) : (dpL L a (j + 1))[j]? = some x := by
  have hj := (List.getElem?_eq_some_iff.1 hx).1
  unfold dpL
  rw [List.getElem?_append_left (by rw [List.length_take]; omega), List.getElem?_take, if_pos (by omega), hx]
theorem dp_keep {L : List Rp} {a : List UInt8} {j : Nat} {x : Rp} (hx : L[j]? = some x) (hk : ¬ x.p = a) : dpL L a (j + 1) = dpL L a j := by
  have hj := List.getElem?_eq_some_iff.1 hx
  have hj1 := hj.1
  unfold dpL
  rw [List.drop_eq_getElem_cons hj.1, hj.2, List.filter_cons_of_pos (by unfold notR; simp [hk]), List.take_add_one, hx]
  simp
theorem dp_gone {L : List Rp} {a : List UInt8} {j : Nat} {x : Rp} (hx : L[j]? = some x) (hk : x.p = a) : (dpL L a (j + 1)).take j ++ (dpL L a (j + 1)).drop (j + 1) = dpL L a j := by
  have hj := List.getElem?_eq_some_iff.1 hx
  have hj1 := hj.1
  have hl : (L.take (j + 1)).length = j + 1 := by rw [List.length_take]; omega
  unfold dpL
  rw [List.take_append_of_le_length (by omega), List.take_take, Nat.min_eq_left (by omega), List.drop_append_of_le_length (by omega), List.drop_of_length_le (by omega), List.nil_append, List.drop_eq_getElem_cons hj.1, hj.2, List.filter_cons_of_neg (by unfold notR; simp [hk])]
theorem dp_glen {L : List Rp} {a : List UInt8} {j : Nat} {x : Rp} (hx : L[j]? = some x) (hk : x.p = a) : (dpL L a j).length + 1 = (dpL L a (j + 1)).length := by
  have hj := List.getElem?_eq_some_iff.1 hx
  have hj1 := hj.1
  unfold dpL
  rw [List.drop_eq_getElem_cons hj.1, hj.2, List.filter_cons_of_neg (by unfold notR; simp [hk]), List.length_append, List.length_append, List.length_take, List.length_take]
  omega
def dpE (q : Nat) (a : List UInt8) (n : Nat) (L : List Rp) (y : Nat × Value) : List (Nat × Value) := [(0, .pointer (some ⟨q, 0, none⟩)), (1, sv a), (5, .int .i64 ((n - (dpL L a y.1).length : Nat) : Int)), (6, .int .i64 ((y.1 : Int) - 1))]
structure DpR (w : World) (q : Nat) (most : Nat) (a : List UInt8) (L : List Rp) (v0 : Value) (y : Nat × Value) (W : World) : Prop where
  le : y.1 ≤ L.length
  rt : Rt W q y.2 most (dpL L a y.1)
  fx : Fx (fun k => k = q) w W
  nb : ∀ b, y.2.ownBlock = some b → v0.ownBlock = some b ∨ w.heap.size ≤ b
set_option maxRecDepth 100000 in
set_option maxHeartbeats 4000000 in
theorem rdrop_any (q : Nat) (v : Value) (most : Nat) (L : List Rp) (hL : L.length ≤ 1000000) (a : List UInt8) (w : World) (ht : Rt w q v most L) : Calls Tryd.prog 34 #[.pointer (some ⟨q, 0, none⟩), sv a] w fun e w' => ∃ v', e = .returned (.int .i64 ((L.length - (dpL L a 0).length : Nat) : Int)) ∧ Rt w' q v' most (dpL L a 0) ∧ Fx (fun k => k = q) w w' ∧ (∀ b, v'.ownBlock = some b → v.ownBlock = some b ∨ w.heap.size ≤ b) := by
  obtain ⟨ao, cp, hv⟩ := ht.slice
  have s0 : IntKind.i64.wrap ((L.length : Int) - 1) = (L.length : Int) - 1 := by rw [IntKind.wrap_i64]; omega
  refine calls_of_args [.pointer (some ⟨q, 0, none⟩), sv a] Tryd.func34 rfl 33 Tryd.ntmps34 (by show 2 ≤ 33; decide) ?_
  refine EW.seq ?_
  refine EW.region ?_
  first | refine WL.assign rfl rfl rfl ?_
  refine WL.done ?_
  refine EW.on ?_
  refine EW.seq ?_
  refine EW.region ?_
  first | refine WL.assign rfl rfl rfl ?_
  refine WL.done ?_
  refine EW.on ?_
  refine EW.seq ?_
  refine EW.seq ?_
  refine EW.region ?_
  first | refine WL.move rfl rfl rfl ?_
  first | refine WL.nilc rfl rfl rfl ?_
  refine WL.field rfl rfl rfl (g82_0 _ _) ?_
  refine WL.load rfl rfl rfl (ld80 ht.bl rfl) ?_
  rw [hv]
  refine WL.len rfl rfl rfl (len80 _ _ _ _ _) ?_
  rw [← hv]
  refine WL.bin rfl rfl rfl rfl (int_sub s0 _ _ _) ?_
  first | refine WL.assign rfl rfl rfl ?_
  refine WL.done ?_
  refine EW.on ?_
  refine EW.block ?_
  refine EW.loop (dpE q a L.length L) (DpR w q most a L v) (fun y => y.1) (L.length, v) [0, 1, 5, 6] (by have e : dpL L a L.length = L := (by unfold dpL; simp); simp only [keepE, dpE, e, Nat.sub_self]; rfl) ⟨Nat.le_refl _, by have e : dpL L a L.length = L := (by unfold dpL; simp); show Rt w q v most (dpL L a L.length); rw [e]; exact ht, Fx.refl _ _, fun b hb => .inl hb⟩ ?_
  rintro y W hR
  show EW _ _ _ _ [(0, .pointer (some ⟨q, 0, none⟩)), (1, sv a), (5, .int .i64 ((L.length - (dpL L a y.1).length : Nat) : Int)), (6, .int .i64 ((y.1 : Int) - 1))] _
  have hle := hR.le
  refine EW.seq ?_
  refine EW.seq ?_
  refine EW.region ?_
  first | refine WL.move rfl rfl rfl ?_
  refine WL.bin rfl rfl rfl rfl (int_ge_d _ _ _ _ _) ?_
  refine WL.done ?_
  refine EW.on ?_
  refine EW.cond_d rfl (fun h14 => ?_) (fun h14 => ?_)
  · obtain ⟨j, hj⟩ : ∃ j, y.1 = j + 1 := ⟨y.1 - 1, by omega⟩
    have hjj : ((y.1 : Int) - 1) = (j : Int) := by omega
    obtain ⟨x, hx⟩ : ∃ x, L[j]? = some x := ⟨_, List.getElem?_eq_getElem (by omega)⟩
    have hxd := dp_at (a := a) hx
    have RT : Rt W q y.2 most (dpL L a (j + 1)) := hj ▸ hR.rt
    obtain ⟨g, cg, _, xi, xc, xl⟩ := RT.get hxd
    have sB : IntKind.i64.wrap ((j : Int) - 1) = (j : Int) - 1 := by rw [IntKind.wrap_i64]; omega
    refine EW.skip ?_
    refine EW.on ?_
    refine EW.seq ?_
    refine EW.block ?_
    refine EW.seq ?_
    refine EW.region ?_
    first | refine WL.move rfl rfl rfl ?_
    first | refine WL.nilc rfl rfl rfl ?_
    refine WL.field rfl rfl rfl (g82_0 _ _) ?_
    refine WL.load rfl rfl rfl (ld80 hR.rt.bl rfl) ?_
    first | refine WL.move rfl rfl rfl ?_
    rw [hjj]
    refine WL.index rfl rfl rfl rfl (xi _) ?_
    refine WL.field rfl rfl rfl (h114_0 _ _ _) ?_
    refine WL.load rfl rfl rfl (ldTa (xc 0 _ rfl)) ?_
    first | refine WL.move rfl rfl rfl ?_
    refine WL.bin rfl rfl rfl rfl (str_eq_s _ _ _ _ _) ?_
    refine WL.done ?_
    refine EW.on ?_
    refine EW.cond_d rfl (fun h26 => ?_) (fun h26 => ?_)
    · have sA : IntKind.i64.wrap (((L.length - (dpL L a y.1).length : Nat) : Int) + 1) = ((L.length - (dpL L a j).length : Nat) : Int) := by
        have h1 := dp_glen hx h26
        have h2 := dp_len L a (j + 1)
        rw [IntKind.wrap_i64, hj]; omega
      refine EW.seq ?_
      refine EW.region ?_
      first | refine WL.move rfl rfl rfl ?_
      first | refine WL.move rfl rfl rfl ?_
      refine WL.call [.pointer (some ⟨q, 0, none⟩), .int .i64 (j : Int)] enter56 rfl rfl rfl (rgone_any q y.2 most _ (by have := dp_len L a (j + 1); omega) j (List.getElem?_eq_some_iff.1 hxd).1 W RT) ?_
      rintro _ w3 ⟨rfl, v3, T3, f3, nb3⟩
      refine ⟨_, rfl, ?_⟩
      rw [dp_gone hx h26] at T3
      refine WL.done ?_
      refine EW.on ?_
      refine EW.region ?_
      first | refine WL.move rfl rfl rfl ?_
      refine WL.bin rfl rfl rfl rfl (int_add sA _ _ _) ?_
      first | refine WL.assign rfl rfl rfl ?_
      refine WL.done ?_
      refine pn_block ?_
      refine EW.on ?_
      refine EW.region ?_
      first | refine WL.move rfl rfl rfl ?_
      refine WL.bin rfl rfl rfl rfl (int_sub sB _ _ _) ?_
      first | refine WL.assign rfl rfl rfl ?_
      refine WL.done ?_
      exact EW.again (j, v3) [0, 1, 5, 6] rfl ⟨by show j ≤ L.length; omega, T3, hR.fx.and f3, fun b hb => .inr (by have := nb3 b hb; have := hR.fx.size; omega)⟩ (by show j < y.1; omega)
    · skip
      refine EW.skip ?_
      refine pn_block ?_
      refine EW.on ?_
      refine EW.region ?_
      first | refine WL.move rfl rfl rfl ?_
      refine WL.bin rfl rfl rfl rfl (int_sub sB _ _ _) ?_
      first | refine WL.assign rfl rfl rfl ?_
      refine WL.done ?_
      exact EW.again (j, y.2) [0, 1, 5, 6] (by rw [hj, dp_keep hx h26]; rfl) ⟨by show j ≤ L.length; omega, by show Rt W q y.2 most (dpL L a j); rw [← dp_keep hx h26]; exact RT, hR.fx, hR.nb⟩ (by show j < y.1; omega)
  · skip
    refine EW.exit ?_
    refine px_then ?_
    refine px_then ?_
    refine px_block ?_
    refine EW.on ?_
    refine EW.seq ?_
    refine EW.region ?_
    first | refine WL.move rfl rfl rfl ?_
    first | refine WL.assign rfl rfl rfl ?_
    refine WL.done ?_
    refine EW.on ?_
    refine EW.ret ?_
    refine EW.returns Tryd.results34 rfl ?_
    have e0 : y.1 = 0 := by omega
    refine ⟨y.2, by rw [e0], ?_, hR.fx, hR.nb⟩
    have := hR.rt
    rw [e0] at this
    exact this
end Go.Proofs.YtiefgmgjlhjjhaaDoor
