import Derived.Test.YtiefgmgjlhjjhaaDoorPd
set_option linter.unusedVariables false
set_option linter.unusedSimpArgs false
namespace Go.Proofs.YtiefgmgjlhjjhaaDoor
open Go.RowKit

theorem int_le_t {a b : Int} (h : a ≤ b) (W : World) (x y : Operand) : (do eqGuard .leq 3 x y (.int .i64 a) (.int .i64 b); binOp .leq 3 (.int .i64 a) (.int .i64 b) : Sem Value).run Tryd.prog W = .ok (.bool true) W := by go_simp
theorem int_le_f {a b : Int} (h : ¬ a ≤ b) (W : World) (x y : Operand) : (do eqGuard .leq 3 x y (.int .i64 a) (.int .i64 b); binOp .leq 3 (.int .i64 a) (.int .i64 b) : Sem Value).run Tryd.prog W = .ok (.bool false) W := by
  have h' : b < a := by omega
  go_simp
theorem int_le_d (a b : Int) (W : World) (x y : Operand) : (do eqGuard .leq 3 x y (.int .i64 a) (.int .i64 b); binOp .leq 3 (.int .i64 a) (.int .i64 b) : Sem Value).run Tryd.prog W = .ok (.bool (decide (a ≤ b))) W := by
  by_cases h : a ≤ b
  · rw [decide_eq_true h]; exact int_le_t h W x y
  · rw [decide_eq_false h]; exact int_le_f h W x y
theorem Pi.c0 (p : Pi) : p.cs[0]? = some (u32v p.id) := rfl
theorem Pi.c1 (p : Pi) : p.cs[1]? = some (.int .i64 (p.n : Int)) := rfl
theorem Pi.c2 (p : Pi) : p.cs[2]? = some (.int .i64 (p.i : Int)) := rfl
theorem Pi.c4 {p : Pi} (h : p.sh) : p.cs[11]? = some p.v := by
  have e : p.cs = ([u32v p.id, .int .i64 (p.n : Int), .int .i64 (p.i : Int)] ++ p.s.map byt) ++ [p.v] := by simp [Pi.cs]
  rw [e, List.getElem?_append_right (by simp [h.s])]
  simp [h.s]
theorem Pc.c0 (p : Pc) : p.cs[0]? = some (.int .i64 (p.n : Int)) := rfl
theorem Pc.c2 {p : Pc} (h : p.sh) {i : Nat} {b : Bool} (hb : p.h[i]? = some b) : p.cs[9 + i]? = some (.bool b) := by
  have hi : i < 64 := by rw [← h.h]; exact (List.getElem?_eq_some_iff.1 hb).1
  have e : p.cs = ([.int .i64 (p.n : Int)] ++ p.s.map byt) ++ (p.h.map Value.bool ++ p.v) := by simp [Pc.cs]
  rw [e, List.getElem?_append_right (by simp [h.s] <;> omega)]
  have e2 : 9 + i - ([Value.int .i64 (p.n : Int)] ++ p.s.map byt).length = i := by simp [h.s] <;> omega
  rw [e2, List.getElem?_append_left (by simp [h.h]; exact hi), List.getElem?_map, hb]; rfl
theorem Pc.c3 {p : Pc} (h : p.sh) {i : Nat} {v : Value} (hb : p.v[i]? = some v) : p.cs[73 + i]? = some v := by
  have e : p.cs = ([.int .i64 (p.n : Int)] ++ p.s.map byt ++ p.h.map Value.bool) ++ p.v := by simp [Pc.cs]
  rw [e, List.getElem?_append_right (by simp [h.s, h.h] <;> omega)]
  have e2 : 73 + i - ([Value.int .i64 (p.n : Int)] ++ p.s.map byt ++ p.h.map Value.bool).length = i := by simp [h.s, h.h] <;> omega
  rw [e2, hb]
theorem ld54 {w : World} {q : Nat} {p : Pc} (hp : p.sh) (hb : Blk w q p.cs 71) : (Instr.loadAt 54 (.pointer (some ⟨q, 1, none⟩))).run Tryd.prog w = .ok (kv p.s) w := hb.ldA (a := [.int .i64 (p.n : Int)]) (m := p.s.map byt) (b := p.h.map Value.bool ++ p.v) u54 rfl (i54 hp.s) (by simp [Pc.cs]) rfl
theorem ld54p {w : World} {q : Nat} {p : Pi} (hp : p.sh) (hb : Blk w q p.cs 58) : (Instr.loadAt 54 (.pointer (some ⟨q, 3, none⟩))).run Tryd.prog w = .ok (kv p.s) w := hb.ldA (a := [u32v p.id, .int .i64 (p.n : Int), .int .i64 (p.i : Int)]) (m := p.s.map byt) (b := [p.v]) u54 rfl (i54 hp.s) (by simp [Pi.cs]) rfl
/-- May a peer be called so? -/
def nmB (l : List UInt8) : Bool := decide (1 ≤ l.length) && decide (l.length ≤ 16)
theorem nmB_t {l : List UInt8} : nmB l = true ↔ 1 ≤ l.length ∧ l.length ≤ 16 := by simp [nmB]
set_option maxRecDepth 100000 in
set_option maxHeartbeats 1000000 in
theorem name_any (l : List UInt8) (w : World) : Calls Tryd.prog 21 #[sv l] w fun e w' => e = .returned (.bool (nmB l)) ∧ w' = w := by
  refine calls_of_args [sv l] Tryd.func21 rfl 11 Tryd.ntmps21 (by show 1 ≤ 11; decide) ?_
  refine EW.seq ?_
  refine EW.region ?_
  first | refine WL.assign rfl rfl rfl ?_
  refine WL.done ?_
  refine EW.on ?_
  refine EW.seq ?_
  by_cases hA : (1 : Int) ≤ (l.length : Int)
  · refine EW.region ?_
    first | refine WL.move rfl rfl rfl ?_
    first | refine WL.len rfl rfl rfl (len_s l _ _) ?_ | refine WL.skip _ rfl rfl rfl ?_
    first | refine WL.bin rfl rfl rfl rfl (int_le_t ‹_› _ _ _) ?_ | refine WL.bin rfl rfl rfl rfl (int_le_f ‹_› _ _ _) ?_ | refine WL.bin rfl rfl rfl rfl (int_le_d _ _ _ _ _) ?_
    first | refine WL.move rfl rfl rfl ?_
    first | refine WL.move rfl rfl rfl ?_ | refine WL.skip _ rfl rfl rfl ?_
    first | refine WL.len rfl rfl rfl (len_s l _ _) ?_ | refine WL.skip _ rfl rfl rfl ?_
    first | refine WL.bin rfl rfl rfl rfl (int_le_t ‹_› _ _ _) ?_ | refine WL.bin rfl rfl rfl rfl (int_le_f ‹_› _ _ _) ?_ | refine WL.bin rfl rfl rfl rfl (int_le_d _ _ _ _ _) ?_ | refine WL.skip _ rfl rfl rfl ?_
    first | refine WL.pick rfl rfl rfl rfl ?_
    first | refine WL.assign rfl rfl rfl ?_
    refine WL.done ?_
    refine EW.on ?_
    refine EW.ret ?_
    exact EW.returns Tryd.results21 rfl ⟨by unfold nmB; congr 2; rw [Bool.eq_iff_iff]; simp <;> omega, rfl⟩
  · refine EW.region ?_
    first | refine WL.move rfl rfl rfl ?_
    first | refine WL.len rfl rfl rfl (len_s l _ _) ?_ | refine WL.skip _ rfl rfl rfl ?_
    first | refine WL.bin rfl rfl rfl rfl (int_le_t ‹_› _ _ _) ?_ | refine WL.bin rfl rfl rfl rfl (int_le_f ‹_› _ _ _) ?_ | refine WL.bin rfl rfl rfl rfl (int_le_d _ _ _ _ _) ?_
    first | refine WL.move rfl rfl rfl ?_
    first | refine WL.move rfl rfl rfl ?_ | refine WL.skip _ rfl rfl rfl ?_
    first | refine WL.len rfl rfl rfl (len_s l _ _) ?_ | refine WL.skip _ rfl rfl rfl ?_
    first | refine WL.bin rfl rfl rfl rfl (int_le_t ‹_› _ _ _) ?_ | refine WL.bin rfl rfl rfl rfl (int_le_f ‹_› _ _ _) ?_ | refine WL.bin rfl rfl rfl rfl (int_le_d _ _ _ _ _) ?_ | refine WL.skip _ rfl rfl rfl ?_
    first | refine WL.pick rfl rfl rfl rfl ?_
    first | refine WL.assign rfl rfl rfl ?_
    refine WL.done ?_
    refine EW.on ?_
    refine EW.ret ?_
    exact EW.returns Tryd.results21 rfl ⟨by unfold nmB; congr 2; rw [Bool.eq_iff_iff]; simp <;> omega, rfl⟩
/-- A tray lies there: how many parcels at most, its map. -/
structure Tr (w : World) (p r : Nat) (most : Nat) (E : List Me) (c : Nat) : Prop where
  bl : Blk w p [.int .i64 (most : Int), .map (some r)] 61
  mp : Mp w r E c
  hs : ∀ m ∈ E, m.c.hs w
  n1 : ∀ m ∈ E, 1 ≤ m.c.n
/-- A block that holds nothing of the tray's contents. -/
def TrB (E : List Me) (k : Nat) : Prop := ∀ m ∈ E, ∀ (i : Nat) v b, m.c.v[i]? = some v → m.c.t[i]? = some b → Off v b k
theorem Tr.on {w w' : World} {p r most : Nat} {E : List Me} {c : Nat} (h : Tr w p r most E c) (hb : Below w.heap.size w w') : Tr w' p r most E c := ⟨h.bl.on hb, h.mp.on hb, fun m hm => (h.hs m hm).on hb, h.n1⟩
theorem Pc.hs.fx {S : Nat → Prop} {w w' : World} {p : Pc} (h : p.hs w) (hf : Fx S w w') (ho : ∀ k, S k → ∀ (i : Nat) v b, p.v[i]? = some v → p.t[i]? = some b → Off v b k) : p.hs w' := ⟨fun i v b hv ht => (h.has i v b hv ht).fxo hf (fun k hk => ho k hk i v b hv ht), h.le⟩
theorem Tr.fx {S : Nat → Prop} {w w' : World} {p r most : Nat} {E : List Me} {c : Nat} (h : Tr w p r most E c) (hf : Fx S w w') (hp : ¬ S p) (hr : ¬ S r) (ho : ∀ k, S k → TrB E k) : Tr w' p r most E c := ⟨h.bl.fx hf hp, h.mp.fx hf hr, fun m hm => (h.hs m hm).fx hf (fun k hk => ho k hk m hm), h.n1⟩
theorem bd61 (a : Int) (r : Nat) (W : World) : (Instr.build 61 [(0, .int .i64 a), (1, .map (some r))].toArray).run Tryd.prog W = .ok (.agg [.int .i64 a, .map (some r)].toArray) W := by kernel_rfl
set_option maxRecDepth 100000 in
set_option maxHeartbeats 1000000 in
theorem tnew_no (most : Int) (w : World) (h : most < 1 ∨ 64 < most) : Calls Tryd.prog 9 #[.int .i64 most] w fun e w' => e = .returned (.tuple #[.pointer none, .int .i64 2]) ∧ w' = w := by
  by_cases hA : most < 1
  · refine calls_of_args [.int .i64 most] Tryd.func9 rfl 14 Tryd.ntmps9 (by show 1 ≤ 14; decide) ?_
    refine EW.seq ?_
    refine EW.region ?_
    first | refine WL.assign rfl rfl rfl ?_
    first | refine WL.assign rfl rfl rfl ?_
    refine WL.done ?_
    refine EW.on ?_
    refine EW.seq ?_
    refine EW.seq ?_
    refine EW.region ?_
    first | refine WL.move rfl rfl rfl ?_
    first | refine WL.bin rfl rfl rfl rfl (int_lt_t ‹_› _ _ _) ?_ | refine WL.bin rfl rfl rfl rfl (int_lt_f ‹_› _ _ _) ?_ | refine WL.bin rfl rfl rfl rfl (int_lt_d _ _ _ _ _) ?_
    first | refine WL.move rfl rfl rfl ?_
    first | refine WL.move rfl rfl rfl ?_ | refine WL.skip _ rfl rfl rfl ?_
    first | refine WL.bin rfl rfl rfl rfl (int_gt_t ‹_› _ _ _) ?_ | refine WL.bin rfl rfl rfl rfl (int_gt_f ‹_› _ _ _) ?_ | refine WL.bin rfl rfl rfl rfl (int_gt_d _ _ _ _ _) ?_ | refine WL.skip _ rfl rfl rfl ?_
    first | refine WL.pick rfl rfl rfl rfl ?_
    refine WL.done ?_
    refine EW.on ?_
    refine EW.cond_t rfl ?_
    refine EW.seq ?_
    refine EW.region ?_
    first | refine WL.assign rfl rfl rfl ?_
    first | refine WL.assign rfl rfl rfl ?_
    refine WL.done ?_
    refine EW.on ?_
    refine EW.ret ?_
    refine pr_then ?_
    exact EW.returns2 Tryd.results9 rfl rfl ⟨rfl, rfl⟩
  · refine calls_of_args [.int .i64 most] Tryd.func9 rfl 14 Tryd.ntmps9 (by show 1 ≤ 14; decide) ?_
    refine EW.seq ?_
    refine EW.region ?_
    first | refine WL.assign rfl rfl rfl ?_
    first | refine WL.assign rfl rfl rfl ?_
    refine WL.done ?_
    refine EW.on ?_
    refine EW.seq ?_
    refine EW.seq ?_
    have hB : (64 : Int) < most := by omega
    refine EW.region ?_
    first | refine WL.move rfl rfl rfl ?_
    first | refine WL.bin rfl rfl rfl rfl (int_lt_t ‹_› _ _ _) ?_ | refine WL.bin rfl rfl rfl rfl (int_lt_f ‹_› _ _ _) ?_ | refine WL.bin rfl rfl rfl rfl (int_lt_d _ _ _ _ _) ?_
    first | refine WL.move rfl rfl rfl ?_
    first | refine WL.move rfl rfl rfl ?_ | refine WL.skip _ rfl rfl rfl ?_
    first | refine WL.bin rfl rfl rfl rfl (int_gt_t ‹_› _ _ _) ?_ | refine WL.bin rfl rfl rfl rfl (int_gt_f ‹_› _ _ _) ?_ | refine WL.bin rfl rfl rfl rfl (int_gt_d _ _ _ _ _) ?_ | refine WL.skip _ rfl rfl rfl ?_
    first | refine WL.pick rfl rfl rfl rfl ?_
    refine WL.done ?_
    refine EW.on ?_
    refine EW.cond_t rfl ?_
    refine EW.seq ?_
    refine EW.region ?_
    first | refine WL.assign rfl rfl rfl ?_
    first | refine WL.assign rfl rfl rfl ?_
    refine WL.done ?_
    refine EW.on ?_
    refine EW.ret ?_
    refine pr_then ?_
    exact EW.returns2 Tryd.results9 rfl rfl ⟨rfl, rfl⟩
set_option maxRecDepth 100000 in
set_option maxHeartbeats 1000000 in
theorem tnew_ok (most : Int) (w : World) (h1 : 1 ≤ most) (h2 : most ≤ 64) : Calls Tryd.prog 9 #[.int .i64 most] w fun e w' => ∃ p r, e = .returned (.tuple #[.pointer (some ⟨p, 0, none⟩), .int .i64 0]) ∧ Tr w' p r most.toNat [] 0 ∧ Below w.heap.size w w' ∧ w.heap.size ≤ p ∧ w.heap.size ≤ r := by
  have hA : ¬ most < 1 := by omega
  have hB : ¬ (64 : Int) < most := by omega
  obtain ⟨w1, rm, m1, l1⟩ := mkMap w
  refine calls_of_args [.int .i64 most] Tryd.func9 rfl 14 Tryd.ntmps9 (by show 1 ≤ 14; decide) ?_
  refine EW.seq ?_
  refine EW.region ?_
  first | refine WL.assign rfl rfl rfl ?_
  first | refine WL.assign rfl rfl rfl ?_
  refine WL.done ?_
  refine EW.on ?_
  refine EW.seq ?_
  refine EW.seq ?_
  refine EW.region ?_
  first | refine WL.move rfl rfl rfl ?_
  first | refine WL.bin rfl rfl rfl rfl (int_lt_t ‹_› _ _ _) ?_ | refine WL.bin rfl rfl rfl rfl (int_lt_f ‹_› _ _ _) ?_ | refine WL.bin rfl rfl rfl rfl (int_lt_d _ _ _ _ _) ?_
  first | refine WL.move rfl rfl rfl ?_
  first | refine WL.move rfl rfl rfl ?_ | refine WL.skip _ rfl rfl rfl ?_
  first | refine WL.bin rfl rfl rfl rfl (int_gt_t ‹_› _ _ _) ?_ | refine WL.bin rfl rfl rfl rfl (int_gt_f ‹_› _ _ _) ?_ | refine WL.bin rfl rfl rfl rfl (int_gt_d _ _ _ _ _) ?_ | refine WL.skip _ rfl rfl rfl ?_
  first | refine WL.pick rfl rfl rfl rfl ?_
  refine WL.done ?_
  refine EW.on ?_
  refine EW.cond_f rfl ?_
  refine EW.skip ?_
  refine EW.on ?_
  refine EW.seq ?_
  refine EW.region ?_
  first | refine WL.move rfl rfl rfl ?_
  refine WL.mkm rfl rfl rm ?_
  refine WL.buildN [(0, .int .i64 most), (1, .map (some w.heap.size))] rfl rfl rfl (bd61 _ _ _) ?_
  obtain ⟨w2, q, rb, b2, l2, hq⟩ := box_any 61 [.int .i64 most, .map (some w.heap.size)] w1
  refine WL.box rfl rfl rfl rb ?_
  first | refine WL.assign rfl rfl rfl ?_
  first | refine WL.assign rfl rfl rfl ?_
  refine WL.done ?_
  refine EW.on ?_
  refine EW.ret ?_
  exact EW.returns2 Tryd.results9 rfl rfl ⟨q, w.heap.size, rfl, ⟨by rw [Int.toNat_of_nonneg (by omega)]; exact b2, m1.on l2, fun m hm => (by cases hm), fun m hm => by cases hm⟩, bt l1 l2, by have := l1.size; omega, Nat.le_refl _⟩
set_option maxRecDepth 100000 in
set_option maxHeartbeats 1000000 in
theorem tlen_any (p r most : Nat) (E : List Me) (c : Nat) (w : World) (ht : Tr w p r most E c) : Calls Tryd.prog 13 #[.pointer (some ⟨p, 0, none⟩)] w fun e w' => e = .returned (.int .i64 (E.length : Int)) ∧ w' = w := by
  refine calls_of_args [.pointer (some ⟨p, 0, none⟩)] Tryd.func13 rfl 8 Tryd.ntmps13 (by show 1 ≤ 8; decide) ?_
  refine EW.seq ?_
  refine EW.region ?_
  first | refine WL.assign rfl rfl rfl ?_
  refine WL.done ?_
  refine EW.on ?_
  refine EW.seq ?_
  refine EW.region ?_
  first | refine WL.move rfl rfl rfl ?_
  first | refine WL.nilc rfl rfl rfl ?_
  refine WL.field rfl rfl rfl (f61_1 _ _) ?_
  refine WL.load rfl rfl rfl (ldM ht.bl rfl) ?_
  refine WL.len rfl rfl rfl (len59 ht.mp _) ?_
  first | refine WL.assign rfl rfl rfl ?_
  refine WL.done ?_
  refine EW.on ?_
  refine EW.ret ?_
  exact EW.returns Tryd.results13 rfl ⟨rfl, rfl⟩
/-- Has the content as many bytes as its place asks for? -/
def fitB (n i m : Nat) : Bool := if i + 1 < n then decide (m = 497) else if 1 < n then decide (0 < m) else true
theorem len24 (ao : Option Addr) (n c : Nat) (W : World) (ty : TypeId) : (Builtin.len_ #[24] ty #[.slice ao n c]).run Tryd.prog W = .ok (.int .i64 (n : Int)) W := by go_simp
set_option maxRecDepth 100000 in
set_option maxHeartbeats 1000000 in
theorem fits_any (p : Pi) (hp : p.sh) (m cp : Nat) (ao : Option Addr) (hv : p.v = .slice ao m cp) (h1 : 1 ≤ p.n) (h2 : p.n ≤ 64) (w : World) : Calls Tryd.prog 47 #[p.val] w fun e w' => e = .returned (.bool (fitB p.n p.i m)) ∧ Below w.heap.size w w' := by
  have s0 : IntKind.i64.wrap ((p.n : Int) - 1) = (p.n : Int) - 1 := by rw [IntKind.wrap_i64]; omega
  refine calls_of_args [p.val] Tryd.func47 rfl 22 Tryd.ntmps47 (by show 1 ≤ 22; decide) ?_
  refine EW.seq ?_
  refine EW.region ?_
  obtain ⟨w1, q, rb, b1, l1, hq⟩ := box_any 58 p.cs w
  refine WL.box rfl rfl rfl rb ?_
  first | refine WL.assign rfl rfl rfl ?_
  refine WL.done ?_
  refine EW.on ?_
  refine EW.seq ?_
  refine EW.block ?_
  refine EW.seq ?_
  refine EW.region ?_
  refine WL.field rfl rfl rfl (f58_2 _ _) ?_
  refine WL.load rfl rfl rfl (ldI b1 p.c2) ?_
  refine WL.field rfl rfl rfl (f58_1 _ _) ?_
  refine WL.load rfl rfl rfl (ldI b1 p.c1) ?_
  first | refine WL.bin rfl rfl rfl rfl (int_sub ‹_› _ _ _) ?_
  first | refine WL.bin rfl rfl rfl rfl (int_lt_t ‹_› _ _ _) ?_ | refine WL.bin rfl rfl rfl rfl (int_lt_f ‹_› _ _ _) ?_ | refine WL.bin rfl rfl rfl rfl (int_lt_d _ _ _ _ _) ?_
  first | refine WL.assign rfl rfl rfl ?_
  refine WL.done ?_
  refine EW.on ?_
  refine EW.cond_d rfl (fun h3 => ?_) (fun h3 => ?_)
  · refine EW.seq ?_
    refine EW.region ?_
    refine WL.field rfl rfl rfl (f58_4 _ _) ?_
    refine WL.load rfl rfl rfl (ldS b1 (Pi.c4 hp)) ?_
    rw [hv]
    refine WL.len rfl rfl rfl (len24 _ _ _ _ _) ?_
    first | refine WL.bin rfl rfl rfl rfl (int_eq_t rfl _ _ _) ?_ | refine WL.bin rfl rfl rfl rfl (int_eq_t ‹_› _ _ _) ?_ | refine WL.bin rfl rfl rfl rfl (int_eq_f ‹_› _ _ _) ?_ | refine WL.bin rfl rfl rfl rfl (int_eq_d _ _ _ _ _) ?_
    first | refine WL.assign rfl rfl rfl ?_
    refine WL.done ?_
    refine EW.on ?_
    refine EW.ret ?_
    refine pr_block ?_
    refine pr_then ?_
    exact EW.returns Tryd.results47 rfl ⟨by unfold fitB; congr 2; split <;> (try split) <;> first | omega | rfl | (rw [Bool.eq_iff_iff]; simp <;> omega), l1⟩
  · refine EW.seq ?_
    refine EW.region ?_
    refine WL.field rfl rfl rfl (f58_1 _ _) ?_
    refine WL.load rfl rfl rfl (ldI b1 p.c1) ?_
    first | refine WL.bin rfl rfl rfl rfl (int_gt_t ‹_› _ _ _) ?_ | refine WL.bin rfl rfl rfl rfl (int_gt_f ‹_› _ _ _) ?_ | refine WL.bin rfl rfl rfl rfl (int_gt_d _ _ _ _ _) ?_
    first | refine WL.assign rfl rfl rfl ?_
    refine WL.done ?_
    refine EW.on ?_
    refine EW.cond_d rfl (fun h14 => ?_) (fun h14 => ?_)
    · refine EW.seq ?_
      refine EW.region ?_
      refine WL.field rfl rfl rfl (f58_4 _ _) ?_
      refine WL.load rfl rfl rfl (ldS b1 (Pi.c4 hp)) ?_
      rw [hv]
      refine WL.len rfl rfl rfl (len24 _ _ _ _ _) ?_
      first | refine WL.bin rfl rfl rfl rfl (int_gt_t ‹_› _ _ _) ?_ | refine WL.bin rfl rfl rfl rfl (int_gt_f ‹_› _ _ _) ?_ | refine WL.bin rfl rfl rfl rfl (int_gt_d _ _ _ _ _) ?_
      first | refine WL.assign rfl rfl rfl ?_
      refine WL.done ?_
      refine EW.on ?_
      refine EW.ret ?_
      refine pr_block ?_
      refine pr_then ?_
      exact EW.returns Tryd.results47 rfl ⟨by unfold fitB; congr 2; split <;> (try split) <;> first | omega | rfl | (rw [Bool.eq_iff_iff]; simp <;> omega), l1⟩
    · refine EW.skip ?_
      refine pn_block ?_
      refine EW.on ?_
      refine EW.seq ?_
      refine EW.region ?_
      first | refine WL.assign rfl rfl rfl ?_
      refine WL.done ?_
      refine EW.on ?_
      refine EW.ret ?_
      exact EW.returns Tryd.results47 rfl ⟨by unfold fitB; congr 2; split <;> (try split) <;> first | omega | rfl | (rw [Bool.eq_iff_iff]; simp <;> omega), l1⟩
end Go.Proofs.YtiefgmgjlhjjhaaDoor
