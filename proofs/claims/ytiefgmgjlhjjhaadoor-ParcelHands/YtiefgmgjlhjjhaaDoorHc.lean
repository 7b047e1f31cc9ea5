import Derived.Test.YtiefgmgjlhjjhaaDoorHb
set_option linter.unusedVariables false
set_option linter.unusedSimpArgs false
namespace Go.Proofs.YtiefgmgjlhjjhaaDoor
open Go.RowKit

/-- Bytes of their own, that may grow. -/
structure Ob (w : World) (b : Nat) (v : Value) (bs : List UInt8) : Prop where
  row : w.ownsRow 0 5 1 v bs.length (bs.map byt)
  base : ∀ k, v.ownBlock = some k → b ≤ k
theorem Ob.nil (w : World) (b : Nat) : Ob w b (.slice none 0 0) [] := ⟨⟨rfl, .inl ⟨rfl, rfl⟩⟩, fun _ h => by cases h⟩
theorem Ob.own {w : World} {b : Nat} {v : Value} {bs : List UInt8} (h : Ob w b v bs) : Own w 0 v bs := h.row
theorem Ob.below {w w' : World} {b : Nat} {v : Value} {bs : List UInt8} (h : Ob w b v bs) (hb : Below w.heap.size w w') : Ob w' b v bs := ⟨h.own.below hb, h.base⟩
theorem Ob.lt {w : World} {b : Nat} {v : Value} {bs : List UInt8} (h : Ob w b v bs) {k : Nat} (hk : v.ownBlock = some k) : k < w.heap.size ∧ ∃ cur, w.heap[k]? = some (.cells cur 5 (0, 0)) := by
  obtain ⟨_, ⟨rfl, _⟩ | ⟨g, cp, cur, rfl, hg, hh2, _⟩⟩ := h.row
  · cases hk
  · simp only [Value.ownBlock, Option.some.injEq] at hk
    subst hk
    refine ⟨?_, cur, hh2⟩
    rcases Nat.lt_or_ge g w.heap.size with hl | hl
    · exact hl
    · rw [Array.getElem?_eq_none hl] at hh2; cases hh2
theorem Ob.fx {S : Nat → Prop} {w w' : World} {b : Nat} {v : Value} {bs : List UInt8} (h : Ob w b v bs) (hf : Fx S w w') (ho : ∀ k, S k → v.ownBlock ≠ some k) : Ob w' b v bs := by
  refine ⟨?_, h.base⟩
  obtain ⟨hx, h1 | ⟨g, cp, cur, rfl, hg, hh2, hr⟩⟩ := h.row
  · exact ⟨hx, .inl h1⟩
  · refine ⟨hx, .inr ⟨g, cp, cur, rfl, hg, ?_, hr⟩⟩
    rw [hf.block g (by
      rcases Nat.lt_or_ge g w.heap.size with hl | hl
      · exact hl
      · rw [Array.getElem?_eq_none hl] at hh2; cases hh2) (fun hS => ho g hS rfl)]
    exact hh2
theorem Ob.push {w : World} {b : Nat} {v : Value} {bs : List UInt8} (h : Ob w b v bs) (hbw : b ≤ w.heap.size) (pv : Value) (ys : List UInt8) (hp : Has w pv ys) (hl : bs.length + ys.length ≤ 1000000000) (ty : TypeId) : ∃ v' w', (Builtin.append_ #[24, 24] ty #[v, pv]).run Tryd.prog w = .ok v' w' ∧ Ob w' b v' (bs ++ ys) ∧ Fx (fun k => v.ownBlock = some k) w w' ∧ Nw w v v' := by
  rcases hp with ⟨rfl, rfl⟩ | ⟨ad, cap, rfl, h2, h3⟩
  · obtain ⟨i, hi, hz0, hz1, hz2⟩ := info_parts Tryd.info5
    exact ⟨_, w, run_append_owned_none (P := Tryd.prog) w 0 24 ty 5 i 1 Tryd.underlying24 hi v _ _ h.row, by simpa using h, Fx.refl _ _, fun k hk => .inl hk⟩
  · obtain ⟨i, hi, hz0, hz1, hz2⟩ := info_parts Tryd.info5
    obtain ⟨v', w', r1, r2, r3, r4⟩ := run_appx w 24 ty 5 i (.int .u8 0) 1 1 Tryd.underlying24 hi hz0 hz1 hz2 rfl (by decide) v bs.length (bs.map byt) h.row ad ys.length cap (ys.map byt) (by simp) (fun j u hj => by
      rw [List.getElem?_map, Option.map_eq_some_iff] at hj
      obtain ⟨b', hb, rfl⟩ := hj
      exact h3 j b' hb) (byt_one ys) hl (by decide)
    refine ⟨v', w', r1, ⟨by simpa using r2, fun k hk => ?_⟩, grown_fx r3, r4⟩
    rcases r4 k hk with e | e
    · exact h.base k e
    · omega
/-- A writer of a page. -/
structure Wr (M : Nat) (w : World) (b q : Nat) (v : Value) (bs : List UInt8) : Prop where
  bl : Blk w q [.int .i64 (M : Int), v, .int .i64 0] 124
  ob : Ob w b v bs
  bq : b ≤ q
theorem Wr.ne {M : Nat} {w : World} {b q : Nat} {v : Value} {bs : List UInt8} (h : Wr M w b q v bs) {k : Nat} (hk : v.ownBlock = some k) : k ≠ q := by
  rintro rfl
  obtain ⟨_, cur, hc⟩ := h.ob.lt hk
  have := h.bl
  unfold Blk at this
  rw [hc] at this
  simp at this
theorem Wr.below {M : Nat} {w w' : World} {b q : Nat} {v : Value} {bs : List UInt8} (h : Wr M w b q v bs) (hb : Below w.heap.size w w') : Wr M w' b q v bs := ⟨h.bl.on hb, h.ob.below hb, h.bq⟩
theorem f124_0 (q : Nat) (W : World) : (Instr.fieldAt 124 (.pointer (some ⟨q, 0, none⟩)) 0).run Tryd.prog W = .ok (.pointer (some ⟨q, 0, none⟩)) W := by
  go_simp
  try simp
  try rw [add_plain]
theorem f124_1 (q : Nat) (W : World) : (Instr.fieldAt 124 (.pointer (some ⟨q, 0, none⟩)) 1).run Tryd.prog W = .ok (.pointer (some ⟨q, 1, none⟩)) W := by
  go_simp
  try simp
  try rw [add_plain]
theorem f124_2 (q : Nat) (W : World) : (Instr.fieldAt 124 (.pointer (some ⟨q, 0, none⟩)) 2).run Tryd.prog W = .ok (.pointer (some ⟨q, 2, none⟩)) W := by
  go_simp
  try simp
  try rw [add_plain]
theorem f128_0 (q : Nat) (W : World) : (Instr.fieldAt 128 (.pointer (some ⟨q, 0, none⟩)) 0).run Tryd.prog W = .ok (.pointer (some ⟨q, 0, none⟩)) W := by
  go_simp
  try simp
  try rw [add_plain]
theorem f128_1 (q : Nat) (W : World) : (Instr.fieldAt 128 (.pointer (some ⟨q, 0, none⟩)) 1).run Tryd.prog W = .ok (.pointer (some ⟨q, 1, none⟩)) W := by
  go_simp
  try simp
  try rw [add_plain]
theorem f128_2 (q : Nat) (W : World) : (Instr.fieldAt 128 (.pointer (some ⟨q, 0, none⟩)) 2).run Tryd.prog W = .ok (.pointer (some ⟨q, 2, none⟩)) W := by
  go_simp
  try simp
  try rw [add_plain]
theorem bld94 (M : Nat) (W : World) : (Instr.build 124 [(0, .int .i64 (M : Int))].toArray).run Tryd.prog W = .ok (.agg [.int .i64 (M : Int), .slice none 0 0, .int .i64 0].toArray) W := by kernel_rfl
theorem box94 (M : Nat) (w : World) : ∃ w1 q, (Instr.box 124 (.agg [.int .i64 (M : Int), .slice none 0 0, .int .i64 0].toArray)).run Tryd.prog w = .ok (.pointer (some ⟨q, 0, none⟩)) w1 ∧ Blk w1 q [.int .i64 (M : Int), .slice none 0 0, .int .i64 0] 124 ∧ Below w.heap.size w w1 ∧ q = w.heap.size :=
  ⟨_, _, run_boxR 124 _ w _ rfl, Blk.new _ _ _, below_new _ _, rfl⟩
set_option maxRecDepth 100000 in
set_option maxHeartbeats 1000000 in
theorem newW_any (M : Nat) (hM : M ≤ 1048576) (w : World) : Calls Tryd.prog 37 #[.int .i64 (M : Int)] w fun e w' => ∃ q, e = .returned (.tuple #[.pointer (some ⟨q, 0, none⟩), .int .i64 0]) ∧ Wr M w' w.heap.size q (.slice none 0 0) [] ∧ Below w.heap.size w w' := by
  obtain ⟨w1, q, r1, b1, e1, hq⟩ := box94 M w
  have z1 : ¬ (M : Int) < 0 := by omega
  have z2 : ¬ (1048576 : Int) < (M : Int) := by omega
  refine calls_of_args [.int .i64 (M : Int)] Tryd.func37 rfl 13 Tryd.ntmps37 (by show 1 ≤ 13; decide) ?_
  refine EW.seq ?_
  refine EW.region ?_
  first | refine WL.assign rfl rfl rfl ?_
  first | refine WL.assign rfl rfl rfl ?_
  refine WL.done ?_
  refine EW.on ?_
  refine EW.seq ?_
  refine EW.seq ?_
  refine EW.region ?_
  first | refine WL.move rfl rfl rfl ?_
  first | refine WL.bin rfl rfl rfl rfl (int_lt_t ‹_› _ _ _) ?_ | refine WL.bin rfl rfl rfl rfl (int_lt_f ‹_› _ _ _) ?_ | refine WL.bin rfl rfl rfl rfl (int_lt_d _ _ _ _ _) ?_
  first | refine WL.move rfl rfl rfl ?_
  first | refine WL.move rfl rfl rfl ?_ | refine WL.skip _ rfl rfl rfl ?_
  first | refine WL.bin rfl rfl rfl rfl (int_gt_t ‹_› _ _ _) ?_ | refine WL.bin rfl rfl rfl rfl (int_gt_f ‹_› _ _ _) ?_ | refine WL.bin rfl rfl rfl rfl (int_gt_d _ _ _ _ _) ?_ | refine WL.skip _ rfl rfl rfl ?_
  first | refine WL.pick rfl rfl rfl rfl ?_
  refine WL.done ?_
  refine EW.on ?_
  refine EW.cond_f rfl ?_
  refine EW.skip ?_
  refine EW.on ?_
  refine EW.seq ?_
  refine EW.region ?_
  first | refine WL.move rfl rfl rfl ?_
  refine WL.buildN [(0, .int .i64 (M : Int))] rfl rfl rfl (bld94 M _) ?_
  refine WL.box rfl rfl rfl r1 ?_
  first | refine WL.assign rfl rfl rfl ?_
  first | refine WL.assign rfl rfl rfl ?_
  refine WL.done ?_
  refine EW.on ?_
  refine EW.ret ?_
  exact EW.returns2 Tryd.results37 rfl rfl ⟨q, rfl, ⟨b1, Ob.nil _ _, by omega⟩, e1⟩
/-- Parts of bytes that are handed on. -/
structure Bp (w : World) (qp : Nat) (ps : List (Value × List UInt8)) : Prop where
  bl : Blk w qp (ps.map (·.1)) 24
  hs : ∀ p ∈ ps, Has w p.1 p.2
theorem Bp.below {w w' : World} {qp : Nat} {ps : List (Value × List UInt8)} (h : Bp w qp ps) (hb : Below w.heap.size w w') : Bp w' qp ps := ⟨h.bl.on hb, fun p hp => (h.hs p hp).below hb⟩
def flatB (ps : List (Value × List UInt8)) : List UInt8 := ps.flatMap (·.2)
theorem flatB_take (ps : List (Value × List UInt8)) (a : Nat) (p : Value × List UInt8) (h : ps[a]? = some p) : flatB (ps.take (a + 1)) = flatB (ps.take a) ++ p.2 := by
  rw [List.take_add_one, h]
  simp [flatB]
theorem flatB_le (ps : List (Value × List UInt8)) (a : Nat) (p : Value × List UInt8) (h : ps[a]? = some p) : (flatB (ps.take a)).length + p.2.length ≤ (flatB ps).length := by
  have h1 := flatB_take ps a p h
  have h2 : flatB ps = flatB (ps.take (a + 1)) ++ flatB (ps.drop (a + 1)) := by
    unfold flatB
    rw [← List.flatMap_append, List.take_append_drop]
  rw [h2, h1, List.length_append, List.length_append]
  omega
theorem len55 (ao : Option Addr) (n c : Nat) (W : World) (ty : TypeId) : (Builtin.len_ #[26] ty #[.slice ao n c]).run Tryd.prog W = .ok (.int .i64 (n : Int)) W := by go_simp
theorem idx26 (q n c m : Nat) (h : m < n) (W : World) : (Instr.indexAt 26 (.slice (some ⟨q, 0, none⟩) n c) (.int .i64 (m : Int))).run Tryd.prog W = .ok (.pointer (some ⟨q, m, none⟩)) W := by
  have hm : (m : Int) < (n : Int) := by omega
  go_simp
  try simp
  try rw [add_plain]
def fxE (M q qp n c : Nat) (ps : List (Value × List UInt8)) (l t : Nat) : List (Nat × Value) := [(0, .pointer (some ⟨q, 0, none⟩)), (1, .slice (some ⟨qp, 0, none⟩) n c), (4, .int .i64 ((M : Int) - (l : Int) - ((flatB (ps.take t)).length : Int))), (24, .slice (some ⟨qp, 0, none⟩) n c), (25, .int .i64 (n : Int)), (26, .int .i64 (t : Int))]
def FxI (w : World) (n t : Nat) (W : World) : Prop := Below w.heap.size w W ∧ t ≤ n
def fyE (q qp n c : Nat) (x : Nat × Value) : List (Nat × Value) := [(0, .pointer (some ⟨q, 0, none⟩)), (41, .slice (some ⟨qp, 0, none⟩) n c), (42, .int .i64 (n : Int)), (43, .int .i64 (x.1 : Int))]
def FyI (M : Nat) (w : World) (b q qp : Nat) (v0 : Value) (bs : List UInt8) (ps : List (Value × List UInt8)) (x : Nat × Value) (W : World) : Prop := x.1 ≤ ps.length ∧ Wr M W b q x.2 (bs ++ flatB (ps.take x.1)) ∧ Bp W qp ps ∧ (∀ p ∈ ps, ∀ k, x.2.ownBlock = some k → Off p.1 p.2 k) ∧ Fx (fun k => k = q ∨ v0.ownBlock = some k) w W ∧ Nw w v0 x.2
theorem nob94 (a c : Int) (v : Value) (h : ∃ ao n c, v = .slice ao n c) : NoB [.int .i64 a, v, .int .i64 c] := by
  obtain ⟨_, _, _, rfl⟩ := h
  intro x hx b
  simp only [List.mem_cons, List.not_mem_nil, or_false] at hx
  rcases hx with rfl | rfl | rfl
  · intro e; cases e
  · intro e; cases e
  · intro e; cases e
set_option maxRecDepth 100000 in
set_option maxHeartbeats 4000000 in
theorem fixed_any (M : Nat) (hM : M ≤ 1048576) (b q qp c : Nat) (v : Value) (bs : List UInt8) (ps : List (Value × List UInt8)) (w : World) (hw : Wr M w b q v bs) (hP : Bp w qp ps) (hbw : b ≤ w.heap.size) (hqq : qp ≠ q) (hoff : ∀ p ∈ ps, ∀ k, v.ownBlock = some k → Off p.1 p.2 k) (hn : ps.length ≤ 1000) (hl : bs.length + (flatB ps).length ≤ M) : Calls Tryd.prog 40 #[.pointer (some ⟨q, 0, none⟩), .slice (some ⟨qp, 0, none⟩) ps.length c] w fun e w' => e = .returned (.tuple #[]) ∧ ∃ v', Wr M w' b q v' (bs ++ flatB ps) ∧ Fx (fun k => k = q ∨ v.ownBlock = some k) w w' ∧ Nw w v v' := by
  have s0 : IntKind.i64.wrap ((M : Int) - (bs.length : Int)) = (M : Int) - (bs.length : Int) := by rw [IntKind.wrap_i64]; omega
  refine calls_of_args [.pointer (some ⟨q, 0, none⟩), .slice (some ⟨qp, 0, none⟩) ps.length c] Tryd.func40 rfl 57 Tryd.ntmps40 (by show 2 ≤ 57; decide) ?_
  refine EW.seq ?_
  refine EW.seq ?_
  refine EW.region ?_
  first | refine WL.move rfl rfl rfl ?_
  first | refine WL.nilc rfl rfl rfl ?_
  refine WL.field rfl rfl rfl (f124_2 q _) ?_
  refine WL.load rfl rfl rfl (ldE hw.bl rfl) ?_
  first | refine WL.bin rfl rfl rfl rfl (int_ne_f rfl _ _ _) ?_ | refine WL.bin rfl rfl rfl rfl (int_ne_t ‹_› _ _ _) ?_ | refine WL.bin rfl rfl rfl rfl (int_ne_f ‹_› _ _ _) ?_ | refine WL.bin rfl rfl rfl rfl (int_ne_t (by decide) _ _ _) ?_ | refine WL.bin rfl rfl rfl rfl (int_ne_d _ _ _ _ _) ?_
  refine WL.done ?_
  refine EW.on ?_
  refine EW.cond_f rfl ?_
  refine EW.skip ?_
  refine EW.on ?_
  refine EW.seq ?_
  refine EW.ordB [(0, 0, 0), (1, 0, 0), (2, 0, 0), (3, 0, 1), (4, 0, 0), (5, 0, 0), (6, 0, 0), (7, 0, 1), (8, 0, 0), (9, 0, 0), (10, 0, 0)] (by kernel_rfl) rfl (by kernel_rfl) ?_
  simp only [opsZ, List.getD_cons_zero, List.getD_cons_succ]
  first | refine ZE.move rfl rfl rfl rfl sz0 ?_
  first | refine ZE.nilc rfl rfl rfl rfl sz0 ?_
  refine ZE.field rfl rfl rfl rfl sz0 (fun W => f124_0 q W) ?_
  refine ZE.load rfl rfl rfl rfl sz1 (fun W hW => ldI (hw.bl.on (sb_of hW)) rfl) ?_
  first | refine ZE.move rfl rfl rfl rfl sz0 ?_
  first | refine ZE.nilc rfl rfl rfl rfl sz0 ?_
  refine ZE.field rfl rfl rfl rfl sz0 (fun W => f124_1 q W) ?_
  refine ZE.load rfl rfl rfl rfl sz1 (fun W hW => ldS (hw.bl.on (sb_of hW)) rfl) ?_
  refine ZE.len rfl rfl rfl rfl sz0 (fun W => hw.ob.own.has.len W _) ?_
  refine ZE.bin rfl rfl rfl rfl rfl sz0 (fun W => int_sub s0 W _ _) ?_
  first | refine ZE.assign rfl rfl rfl rfl sz0 ?_
  intro w1 h1
  refine EW.on ?_
  refine EW.seq ?_
  refine EW.seq ?_
  refine EW.region ?_
  first | refine WL.move rfl rfl rfl ?_
  first | refine WL.len rfl rfl rfl (len55 _ _ _ _ _) ?_ | refine WL.len rfl rfl rfl ((hP.hs p hpm).len _ _) ?_
  first | refine WL.move rfl rfl rfl ?_
  refine WL.done ?_
  refine EW.on ?_
  refine EW.block ?_
  refine EW.loop (fxE M q qp ps.length c ps bs.length) (FxI w ps.length) (fun t => ps.length - t) 0 [0, 1, 4, 24, 25, 26] (by simp [fxE, flatB]; rfl) ⟨h1, Nat.zero_le _⟩ ?_
  rintro t wi ⟨hbe, htl⟩
  show EW _ _ _ _ [(0, .pointer (some ⟨q, 0, none⟩)), (1, .slice (some ⟨qp, 0, none⟩) ps.length c), (4, .int .i64 ((M : Int) - (bs.length : Int) - ((flatB (ps.take t)).length : Int))), (24, .slice (some ⟨qp, 0, none⟩) ps.length c), (25, .int .i64 (ps.length : Int)), (26, .int .i64 (t : Int))] _
  refine EW.seq ?_
  refine EW.region ?_
  first | refine WL.bin rfl rfl rfl rfl (int_lt_t ‹_› _ _ _) ?_ | refine WL.bin rfl rfl rfl rfl (int_lt_f ‹_› _ _ _) ?_ | refine WL.bin rfl rfl rfl rfl (int_lt_d _ _ _ _ _) ?_
  refine WL.done ?_
  refine EW.on ?_
  refine EW.seq ?_
  refine EW.cond_d rfl (fun h27 => ?_) (fun h27 => ?_)
  · refine EW.skip ?_
    refine EW.on ?_
    refine EW.seq ?_
    refine EW.block ?_
    refine EW.seq ?_
    have ht : t < ps.length := by omega
    obtain ⟨p, hp⟩ : ∃ p, ps[t]? = some p := ⟨_, List.getElem?_eq_getElem ht⟩
    have hpm : p ∈ ps := List.mem_of_getElem? hp
    have hfl := flatB_le ps t p hp
    have tn : IntKind.i64.wrap ((t : Int) + 1) = ((t + 1 : Nat) : Int) := by rw [IntKind.wrap_i64]; omega
    have zg : ¬ (M : Int) - (bs.length : Int) - ((flatB (ps.take t)).length : Int) < (p.2.length : Int) := by omega
    have sw : IntKind.i64.wrap ((M : Int) - (bs.length : Int) - ((flatB (ps.take t)).length : Int) - (p.2.length : Int)) = (M : Int) - (bs.length : Int) - ((flatB (ps.take (t + 1))).length : Int) := by
      rw [IntKind.wrap_i64, flatB_take ps t p hp, List.length_append]; omega
    refine EW.region ?_
    refine WL.index rfl rfl rfl rfl (idx26 _ _ _ _ ht _) ?_
    refine WL.load rfl rfl rfl (ldS (hP.bl.on hbe) (by rw [List.getElem?_map, hp]; rfl)) ?_
    first | refine WL.assign rfl rfl rfl ?_
    refine WL.done ?_
    refine EW.on ?_
    refine EW.seq ?_
    refine EW.seq ?_
    refine EW.region ?_
    first | refine WL.move rfl rfl rfl ?_
    first | refine WL.len rfl rfl rfl (len55 _ _ _ _ _) ?_ | refine WL.len rfl rfl rfl ((hP.hs p hpm).len _ _) ?_
    first | refine WL.move rfl rfl rfl ?_
    first | refine WL.bin rfl rfl rfl rfl (int_gt_t ‹_› _ _ _) ?_ | refine WL.bin rfl rfl rfl rfl (int_gt_f ‹_› _ _ _) ?_ | refine WL.bin rfl rfl rfl rfl (int_gt_d _ _ _ _ _) ?_
    refine WL.done ?_
    refine EW.on ?_
    refine EW.cond_f rfl ?_
    refine EW.skip ?_
    refine EW.on ?_
    refine EW.region ?_
    first | refine WL.move rfl rfl rfl ?_
    first | refine WL.move rfl rfl rfl ?_
    first | refine WL.len rfl rfl rfl (len55 _ _ _ _ _) ?_ | refine WL.len rfl rfl rfl ((hP.hs p hpm).len _ _) ?_
    first | refine WL.bin rfl rfl rfl rfl (int_sub ‹_› _ _ _) ?_
    first | refine WL.assign rfl rfl rfl ?_
    refine WL.done ?_
    refine pn_block ?_
    refine EW.on ?_
    refine EW.region ?_
    first | refine WL.bin rfl rfl rfl rfl (int_add ‹_› _ _ _) ?_
    first | refine WL.move rfl rfl rfl ?_
    refine WL.done ?_
    refine EW.again (E := fxE M q qp ps.length c ps bs.length) (R := FxI w ps.length) (m := fun t => ps.length - t) (x := t) (t + 1) [0, 1, 4, 24, 25, 26] rfl ⟨hbe, by omega⟩ (by show ps.length - (t + 1) < ps.length - t; omega)
  · refine EW.exit ?_
    refine px_then ?_
    refine px_then ?_
    refine px_block ?_
    refine EW.on ?_
    refine EW.seq ?_
    refine EW.region ?_
    first | refine WL.move rfl rfl rfl ?_
    first | refine WL.len rfl rfl rfl (len55 _ _ _ _ _) ?_ | refine WL.len rfl rfl rfl ((hP.hs p hpm).len _ _) ?_
    first | refine WL.move rfl rfl rfl ?_
    refine WL.done ?_
    refine EW.on ?_
    refine EW.block ?_
    refine EW.loop (fyE q qp ps.length c) (FyI M w b q qp v bs ps) (fun x => ps.length - x.1) (0, v) [0, 41, 42, 43] rfl ⟨Nat.zero_le _, by simpa [flatB] using hw.below hbe, hP.below hbe, hoff, Fx.of_below hbe, fun k hk => .inl hk⟩ ?_
    clear hbe htl
    rintro ⟨t, vi⟩ wi ⟨htl, hwi, hPi, hoi, hfi, hni⟩
    dsimp only at htl hwi hoi hni
    show EW _ _ _ _ [(0, .pointer (some ⟨q, 0, none⟩)), (41, .slice (some ⟨qp, 0, none⟩) ps.length c), (42, .int .i64 (ps.length : Int)), (43, .int .i64 (t : Int))] _
    refine EW.seq ?_
    refine EW.region ?_
    first | refine WL.bin rfl rfl rfl rfl (int_lt_t ‹_› _ _ _) ?_ | refine WL.bin rfl rfl rfl rfl (int_lt_f ‹_› _ _ _) ?_ | refine WL.bin rfl rfl rfl rfl (int_lt_d _ _ _ _ _) ?_
    refine WL.done ?_
    refine EW.on ?_
    refine EW.seq ?_
    refine EW.cond_d rfl (fun h44 => ?_) (fun h44 => ?_)
    · refine EW.skip ?_
      refine EW.on ?_
      refine EW.seq ?_
      refine EW.block ?_
      refine EW.seq ?_
      have ht : t < ps.length := by omega
      obtain ⟨p, hp⟩ : ∃ p, ps[t]? = some p := ⟨_, List.getElem?_eq_getElem ht⟩
      have hpm : p ∈ ps := List.mem_of_getElem? hp
      have hfl := flatB_le ps t p hp
      have tn : IntKind.i64.wrap ((t : Int) + 1) = ((t + 1 : Nat) : Int) := by rw [IntKind.wrap_i64]; omega
      refine EW.region ?_
      refine WL.index rfl rfl rfl rfl (idx26 _ _ _ _ ht _) ?_
      refine WL.load rfl rfl rfl (ldS hPi.bl (by rw [List.getElem?_map, hp]; rfl)) ?_
      first | refine WL.assign rfl rfl rfl ?_
      refine WL.done ?_
      refine EW.on ?_
      refine EW.region ?_
      first | refine WL.move rfl rfl rfl ?_
      first | refine WL.move rfl rfl rfl ?_
      first | refine WL.nilc rfl rfl rfl ?_
      refine WL.field rfl rfl rfl (f124_1 q _) ?_
      refine WL.load rfl rfl rfl (ldS hwi.bl rfl) ?_
      first | refine WL.move rfl rfl rfl ?_
      obtain ⟨v', w5, a1, a2, a3, a4⟩ := hwi.ob.push (by have := hbw; have := hfi.size; omega) p.1 p.2 (hPi.hs p hpm) (by simp; omega) 24
      refine WL.app rfl rfl rfl rfl a1 ?_
      first | refine WL.nilc rfl rfl rfl ?_
      refine WL.field rfl rfl rfl (f124_1 q _) ?_
      have bl5 := hwi.bl.fx a3 (fun e => hwi.ne e rfl)
      obtain ⟨aov, nv, cv, hv5⟩ := a2.own.has.sl
      obtain ⟨w6, s1, s2, s3⟩ := stS bl5 (show 1 < _ by show 1 < 3; decide) aov nv cv
      rw [hv5]
      refine WL.store rfl rfl rfl s1 ?_
      rw [← hv5] at s2
      refine WL.done ?_
      refine pn_block ?_
      refine EW.on ?_
      refine EW.region ?_
      first | refine WL.bin rfl rfl rfl rfl (int_add ‹_› _ _ _) ?_
      first | refine WL.move rfl rfl rfl ?_
      refine WL.done ?_
      have hf5 : Fx (fun k => k = q ∨ vi.ownBlock = some k) wi w5 := a3.mono (fun k _ e => .inr e)
      have hf6 : Fx (fun k => k = q ∨ vi.ownBlock = some k) wi w6 := hf5.trans s3 (fun k _ e => .inl e)
      have hoff' : ∀ p' ∈ ps, Has w6 p'.1 p'.2 := fun p' hp' => ((hPi.hs p' hp').fxo a3 (fun k hk => hoi p' hp' k hk)).fxo s3 (fun k hk => by
        have e : k = q := hk
        rw [e]
        exact ((hPi.hs p' hp').fxo a3 (fun k hk => hoi p' hp' k hk)).offB bl5 (nob94 _ _ _ hwi.ob.own.has.sl))
      refine EW.again (E := fyE q qp ps.length c) (R := FyI M w b q qp v bs ps) (m := fun x => ps.length - x.1) (x := (t, vi)) (t + 1, v') [0, 41, 42, 43] rfl ⟨by show t + 1 ≤ _; omega, ⟨s2, ?_, hw.bq⟩, ⟨?_, hoff'⟩, fun p' hp' k hk => ?_, ?_, fun k hk => ?_⟩ (by show ps.length - (t + 1) < ps.length - t; omega)
      · show Ob w6 b v' (bs ++ flatB (ps.take (t + 1)))
        rw [flatB_take ps t p hp, ← List.append_assoc]
        refine a2.fx s3 (fun k hk e => ?_)
        have e0 : k = q := hk
        rw [e0] at e
        obtain ⟨_, cur, hcur⟩ := a2.lt e
        have := bl5
        unfold Blk at this
        rw [hcur] at this
        simp at this
      · refine (hPi.bl.fx a3 (fun e => ?_)).fx s3 (fun e => hqq e)
        obtain ⟨_, cur, hcur⟩ := hwi.ob.lt e
        have := hPi.bl
        unfold Blk at this
        rw [hcur] at this
        simp at this
      · rcases a4 k hk with e | e
        · exact hoi p' hp' k e
        · by_cases e2 : p'.1.ownBlock = some k
          · rcases (hPi.hs p' hp').blk e2 with e3 | e3
            · exact .inl e3
            · omega
          · exact .inr e2
      · refine hfi.trans hf6 (fun k hk e => ?_)
        rcases e with e | e
        · exact .inl e
        · rcases hni k e with e' | e'
          · exact .inr e'
          · omega
      · rcases a4 k hk with e | e
        · exact hni k e
        · exact .inr (by have := hfi.size; omega)
    · refine EW.exit ?_
      refine px_then ?_
      refine px_then ?_
      refine px_block ?_
      exact EW.falls Tryd.results40 ⟨rfl, vi, by rw [List.take_of_length_le (by omega)] at hwi; exact hwi, hfi, hni⟩
end Go.Proofs.YtiefgmgjlhjjhaaDoor
