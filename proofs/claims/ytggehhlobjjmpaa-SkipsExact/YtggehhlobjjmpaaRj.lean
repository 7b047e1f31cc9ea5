import Derived.Test.YtggehhlobjjmpaaRi
set_option linter.unusedVariables false
set_option linter.unusedSimpArgs false
namespace Go.Proofs.Ytggehhlobjjmpaa
open Go.RowKit

theorem eqP24d {po : Option Addr} (h : po = none ∨ ∃ p, po = some ⟨p, 0, none⟩) (W : World) (x y : Operand) : (do eqGuard .eql 24 x y (.pointer po) (.pointer none); binOp .eql 24 (.pointer po) (.pointer none) : Sem Value).run Try.prog W = .ok (.bool (decide (po.isNone = true))) W := by
  rw [eqP24 h, Bool.decide_eq_true]
def sp66 : Sk := ⟨66, 0, z32⟩
theorem sp66k : sp66.ok := ⟨by decide, by decide, rfl⟩
def sp77 : Sk := ⟨77, 0, z32⟩
theorem sp77k : sp77.ok := ⟨by decide, by decide, rfl⟩
/-- Its own block is new since a. -/
def Fr (a : World) (v : Value) : Prop := ∀ b, v.ownBlock = some b → a.heap.size ≤ b
structure C0 (a : World) (v : Value) (W : World) : Prop where
  so : So W v []
  fr : Fr a v
  be : Below a.heap.size a W
structure C5 (a : World) (u : Value) (W : World) : Prop where
  so : So W u [sp66, sp66]
  fr : Fr a u
  be : Below a.heap.size a W
structure C05 (a : World) (v u : Value) (W : World) : Prop where
  so : So W v []
  su : So W u [sp66, sp66]
  fr : Fr a v
  fu : Fr a u
  ne : ∀ b, v.ownBlock = some b → u.ownBlock ≠ some b
  be : Below a.heap.size a W
structure C2 (a : World) (l : List Sk) (v : Value) (W : World) : Prop where
  so : So W v l
  fr : Fr a v
  be : Below a.heap.size a W
structure C25 (a : World) (l : List Sk) (v u : Value) (W : World) : Prop where
  so : So W v l
  su : So W u [sp66, sp66]
  fr : Fr a v
  be : Below a.heap.size a W
theorem bslSx (w : World) : ∃ v w', (Instr.buildSlice 36 2 [(0, sp66.v), (1, sp66.v)].toArray).run Try.prog w = .ok v w' ∧ So w' v [sp66, sp66] ∧ Below w.heap.size w w' ∧ (∃ c, v = .slice (some ⟨w.heap.size, 0, none⟩) 2 c) := bslS [sp66, sp66] (fun s hs => by simp at hs; subst hs; exact sp66k) (by simp) (by simp)
theorem own_at {v : Value} {g n c : Nat} (h : v = .slice (some ⟨g, 0, none⟩) n c) : ∀ b, v.ownBlock = some b → b = g := fun b hb => by
  rw [h] at hb
  simp only [Value.ownBlock, Option.some.injEq] at hb
  exact hb.symm
section
variable {a W : World} {l : List Sk} {v u vL : Value}
theorem L0 (hW : Below a.heap.size a W) : ∃ v w', (Instr.buildSlice 36 0 ([] : List (Nat × Value)).toArray).run Try.prog W = .ok v w' ∧ C0 a v w' := by
  obtain ⟨v, w', h1, h2, h3, c, h4⟩ := bslS0 W
  exact ⟨v, w', h1, h2, fun b hb => by have := own_at h4 b hb; have := hW.size; omega, bt hW h3⟩
theorem L5 (hW : Below a.heap.size a W) : ∃ v w', (Instr.buildSlice 36 2 [(0, sp66.v), (1, sp66.v)].toArray).run Try.prog W = .ok v w' ∧ C5 a v w' := by
  obtain ⟨v, w', h1, h2, h3, c, h4⟩ := bslSx W
  exact ⟨v, w', h1, h2, fun b hb => by have := own_at h4 b hb; have := hW.size; omega, bt hW h3⟩
theorem L05 (h : C5 a u W) : ∃ v w', (Instr.buildSlice 36 0 ([] : List (Nat × Value)).toArray).run Try.prog W = .ok v w' ∧ C05 a v u w' := by
  obtain ⟨v, w', h1, h2, h3, c, h4⟩ := bslS0 W
  exact ⟨v, w', h1, h2, h.so.on h3, fun b hb => by have := own_at h4 b hb; have := h.be.size; omega, h.fr, fun b hb e => by have := own_at h4 b hb; have := h.so.ow.lt e; omega, bt h.be h3⟩
theorem L50 (h : C0 a v W) : ∃ u w', (Instr.buildSlice 36 2 [(0, sp66.v), (1, sp66.v)].toArray).run Try.prog W = .ok u w' ∧ C05 a v u w' := by
  obtain ⟨u, w', h1, h2, h3, c, h4⟩ := bslSx W
  exact ⟨u, w', h1, h.so.on h3, h2, h.fr, fun b hb => by have := own_at h4 b hb; have := h.be.size; omega, fun b hb e => by have := own_at h4 b e; have := h.so.ow.lt hb; omega, bt h.be h3⟩
theorem L52 (h : C2 a l v W) : ∃ u w', (Instr.buildSlice 36 2 [(0, sp66.v), (1, sp66.v)].toArray).run Try.prog W = .ok u w' ∧ C25 a l v u w' := by
  obtain ⟨u, w', h1, h2, h3, c, h4⟩ := bslSx W
  exact ⟨u, w', h1, h.so.on h3, h2, h.fr, bt h.be h3⟩
theorem fr_app {v v' : Value} {W' : World} (hf : Fr a v) (hb : Below a.heap.size a W) (fx : Fx (fun b => v.ownBlock = some b) W W') (nw : Nw W v v') : Fr a v' ∧ Below a.heap.size a W' :=
  ⟨fun b hb' => by
    rcases nw b hb' with e | e
    · exact hf b e
    · have := hb.size; omega, hb.trans (fx.below (fun k hk e => by have := hf k e; omega) hb.size)⟩
theorem L2 (h : C0 a v W) (hL : Sl a vL l) (hl : l.length * 40 ≤ 140737488351232) : ∃ v' w', (Builtin.append_ #[36, 36] 36 #[v, vL]).run Try.prog W = .ok v' w' ∧ C2 a l v' w' := by
  obtain ⟨v', w', h1, h2, h3, h4⟩ := h.so.app (hL.on h.be) (by simp only [List.length_nil]; omega) 36
  have h5 := fr_app h.fr h.be h3 h4
  exact ⟨v', w', h1, by rw [List.nil_append] at h2; exact h2, h5.1, h5.2⟩
theorem L25 (h : C05 a v u W) (hL : Sl a vL l) (hl : l.length * 40 ≤ 140737488351232) : ∃ v' w', (Builtin.append_ #[36, 36] 36 #[v, vL]).run Try.prog W = .ok v' w' ∧ C25 a l v' u w' := by
  obtain ⟨v', w', h1, h2, h3, h4⟩ := h.so.app (hL.on h.be) (by simp only [List.length_nil]; omega) 36
  have h5 := fr_app h.fr h.be h3 h4
  exact ⟨v', w', h1, by rw [List.nil_append] at h2; exact h2, h.su.fx h3 (fun b hb e => h.ne b e hb), h5.1, h5.2⟩
theorem L6 (h : C25 a l v u W) (hl : l.length * 40 ≤ 140737488351232) : ∃ v' w', (Builtin.append_ #[36, 36] 36 #[v, u]).run Try.prog W = .ok v' w' ∧ C2 a (l ++ [sp66, sp66]) v' w' := by
  obtain ⟨v', w', h1, h2, h3, h4⟩ := h.so.app h.su.sl (by simp only [List.length_cons, List.length_nil]; omega) 36
  have h5 := fr_app h.fr h.be h3 h4
  exact ⟨v', w', h1, h2, h5.1, h5.2⟩
end
/-- The two tables, before there is a desk. -/
structure Pd (w : World) (p r q : Nat) (v : Value) (most : Nat) (E : List Me) (c : Nat) (L : List Sk) (W : World) : Prop where
  tb : Tb W p r most E c
  rt : Rt W q v most L
  pm : (E.map Me.sk).Perm L
  lt : L.Pairwise Lt
  le : E.length ≤ most
  mo : most ≤ 256
  lo : w.heap.size ≤ p ∧ w.heap.size ≤ r ∧ w.heap.size ≤ q
  lv : ∀ b, v.ownBlock = some b → w.heap.size ≤ b
  be : Below w.heap.size w W
theorem Pd.on {w : World} {p r q : Nat} {v : Value} {most : Nat} {E : List Me} {c : Nat} {L : List Sk} {W W' : World} (h : Pd w p r q v most E c L W) (hb : Below W.heap.size W W') : Pd w p r q v most E c L W' := ⟨h.tb.on hb, h.rt.on hb, h.pm, h.lt, h.le, h.mo, h.lo, h.lv, bt h.be hb⟩
theorem Pd.fx39 {w : World} {p r q g : Nat} {v : Value} {most : Nat} {E : List Me} {c : Nat} {L : List Sk} {W W' : World} {cs : List Value} (h : Pd w p r q v most E c L W) (hB : Blk W g cs 39) (f : Fx (fun k => k = g) W W') (hv : ∀ b, v.ownBlock = some b → b ≠ g) (h0 : w.heap.size ≤ g) : Pd w p r q v most E c L W' := ⟨h.tb.fx f (h.tb.bl.neT hB (by decide)) (h.tb.mp.neB hB), h.rt.fx f (h.rt.bl.neT hB (by decide)) (fun b hb e => hv b hb e), h.pm, h.lt, h.le, h.mo, h.lo, h.lv, bfx h.be f h0⟩
theorem b52 (p q : Nat) (w : World) : (Instr.build 52 [(0, .pointer (some ⟨p, 0, none⟩)), (1, .pointer (some ⟨q, 0, none⟩))].toArray).run Try.prog w = .ok (.agg [.pointer (some ⟨p, 0, none⟩), .pointer (some ⟨q, 0, none⟩)].toArray) w := by go_simp
theorem box52 (p q : Nat) (w : World) : ∃ w1 d, (Instr.box 52 (.agg [.pointer (some ⟨p, 0, none⟩), .pointer (some ⟨q, 0, none⟩)].toArray)).run Try.prog w = .ok (.pointer (some ⟨d, 0, none⟩)) w1 ∧ Blk w1 d [.pointer (some ⟨p, 0, none⟩), .pointer (some ⟨q, 0, none⟩)] 52 ∧ Below w.heap.size w w1 ∧ d = w.heap.size := ⟨_, _, run_boxR 52 _ w _ rfl, Blk.new _ _ _, below_new _ _, rfl⟩
theorem b55_4 (w : World) : (Instr.build 55 [(0, .int .i64 4)].toArray).run Try.prog w = .ok (opV 4 0 0 (.slice none 0 0)) w := by go_simp; try rfl
theorem b39_66 (w : World) : (Instr.build 39 [(0, .int .u32 66)].toArray).run Try.prog w = .ok sp66.v w := b39_1 66 w
theorem b39_77 (w : World) : (Instr.build 39 [(0, .int .u32 77)].toArray).run Try.prog w = .ok sp77.v w := b39_1 77 w
theorem l66a {l : List Sk} : (l ++ [sp66, sp66])[l.length]? = some sp66 := by simp
theorem l66b {l : List Sk} : (l ++ [sp66, sp66])[l.length + 1]? = some sp66 := by simp
def xE6 (m : Int) (vL vS : Value) (q : Nat) (vl : Value) : List (Nat × Value) := [(0, .int .i64 m), (1, vL), (2, vS), (11, .pointer (some ⟨q, 0, none⟩)), (12, vl)]
def xE12 (vS vk : Value) (d : Nat × Nat) : List (Nat × Value) := [(2, vS), (13, vk), (14, .pointer (some ⟨d.1, 0, none⟩)), (15, .pointer (some ⟨d.2, 0, none⟩))]
def X12 (w : World) (g : Nat) (vl : Value) (n : Nat) (d : Nat × Nat) (W : World) : Prop := (∃ r v most E c L, Pd w d.1 r d.2 v most E c L W ∧ (∀ b, v.ownBlock = some b → b ≠ g)) ∧ ∃ l, l.length = n ∧ So W vl l
def xE17 (vS vk : Value) (p q : Nat) (x : Nat) : List (Nat × Value) := [(2, vS), (13, vk), (14, .pointer (some ⟨p, 0, none⟩)), (15, .pointer (some ⟨q, 0, none⟩)), (16, .int .i64 (x : Int))]
def X17 (w : World) (p r q : Nat) (v : Value) (most : Nat) (E : List Me) (c : Nat) (L : List Sk) (vl : Value) (n : Nat) (x : Nat) (W : World) : Prop := x ≤ n ∧ Pd w p r q v most E c L W ∧ ∃ l, l.length = n + 2 ∧ So W vl l
def xE22 (vS : Value) (dk : Nat) (x : Nat) : List (Nat × Value) := [(2, vS), (17, .pointer (some ⟨dk, 0, none⟩)), (18, .int .i64 (x : Int))]
def X22 (w : World) (dk q most n : Nat) (x : Nat) (W : World) : Prop := x ≤ n ∧ ∃ p r v E c L, Ds w dk p r q v most E c L W
set_option maxRecDepth 100000 in
set_option maxHeartbeats 16000000 in
theorem exact_any (w : World) (m : Int) (vL vS : Value) (l : List Sk) (n : Nat) (hL : Sl w vL l) (hl : l.length * 40 ≤ 140737488351232) (hS : Scr w vS n) : Calls Try.prog 5 #[.int .i64 m, vL, vS] w fun e w' => e = .returned (.bool true) ∧ Below w.heap.size w w' := by
  refine calls_of_args [.int .i64 m, vL, vS] Try.func5 rfl 152 Try.ntmps5 (by show 3 ≤ 152; decide) ?_
  refine EW.seq ?_
  refine EW.region ?_
  first | refine WL.assign rfl rfl rfl ?_
  refine WL.done ?_
  refine EW.on ?_
  refine EW.seq ?_
  refine EW.region ?_
  first | refine WL.move rfl rfl rfl ?_
  refine WL.call [.int .i64 m] enter6 rfl rfl rfl (new_all m _) ?_
  rintro x1 w1 ⟨po1, rfl, sh1, is1, l1⟩
  refine ⟨_, rfl, ?_⟩
  first | refine WL.move rfl rfl rfl ?_
  first | refine WL.extract rfl rfl rfl (ext_2 _ _ _).1 ?_
  first | refine WL.extract rfl rfl rfl (ext_2 _ _ _).2 ?_
  first | refine WL.assign rfl rfl rfl ?_
  first | refine WL.assign rfl rfl rfl ?_
  refine WL.done ?_
  refine EW.on ?_
  refine EW.seq ?_
  refine EW.region ?_
  first | refine WL.move rfl rfl rfl ?_
  refine WL.call [.int .i64 m] enter14 rfl rfl rfl (rnew_all m _) ?_
  rintro x2 w2 ⟨po2, rfl, sh2, is2, l2⟩
  refine ⟨_, rfl, ?_⟩
  first | refine WL.move rfl rfl rfl ?_
  first | refine WL.extract rfl rfl rfl (ext_2 _ _ _).1 ?_
  first | refine WL.extract rfl rfl rfl (ext_2 _ _ _).2 ?_
  first | refine WL.assign rfl rfl rfl ?_
  first | refine WL.assign rfl rfl rfl ?_
  refine WL.done ?_
  refine EW.on ?_
  refine EW.seq ?_
  refine EW.seq ?_
  refine EW.region ?_
  first | refine WL.move rfl rfl rfl ?_
  first | refine WL.move rfl rfl rfl ?_
  refine WL.bin rfl rfl rfl rfl (int_ne_f rfl _ _ _) ?_
  first | refine WL.move rfl rfl rfl ?_
  first | refine WL.move rfl rfl rfl ?_ | refine WL.skip _ rfl rfl rfl ?_
  refine WL.bin rfl rfl rfl rfl (eqP24 sh1 _ _ _) ?_
  first | refine WL.move rfl rfl rfl ?_ | refine WL.skip _ rfl rfl rfl ?_
  refine WL.bin rfl rfl rfl rfl (eqP45 sh2 _ _ _) ?_
  refine WL.bin rfl rfl rfl rfl (ne4_same (is1.trans is2.symm) _ _ _) ?_
  first | refine WL.pick rfl rfl rfl rfl ?_
  refine WL.done ?_
  refine EW.on ?_
  refine EW.cond_f rfl ?_
  refine EW.skip ?_
  refine EW.on ?_
  refine EW.seq ?_
  obtain ⟨qS, wa, w5, ra, rs, bS, l5, _⟩ := newS w2 sp66 sp66k
  have be5 : Below w.heap.size w w5 := bt l1 (bt l2 l5)
  have hL5 := hL.on be5
  refine EW.region ?_
  refine WL.buildN [(0, .int .u32 66)] rfl rfl rfl (b39_66 _) ?_
  refine WL.new rfl rfl ra ?_
  refine WL.store rfl rfl rfl rs ?_
  refine WL.done ?_
  refine EW.on ?_
  refine EW.join (xE6 m vL vS qS) (C2 w5 (l ++ [sp66, sp66])) ?_ ?_
  · refine EW.az (SQ (fun W => Below w5.heap.size w5 W)) (levZ [(0, 1, 1), (2, 1, 1), (5, 1, 1), (6, 1, 1)]) (fun W => Below w5.heap.size w5 W) 8 (by kernel_rfl) rfl (below_drawn w5) ?_
    refine AZ.seg [(1, 0, 0), (3, 0, 1), (4, 0, 1)] 5 rfl (by kernel_rfl) (sq_anti _) (by kernel_rfl) ?_
    simp only [opsZ, List.getD_cons_zero, List.getD_cons_succ]
    first | refine ZE.move rfl rfl rfl rfl sq0 ?_
    refine ZE.load rfl rfl rfl rfl (fun W h => .inr h) (fun W hW => ld39 (bS.on (sq_of hW)) sp66k) ?_
    refine ZE.load rfl rfl rfl rfl (fun W h => .inr h) (fun W hW => ld39 (bS.on (sq_of hW)) sp66k) ?_
    refine AZ.two 4 0 1 5 1 rfl (by kernel_rfl) ?_ ?_
    · simp only [List.getD_cons_zero, List.getD_cons_succ]
      refine ZE.bsl [] (C0 w5) rfl rfl rfl (fun _ _ h => .inr h.be) (fun W hW => L0 hW) ?_
      rintro v40 _
      refine AZ.two 3 2 1 5 1 rfl (by kernel_rfl) ?_ ?_
      · simp only [List.getD_cons_zero, List.getD_cons_succ]
        refine ZE.app (C2 w5 l) rfl rfl rfl rfl (fun _ _ h => .inr h.be) (fun W hW => L2 hW hL5 hl) ?_
        rintro v42 _
        refine AZ.seg [(5, 1, 1), (6, 1, 1), (7, 0, 0)] 0 rfl (by kernel_rfl) (sq_anti _) (by kernel_rfl) ?_
        simp only [opsZ, List.getD_cons_zero, List.getD_cons_succ]
        refine ZE.bsl [(0, sp66.v), (1, sp66.v)] (C25 w5 l v42) rfl rfl rfl (fun _ _ h => .inr h.be) (fun W hW => L52 hW) ?_
        rintro v45 _
        refine ZE.app (C2 w5 (l ++ [sp66, sp66])) rfl rfl rfl rfl (fun _ _ h => .inr h.be) (fun W hW => L6 hW hl) ?_
        rintro v46 _
        first | refine ZE.assign rfl rfl rfl rfl sq0 ?_
        refine AZ.done (by kernel_rfl) ?_
        rintro w6 h6
        exact EW.met v46 [0, 1, 2, 11, 12] rfl h6
      · simp only [List.getD_cons_zero, List.getD_cons_succ]
        refine ZE.bsl [(0, sp66.v), (1, sp66.v)] (C05 w5 v40) rfl rfl rfl (fun _ _ h => .inr h.be) (fun W hW => L50 hW) ?_
        rintro v45 _
        refine AZ.seg [(2, 1, 1), (6, 1, 1), (7, 0, 0)] 0 rfl (by kernel_rfl) (sq_anti _) (by kernel_rfl) ?_
        simp only [opsZ, List.getD_cons_zero, List.getD_cons_succ]
        refine ZE.app (fun v => C25 w5 l v v45) rfl rfl rfl rfl (fun _ _ h => .inr h.be) (fun W hW => L25 hW hL5 hl) ?_
        rintro v42 _
        refine ZE.app (C2 w5 (l ++ [sp66, sp66])) rfl rfl rfl rfl (fun _ _ h => .inr h.be) (fun W hW => L6 hW hl) ?_
        rintro v46 _
        first | refine ZE.assign rfl rfl rfl rfl sq0 ?_
        refine AZ.done (by kernel_rfl) ?_
        rintro w6 h6
        exact EW.met v46 [0, 1, 2, 11, 12] rfl h6
    · simp only [List.getD_cons_zero, List.getD_cons_succ]
      refine ZE.bsl [(0, sp66.v), (1, sp66.v)] (C5 w5) rfl rfl rfl (fun _ _ h => .inr h.be) (fun W hW => L5 hW) ?_
      rintro v45 _
      refine AZ.seg [(0, 1, 1), (2, 1, 1), (6, 1, 1), (7, 0, 0)] 0 rfl (by kernel_rfl) (sq_anti _) (by kernel_rfl) ?_
      simp only [opsZ, List.getD_cons_zero, List.getD_cons_succ]
      refine ZE.bsl [] (fun v => C05 w5 v v45) rfl rfl rfl (fun _ _ h => .inr h.be) (fun W hW => L05 hW) ?_
      rintro v40 _
      refine ZE.app (fun v => C25 w5 l v v45) rfl rfl rfl rfl (fun _ _ h => .inr h.be) (fun W hW => L25 hW hL5 hl) ?_
      rintro v42 _
      refine ZE.app (C2 w5 (l ++ [sp66, sp66])) rfl rfl rfl rfl (fun _ _ h => .inr h.be) (fun W hW => L6 hW hl) ?_
      rintro v46 _
      first | refine ZE.assign rfl rfl rfl rfl sq0 ?_
      refine AZ.done (by kernel_rfl) ?_
      rintro w6 h6
      exact EW.met v46 [0, 1, 2, 11, 12] rfl h6
  · rintro vl w6 h6
    have be6 := bt be5 h6.be
    have bS6 := bS.on h6.be
    obtain ⟨g, gc, hvl⟩ : ∃ g gc, vl = .slice (some ⟨g, 0, none⟩) (l.length + 2) gc := by
      rcases h6.so.ow.addr with ⟨_, e⟩ | ⟨g, gc, e⟩
      · have := congrArg List.length e
        rw [scs_len] at this
        simp at this
      · exact ⟨g, gc, by rw [e, scs_len, List.length_append]; rfl⟩
    have hgw : w5.heap.size ≤ g := h6.fr g (by rw [hvl]; rfl)
    have hg6 : g < w6.heap.size := h6.so.ow.lt (by rw [hvl]; rfl)
    have hgc : l.length + 2 ≤ gc := by
      rcases h6.so.sl.li.sl with ⟨e, _⟩ | ⟨ad, cap, e, h9⟩
      · rw [hvl] at e; cases e
      · rw [hvl] at e
        rw [scs_len, List.length_append] at h9
        injection e with e1 e2 e3
        rw [e3]
        exact h9
    obtain ⟨vk, hvke⟩ : ∃ vk, vk = Value.slice (some ⟨g, 0, none⟩) l.length gc := ⟨_, rfl⟩
    have hcut : (Instr.sliceAt 36 vl none (some (.int .i64 (l.length : Int))) none).run Try.prog w6 = .ok vk w6 := by rw [hvl, hvke]; exact cutSx _ _ _ _ (by omega) hgc _
    have kvk : Sl w6 vk l := ⟨by
      have h9 := h6.so.sl.li
      rw [hvl, show l.length + 2 = (scs (l ++ [sp66, sp66])).length by rw [scs_len, List.length_append]; rfl] at h9
      have h8 := h9.cut l.length (by rw [scs_len, List.length_append]; omega)
      rw [scs_app, List.take_left' (scs_len l), ← hvke] at h8
      exact h8, hL.ok⟩
    show EW _ _ _ _ [(0, .int .i64 m), (1, vL), (2, vS), (11, .pointer (some ⟨qS, 0, none⟩)), (12, vl)] _
    refine EW.seq ?_
    refine EW.region ?_
    first | refine WL.move rfl rfl rfl ?_
    first | refine WL.move rfl rfl rfl ?_
    refine WL.len rfl rfl rfl (hL.len _ _) ?_
    refine WL.sliceH rfl rfl rfl rfl hcut ?_
    first | refine WL.assign rfl rfl rfl ?_
    refine WL.done ?_
    refine EW.on ?_
    refine EW.seq ?_
    refine EW.region ?_
    first | refine WL.move rfl rfl rfl ?_
    first | refine WL.move rfl rfl rfl ?_
    refine WL.call [.int .i64 m, vk] enter15 rfl rfl rfl (load_all m kvk (by omega)) ?_
    rintro x8 w8 ⟨po8, rfl, sh8, is8, l8, hp8⟩
    refine ⟨_, rfl, ?_⟩
    first | refine WL.move rfl rfl rfl ?_
    first | refine WL.extract rfl rfl rfl (ext_2 _ _ _).1 ?_
    first | refine WL.extract rfl rfl rfl (ext_2 _ _ _).2 ?_
    first | refine WL.assign rfl rfl rfl ?_
    first | refine WL.assign rfl rfl rfl ?_
    refine WL.done ?_
    refine EW.on ?_
    refine EW.seq ?_
    refine EW.region ?_
    first | refine WL.move rfl rfl rfl ?_
    first | refine WL.move rfl rfl rfl ?_
    refine WL.call [.int .i64 m, vL] enter16 rfl rfl rfl (rload_all m (hL.on (bt be6 l8)) (by omega)) ?_
    rintro x9 w9 ⟨po9, rfl, sh9, is9, l9, hp9⟩
    refine ⟨_, rfl, ?_⟩
    first | refine WL.move rfl rfl rfl ?_
    first | refine WL.extract rfl rfl rfl (ext_2 _ _ _).1 ?_
    first | refine WL.extract rfl rfl rfl (ext_2 _ _ _).2 ?_
    first | refine WL.assign rfl rfl rfl ?_
    first | refine WL.assign rfl rfl rfl ?_
    refine WL.done ?_
    refine EW.on ?_
    refine EW.seq ?_
    refine EW.seq ?_
    have be9 : Below w.heap.size w w9 := bt be6 (bt l8 l9)
    have l69 := bt l8 l9
    have hL9 := hL.on be9
    have kv9 := kvk.on l69
    have so9 := h6.so.on l69
    have sl9 := so9.sl
    have bS9 := bS6.on l69
    obtain ⟨ada, ixa, lda⟩ := sl9.get l66a
    obtain ⟨adb, ixb, ldb⟩ := sl9.get l66b
    refine EW.ordB [(0, 0, 0), (1, 0, 0), (2, 0, 0), (3, 0, 0), (4, 0, 0), (5, 0, 0), (6, 0, 0), (7, 0, 0), (8, 0, 0), (9, 0, 0), (10, 0, 0), (11, 0, 0), (12, 0, 0), (13, 1, 1), (14, 0, 0), (15, 0, 0), (16, 0, 0), (17, 0, 0), (18, 0, 0), (19, 0, 0), (20, 0, 0), (21, 0, 1), (22, 0, 1), (23, 0, 0), (24, 0, 0), (25, 0, 0), (26, 0, 0), (27, 0, 0), (28, 0, 0), (29, 0, 0), (30, 0, 0), (31, 0, 1), (32, 0, 1), (33, 0, 0), (34, 0, 0)] (by kernel_rfl) rfl (by kernel_rfl) ?_
    simp only [opsZ, List.getD_cons_zero, List.getD_cons_succ]
    first | refine ZE.move rfl rfl rfl rfl sz0 ?_
    first | refine ZE.move rfl rfl rfl rfl sz0 ?_
    refine ZE.bin rfl rfl rfl rfl rfl sz0 (fun W => int_ne_f rfl W _ _) ?_
    first | refine ZE.move rfl rfl rfl rfl sz0 ?_
    first | refine ZE.move rfl rfl rfl rfl sz0 ?_ | refine ZE.skip rfl rfl rfl sz0 ?_
    refine ZE.bin rfl rfl rfl rfl rfl sz0 (fun W => eqP24 sh8 W _ _) ?_
    first | refine ZE.move rfl rfl rfl rfl sz0 ?_ | refine ZE.skip rfl rfl rfl sz0 ?_
    refine ZE.bin rfl rfl rfl rfl rfl sz0 (fun W => eqP45 sh9 W _ _) ?_
    refine ZE.bin rfl rfl rfl rfl rfl sz0 (fun W => ne4_same (is8.trans is9.symm) W _ _) ?_
    first | refine ZE.pick rfl rfl rfl rfl rfl sz0 ?_
    first | refine ZE.move rfl rfl rfl rfl sz0 ?_
    first | refine ZE.move rfl rfl rfl rfl sz0 ?_ | refine ZE.skip rfl rfl rfl sz0 ?_
    first | refine ZE.move rfl rfl rfl rfl sz0 ?_ | refine ZE.skip rfl rfl rfl sz0 ?_
    refine ZE.callV [vk, vL] (.bool true) (fun W => Below w9.heap.size w9 W) enter13 rfl rfl rfl (fun _ h => .inr h) (fun W hW => (sameL_any (kv9.on hW) (hL9.on hW) (by omega)).mono fun e w' ⟨h1, h2⟩ => ⟨h1, bt hW h2⟩) ?_
    refine ZE.un rfl rfl rfl rfl sz0 (fun W => not_t _ W) ?_
    first | refine ZE.pick rfl rfl rfl rfl rfl sz0 ?_
    first | refine ZE.move rfl rfl rfl rfl sz0 ?_
    first | refine ZE.move rfl rfl rfl rfl sz0 ?_ | refine ZE.skip rfl rfl rfl sz0 ?_
    first | refine ZE.move rfl rfl rfl rfl sz0 ?_ | refine ZE.skip rfl rfl rfl sz0 ?_
    refine ZE.len rfl rfl rfl rfl sz0 (fun W => kvk.len W _) ?_
    refine ZE.index rfl rfl rfl rfl rfl sz0 ixa ?_
    refine ZE.load rfl rfl rfl rfl sz1 (fun W hW => (lda W (sl9.on (sb_of hW))).1) ?_
    refine ZE.load rfl rfl rfl rfl sz1 (fun W hW => ld39 (bS9.on (sb_of hW)) sp66k) ?_
    refine ZE.bin rfl rfl rfl rfl rfl sz0 (fun W => neq39_same sp66k W _ _) ?_
    first | refine ZE.pick rfl rfl rfl rfl rfl sz0 ?_
    first | refine ZE.move rfl rfl rfl rfl sz0 ?_
    first | refine ZE.move rfl rfl rfl rfl sz0 ?_ | refine ZE.skip rfl rfl rfl sz0 ?_
    first | refine ZE.move rfl rfl rfl rfl sz0 ?_ | refine ZE.skip rfl rfl rfl sz0 ?_
    refine ZE.len rfl rfl rfl rfl sz0 (fun W => kvk.len W _) ?_
    refine ZE.bin rfl rfl rfl rfl rfl sz0 (fun W => int_add (c := ((l.length + 1 : Nat) : Int)) (by rw [IntKind.wrap_i64]; omega) W _ _) ?_
    refine ZE.index rfl rfl rfl rfl rfl sz0 ixb ?_
    refine ZE.load rfl rfl rfl rfl sz1 (fun W hW => (ldb W (sl9.on (sb_of hW))).1) ?_
    refine ZE.load rfl rfl rfl rfl sz1 (fun W hW => ld39 (bS9.on (sb_of hW)) sp66k) ?_
    refine ZE.bin rfl rfl rfl rfl rfl sz0 (fun W => neq39_same sp66k W _ _) ?_
    first | refine ZE.pick rfl rfl rfl rfl rfl sz0 ?_
    rintro w10 hW10
    have be9 := bt be9 hW10
    have so9 := so9.on hW10
    refine EW.on ?_
    refine EW.cond_f rfl ?_
    refine EW.skip ?_
    refine EW.on ?_
    refine EW.join (xE12 vS vk) (X12 w g vl (l.length + 2)) ?_ ?_
    · refine EW.seq ?_
      refine EW.region ?_
      first | refine WL.move rfl rfl rfl ?_
      refine WL.bin rfl rfl rfl rfl (eqP24d sh8 _ _ _) ?_
      refine WL.done ?_
      refine EW.on ?_
      refine EW.cond_d rfl (fun h99 => ?_) (fun h99 => ?_)
      · refine EW.seq ?_
        refine EW.region ?_
        refine WL.call [.int .i64 4] enter6 rfl rfl rfl (new_ok 4 (by decide) _) ?_
        rintro x13 w13 ⟨p, r, rfl, tb13, hp, hr, l13⟩
        refine ⟨_, rfl, ?_⟩
        first | refine WL.move rfl rfl rfl ?_
        first | refine WL.extract rfl rfl rfl (ext_2 _ _ _).1 ?_
        first | refine WL.extract rfl rfl rfl (ext_2 _ _ _).2 ?_
        first | refine WL.assign rfl rfl rfl ?_
        first | refine WL.assign rfl rfl rfl ?_
        refine WL.done ?_
        refine EW.on ?_
        refine EW.seq ?_
        refine EW.region ?_
        refine WL.call [.int .i64 4] enter14 rfl rfl rfl (rnew_ok 4 (by decide) _) ?_
        rintro x14 w14 ⟨q, rfl, rt14, hq, l14⟩
        refine ⟨_, rfl, ?_⟩
        first | refine WL.move rfl rfl rfl ?_
        first | refine WL.extract rfl rfl rfl (ext_2 _ _ _).1 ?_
        first | refine WL.extract rfl rfl rfl (ext_2 _ _ _).2 ?_
        first | refine WL.assign rfl rfl rfl ?_
        first | refine WL.assign rfl rfl rfl ?_
        refine WL.done ?_
        refine EW.on ?_
        refine EW.seq ?_
        refine EW.region ?_
        first | refine WL.move rfl rfl rfl ?_
        refine WL.bin rfl rfl rfl rfl (neP p _ _ _) ?_
        first | refine WL.move rfl rfl rfl ?_
        first | refine WL.move rfl rfl rfl ?_ | refine WL.skip _ rfl rfl rfl ?_
        refine WL.bin rfl rfl rfl rfl (int_ne_f rfl _ _ _) ?_
        first | refine WL.pick rfl rfl rfl rfl ?_
        first | refine WL.move rfl rfl rfl ?_
        first | refine WL.move rfl rfl rfl ?_ | refine WL.skip _ rfl rfl rfl ?_
        refine WL.bin rfl rfl rfl rfl (int_ne_f rfl _ _ _) ?_
        first | refine WL.pick rfl rfl rfl rfl ?_
        refine WL.done ?_
        refine EW.on ?_
        refine EW.cond_f rfl ?_
        refine EW.skip ?_
        exact EW.met (p, q) [2, 13, 14, 15] rfl ⟨⟨r, _, 4, [], 0, [], ⟨tb13.on l14, rt14, List.Perm.refl _, List.Pairwise.nil, Nat.zero_le _, by decide, ⟨by have := be9.size; omega, by have := be9.size; omega, by have := be9.size; have := l13.size; omega⟩, fun b hb => (by cases hb), bt be9 (bt l13 l14)⟩, fun b hb => (by cases hb)⟩, _, (by rw [List.length_append]; rfl), so9.on (bt l13 l14)⟩
      · refine EW.skip ?_
        have h99 : po8.isNone = false := Bool.eq_false_iff.2 h99
        have hN0 : ldN m l = 0 := by
          have h9 := is8
          rw [h99] at h9
          simpa using h9
        obtain ⟨p, r, hp, tb8, hp1, hr1⟩ := hp8 h99
        obtain ⟨q, u, hq, rt9, hq1, hu1⟩ := hp9 (by rw [is9, hN0]; rfl)
        obtain ⟨n1, n2, n3, n4⟩ := ldN0 hN0
        subst hp hq
        exact EW.met (p, q) [2, 13, 14, 15] rfl ⟨⟨r, u, m.toNat, lodE l, l.length, l, ⟨tb8.on (bt l9 hW10), rt9.on hW10, by rw [lodE_sk], n4, by rw [lodE_len]; omega, by omega, ⟨by have := be6.size; omega, by have := be6.size; omega, by have := be6.size; have := l8.size; omega⟩, fun b hb => (by have := (hu1 b hb).1; have := be6.size; have := l8.size; omega), be9⟩, fun b hb => (by have := (hu1 b hb).1; have := l8.size; omega)⟩, _, (by rw [List.length_append]; rfl), so9⟩
    · rintro d w12 ⟨⟨r, v, most, E, c, L, P12, hvg⟩, l12, hl12, so12⟩
      show EW _ _ _ _ [(2, vS), (13, vk), (14, .pointer (some ⟨d.1, 0, none⟩)), (15, .pointer (some ⟨d.2, 0, none⟩))] _
      refine EW.seq ?_
      refine EW.seq ?_
      refine EW.region ?_
      first | refine WL.assign rfl rfl rfl ?_
      refine WL.done ?_
      refine EW.on ?_
      refine EW.block ?_
      refine EW.loop (xE17 vS vk d.1 d.2) (X17 w d.1 r d.2 v most E c L vl l.length) (fun x => l.length - x) 0 [2, 13, 14, 15, 16] rfl ⟨Nat.zero_le _, P12, l12, hl12, so12⟩ ?_
      rintro x wj ⟨hxl, Px, lx, hlx, sox⟩
      show EW _ _ _ _ [(2, vS), (13, vk), (14, .pointer (some ⟨d.1, 0, none⟩)), (15, .pointer (some ⟨d.2, 0, none⟩)), (16, .int .i64 (x : Int))] _
      refine EW.seq ?_
      refine EW.seq ?_
      refine EW.region ?_
      first | refine WL.move rfl rfl rfl ?_
      first | refine WL.move rfl rfl rfl ?_
      refine WL.len rfl rfl rfl (kvk.len _ _) ?_
      refine WL.bin rfl rfl rfl rfl (int_lt_d _ _ _ _ _) ?_
      refine WL.done ?_
      refine EW.on ?_
      refine EW.cond_d rfl (fun h121 => ?_) (fun h121 => ?_)
      · refine EW.skip ?_
        refine EW.on ?_
        refine EW.seq ?_
        refine EW.block ?_
        have hlt : x < l.length := by omega
        obtain ⟨csg, hBg⟩ : ∃ cs, Blk wj g cs 39 := sox.ow.blk (b := g) (by rw [hvl]; rfl)
        rw [hvl] at sox
        obtain ⟨w7, rs2, sos, fs⟩ := sox.set (i := x) (s := sp77) (by omega) sp77k
        rw [← hvl] at sos
        have P7 := Px.fx39 hBg fs hvg (by have := be5.size; omega)
        have ixs : (Instr.indexAt 36 vk (.int .i64 (x : Int))).run Try.prog wj = .ok (.pointer (some ((⟨g, 0, none⟩ : Addr).add (x * 34)))) wj := by rw [hvke]; exact idx36 _ _ _ _ hlt _
        refine EW.region ?_
        first | refine WL.move rfl rfl rfl ?_
        first | refine WL.move rfl rfl rfl ?_
        refine WL.buildN [(0, .int .u32 77)] rfl rfl rfl (b39_77 _) ?_
        refine WL.index rfl rfl rfl rfl ixs ?_
        refine WL.store rfl rfl rfl rs2 ?_
        refine WL.done ?_
        refine pn_block ?_
        refine EW.on ?_
        refine EW.region ?_
        first | refine WL.move rfl rfl rfl ?_
        refine WL.bin rfl rfl rfl rfl (int_add (c := ((x + 1 : Nat) : Int)) (by rw [IntKind.wrap_i64]; omega) _ _ _) ?_
        first | refine WL.assign rfl rfl rfl ?_
        refine WL.done ?_
        exact EW.again (E := xE17 vS vk d.1 d.2) (R := (X17 w d.1 r d.2 v most E c L vl l.length)) (m := fun x => l.length - x) (x := x) (x + 1) [2, 13, 14, 15, 16] rfl ⟨by omega, P7, _, (by rw [List.length_set]; exact hlx), sos⟩ (by show l.length - (x + 1) < l.length - x; omega)
      · refine EW.exit ?_
        refine px_then ?_
        refine px_then ?_
        refine px_block ?_
        refine EW.on ?_
        refine EW.seq ?_
        obtain ⟨w21, dk, rk, bk, lk, hdk⟩ := box52 d.1 d.2 wj
        have P21 := Px.on lk
        have D0 : Ds w dk d.1 r d.2 v most E c L w21 := ⟨bk, P21.tb, P21.rt, P21.pm, P21.lt, P21.le, P21.mo, ⟨by have := Px.be.size; omega, P21.lo⟩, P21.lv, P21.be⟩
        refine EW.region ?_
        first | refine WL.move rfl rfl rfl ?_
        first | refine WL.move rfl rfl rfl ?_
        refine WL.buildN [(0, .pointer (some ⟨d.1, 0, none⟩)), (1, .pointer (some ⟨d.2, 0, none⟩))] rfl rfl rfl (b52 _ _ _) ?_
        refine WL.box rfl rfl rfl rk ?_
        first | refine WL.assign rfl rfl rfl ?_
        refine WL.done ?_
        refine EW.on ?_
        refine EW.seq ?_
        refine EW.seq ?_
        refine EW.region ?_
        first | refine WL.assign rfl rfl rfl ?_
        refine WL.done ?_
        refine EW.on ?_
        refine EW.block ?_
        refine EW.loop (xE22 vS dk) (X22 w dk d.2 most n) (fun x => n - x) 0 [2, 17, 18] rfl ⟨Nat.zero_le _, _, _, _, _, _, _, D0⟩ ?_
        rintro x wz ⟨hxn, p1, r1, v1, E1, c1, L1, Dx⟩
        show EW _ _ _ _ [(2, vS), (17, .pointer (some ⟨dk, 0, none⟩)), (18, .int .i64 (x : Int))] _
        refine EW.seq ?_
        refine EW.seq ?_
        rcases (show ((x : Int) < (n : Int) ∧ (x : Int) < 200) ∨ ((x : Int) < (n : Int) ∧ ¬ (x : Int) < 200) ∨ ¬ (x : Int) < (n : Int) by omega) with ⟨hx1, hx2⟩ | ⟨hx1, hx2⟩ | hx1
        · refine EW.region ?_
          first | refine WL.move rfl rfl rfl ?_
          first | refine WL.move rfl rfl rfl ?_
          refine WL.len rfl rfl rfl (hS.len _ _) ?_
          refine WL.bin rfl rfl rfl rfl (int_lt_t hx1 _ _ _) ?_
          first | refine WL.move rfl rfl rfl ?_
          first | refine WL.move rfl rfl rfl ?_ | refine WL.skip _ rfl rfl rfl ?_
          first | refine WL.bin rfl rfl rfl rfl (int_lt_t hx2 _ _ _) ?_ | refine WL.bin rfl rfl rfl rfl (int_lt_f hx2 _ _ _) ?_ | refine WL.skip _ rfl rfl rfl ?_
          first | refine WL.pick rfl rfl rfl rfl ?_
          refine WL.done ?_
          refine EW.on ?_
          refine EW.cond_t rfl ?_
          refine EW.skip ?_
          refine EW.on ?_
          refine EW.seq ?_
          refine EW.block ?_
          refine EW.seq ?_
          obtain ⟨X, hX, ado, ixo, ldo⟩ := hS.at_ x (by omega)
          refine EW.region ?_
          first | refine WL.move rfl rfl rfl ?_
          first | refine WL.move rfl rfl rfl ?_
          first | refine WL.move rfl rfl rfl ?_
          refine WL.index rfl rfl rfl rfl (ixo _) ?_
          refine WL.load rfl rfl rfl (ldo _ Dx.be) ?_
          refine WL.call [.pointer (some ⟨dk, 0, none⟩), opV X.kd X.t X.n X.kw] enter17 rfl rfl rfl (step_any Dx X hX) ?_
          rintro x25 w25 ⟨rfl, p2, r2, v2, E2, c2, L2, D25⟩
          refine ⟨_, rfl, ?_⟩
          refine WL.un rfl rfl rfl (not_t _ _) ?_
          refine WL.done ?_
          refine EW.on ?_
          refine EW.cond_f rfl ?_
          refine EW.skip ?_
          refine pn_block ?_
          refine EW.on ?_
          refine EW.region ?_
          first | refine WL.move rfl rfl rfl ?_
          refine WL.bin rfl rfl rfl rfl (int_add (c := ((x + 1 : Nat) : Int)) (by rw [IntKind.wrap_i64]; omega) _ _ _) ?_
          first | refine WL.assign rfl rfl rfl ?_
          refine WL.done ?_
          exact EW.again (E := xE22 vS dk) (R := (X22 w dk d.2 most n)) (m := fun x => n - x) (x := x) (x + 1) [2, 17, 18] rfl ⟨by omega, _, _, _, _, _, _, D25⟩ (by show n - (x + 1) < n - x; omega)
        · refine EW.region ?_
          first | refine WL.move rfl rfl rfl ?_
          first | refine WL.move rfl rfl rfl ?_
          refine WL.len rfl rfl rfl (hS.len _ _) ?_
          refine WL.bin rfl rfl rfl rfl (int_lt_t hx1 _ _ _) ?_
          first | refine WL.move rfl rfl rfl ?_
          first | refine WL.move rfl rfl rfl ?_ | refine WL.skip _ rfl rfl rfl ?_
          first | refine WL.bin rfl rfl rfl rfl (int_lt_t hx2 _ _ _) ?_ | refine WL.bin rfl rfl rfl rfl (int_lt_f hx2 _ _ _) ?_ | refine WL.skip _ rfl rfl rfl ?_
          first | refine WL.pick rfl rfl rfl rfl ?_
          refine WL.done ?_
          refine EW.on ?_
          refine EW.cond_f rfl ?_
          refine EW.exit ?_
          refine px_then ?_
          refine px_then ?_
          refine px_block ?_
          refine EW.on ?_
          refine EW.seq ?_
          refine EW.region ?_
          first | refine WL.move rfl rfl rfl ?_
          refine WL.buildN [(0, .int .i64 4)] rfl rfl rfl (b55_4 _) ?_
          refine WL.call [.pointer (some ⟨dk, 0, none⟩), opV 4 0 0 (.slice none 0 0)] enter17 rfl rfl rfl (step_list Dx 0 0 _) ?_
          rintro x27 w27 ⟨rfl, p2, r2, v2, E2, c2, L2, D27⟩
          refine ⟨_, rfl, ?_⟩
          first | refine WL.assign rfl rfl rfl ?_
          refine WL.done ?_
          refine EW.on ?_
          refine EW.ret ?_
          exact EW.returns Try.results5 rfl ⟨rfl, D27.be⟩
        · refine EW.region ?_
          first | refine WL.move rfl rfl rfl ?_
          first | refine WL.move rfl rfl rfl ?_
          refine WL.len rfl rfl rfl (hS.len _ _) ?_
          refine WL.bin rfl rfl rfl rfl (int_lt_f hx1 _ _ _) ?_
          first | refine WL.move rfl rfl rfl ?_
          first | refine WL.move rfl rfl rfl ?_ | refine WL.skip _ rfl rfl rfl ?_
          first | refine WL.bin rfl rfl rfl rfl (int_lt_t hx2 _ _ _) ?_ | refine WL.bin rfl rfl rfl rfl (int_lt_f hx2 _ _ _) ?_ | refine WL.skip _ rfl rfl rfl ?_
          first | refine WL.pick rfl rfl rfl rfl ?_
          refine WL.done ?_
          refine EW.on ?_
          refine EW.cond_f rfl ?_
          refine EW.exit ?_
          refine px_then ?_
          refine px_then ?_
          refine px_block ?_
          refine EW.on ?_
          refine EW.seq ?_
          refine EW.region ?_
          first | refine WL.move rfl rfl rfl ?_
          refine WL.buildN [(0, .int .i64 4)] rfl rfl rfl (b55_4 _) ?_
          refine WL.call [.pointer (some ⟨dk, 0, none⟩), opV 4 0 0 (.slice none 0 0)] enter17 rfl rfl rfl (step_list Dx 0 0 _) ?_
          rintro x27 w27 ⟨rfl, p2, r2, v2, E2, c2, L2, D27⟩
          refine ⟨_, rfl, ?_⟩
          first | refine WL.assign rfl rfl rfl ?_
          refine WL.done ?_
          refine EW.on ?_
          refine EW.ret ?_
          exact EW.returns Try.results5 rfl ⟨rfl, D27.be⟩
end Go.Proofs.Ytggehhlobjjmpaa
