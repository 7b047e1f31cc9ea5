import Derived.Test.YtplfelfmkgjijaaNc
set_option linter.unusedVariables false
set_option linter.unusedSimpArgs false
namespace Go.Proofs.Ytplfelfmkgjijaa
open Go.RowKit

section
variable {P : Program} {n : Nat} {ops : Array Oper} {Q : Exit → Act → World → Prop} {i : Nat} {ty : TypeId} {ps : String} {af : Array Edge} {gd : Option (Nat × Bool)} {r : List Oper} {e : List (Nat × Value)} {w w' : World}
theorem WL.mkm {t : TypeId} {v : Value} (hw : wantE ops e ⟨some i, .makeMap t none, ty, ps, af, gd⟩ = some true) (hi : decide (i < n) = true) (hr : (Instr.makeMap t none).run P w = .ok v w') (k : WL P n ops Q r ((i, v) :: e) w') : WL P n ops Q (⟨some i, .makeMap t none, ty, ps, af, gd⟩ :: r) e w :=
  WL.op i v hw rfl hi (fun a ha => by simp [execOp, hr, Result.andThen]) k
theorem WL.lk {t : TypeId} {x y : Operand} {b : Bool} {u u' v : Value} (hw : wantE ops e ⟨some i, .lookup t x y b, ty, ps, af, gd⟩ = some true) (hi : decide (i < n) = true) (hx : evE e x = some u) (hy : evE e y = some u') (hr : (Instr.lookup t u u' b).run P w = .ok v w) (k : WL P n ops Q r ((i, v) :: e) w) : WL P n ops Q (⟨some i, .lookup t x y b, ty, ps, af, gd⟩ :: r) e w :=
  WL.op i v hw rfl hi (fun a ha => by simp [execOp, ha.ev hx, ha.ev hy, hr, Result.andThen]) k
theorem WL.rng {t : TypeId} {x : Operand} {u v : Value} (hw : wantE ops e ⟨some i, .range t x, ty, ps, af, gd⟩ = some true) (hi : decide (i < n) = true) (hx : evE e x = some u) (hr : (Instr.range t u).run P w = .ok v w') (k : WL P n ops Q r ((i, v) :: e) w') : WL P n ops Q (⟨some i, .range t x, ty, ps, af, gd⟩ :: r) e w :=
  WL.op i v hw rfl hi (fun a ha => by simp [execOp, ha.ev hx, hr, Result.andThen]) k
theorem WL.nxt {x : Operand} {b : Bool} {u v : Value} (hw : wantE ops e ⟨some i, .next x b, ty, ps, af, gd⟩ = some true) (hi : decide (i < n) = true) (hx : evE e x = some u) (hr : (Instr.next u b ty).run P w = .ok v w') (k : WL P n ops Q r ((i, v) :: e) w') : WL P n ops Q (⟨some i, .next x b, ty, ps, af, gd⟩ :: r) e w :=
  WL.op i v hw rfl hi (fun a ha => by simp [execOp, ha.ev hx, hr, Result.andThen]) k
theorem WL.ent {x : Operand} {u v : Value} (hw : wantE ops e ⟨some i, .entry x, ty, ps, af, gd⟩ = some true) (hi : decide (i < n) = true) (hx : evE e x = some u) (hr : (Instr.entry u).run P w = .ok v w) (k : WL P n ops Q r ((i, v) :: e) w) : WL P n ops Q (⟨some i, .entry x, ty, ps, af, gd⟩ :: r) e w :=
  WL.op i v hw rfl hi (fun a ha => by simp [execOp, ha.ev hx, hr, Result.andThen]) k
theorem WL.mup {t : TypeId} {x y z : Operand} {u u' u'' : Value} (hw : wantE ops e ⟨none, .mapUpdate t x y z, ty, ps, af, gd⟩ = some true) (hx : evE e x = some u) (hy : evE e y = some u') (hz : evE e z = some u'') (hr : (Instr.mapUpdate t u u' u'').run P w = .ok () w') (k : WL P n ops Q r e w') : WL P n ops Q (⟨none, .mapUpdate t x y z, ty, ps, af, gd⟩ :: r) e w :=
  WL.eff hw rfl (fun a ha => by simp [execOp, ha.ev hx, ha.ev hy, ha.ev hz, hr, Result.andThen]) k
theorem WL.del {x y : Operand} {ts : Array TypeId} {u u' v : Value} (hw : wantE ops e ⟨none, .call { callee := .builtin .delete, args := #[x, y], argTypes := ts }, ty, ps, af, gd⟩ = some true) (hx : evE e x = some u) (hy : evE e y = some u') (hr : (Builtin.delete_ ts ty #[u, u']).run P w = .ok v w') (k : WL P n ops Q r e w') : WL P n ops Q (⟨none, .call { callee := .builtin .delete, args := #[x, y], argTypes := ts }, ty, ps, af, gd⟩ :: r) e w := fun a ha => by
  unfold wpList
  rw [if_pos (wantE_spec ha hw)]
  left
  have h1 : (execOp a.eval ⟨none, .call { callee := .builtin .delete, args := #[x, y], argTypes := ts }, ty, ps, af, gd⟩).run P w = .ok (.value v) w' := by simp [execOp, resolve, invoke, builtin, ha.ev hx, ha.ev hy, hr, Result.andThen]
  unfold Oper.wp
  rw [h1, Oper.upon_value]
  exact k _ ha
end
/-- A net lies there. -/
structure Nt (w : World) (p r : Nat) (nodes most next : Int) (E : List Me) (c : Nat) : Prop where
  bl : Blk w p [.int .i64 nodes, .int .i64 most, .int .i64 next, .map (some r)] 58
  mp : Mp w r E c
  hs : ∀ m ∈ E, Has w m.x.v m.x.b
  lb : ∀ m ∈ E, m.x.b.length ≤ 140737488355328
  asc : (E.map fun m => m.x.n).Pairwise (· < ·)
  up : ∀ m ∈ E, m.x.n < next
theorem map_off {w : World} {v : Value} {bs : List UInt8} {r : Nat} {es : Array MapEntry} {c : Nat} (h : Has w v bs) (hp : w.heap[r]? = some (.map es c)) : Off v bs r := by
  rcases h with ⟨rfl, rfl⟩ | ⟨ad, cap, rfl, h2, h3⟩
  · exact .inl rfl
  · cases bs with
    | nil => exact .inl rfl
    | cons u l =>
      refine .inr fun e => ?_
      simp only [Value.ownBlock, Option.some.injEq] at e
      have hc := h3 0 u rfl
      have h0 : ad.add 0 = ad := by simp [Addr.add]
      rw [h0] at hc
      unfold World.cell? at hc
      rw [e, hp] at hc
      cases hc
theorem nob_net (a b c : Int) (r : Nat) : NoB [.int .i64 a, .int .i64 b, .int .i64 c, .map (some r)] := by
  intro x hx y e
  simp only [List.mem_cons, List.not_mem_nil, or_false] at hx
  rcases hx with rfl | rfl | rfl | rfl <;> cases e
theorem nob_fl {x : Fl} (hx : x.sh) : NoB x.cs := by
  obtain ⟨ao, n, c, e⟩ := hx
  intro z hz y e'
  simp only [Fl.cs, e, List.mem_cons, List.not_mem_nil, or_false] at hz
  rcases hz with rfl | rfl | rfl | rfl <;> cases e'
section
variable {w w' : World} {p r : Nat} {nodes most next : Int} {E : List Me} {c : Nat}
theorem Nt.ne (h : Nt w p r nodes most next E c) : p ≠ r := fun e => by
  have h1 := h.bl
  unfold Blk at h1
  rw [e, h.mp.hp] at h1
  cases h1
theorem Nt.fx {S : Nat → Prop} (h : Nt w p r nodes most next E c) (hf : Fx S w w') (h1 : ¬ S p) (h2 : ¬ S r) (h3 : ∀ m ∈ E, ∀ k, S k → Off m.x.v m.x.b k) : Nt w' p r nodes most next E c := ⟨h.bl.fx hf h1, h.mp.fx hf h2, fun m hm => (h.hs m hm).fxo hf (h3 m hm), h.lb, h.asc, h.up⟩
theorem Nt.on (h : Nt w p r nodes most next E c) (hb : Below w.heap.size w w') : Nt w' p r nodes most next E c := ⟨h.bl.on hb, h.mp.on hb, fun m hm => (h.hs m hm).below hb, h.lb, h.asc, h.up⟩
theorem ld56 (h : Nt w p r nodes most next E c) : (Instr.loadAt 56 (.pointer (some ⟨p, 3, none⟩))).run Try.prog w = .ok (.map (some r)) w := by
  have h1 : w.cell? ⟨p, 3, none⟩ = some (.map (some r)) := by rw [h.bl.cell]; rfl
  go_simp
theorem ldNo (h : Nt w p r nodes most next E c) : (Instr.loadAt 3 (.pointer (some ⟨p, 0, none⟩))).run Try.prog w = .ok (.int .i64 nodes) w := ldI h.bl rfl
theorem ldMo (h : Nt w p r nodes most next E c) : (Instr.loadAt 3 (.pointer (some ⟨p, 1, none⟩))).run Try.prog w = .ok (.int .i64 most) w := ldI h.bl rfl
theorem ldNe (h : Nt w p r nodes most next E c) : (Instr.loadAt 3 (.pointer (some ⟨p, 2, none⟩))).run Try.prog w = .ok (.int .i64 next) w := ldI h.bl rfl
end
theorem g58_0 (p : Nat) (W : World) : (Instr.fieldAt 58 (.pointer (some ⟨p, 0, none⟩)) 0).run Try.prog W = .ok (.pointer (some ⟨p, 0, none⟩)) W := by go_simp
theorem g58_1 (p : Nat) (W : World) : (Instr.fieldAt 58 (.pointer (some ⟨p, 0, none⟩)) 1).run Try.prog W = .ok (.pointer (some ⟨p, 1, none⟩)) W := by go_simp
theorem g58_2 (p : Nat) (W : World) : (Instr.fieldAt 58 (.pointer (some ⟨p, 0, none⟩)) 2).run Try.prog W = .ok (.pointer (some ⟨p, 2, none⟩)) W := by go_simp
theorem g58_3 (p : Nat) (W : World) : (Instr.fieldAt 58 (.pointer (some ⟨p, 0, none⟩)) 3).run Try.prog W = .ok (.pointer (some ⟨p, 3, none⟩)) W := by go_simp
theorem b58 (a b : Int) (r : Nat) (w : World) : (Instr.build 58 [(0, .int .i64 a), (1, .int .i64 b), (3, .map (some r))].toArray).run Try.prog w = .ok (.agg [.int .i64 a, .int .i64 b, .int .i64 0, .map (some r)].toArray) w := by go_simp
theorem box58 (a b : Int) (r : Nat) (w : World) : ∃ w1 q, (Instr.box 58 (.agg [.int .i64 a, .int .i64 b, .int .i64 0, .map (some r)].toArray)).run Try.prog w = .ok (.pointer (some ⟨q, 0, none⟩)) w1 ∧ Blk w1 q [.int .i64 a, .int .i64 b, .int .i64 0, .map (some r)] 58 ∧ Below w.heap.size w w1 ∧ q = w.heap.size := ⟨_, _, run_boxR 58 _ w _ rfl, Blk.new _ _ _, below_new _ _, rfl⟩
theorem int_le_d (a b : Int) (W : World) (x y : Operand) : (do eqGuard .leq 3 x y (.int .i64 a) (.int .i64 b); binOp .leq 3 (.int .i64 a) (.int .i64 b) : Sem Value).run Try.prog W = .ok (.bool (decide (a ≤ b))) W := by go_simp
theorem int_le_t {a b : Int} (h : a ≤ b) (W : World) (x y : Operand) : (do eqGuard .leq 3 x y (.int .i64 a) (.int .i64 b); binOp .leq 3 (.int .i64 a) (.int .i64 b) : Sem Value).run Try.prog W = .ok (.bool true) W := by rw [int_le_d, decide_eq_true h]
theorem int_le_f {a b : Int} (h : ¬ a ≤ b) (W : World) (x y : Operand) : (do eqGuard .leq 3 x y (.int .i64 a) (.int .i64 b); binOp .leq 3 (.int .i64 a) (.int .i64 b) : Sem Value).run Try.prog W = .ok (.bool false) W := by rw [int_le_d, decide_eq_false h]
def newOk (a b : Int) : Prop := 1 ≤ a ∧ a ≤ 4 ∧ 0 ≤ b ∧ b ≤ 4096
instance (a b : Int) : Decidable (newOk a b) := inferInstanceAs (Decidable (_ ∧ _))
set_option maxRecDepth 100000 in
set_option maxHeartbeats 1000000 in
theorem new_ok (a b : Int) (hm : newOk a b) (w : World) : Calls Try.prog 7 #[.int .i64 a, .int .i64 b] w fun e w' => ∃ p r, e = .returned (.tuple #[.pointer (some ⟨p, 0, none⟩), .int .i64 0]) ∧ Nt w' p r a b 0 [] 0 ∧ w.heap.size ≤ p ∧ w.heap.size ≤ r ∧ Below w.heap.size w w' := by
  obtain ⟨w1, r1, m1, l1, s1⟩ := mkMap w
  obtain ⟨w2, q, r2, b2, l2, hq⟩ := box58 a b w.heap.size w1
  obtain ⟨g1, g2, g3, g4⟩ := hm
  have h1 : ¬ a < 1 := by omega
  have h2 : ¬ (4 : Int) < a := by omega
  have h3 : ¬ b < 0 := by omega
  have h4 : ¬ (4096 : Int) < b := by omega
  refine calls_of_args [.int .i64 a, .int .i64 b] Try.func7 rfl 25 Try.ntmps7 (by show 2 ≤ 25; decide) ?_
  refine EW.seq ?_
  refine EW.region ?_
  first | refine WL.assign rfl rfl rfl ?_
  first | refine WL.assign rfl rfl rfl ?_
  refine WL.done ?_
  refine EW.on ?_
  refine EW.seq ?_
  refine EW.seq ?_
  refine EW.region ?_
  first | refine WL.move rfl rfl rfl ?_
  first | refine WL.bin rfl rfl rfl rfl (int_lt_t ‹_› _ _ _) ?_ | refine WL.bin rfl rfl rfl rfl (int_lt_f ‹_› _ _ _) ?_ | refine WL.bin rfl rfl rfl rfl (int_lt_d _ _ _ _ _) ?_
  first | refine WL.move rfl rfl rfl ?_
  first | refine WL.move rfl rfl rfl ?_ | refine WL.skip _ rfl rfl rfl ?_
  first | refine WL.bin rfl rfl rfl rfl (int_gt_t ‹_› _ _ _) ?_ | refine WL.bin rfl rfl rfl rfl (int_gt_f ‹_› _ _ _) ?_ | refine WL.bin rfl rfl rfl rfl (int_gt_d _ _ _ _ _) ?_ | refine WL.skip _ rfl rfl rfl ?_
  first | refine WL.pick rfl rfl rfl rfl ?_
  first | refine WL.move rfl rfl rfl ?_
  first | refine WL.move rfl rfl rfl ?_ | refine WL.skip _ rfl rfl rfl ?_
  first | refine WL.bin rfl rfl rfl rfl (int_lt_t ‹_› _ _ _) ?_ | refine WL.bin rfl rfl rfl rfl (int_lt_f ‹_› _ _ _) ?_ | refine WL.bin rfl rfl rfl rfl (int_lt_d _ _ _ _ _) ?_ | refine WL.skip _ rfl rfl rfl ?_
  first | refine WL.pick rfl rfl rfl rfl ?_
  first | refine WL.move rfl rfl rfl ?_
  first | refine WL.move rfl rfl rfl ?_ | refine WL.skip _ rfl rfl rfl ?_
  first | refine WL.bin rfl rfl rfl rfl (int_gt_t ‹_› _ _ _) ?_ | refine WL.bin rfl rfl rfl rfl (int_gt_f ‹_› _ _ _) ?_ | refine WL.bin rfl rfl rfl rfl (int_gt_d _ _ _ _ _) ?_ | refine WL.skip _ rfl rfl rfl ?_
  first | refine WL.pick rfl rfl rfl rfl ?_
  refine WL.done ?_
  refine EW.on ?_
  refine EW.cond_f rfl ?_
  refine EW.skip ?_
  refine EW.on ?_
  refine EW.seq ?_
  refine EW.region ?_
  first | refine WL.move rfl rfl rfl ?_
  first | refine WL.move rfl rfl rfl ?_
  refine WL.mkm rfl rfl r1 ?_
  refine WL.buildN [(0, .int .i64 a), (1, .int .i64 b), (3, .map (some w.heap.size))] rfl rfl rfl (b58 _ _ _ _) ?_
  refine WL.box rfl rfl rfl r2 ?_
  first | refine WL.assign rfl rfl rfl ?_
  first | refine WL.assign rfl rfl rfl ?_
  refine WL.done ?_
  refine EW.on ?_
  refine EW.ret ?_
  exact EW.returns2 Try.results7 rfl rfl ⟨q, w.heap.size, rfl, ⟨b2, m1.on l2, fun m hm => (by cases hm), fun m hm => (by cases hm), List.Pairwise.nil, fun m hm => (by cases hm)⟩, by omega, Nat.le_refl _, bt l1 l2⟩
set_option maxRecDepth 100000 in
set_option maxHeartbeats 1000000 in
theorem new_no (a b : Int) (hm : ¬ newOk a b) (w : World) : Calls Try.prog 7 #[.int .i64 a, .int .i64 b] w fun e w' => e = .returned (.tuple #[.pointer none, .int .i64 2]) ∧ w' = w := by
  rcases (show a < 1 ∨ (¬ a < 1 ∧ (4 : Int) < a) ∨ (¬ a < 1 ∧ ¬ (4 : Int) < a ∧ b < 0) ∨ (¬ a < 1 ∧ ¬ (4 : Int) < a ∧ ¬ b < 0 ∧ (4096 : Int) < b) by unfold newOk at hm; omega) with h1 | ⟨h1, h2⟩ | ⟨h1, h2, h3⟩ | ⟨h1, h2, h3, h4⟩
  · refine calls_of_args [.int .i64 a, .int .i64 b] Try.func7 rfl 25 Try.ntmps7 (by show 2 ≤ 25; decide) ?_
    refine EW.seq ?_
    refine EW.region ?_
    first | refine WL.assign rfl rfl rfl ?_
    first | refine WL.assign rfl rfl rfl ?_
    refine WL.done ?_
    refine EW.on ?_
    refine EW.seq ?_
    refine EW.seq ?_
    refine EW.region ?_
    first | refine WL.move rfl rfl rfl ?_
    first | refine WL.bin rfl rfl rfl rfl (int_lt_t ‹_› _ _ _) ?_ | refine WL.bin rfl rfl rfl rfl (int_lt_f ‹_› _ _ _) ?_ | refine WL.bin rfl rfl rfl rfl (int_lt_d _ _ _ _ _) ?_
    first | refine WL.move rfl rfl rfl ?_
    first | refine WL.move rfl rfl rfl ?_ | refine WL.skip _ rfl rfl rfl ?_
    first | refine WL.bin rfl rfl rfl rfl (int_gt_t ‹_› _ _ _) ?_ | refine WL.bin rfl rfl rfl rfl (int_gt_f ‹_› _ _ _) ?_ | refine WL.bin rfl rfl rfl rfl (int_gt_d _ _ _ _ _) ?_ | refine WL.skip _ rfl rfl rfl ?_
    first | refine WL.pick rfl rfl rfl rfl ?_
    first | refine WL.move rfl rfl rfl ?_
    first | refine WL.move rfl rfl rfl ?_ | refine WL.skip _ rfl rfl rfl ?_
    first | refine WL.bin rfl rfl rfl rfl (int_lt_t ‹_› _ _ _) ?_ | refine WL.bin rfl rfl rfl rfl (int_lt_f ‹_› _ _ _) ?_ | refine WL.bin rfl rfl rfl rfl (int_lt_d _ _ _ _ _) ?_ | refine WL.skip _ rfl rfl rfl ?_
    first | refine WL.pick rfl rfl rfl rfl ?_
    first | refine WL.move rfl rfl rfl ?_
    first | refine WL.move rfl rfl rfl ?_ | refine WL.skip _ rfl rfl rfl ?_
    first | refine WL.bin rfl rfl rfl rfl (int_gt_t ‹_› _ _ _) ?_ | refine WL.bin rfl rfl rfl rfl (int_gt_f ‹_› _ _ _) ?_ | refine WL.bin rfl rfl rfl rfl (int_gt_d _ _ _ _ _) ?_ | refine WL.skip _ rfl rfl rfl ?_
    first | refine WL.pick rfl rfl rfl rfl ?_
    refine WL.done ?_
    refine EW.on ?_
    refine EW.cond_t rfl ?_
    refine EW.seq ?_
    refine EW.region ?_
    first | refine WL.assign rfl rfl rfl ?_
    first | refine WL.assign rfl rfl rfl ?_
    refine WL.done ?_
    refine EW.on ?_
    refine EW.ret ?_
    refine pr_then ?_
    exact EW.returns2 Try.results7 rfl rfl ⟨rfl, rfl⟩
  · refine calls_of_args [.int .i64 a, .int .i64 b] Try.func7 rfl 25 Try.ntmps7 (by show 2 ≤ 25; decide) ?_
    refine EW.seq ?_
    refine EW.region ?_
    first | refine WL.assign rfl rfl rfl ?_
    first | refine WL.assign rfl rfl rfl ?_
    refine WL.done ?_
    refine EW.on ?_
    refine EW.seq ?_
    refine EW.seq ?_
    refine EW.region ?_
    first | refine WL.move rfl rfl rfl ?_
    first | refine WL.bin rfl rfl rfl rfl (int_lt_t ‹_› _ _ _) ?_ | refine WL.bin rfl rfl rfl rfl (int_lt_f ‹_› _ _ _) ?_ | refine WL.bin rfl rfl rfl rfl (int_lt_d _ _ _ _ _) ?_
    first | refine WL.move rfl rfl rfl ?_
    first | refine WL.move rfl rfl rfl ?_ | refine WL.skip _ rfl rfl rfl ?_
    first | refine WL.bin rfl rfl rfl rfl (int_gt_t ‹_› _ _ _) ?_ | refine WL.bin rfl rfl rfl rfl (int_gt_f ‹_› _ _ _) ?_ | refine WL.bin rfl rfl rfl rfl (int_gt_d _ _ _ _ _) ?_ | refine WL.skip _ rfl rfl rfl ?_
    first | refine WL.pick rfl rfl rfl rfl ?_
    first | refine WL.move rfl rfl rfl ?_
    first | refine WL.move rfl rfl rfl ?_ | refine WL.skip _ rfl rfl rfl ?_
    first | refine WL.bin rfl rfl rfl rfl (int_lt_t ‹_› _ _ _) ?_ | refine WL.bin rfl rfl rfl rfl (int_lt_f ‹_› _ _ _) ?_ | refine WL.bin rfl rfl rfl rfl (int_lt_d _ _ _ _ _) ?_ | refine WL.skip _ rfl rfl rfl ?_
    first | refine WL.pick rfl rfl rfl rfl ?_
    first | refine WL.move rfl rfl rfl ?_
    first | refine WL.move rfl rfl rfl ?_ | refine WL.skip _ rfl rfl rfl ?_
    first | refine WL.bin rfl rfl rfl rfl (int_gt_t ‹_› _ _ _) ?_ | refine WL.bin rfl rfl rfl rfl (int_gt_f ‹_› _ _ _) ?_ | refine WL.bin rfl rfl rfl rfl (int_gt_d _ _ _ _ _) ?_ | refine WL.skip _ rfl rfl rfl ?_
    first | refine WL.pick rfl rfl rfl rfl ?_
    refine WL.done ?_
    refine EW.on ?_
    refine EW.cond_t rfl ?_
    refine EW.seq ?_
    refine EW.region ?_
    first | refine WL.assign rfl rfl rfl ?_
    first | refine WL.assign rfl rfl rfl ?_
    refine WL.done ?_
    refine EW.on ?_
    refine EW.ret ?_
    refine pr_then ?_
    exact EW.returns2 Try.results7 rfl rfl ⟨rfl, rfl⟩
  · refine calls_of_args [.int .i64 a, .int .i64 b] Try.func7 rfl 25 Try.ntmps7 (by show 2 ≤ 25; decide) ?_
    refine EW.seq ?_
    refine EW.region ?_
    first | refine WL.assign rfl rfl rfl ?_
    first | refine WL.assign rfl rfl rfl ?_
    refine WL.done ?_
    refine EW.on ?_
    refine EW.seq ?_
    refine EW.seq ?_
    refine EW.region ?_
    first | refine WL.move rfl rfl rfl ?_
    first | refine WL.bin rfl rfl rfl rfl (int_lt_t ‹_› _ _ _) ?_ | refine WL.bin rfl rfl rfl rfl (int_lt_f ‹_› _ _ _) ?_ | refine WL.bin rfl rfl rfl rfl (int_lt_d _ _ _ _ _) ?_
    first | refine WL.move rfl rfl rfl ?_
    first | refine WL.move rfl rfl rfl ?_ | refine WL.skip _ rfl rfl rfl ?_
    first | refine WL.bin rfl rfl rfl rfl (int_gt_t ‹_› _ _ _) ?_ | refine WL.bin rfl rfl rfl rfl (int_gt_f ‹_› _ _ _) ?_ | refine WL.bin rfl rfl rfl rfl (int_gt_d _ _ _ _ _) ?_ | refine WL.skip _ rfl rfl rfl ?_
    first | refine WL.pick rfl rfl rfl rfl ?_
    first | refine WL.move rfl rfl rfl ?_
    first | refine WL.move rfl rfl rfl ?_ | refine WL.skip _ rfl rfl rfl ?_
    first | refine WL.bin rfl rfl rfl rfl (int_lt_t ‹_› _ _ _) ?_ | refine WL.bin rfl rfl rfl rfl (int_lt_f ‹_› _ _ _) ?_ | refine WL.bin rfl rfl rfl rfl (int_lt_d _ _ _ _ _) ?_ | refine WL.skip _ rfl rfl rfl ?_
    first | refine WL.pick rfl rfl rfl rfl ?_
    first | refine WL.move rfl rfl rfl ?_
    first | refine WL.move rfl rfl rfl ?_ | refine WL.skip _ rfl rfl rfl ?_
    first | refine WL.bin rfl rfl rfl rfl (int_gt_t ‹_› _ _ _) ?_ | refine WL.bin rfl rfl rfl rfl (int_gt_f ‹_› _ _ _) ?_ | refine WL.bin rfl rfl rfl rfl (int_gt_d _ _ _ _ _) ?_ | refine WL.skip _ rfl rfl rfl ?_
    first | refine WL.pick rfl rfl rfl rfl ?_
    refine WL.done ?_
    refine EW.on ?_
    refine EW.cond_t rfl ?_
    refine EW.seq ?_
    refine EW.region ?_
    first | refine WL.assign rfl rfl rfl ?_
    first | refine WL.assign rfl rfl rfl ?_
    refine WL.done ?_
    refine EW.on ?_
    refine EW.ret ?_
    refine pr_then ?_
    exact EW.returns2 Try.results7 rfl rfl ⟨rfl, rfl⟩
  · refine calls_of_args [.int .i64 a, .int .i64 b] Try.func7 rfl 25 Try.ntmps7 (by show 2 ≤ 25; decide) ?_
    refine EW.seq ?_
    refine EW.region ?_
    first | refine WL.assign rfl rfl rfl ?_
    first | refine WL.assign rfl rfl rfl ?_
    refine WL.done ?_
    refine EW.on ?_
    refine EW.seq ?_
    refine EW.seq ?_
    refine EW.region ?_
    first | refine WL.move rfl rfl rfl ?_
    first | refine WL.bin rfl rfl rfl rfl (int_lt_t ‹_› _ _ _) ?_ | refine WL.bin rfl rfl rfl rfl (int_lt_f ‹_› _ _ _) ?_ | refine WL.bin rfl rfl rfl rfl (int_lt_d _ _ _ _ _) ?_
    first | refine WL.move rfl rfl rfl ?_
    first | refine WL.move rfl rfl rfl ?_ | refine WL.skip _ rfl rfl rfl ?_
    first | refine WL.bin rfl rfl rfl rfl (int_gt_t ‹_› _ _ _) ?_ | refine WL.bin rfl rfl rfl rfl (int_gt_f ‹_› _ _ _) ?_ | refine WL.bin rfl rfl rfl rfl (int_gt_d _ _ _ _ _) ?_ | refine WL.skip _ rfl rfl rfl ?_
    first | refine WL.pick rfl rfl rfl rfl ?_
    first | refine WL.move rfl rfl rfl ?_
    first | refine WL.move rfl rfl rfl ?_ | refine WL.skip _ rfl rfl rfl ?_
    first | refine WL.bin rfl rfl rfl rfl (int_lt_t ‹_› _ _ _) ?_ | refine WL.bin rfl rfl rfl rfl (int_lt_f ‹_› _ _ _) ?_ | refine WL.bin rfl rfl rfl rfl (int_lt_d _ _ _ _ _) ?_ | refine WL.skip _ rfl rfl rfl ?_
    first | refine WL.pick rfl rfl rfl rfl ?_
    first | refine WL.move rfl rfl rfl ?_
    first | refine WL.move rfl rfl rfl ?_ | refine WL.skip _ rfl rfl rfl ?_
    first | refine WL.bin rfl rfl rfl rfl (int_gt_t ‹_› _ _ _) ?_ | refine WL.bin rfl rfl rfl rfl (int_gt_f ‹_› _ _ _) ?_ | refine WL.bin rfl rfl rfl rfl (int_gt_d _ _ _ _ _) ?_ | refine WL.skip _ rfl rfl rfl ?_
    first | refine WL.pick rfl rfl rfl rfl ?_
    refine WL.done ?_
    refine EW.on ?_
    refine EW.cond_t rfl ?_
    refine EW.seq ?_
    refine EW.region ?_
    first | refine WL.assign rfl rfl rfl ?_
    first | refine WL.assign rfl rfl rfl ?_
    refine WL.done ?_
    refine EW.on ?_
    refine EW.ret ?_
    refine pr_then ?_
    exact EW.returns2 Try.results7 rfl rfl ⟨rfl, rfl⟩
set_option maxRecDepth 100000 in
set_option maxHeartbeats 1000000 in
theorem next_any {w : World} {p r : Nat} {nodes most next : Int} {E : List Me} {c : Nat} (h : Nt w p r nodes most next E c) : Calls Try.prog 10 #[.pointer (some ⟨p, 0, none⟩)] w fun e w' => e = .returned (.int .i64 next) ∧ w' = w := by
  refine calls_of_args [.pointer (some ⟨p, 0, none⟩)] Try.func10 rfl 7 Try.ntmps10 (by show 1 ≤ 7; decide) ?_
  refine EW.seq ?_
  refine EW.region ?_
  first | refine WL.assign rfl rfl rfl ?_
  refine WL.done ?_
  refine EW.on ?_
  refine EW.seq ?_
  refine EW.region ?_
  first | refine WL.move rfl rfl rfl ?_
  first | refine WL.nilc rfl rfl rfl ?_
  refine WL.field rfl rfl rfl (g58_2 p _) ?_
  refine WL.load rfl rfl rfl (ldNe h) ?_
  first | refine WL.assign rfl rfl rfl ?_
  refine WL.done ?_
  refine EW.on ?_
  refine EW.ret ?_
  exact EW.returns Try.results10 rfl ⟨rfl, rfl⟩
set_option maxRecDepth 100000 in
set_option maxHeartbeats 1000000 in
theorem isNode_any {w : World} {p r : Nat} {nodes most next : Int} {E : List Me} {c : Nat} (h : Nt w p r nodes most next E c) (k : Int) : Calls Try.prog 22 #[.pointer (some ⟨p, 0, none⟩), .int .i64 k] w fun e w' => e = .returned (.bool (decide (1 ≤ k ∧ k ≤ nodes))) ∧ w' = w := by
  by_cases h1 : (1 : Int) ≤ k
  · refine calls_of_args [.pointer (some ⟨p, 0, none⟩), .int .i64 k] Try.func22 rfl 15 Try.ntmps22 (by show 2 ≤ 15; decide) ?_
    refine EW.seq ?_
    refine EW.region ?_
    first | refine WL.assign rfl rfl rfl ?_
    refine WL.done ?_
    refine EW.on ?_
    refine EW.seq ?_
    refine EW.region ?_
    first | refine WL.move rfl rfl rfl ?_
    refine WL.bin rfl rfl rfl rfl (int_le_t h1 _ _ _) ?_
    first | refine WL.move rfl rfl rfl ?_
    first | refine WL.move rfl rfl rfl ?_ | refine WL.skip _ rfl rfl rfl ?_
    first | refine WL.move rfl rfl rfl ?_ | refine WL.skip _ rfl rfl rfl ?_
    first | refine WL.nilc rfl rfl rfl ?_ | refine WL.skip _ rfl rfl rfl ?_
    refine WL.field rfl rfl rfl (g58_0 p _) ?_
    refine WL.load rfl rfl rfl (ldNo h) ?_
    refine WL.bin rfl rfl rfl rfl (int_le_d _ _ _ _ _) ?_
    first | refine WL.pick rfl rfl rfl rfl ?_
    first | refine WL.assign rfl rfl rfl ?_
    refine WL.done ?_
    refine EW.on ?_
    refine EW.ret ?_
    exact EW.returns Try.results22 rfl ⟨by simp only [h1, true_and], rfl⟩
  · refine calls_of_args [.pointer (some ⟨p, 0, none⟩), .int .i64 k] Try.func22 rfl 15 Try.ntmps22 (by show 2 ≤ 15; decide) ?_
    refine EW.seq ?_
    refine EW.region ?_
    first | refine WL.assign rfl rfl rfl ?_
    refine WL.done ?_
    refine EW.on ?_
    refine EW.seq ?_
    refine EW.region ?_
    first | refine WL.move rfl rfl rfl ?_
    refine WL.bin rfl rfl rfl rfl (int_le_f h1 _ _ _) ?_
    first | refine WL.move rfl rfl rfl ?_
    first | refine WL.move rfl rfl rfl ?_ | refine WL.skip _ rfl rfl rfl ?_
    first | refine WL.move rfl rfl rfl ?_ | refine WL.skip _ rfl rfl rfl ?_
    first | refine WL.nilc rfl rfl rfl ?_ | refine WL.skip _ rfl rfl rfl ?_
    refine WL.skip _ rfl rfl rfl ?_
    refine WL.skip _ rfl rfl rfl ?_
    refine WL.skip _ rfl rfl rfl ?_
    first | refine WL.pick rfl rfl rfl rfl ?_
    first | refine WL.assign rfl rfl rfl ?_
    refine WL.done ?_
    refine EW.on ?_
    refine EW.ret ?_
    exact EW.returns Try.results22 rfl ⟨by simp only [h1, false_and]; rfl, rfl⟩
end Go.Proofs.Ytplfelfmkgjijaa
