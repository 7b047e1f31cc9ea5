import Derived.Test.YtggehhlobjjmpaaSd
set_option linter.unusedVariables false
set_option linter.unusedSimpArgs false
namespace Go.Proofs.Ytggehhlobjjmpaa
open Go.RowKit

theorem bt {a b c : World} (h : Below a.heap.size a b) (k : Below b.heap.size b c) : Below a.heap.size a c := h.trans (k.mono h.size)
section
variable {P : Program} {n : Nat} {ops : Array Oper} {Q : Exit → Act → World → Prop} {i : Nat} {ty : TypeId} {ps : String} {af : Array Edge} {gd : Option (Nat × Bool)} {r : List Oper} {e : List (Nat × Value)} {w w' : World}
theorem WL.mkm {t : TypeId} {v : Value} (hw : wantE ops e ⟨some i, .makeMap t none, ty, ps, af, gd⟩ = some true) (hi : decide (i < n) = true) (hr : (Instr.makeMap t none).run P w = .ok v w') (k : WL P n ops Q r ((i, v) :: e) w') : WL P n ops Q (⟨some i, .makeMap t none, ty, ps, af, gd⟩ :: r) e w :=
  WL.op i v hw rfl hi (fun a ha => by simp [execOp, hr, Result.andThen]) k
theorem WL.lk {t : TypeId} {x y : Operand} {b : Bool} {u u' v : Value} (hw : wantE ops e ⟨some i, .lookup t x y b, ty, ps, af, gd⟩ = some true) (hi : decide (i < n) = true) (hx : evE e x = some u) (hy : evE e y = some u') (hr : (Instr.lookup t u u' b).run P w = .ok v w) (k : WL P n ops Q r ((i, v) :: e) w) : WL P n ops Q (⟨some i, .lookup t x y b, ty, ps, af, gd⟩ :: r) e w :=
  WL.op i v hw rfl hi (fun a ha => by simp [execOp, ha.ev hx, ha.ev hy, hr, Result.andThen]) k
theorem WL.rng {t : TypeId} {x : Operand} {u v : Value} (hw : wantE ops e ⟨some i, .range t x, ty, ps, af, gd⟩ = some true) (hi : decide (i < n) = true) (hx : evE e x = some u) (hr : (Instr.range t u).run P w = .ok v w') (k : WL P n ops Q r ((i, v) :: e) w') : WL P n ops Q (⟨some i, .range t x, ty, ps, af, gd⟩ :: r) e w :=
  WL.op i v hw rfl hi (fun a ha => by simp [execOp, ha.ev hx, hr, Result.andThen]) k
theorem WL.nxt {x : Operand} {b : Bool} {u v : Value} (hw : wantE ops e ⟨some i, .next x b, ty, ps, af, gd⟩ = some true) (hi : decide (i < n) = true) (hx : evE e x = some u) (hr : (Instr.next u b ty).run P w = .ok v w') (k : WL P n ops Q r ((i, v) :: e) w') : WL P n ops Q (⟨some i, .next x b, ty, ps, af, gd⟩ :: r) e w :=
  WL.op i v hw rfl hi (fun a ha => by simp [execOp, ha.ev hx, hr, Result.andThen]) k
theorem WL.ent {x : Operand} {u v : Value} (hw : wantE ops e ⟨some i, .entry x, ty, ps, af, gd⟩ = some true) (hi : decide (i < n) = true) (hx : evE e x = some u) (hr : (Instr.entry u).run P w = .ok v w) (k : WL P n ops Q r ((i, v) :: e) w) : WL P n ops Q (⟨some i, .entry x, ty, ps, af, gd⟩ :: r) e w :=
  WL.op i v hw rfl hi (fun a ha => by simp [execOp, ha.ev hx, hr, Result.andThen]) k
theorem WL.mup {t : TypeId} {x y z : Operand} {u u' u'' : Value} (hw : wantE ops e ⟨none, .mapUpdate t x y z, ty, ps, af, gd⟩ = some true) (hx : evE e x = some u) (hy : evE e y = some u') (hz : evE e z = some u'') (hr : (Instr.mapUpdate t u u' u'').run P w = .ok () w') (k : WL P n ops Q r e w') : WL P n ops Q (⟨none, .mapUpdate t x y z, ty, ps, af, gd⟩ :: r) e w :=
  WL.eff hw rfl (fun a ha => by simp [execOp, ha.ev hx, ha.ev hy, ha.ev hz, hr, Result.andThen]) k
theorem WL.del {x y : Operand} {ts : Array TypeId} {u u' v : Value} (hw : wantE ops e ⟨none, .call { callee := .builtin .delete, args := #[x, y], argTypes := ts }, ty, ps, af, gd⟩ = some true) (hx : evE e x = some u) (hy : evE e y = some u') (hr : (Builtin.delete_ ts ty #[u, u']).run P w = .ok v w') (k : WL P n ops Q r e w') : WL P n ops Q (⟨none, .call { callee := .builtin .delete, args := #[x, y], argTypes := ts }, ty, ps, af, gd⟩ :: r) e w := fun a ha => by
  unfold wpList
  rw [if_pos (wantE_spec ha hw)]
  left
  have h1 : (execOp a.eval ⟨none, .call { callee := .builtin .delete, args := #[x, y], argTypes := ts }, ty, ps, af, gd⟩).run P w = .ok (.value v) w' := by simp [execOp, resolve, invoke, builtin, ha.ev hx, ha.ev hy, hr, Result.andThen]
  unfold Oper.wp
  rw [h1, Oper.upon_value]
  exact k _ ha
end
/-- A table lies there: its bound, its map. -/
structure Tb (w : World) (p r : Nat) (most : Nat) (E : List Me) (c : Nat) : Prop where
  bl : Blk w p [.int .i64 (most : Int), .map (some r)] 59
  mp : Mp w r E c
theorem Tb.ne {w : World} {p r : Nat} {most : Nat} {E : List Me} {c : Nat} (h : Tb w p r most E c) : p ≠ r := fun e => by
  have h1 := h.bl
  unfold Blk at h1
  rw [e, h.mp.hp] at h1
  cases h1
theorem Tb.fx {S : Nat → Prop} {w w' : World} {p r : Nat} {most : Nat} {E : List Me} {c : Nat} (h : Tb w p r most E c) (hf : Fx S w w') (h1 : ¬ S p) (h2 : ¬ S r) : Tb w' p r most E c := ⟨h.bl.fx hf h1, h.mp.fx hf h2⟩
theorem Tb.on {w w' : World} {p r : Nat} {most : Nat} {E : List Me} {c : Nat} (h : Tb w p r most E c) (hb : Below w.heap.size w w') : Tb w' p r most E c := ⟨h.bl.on hb, h.mp.on hb⟩
theorem ld57 {w : World} {p r : Nat} {most : Nat} {E : List Me} {c : Nat} (h : Tb w p r most E c) : (Instr.loadAt 57 (.pointer (some ⟨p, 1, none⟩))).run Try.prog w = .ok (.map (some r)) w := by
  have h1 : w.cell? ⟨p, 1, none⟩ = some (.map (some r)) := by rw [h.bl.cell]; rfl
  go_simp
theorem ldM {w : World} {p r : Nat} {most : Nat} {E : List Me} {c : Nat} (h : Tb w p r most E c) : (Instr.loadAt 3 (.pointer (some ⟨p, 0, none⟩))).run Try.prog w = .ok (.int .i64 (most : Int)) w := by
  have h1 : w.cell? ⟨p, 0, none⟩ = some (.int .i64 (most : Int)) := by rw [h.bl.cell]; rfl
  go_simp
theorem g59_1 (p : Nat) (W : World) : (Instr.fieldAt 59 (.pointer (some ⟨p, 0, none⟩)) 1).run Try.prog W = .ok (.pointer (some ⟨p, 1, none⟩)) W := by go_simp
theorem g59_0 (p : Nat) (W : World) : (Instr.fieldAt 59 (.pointer (some ⟨p, 0, none⟩)) 0).run Try.prog W = .ok (.pointer (some ⟨p, 0, none⟩)) W := by go_simp
theorem b59 (m : Int) (r : Nat) (w : World) : (Instr.build 59 [(0, .int .i64 m), (1, .map (some r))].toArray).run Try.prog w = .ok (.agg [.int .i64 m, .map (some r)].toArray) w := by go_simp
theorem box59 (m : Int) (r : Nat) (w : World) : ∃ w1 q, (Instr.box 59 (.agg [.int .i64 m, .map (some r)].toArray)).run Try.prog w = .ok (.pointer (some ⟨q, 0, none⟩)) w1 ∧ Blk w1 q [.int .i64 m, .map (some r)] 59 ∧ Below w.heap.size w w1 ∧ q = w.heap.size := ⟨_, _, run_boxR 59 _ w _ rfl, Blk.new _ _ _, below_new _ _, rfl⟩
set_option maxRecDepth 100000 in
set_option maxHeartbeats 1000000 in
theorem new_ok (m : Int) (hm : 0 ≤ m ∧ m ≤ 256) (w : World) : Calls Try.prog 6 #[.int .i64 m] w fun e w' => ∃ p r, e = .returned (.tuple #[.pointer (some ⟨p, 0, none⟩), .int .i64 0]) ∧ Tb w' p r m.toNat [] 0 ∧ w.heap.size ≤ p ∧ w.heap.size ≤ r ∧ Below w.heap.size w w' := by
  obtain ⟨w1, r1, m1, l1⟩ := mkMap w
  obtain ⟨w2, q, r2, b2, l2, hq⟩ := box59 m w.heap.size w1
  have h1 : ¬ m < 0 := by omega
  have h2 : ¬ (256 : Int) < m := by omega
  refine calls_of_args [.int .i64 m] Try.func6 rfl 14 Try.ntmps6 (by show 1 ≤ 14; decide) ?_
  refine EW.seq ?_
  refine EW.region ?_
  first | refine WL.assign rfl rfl rfl ?_
  first | refine WL.assign rfl rfl rfl ?_
  refine WL.done ?_
  refine EW.on ?_
  refine EW.seq ?_
  refine EW.seq ?_
  refine EW.region ?_
  first | refine WL.move rfl rfl rfl ?_
  first | refine WL.bin rfl rfl rfl rfl (int_lt_t ‹_› _ _ _) ?_ | refine WL.bin rfl rfl rfl rfl (int_lt_f ‹_› _ _ _) ?_ | refine WL.bin rfl rfl rfl rfl (int_lt_d _ _ _ _ _) ?_
  first | refine WL.move rfl rfl rfl ?_
  first | refine WL.move rfl rfl rfl ?_ | refine WL.skip _ rfl rfl rfl ?_
  first | refine WL.bin rfl rfl rfl rfl (int_gt_t ‹_› _ _ _) ?_ | refine WL.bin rfl rfl rfl rfl (int_gt_f ‹_› _ _ _) ?_ | refine WL.bin rfl rfl rfl rfl (int_gt_d _ _ _ _ _) ?_ | refine WL.skip _ rfl rfl rfl ?_
  first | refine WL.pick rfl rfl rfl rfl ?_
  refine WL.done ?_
  refine EW.on ?_
  refine EW.cond_f rfl ?_
  refine EW.skip ?_
  refine EW.on ?_
  refine EW.seq ?_
  refine EW.region ?_
  first | refine WL.move rfl rfl rfl ?_
  refine WL.mkm rfl rfl r1 ?_
  refine WL.buildN [(0, .int .i64 m), (1, .map (some w.heap.size))] rfl rfl rfl (b59 _ _ _) ?_
  refine WL.box rfl rfl rfl r2 ?_
  first | refine WL.assign rfl rfl rfl ?_
  first | refine WL.assign rfl rfl rfl ?_
  refine WL.done ?_
  refine EW.on ?_
  refine EW.ret ?_
  exact EW.returns2 Try.results6 rfl rfl ⟨q, w.heap.size, rfl, ⟨by rw [Int.toNat_of_nonneg hm.1]; exact b2, m1.on l2⟩, by have := l1.size; omega, Nat.le_refl _, bt l1 l2⟩
set_option maxRecDepth 100000 in
set_option maxHeartbeats 1000000 in
theorem new_no (m : Int) (hm : m < 0 ∨ 256 < m) (w : World) : Calls Try.prog 6 #[.int .i64 m] w fun e w' => e = .returned (.tuple #[.pointer none, .int .i64 2]) ∧ w' = w := by
  rcases hm with h1 | h1
  · refine calls_of_args [.int .i64 m] Try.func6 rfl 14 Try.ntmps6 (by show 1 ≤ 14; decide) ?_
    refine EW.seq ?_
    refine EW.region ?_
    first | refine WL.assign rfl rfl rfl ?_
    first | refine WL.assign rfl rfl rfl ?_
    refine WL.done ?_
    refine EW.on ?_
    refine EW.seq ?_
    refine EW.seq ?_
    refine EW.region ?_
    first | refine WL.move rfl rfl rfl ?_
    first | refine WL.bin rfl rfl rfl rfl (int_lt_t ‹_› _ _ _) ?_ | refine WL.bin rfl rfl rfl rfl (int_lt_f ‹_› _ _ _) ?_ | refine WL.bin rfl rfl rfl rfl (int_lt_d _ _ _ _ _) ?_
    first | refine WL.move rfl rfl rfl ?_
    first | refine WL.move rfl rfl rfl ?_ | refine WL.skip _ rfl rfl rfl ?_
    first | refine WL.bin rfl rfl rfl rfl (int_gt_t ‹_› _ _ _) ?_ | refine WL.bin rfl rfl rfl rfl (int_gt_f ‹_› _ _ _) ?_ | refine WL.bin rfl rfl rfl rfl (int_gt_d _ _ _ _ _) ?_ | refine WL.skip _ rfl rfl rfl ?_
    first | refine WL.pick rfl rfl rfl rfl ?_
    refine WL.done ?_
    refine EW.on ?_
    refine EW.cond_t rfl ?_
    refine EW.seq ?_
    refine EW.region ?_
    first | refine WL.assign rfl rfl rfl ?_
    first | refine WL.assign rfl rfl rfl ?_
    refine WL.done ?_
    refine EW.on ?_
    refine EW.ret ?_
    refine pr_then ?_
    exact EW.returns2 Try.results6 rfl rfl ⟨rfl, rfl⟩
  · refine calls_of_args [.int .i64 m] Try.func6 rfl 14 Try.ntmps6 (by show 1 ≤ 14; decide) ?_
    refine EW.seq ?_
    refine EW.region ?_
    first | refine WL.assign rfl rfl rfl ?_
    first | refine WL.assign rfl rfl rfl ?_
    refine WL.done ?_
    refine EW.on ?_
    refine EW.seq ?_
    refine EW.seq ?_
    have h2 : ¬ m < 0 := by omega
    refine EW.region ?_
    first | refine WL.move rfl rfl rfl ?_
    first | refine WL.bin rfl rfl rfl rfl (int_lt_t ‹_› _ _ _) ?_ | refine WL.bin rfl rfl rfl rfl (int_lt_f ‹_› _ _ _) ?_ | refine WL.bin rfl rfl rfl rfl (int_lt_d _ _ _ _ _) ?_
    first | refine WL.move rfl rfl rfl ?_
    first | refine WL.move rfl rfl rfl ?_ | refine WL.skip _ rfl rfl rfl ?_
    first | refine WL.bin rfl rfl rfl rfl (int_gt_t ‹_› _ _ _) ?_ | refine WL.bin rfl rfl rfl rfl (int_gt_f ‹_› _ _ _) ?_ | refine WL.bin rfl rfl rfl rfl (int_gt_d _ _ _ _ _) ?_ | refine WL.skip _ rfl rfl rfl ?_
    first | refine WL.pick rfl rfl rfl rfl ?_
    refine WL.done ?_
    refine EW.on ?_
    refine EW.cond_t rfl ?_
    refine EW.seq ?_
    refine EW.region ?_
    first | refine WL.assign rfl rfl rfl ?_
    first | refine WL.assign rfl rfl rfl ?_
    refine WL.done ?_
    refine EW.on ?_
    refine EW.ret ?_
    refine pr_then ?_
    exact EW.returns2 Try.results6 rfl rfl ⟨rfl, rfl⟩
set_option maxRecDepth 100000 in
set_option maxHeartbeats 1000000 in
theorem len_any {w : World} {p r most : Nat} {E : List Me} {c : Nat} (h : Tb w p r most E c) : Calls Try.prog 8 #[.pointer (some ⟨p, 0, none⟩)] w fun e w' => e = .returned (.int .i64 (E.length : Int)) ∧ w' = w := by
  refine calls_of_args [.pointer (some ⟨p, 0, none⟩)] Try.func8 rfl 8 Try.ntmps8 (by show 1 ≤ 8; decide) ?_
  refine EW.seq ?_
  refine EW.region ?_
  first | refine WL.assign rfl rfl rfl ?_
  refine WL.done ?_
  refine EW.on ?_
  refine EW.seq ?_
  refine EW.region ?_
  first | refine WL.move rfl rfl rfl ?_
  first | refine WL.nilc rfl rfl rfl ?_
  refine WL.field rfl rfl rfl (g59_1 p _) ?_
  refine WL.load rfl rfl rfl (ld57 h) ?_
  refine WL.len rfl rfl rfl (len57 h.mp _) ?_
  first | refine WL.assign rfl rfl rfl ?_
  refine WL.done ?_
  refine EW.on ?_
  refine EW.ret ?_
  exact EW.returns Try.results8 rfl ⟨rfl, rfl⟩
section
variable {n : Nat} {e : List (Nat × Value)} {w : World}
theorem res_ct {P : Program} {fn : Func} {p q : Tmp} {ty : TypeId} (h : fn.results = #[.cell p ty, .tmp q]) (tmps : Array Value) (w : World) (g : Nat) (t : TypeId) (cs : Array Value) (fr : Nat × Nat) (d : TypeDesc) (v : Value)
    (hp : tmps.getD p undef = .pointer (some ⟨g, 0, none⟩)) (hq : tmps.getD q undef = v) (hg : w.heap[g]? = some (.cells cs t fr))
    (hu : P.underlying ty = some d) (hd : (match d with | .struct _ | .array _ _ => true | _ => false) = true) (hi : (P.info? ty).map (·.size) = some cs.size) : (results fn tmps).run P w = .ok (.tuple #[.agg cs, v]) w := by
  have hp' : tmps[p]?.getD undef = .pointer (some ⟨g, 0, none⟩) := by simpa using hp
  have hq' : tmps[q]?.getD undef = v := by simpa using hq
  simp [results, h, hp', hq', asAddr, run_loadVar_row w g t ty cs fr d hg hu hd hi]
theorem EW.retKT {fn : Func} {R : Ending → World → Prop} {t u : Nat} {ty' : TypeId} {g : Nat} {K : List UInt8} {v : Value} (hres : fn.results = #[.cell t 29, .tmp u]) (hv : e.lookup t = some (.pointer (some ⟨g, 0, none⟩))) (hv' : e.lookup u = some v) (hg : Blk w g (K.map byt) ty') (hK : K.length = 32) (h : R (.returned (.tuple #[kv K, v])) w) : ∀ a, Env n a e → bodyPost Try.prog fn R .ret a w := fun a ha =>
  bodyPost_ret (v := .tuple #[kv K, v]) (res_ct hres a.tmps w g ty' _ (0, 0) _ v (ha.kn t _ hv) (ha.kn u _ hv') hg u29 rfl (by simpa using i29 hK)) ha.df h
end
def fdN : Option (List UInt8) → Int
  | none => 152
  | some _ => 0
theorem lk_ok {w : World} {r : Nat} {E : List Me} {c : Nat} (h : Mp w r E c) (t n : Nat) : ((lkE E t n).getD z32).length = 32 := by
  unfold lkE
  cases hf : E.find? (fun m => decide (t = m.t ∧ n = m.n)) with
  | none => rfl
  | some m => exact (h.ok m (List.mem_of_find?_eq_some hf)).k
theorem not_b (b : Bool) (W : World) : (Op.unary .not (.bool b)).run Try.prog W = .ok (.bool (!b)) W := by cases b <;> rfl
set_option maxRecDepth 100000 in
set_option maxHeartbeats 1000000 in
theorem find_any {w : World} {p r most : Nat} {E : List Me} {c : Nat} (h : Tb w p r most E c) (t n : Nat) : Calls Try.prog 9 #[.pointer (some ⟨p, 0, none⟩), u32v t, u32v n] w fun e w' => e = .returned (.tuple #[kv ((lkE E t n).getD z32), .int .i64 (fdN (lkE E t n))]) ∧ Below w.heap.size w w' := by
  obtain ⟨w1, q6, r1, b1, l1, hq6⟩ := new29 w
  have tb1 := h.on l1
  have hK := lk_ok tb1.mp t n
  obtain ⟨q8, w2, w3, r2, r3, b3, l3, hq8⟩ := newK w1 _ hK
  obtain ⟨w4, r4, b4, f4⟩ := st29 (b1.on l3) z32l hK
  have be : Below w.heap.size w w4 := (bt l1 l3).trans (f4.below (fun k hk e => by omega) (bt l1 l3).size)
  cases hl : lkE E t n with
  | none =>
    rw [hl] at r3 r4 b3 b4 hK
    refine calls_of_args [.pointer (some ⟨p, 0, none⟩), u32v t, u32v n] Try.func9 rfl 25 Try.ntmps9 (by show 3 ≤ 25; decide) ?_
    refine EW.seq ?_
    refine EW.region ?_
    refine WL.new rfl rfl r1 ?_
    first | refine WL.assign rfl rfl rfl ?_
    refine WL.done ?_
    refine EW.on ?_
    refine EW.seq ?_
    refine EW.region ?_
    first | refine WL.move rfl rfl rfl ?_
    first | refine WL.nilc rfl rfl rfl ?_
    refine WL.field rfl rfl rfl (g59_1 p _) ?_
    refine WL.load rfl rfl rfl (ld57 tb1) ?_
    first | refine WL.move rfl rfl rfl ?_
    first | refine WL.move rfl rfl rfl ?_
    refine WL.buildN [(0, u32v t), (1, u32v n)] rfl rfl rfl (b63 _ _ _) ?_
    refine WL.lk rfl rfl rfl rfl (by have := run_lk tb1.mp t n; rw [hl] at this; exact this) ?_
    first | refine WL.move rfl rfl rfl ?_
    first | refine WL.extract rfl rfl rfl (ext_2 _ _ _).1 ?_
    first | refine WL.extract rfl rfl rfl (ext_2 _ _ _).2 ?_
    refine WL.new rfl rfl r2 ?_
    refine WL.store rfl rfl rfl r3 ?_
    first | refine WL.assign rfl rfl rfl ?_
    refine WL.done ?_
    refine EW.on ?_
    refine EW.seq ?_
    refine EW.seq ?_
    refine EW.region ?_
    first | refine WL.move rfl rfl rfl ?_
    refine WL.un rfl rfl rfl (not_b _ _) ?_
    refine WL.done ?_
    refine EW.on ?_
    refine EW.cond_t rfl ?_
    refine EW.seq ?_
    refine EW.region ?_
    refine WL.buildN [] rfl rfl rfl (b29 _) ?_
    refine WL.store rfl rfl rfl r4 ?_
    first | refine WL.assign rfl rfl rfl ?_
    refine WL.done ?_
    refine EW.on ?_
    refine EW.ret ?_
    refine pr_then ?_
    refine EW.retKT Try.results9 rfl rfl b4 hK ⟨rfl, be⟩
  | some K =>
    rw [hl] at r3 r4 b3 b4 hK
    refine calls_of_args [.pointer (some ⟨p, 0, none⟩), u32v t, u32v n] Try.func9 rfl 25 Try.ntmps9 (by show 3 ≤ 25; decide) ?_
    refine EW.seq ?_
    refine EW.region ?_
    refine WL.new rfl rfl r1 ?_
    first | refine WL.assign rfl rfl rfl ?_
    refine WL.done ?_
    refine EW.on ?_
    refine EW.seq ?_
    refine EW.region ?_
    first | refine WL.move rfl rfl rfl ?_
    first | refine WL.nilc rfl rfl rfl ?_
    refine WL.field rfl rfl rfl (g59_1 p _) ?_
    refine WL.load rfl rfl rfl (ld57 tb1) ?_
    first | refine WL.move rfl rfl rfl ?_
    first | refine WL.move rfl rfl rfl ?_
    refine WL.buildN [(0, u32v t), (1, u32v n)] rfl rfl rfl (b63 _ _ _) ?_
    refine WL.lk rfl rfl rfl rfl (by have := run_lk tb1.mp t n; rw [hl] at this; exact this) ?_
    first | refine WL.move rfl rfl rfl ?_
    first | refine WL.extract rfl rfl rfl (ext_2 _ _ _).1 ?_
    first | refine WL.extract rfl rfl rfl (ext_2 _ _ _).2 ?_
    refine WL.new rfl rfl r2 ?_
    refine WL.store rfl rfl rfl r3 ?_
    first | refine WL.assign rfl rfl rfl ?_
    refine WL.done ?_
    refine EW.on ?_
    refine EW.seq ?_
    refine EW.seq ?_
    refine EW.region ?_
    first | refine WL.move rfl rfl rfl ?_
    refine WL.un rfl rfl rfl (not_b _ _) ?_
    refine WL.done ?_
    refine EW.on ?_
    refine EW.cond_f rfl ?_
    refine EW.skip ?_
    refine EW.on ?_
    refine EW.seq ?_
    refine EW.region ?_
    refine WL.load rfl rfl rfl (ld29 b3 hK) ?_
    refine WL.store rfl rfl rfl r4 ?_
    first | refine WL.assign rfl rfl rfl ?_
    refine WL.done ?_
    refine EW.on ?_
    refine EW.ret ?_
    refine EW.retKT Try.results9 rfl rfl b4 hK ⟨rfl, be⟩
set_option maxRecDepth 100000 in
set_option maxHeartbeats 1000000 in
theorem ttake_any {w : World} {p r most : Nat} {E : List Me} {c : Nat} (h : Tb w p r most E c) (t n : Nat) : Calls Try.prog 10 #[.pointer (some ⟨p, 0, none⟩), u32v t, u32v n] w fun e w' => e = .returned (.tuple #[kv ((lkE E t n).getD z32), .int .i64 (fdN (lkE E t n))]) ∧ Tb w' p r most (delE E t n) c ∧ Fx (fun k => k = r) w w' := by
  obtain ⟨w1, q6, r1, b1, l1, hq6⟩ := new29 w
  have tb1 := h.on l1
  have hK := lk_ok tb1.mp t n
  have hr6 : r < q6 := by have := h.mp.ltb; omega
  cases hl : lkE E t n with
  | none =>
    refine calls_of_args [.pointer (some ⟨p, 0, none⟩), u32v t, u32v n] Try.func10 rfl 29 Try.ntmps10 (by show 3 ≤ 29; decide) ?_
    refine EW.seq ?_
    refine EW.region ?_
    refine WL.new rfl rfl r1 ?_
    first | refine WL.assign rfl rfl rfl ?_
    refine WL.done ?_
    refine EW.on ?_
    refine EW.seq ?_
    refine EW.region ?_
    first | refine WL.move rfl rfl rfl ?_
    first | refine WL.move rfl rfl rfl ?_
    first | refine WL.move rfl rfl rfl ?_
    refine WL.call [.pointer (some ⟨p, 0, none⟩), u32v t, u32v n] enter9 rfl rfl rfl (by have := find_any tb1 t n; rw [hl] at this; exact this) ?_
    rintro x wc ⟨rfl, lc⟩
    refine ⟨_, rfl, ?_⟩
    have tb2 := tb1.on lc
    obtain ⟨q8, w2, w3, r2, r3, b3, l3, hq8⟩ := newK wc _ hK
    have tb3 := tb2.on l3
    rw [hl] at r3 b3 hK
    have bl : Below w.heap.size w w3 := bt l1 (bt lc l3)
    first | refine WL.move rfl rfl rfl ?_
    first | refine WL.extract rfl rfl rfl (ext_2 _ _ _).1 ?_
    first | refine WL.extract rfl rfl rfl (ext_2 _ _ _).2 ?_
    refine WL.new rfl rfl r2 ?_
    refine WL.store rfl rfl rfl r3 ?_
    first | refine WL.assign rfl rfl rfl ?_
    refine WL.done ?_
    refine EW.on ?_
    refine EW.seq ?_
    refine EW.seq ?_
    refine EW.region ?_
    first | refine WL.move rfl rfl rfl ?_
    first | refine WL.bin rfl rfl rfl rfl (int_ne_f rfl _ _ _) ?_ | refine WL.bin rfl rfl rfl rfl (int_ne_t ‹_› _ _ _) ?_ | refine WL.bin rfl rfl rfl rfl (int_ne_f ‹_› _ _ _) ?_ | refine WL.bin rfl rfl rfl rfl (int_ne_t (by decide) _ _ _) ?_ | refine WL.bin rfl rfl rfl rfl (int_ne_d _ _ _ _ _) ?_
    refine WL.done ?_
    refine EW.on ?_
    refine EW.cond_t rfl ?_
    refine EW.seq ?_
    obtain ⟨w4, r4, b4, f4⟩ := st29 (b1.on (bt lc l3)) z32l hK
    refine EW.region ?_
    refine WL.buildN [] rfl rfl rfl (b29 _) ?_
    first | refine WL.move rfl rfl rfl ?_
    refine WL.store rfl rfl rfl r4 ?_
    first | refine WL.assign rfl rfl rfl ?_
    refine WL.done ?_
    refine EW.on ?_
    refine EW.ret ?_
    refine pr_then ?_
    refine EW.retKT Try.results10 rfl rfl b4 hK ⟨rfl, (by rw [delE_none hl]; exact tb3.fx f4 (by have := h.bl.lt; omega) (by omega)), (Fx.of_below bl).trans f4 (fun i hi e => by omega)⟩
  | some K =>
    refine calls_of_args [.pointer (some ⟨p, 0, none⟩), u32v t, u32v n] Try.func10 rfl 29 Try.ntmps10 (by show 3 ≤ 29; decide) ?_
    refine EW.seq ?_
    refine EW.region ?_
    refine WL.new rfl rfl r1 ?_
    first | refine WL.assign rfl rfl rfl ?_
    refine WL.done ?_
    refine EW.on ?_
    refine EW.seq ?_
    refine EW.region ?_
    first | refine WL.move rfl rfl rfl ?_
    first | refine WL.move rfl rfl rfl ?_
    first | refine WL.move rfl rfl rfl ?_
    refine WL.call [.pointer (some ⟨p, 0, none⟩), u32v t, u32v n] enter9 rfl rfl rfl (by have := find_any tb1 t n; rw [hl] at this; exact this) ?_
    rintro x wc ⟨rfl, lc⟩
    refine ⟨_, rfl, ?_⟩
    have tb2 := tb1.on lc
    obtain ⟨q8, w2, w3, r2, r3, b3, l3, hq8⟩ := newK wc _ hK
    have tb3 := tb2.on l3
    rw [hl] at r3 b3 hK
    have bl : Below w.heap.size w w3 := bt l1 (bt lc l3)
    first | refine WL.move rfl rfl rfl ?_
    first | refine WL.extract rfl rfl rfl (ext_2 _ _ _).1 ?_
    first | refine WL.extract rfl rfl rfl (ext_2 _ _ _).2 ?_
    refine WL.new rfl rfl r2 ?_
    refine WL.store rfl rfl rfl r3 ?_
    first | refine WL.assign rfl rfl rfl ?_
    refine WL.done ?_
    refine EW.on ?_
    refine EW.seq ?_
    refine EW.seq ?_
    refine EW.region ?_
    first | refine WL.move rfl rfl rfl ?_
    first | refine WL.bin rfl rfl rfl rfl (int_ne_f rfl _ _ _) ?_ | refine WL.bin rfl rfl rfl rfl (int_ne_t ‹_› _ _ _) ?_ | refine WL.bin rfl rfl rfl rfl (int_ne_f ‹_› _ _ _) ?_ | refine WL.bin rfl rfl rfl rfl (int_ne_t (by decide) _ _ _) ?_ | refine WL.bin rfl rfl rfl rfl (int_ne_d _ _ _ _ _) ?_
    refine WL.done ?_
    refine EW.on ?_
    refine EW.cond_f rfl ?_
    refine EW.skip ?_
    refine EW.on ?_
    refine EW.seq ?_
    obtain ⟨w4', rd, td, fd⟩ := run_del tb3.mp t n 0 63
    refine EW.region ?_
    first | refine WL.move rfl rfl rfl ?_
    first | refine WL.nilc rfl rfl rfl ?_
    refine WL.field rfl rfl rfl (g59_1 p _) ?_
    refine WL.load rfl rfl rfl (ld57 tb3) ?_
    first | refine WL.move rfl rfl rfl ?_
    first | refine WL.move rfl rfl rfl ?_
    refine WL.buildN [(0, u32v t), (1, u32v n)] rfl rfl rfl (b63 _ _ _) ?_
    refine WL.del rfl rfl rfl rd ?_
    refine WL.done ?_
    refine EW.on ?_
    refine EW.seq ?_
    obtain ⟨w4, r4, b4, f4⟩ := st29 ((b1.on (bt lc l3)).fx fd (by omega)) z32l hK
    refine EW.region ?_
    refine WL.load rfl rfl rfl (ld29 (b3.fx fd (by have := tb2.mp.ltb; omega)) hK) ?_
    refine WL.store rfl rfl rfl r4 ?_
    first | refine WL.assign rfl rfl rfl ?_
    refine WL.done ?_
    refine EW.on ?_
    refine EW.ret ?_
    refine EW.retKT Try.results10 rfl rfl b4 hK ⟨rfl, ⟨((tb3.bl.fx fd (h.ne)).fx f4 (by have := h.bl.lt; omega)), td.fx f4 (by omega)⟩, ((Fx.of_below (S := fun k => k = r) bl).and fd).trans f4 (fun i hi e => by omega)⟩
end Go.Proofs.Ytggehhlobjjmpaa
