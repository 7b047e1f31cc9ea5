import Derived.Test.YtacimelcmkhhlaaJm
set_option linter.unusedVariables false
set_option linter.unusedSimpArgs false
namespace Go.Proofs.Ytacimelcmkhhlaa
open Go.RowKit

/-- A client's limits. -/
structure Lm where
  pe : Int
  pk : Int
  sk : Int
  ss : Int
  ob : Int
  ct : Nat
structure Lm.ok (l : Lm) : Prop where
  ct : l.ct < 4294967296
def Lm.cs (l : Lm) : List Value := [.int .i64 l.pe, .int .i64 l.pk, .int .i64 l.sk, .int .i64 l.ss, .int .i64 l.ob, u32v l.ct]
def Lm.v (l : Lm) : Value := .agg l.cs.toArray
def Lm.z : Lm := ⟨0, 0, 0, 0, 0, 0⟩
theorem Lm.z_ok : Lm.z.ok := ⟨by decide⟩
theorem Lm.one (l : Lm) : l.cs.toArray.all (·.oneCell') = true := by
  apply all_oneCell_toArray
  intro v hv
  simp only [Lm.cs, List.mem_cons, List.not_mem_nil, or_false] at hv
  rcases hv with rfl | rfl | rfl | rfl | rfl | rfl <;> rfl
theorem i43 {l : Lm} : (Try.prog.info? 43).map (·.size) = some l.cs.length := by show _ = some 6; kernel_rfl
theorem zv43 (w : World) : (zeroValue 43).run Try.prog w = .ok Lm.z.v w := (zero_of_info (show (Try.prog.info? 43).map (fun i => (i.zero, i.size)) = some (some Lm.z.v, 6) by kernel_rfl)).1 w
theorem bd43 (W : World) : (Instr.build 43 ([] : List (Nat × Value)).toArray).run Try.prog W = .ok Lm.z.v W := by kernel_rfl
instance : DecidableEq Lm := fun a b => decidable_of_iff (a.pe = b.pe ∧ a.pk = b.pk ∧ a.sk = b.sk ∧ a.ss = b.ss ∧ a.ob = b.ob ∧ a.ct = b.ct) (by cases a; cases b; simp)
theorem f43_0 (q : Nat) (W : World) : (Instr.fieldAt 43 (.pointer (some ⟨q, 0, none⟩)) 0).run Try.prog W = .ok (.pointer (some ⟨q, 0, none⟩)) W := by
  go_simp
  try simp
  try rw [add_plain]
theorem f43_1 (q : Nat) (W : World) : (Instr.fieldAt 43 (.pointer (some ⟨q, 0, none⟩)) 1).run Try.prog W = .ok (.pointer (some ⟨q, 1, none⟩)) W := by
  go_simp
  try simp
  try rw [add_plain]
theorem f43_2 (q : Nat) (W : World) : (Instr.fieldAt 43 (.pointer (some ⟨q, 0, none⟩)) 2).run Try.prog W = .ok (.pointer (some ⟨q, 2, none⟩)) W := by
  go_simp
  try simp
  try rw [add_plain]
theorem f43_3 (q : Nat) (W : World) : (Instr.fieldAt 43 (.pointer (some ⟨q, 0, none⟩)) 3).run Try.prog W = .ok (.pointer (some ⟨q, 3, none⟩)) W := by
  go_simp
  try simp
  try rw [add_plain]
theorem f43_4 (q : Nat) (W : World) : (Instr.fieldAt 43 (.pointer (some ⟨q, 0, none⟩)) 4).run Try.prog W = .ok (.pointer (some ⟨q, 4, none⟩)) W := by
  go_simp
  try simp
  try rw [add_plain]
theorem f43_5 (q : Nat) (W : World) : (Instr.fieldAt 43 (.pointer (some ⟨q, 0, none⟩)) 5).run Try.prog W = .ok (.pointer (some ⟨q, 5, none⟩)) W := by
  go_simp
  try simp
  try rw [add_plain]
section
variable {w : World} {q : Nat} {l : Lm} {t : TypeId}
theorem Lm.ld_0 (hb : Blk w q l.cs t) (k : l.ok) : (Instr.loadAt 3 (.pointer (some ⟨q, 0, none⟩))).run Try.prog w = .ok (.int .i64 l.pe) w := ldI hb rfl
theorem Lm.st_0 (hb : Blk w q l.cs t) (x : Int) : ∃ w', (Instr.storeAt 3 (.pointer (some ⟨q, 0, none⟩)) (.int .i64 x)).run Try.prog w = .ok () w' ∧ Blk w' q (Lm.cs { l with pe := x }) t ∧ Fx (fun k => k = q) w w' := stI hb (by show 0 < 6; decide) x
theorem Lm.ld_1 (hb : Blk w q l.cs t) (k : l.ok) : (Instr.loadAt 3 (.pointer (some ⟨q, 1, none⟩))).run Try.prog w = .ok (.int .i64 l.pk) w := ldI hb rfl
theorem Lm.st_1 (hb : Blk w q l.cs t) (x : Int) : ∃ w', (Instr.storeAt 3 (.pointer (some ⟨q, 1, none⟩)) (.int .i64 x)).run Try.prog w = .ok () w' ∧ Blk w' q (Lm.cs { l with pk := x }) t ∧ Fx (fun k => k = q) w w' := stI hb (by show 1 < 6; decide) x
theorem Lm.ld_2 (hb : Blk w q l.cs t) (k : l.ok) : (Instr.loadAt 3 (.pointer (some ⟨q, 2, none⟩))).run Try.prog w = .ok (.int .i64 l.sk) w := ldI hb rfl
theorem Lm.st_2 (hb : Blk w q l.cs t) (x : Int) : ∃ w', (Instr.storeAt 3 (.pointer (some ⟨q, 2, none⟩)) (.int .i64 x)).run Try.prog w = .ok () w' ∧ Blk w' q (Lm.cs { l with sk := x }) t ∧ Fx (fun k => k = q) w w' := stI hb (by show 2 < 6; decide) x
theorem Lm.ld_3 (hb : Blk w q l.cs t) (k : l.ok) : (Instr.loadAt 3 (.pointer (some ⟨q, 3, none⟩))).run Try.prog w = .ok (.int .i64 l.ss) w := ldI hb rfl
theorem Lm.st_3 (hb : Blk w q l.cs t) (x : Int) : ∃ w', (Instr.storeAt 3 (.pointer (some ⟨q, 3, none⟩)) (.int .i64 x)).run Try.prog w = .ok () w' ∧ Blk w' q (Lm.cs { l with ss := x }) t ∧ Fx (fun k => k = q) w w' := stI hb (by show 3 < 6; decide) x
theorem Lm.ld_4 (hb : Blk w q l.cs t) (k : l.ok) : (Instr.loadAt 3 (.pointer (some ⟨q, 4, none⟩))).run Try.prog w = .ok (.int .i64 l.ob) w := ldI hb rfl
theorem Lm.st_4 (hb : Blk w q l.cs t) (x : Int) : ∃ w', (Instr.storeAt 3 (.pointer (some ⟨q, 4, none⟩)) (.int .i64 x)).run Try.prog w = .ok () w' ∧ Blk w' q (Lm.cs { l with ob := x }) t ∧ Fx (fun k => k = q) w w' := stI hb (by show 4 < 6; decide) x
theorem Lm.ld_5 (hb : Blk w q l.cs t) (k : l.ok) : (Instr.loadAt 28 (.pointer (some ⟨q, 5, none⟩))).run Try.prog w = .ok (u32v l.ct) w := hb.ldU (a := [.int .i64 l.pe, .int .i64 l.pk, .int .i64 l.sk, .int .i64 l.ss, .int .i64 l.ob]) (b := []) rfl rfl
theorem Lm.st_5 (hb : Blk w q l.cs t) (x : Nat) : ∃ w', (Instr.storeAt 28 (.pointer (some ⟨q, 5, none⟩)) (u32v x)).run Try.prog w = .ok () w' ∧ Blk w' q (Lm.cs { l with ct := x }) t ∧ Fx (fun k => k = q) w w' := hb.stU (x := u32v l.ct) (a := [.int .i64 l.pe, .int .i64 l.pk, .int .i64 l.sk, .int .i64 l.ss, .int .i64 l.ob]) (b := []) rfl rfl x
theorem Lm.ld (hb : Blk w q l.cs t) (k : l.ok) : (Instr.loadAt 43 (.pointer (some ⟨q, 0, none⟩))).run Try.prog w = .ok l.v w := run_loadR hb Try.underlying43 rfl i43
theorem Lm.st {s r : Lm} (hb : Blk w q r.cs t) (kr : r.ok) (k : s.ok) : ∃ w', (Instr.storeAt 43 (.pointer (some ⟨q, 0, none⟩)) s.v).run Try.prog w = .ok () w' ∧ Blk w' q s.cs t ∧ Fx (fun k => k = q) w w' := by
  obtain ⟨w', h1, h2, h3⟩ := hb.stA (o := 0) (a := []) (b := []) (m := r.cs) (ty := 43) (vs := s.cs) i43 s.one (by simp) rfl rfl
  exact ⟨w', h1, by simpa using h2, h3⟩
end
theorem eqI (d : Nat) (a b : Int) (W : World) : (Op.equalIn (d + 1) 3 (.int .i64 a) (.int .i64 b)).run Try.prog W = .ok (decide (a = b)) W := by
  rw [run_equalIn_int (P := Try.prog) W d 3 .i64 .i64 a b Try.underlying3]
  have key : (a == b) = decide (a = b) := by by_cases h : a = b <;> simp [h]
  rw [key]
theorem eqLm (g h : Lm) (W : World) : (Op.equalIn 10000 43 g.v h.v).run Try.prog W = .ok (decide (g = h)) W := by
  unfold Lm.v
  rw [run_equalIn_struct W 9999 43 _ _ (by kernel_rfl) (by kernel_rfl)]
  simp only [Program.fieldsOf, Try.underlying43]
  have e : decide (g = h) = (decide (g.pe = h.pe) && (decide (g.pk = h.pk) && (decide (g.sk = h.sk) && (decide (g.ss = h.ss) && (decide (g.ob = h.ob) && (decide (g.ct = h.ct) && true)))))) := by
    rw [Bool.and_true]
    simp only [← Bool.decide_and]
    apply decide_eq_decide.2
    cases g; cases h; simp
  rw [e]
  refine eqF_cons (by decide) (part_one (a := []) (b := [.int .i64 g.pk, .int .i64 g.sk, .int .i64 g.ss, .int .i64 g.ob, u32v g.ct]) Try.isAgg3 rfl rfl W) (part_one (a := []) (b := [.int .i64 h.pk, .int .i64 h.sk, .int .i64 h.ss, .int .i64 h.ob, u32v h.ct]) Try.isAgg3 rfl rfl W) (eqI 9998 _ _ W) ?_
  refine eqF_cons (by decide) (part_one (a := [.int .i64 g.pe]) (b := [.int .i64 g.sk, .int .i64 g.ss, .int .i64 g.ob, u32v g.ct]) Try.isAgg3 rfl rfl W) (part_one (a := [.int .i64 h.pe]) (b := [.int .i64 h.sk, .int .i64 h.ss, .int .i64 h.ob, u32v h.ct]) Try.isAgg3 rfl rfl W) (eqI 9998 _ _ W) ?_
  refine eqF_cons (by decide) (part_one (a := [.int .i64 g.pe, .int .i64 g.pk]) (b := [.int .i64 g.ss, .int .i64 g.ob, u32v g.ct]) Try.isAgg3 rfl rfl W) (part_one (a := [.int .i64 h.pe, .int .i64 h.pk]) (b := [.int .i64 h.ss, .int .i64 h.ob, u32v h.ct]) Try.isAgg3 rfl rfl W) (eqI 9998 _ _ W) ?_
  refine eqF_cons (by decide) (part_one (a := [.int .i64 g.pe, .int .i64 g.pk, .int .i64 g.sk]) (b := [.int .i64 g.ob, u32v g.ct]) Try.isAgg3 rfl rfl W) (part_one (a := [.int .i64 h.pe, .int .i64 h.pk, .int .i64 h.sk]) (b := [.int .i64 h.ob, u32v h.ct]) Try.isAgg3 rfl rfl W) (eqI 9998 _ _ W) ?_
  refine eqF_cons (by decide) (part_one (a := [.int .i64 g.pe, .int .i64 g.pk, .int .i64 g.sk, .int .i64 g.ss]) (b := [u32v g.ct]) Try.isAgg3 rfl rfl W) (part_one (a := [.int .i64 h.pe, .int .i64 h.pk, .int .i64 h.sk, .int .i64 h.ss]) (b := [u32v h.ct]) Try.isAgg3 rfl rfl W) (eqI 9998 _ _ W) ?_
  refine eqF_cons (by decide) (part_one (a := [.int .i64 g.pe, .int .i64 g.pk, .int .i64 g.sk, .int .i64 g.ss, .int .i64 g.ob]) (b := []) Try.isAgg28 rfl rfl W) (part_one (a := [.int .i64 h.pe, .int .i64 h.pk, .int .i64 h.sk, .int .i64 h.ss, .int .i64 h.ob]) (b := []) Try.isAgg28 rfl rfl W) (eqU 9998 _ _ W) ?_
  exact eqF_nil _ _ _ _
theorem eql43 (g h : Lm) (W : World) (x y : Operand) : (do eqGuard .eql 43 x y g.v h.v; binOp .eql 43 g.v h.v : Sem Value).run Try.prog W = .ok (.bool (decide (g = h))) W := by
  have he := eqLm g h W
  have hg : Try.prog.eqGuardType Try.prog.depth 43 = false := by kernel_rfl
  unfold Lm.v at *
  rw [Sem.run_bind, run_eqGuard_agg W .eql 43 x y _ _ hg, Result.andThen_ok, run_eql_struct, he, Result.andThen_ok]
theorem int_le_t {a b : Int} (h : a ≤ b) (W : World) (x y : Operand) : (do eqGuard .leq 3 x y (.int .i64 a) (.int .i64 b); binOp .leq 3 (.int .i64 a) (.int .i64 b) : Sem Value).run Try.prog W = .ok (.bool true) W := by go_simp
theorem int_le_f {a b : Int} (h : ¬ a ≤ b) (W : World) (x y : Operand) : (do eqGuard .leq 3 x y (.int .i64 a) (.int .i64 b); binOp .leq 3 (.int .i64 a) (.int .i64 b) : Sem Value).run Try.prog W = .ok (.bool false) W := by
  go_simp
  try omega
theorem int_le_d (a b : Int) (W : World) (x y : Operand) : (do eqGuard .leq 3 x y (.int .i64 a) (.int .i64 b); binOp .leq 3 (.int .i64 a) (.int .i64 b) : Sem Value).run Try.prog W = .ok (.bool (decide (a ≤ b))) W := by
  by_cases h : a ≤ b
  · rw [decide_eq_true h]; exact int_le_t h W x y
  · rw [decide_eq_false h]; exact int_le_f h W x y
set_option maxRecDepth 100000 in
set_option maxHeartbeats 1000000 in
theorem within_any (n a b : Int) (w : World) : Calls Try.prog 34 #[.int .i64 n, .int .i64 a, .int .i64 b] w fun e w' => e = .returned (.bool (decide (a ≤ n ∧ n ≤ b))) ∧ w' = w := by
  refine calls_of_args [.int .i64 n, .int .i64 a, .int .i64 b] Try.func34 rfl 15 Try.ntmps34 (by show 3 ≤ 15; decide) ?_
  refine EW.seq ?_
  refine EW.region ?_
  first | refine WL.assign rfl rfl rfl ?_
  refine WL.done ?_
  refine EW.on ?_
  refine EW.seq ?_
  by_cases hc : a ≤ n
  · refine EW.region ?_
    first | refine WL.move rfl rfl rfl ?_
    first | refine WL.move rfl rfl rfl ?_
    refine WL.bin rfl rfl rfl rfl (int_ge_t hc _ _ _) ?_
    first | refine WL.move rfl rfl rfl ?_
    first | refine WL.move rfl rfl rfl ?_ | refine WL.skip _ rfl rfl rfl ?_
    first | refine WL.move rfl rfl rfl ?_ | refine WL.skip _ rfl rfl rfl ?_
    refine WL.bin rfl rfl rfl rfl (int_le_d _ _ _ _ _) ?_
    first | refine WL.pick rfl rfl rfl rfl ?_
    first | refine WL.assign rfl rfl rfl ?_
    refine WL.done ?_
    refine EW.on ?_
    refine EW.ret ?_
    exact EW.returns Try.results34 rfl ⟨congrArg (fun b => Ending.returned (Value.bool b)) (decide_eq_decide.2 ⟨fun h => ⟨hc, h⟩, fun h => h.2⟩), rfl⟩
  · refine EW.region ?_
    first | refine WL.move rfl rfl rfl ?_
    first | refine WL.move rfl rfl rfl ?_
    refine WL.bin rfl rfl rfl rfl (int_ge_f hc _ _ _) ?_
    first | refine WL.move rfl rfl rfl ?_
    refine WL.skip _ rfl rfl rfl ?_
    refine WL.skip _ rfl rfl rfl ?_
    refine WL.skip _ rfl rfl rfl ?_
    first | refine WL.pick rfl rfl rfl rfl ?_
    first | refine WL.assign rfl rfl rfl ?_
    refine WL.done ?_
    refine EW.on ?_
    refine EW.ret ?_
    exact EW.returns Try.results34 rfl ⟨by rw [decide_eq_false (fun h => hc h.1)], rfl⟩
def GoodL (l : Lm) : Prop := (1 ≤ l.pe ∧ l.pe ≤ 16) ∧ (1 ≤ l.pk ∧ l.pk ≤ 64) ∧ (0 ≤ l.sk ∧ l.sk ≤ 64) ∧ (0 ≤ l.ss ∧ l.ss ≤ 256) ∧ (1 ≤ l.ob ∧ l.ob ≤ 64) ∧ ¬ l.ct = 0
instance (l : Lm) : Decidable (GoodL l) := by unfold GoodL; infer_instance
def chkL (l : Lm) : Int := if GoodL l then 0 else 2
set_option maxRecDepth 100000 in
set_option maxHeartbeats 4000000 in
theorem checkL_any (l : Lm) (k : l.ok) (w : World) : Calls Try.prog 14 #[l.v] w fun e w' => e = .returned (.int .i64 (chkL l)) ∧ Below w.heap.size w w' := by
  obtain ⟨w1, q1, r1, b1, e1, hq1⟩ := box_any 43 l.cs w
  refine calls_of_args [l.v] Try.func14 rfl 27 Try.ntmps14 (by show 1 ≤ 27; decide) ?_
  refine EW.seq ?_
  refine EW.region ?_
  refine WL.box rfl rfl rfl r1 ?_
  first | refine WL.assign rfl rfl rfl ?_
  refine WL.done ?_
  refine EW.on ?_
  refine EW.seq ?_
  refine EW.block ?_
  refine EW.seq ?_
  refine EW.seq ?_
  have hc : (¬ (1 ≤ l.pe ∧ l.pe ≤ 16)) ∨ ((1 ≤ l.pe ∧ l.pe ≤ 16) ∧ ¬ (1 ≤ l.pk ∧ l.pk ≤ 64)) ∨ ((1 ≤ l.pe ∧ l.pe ≤ 16) ∧ (1 ≤ l.pk ∧ l.pk ≤ 64) ∧ ¬ (0 ≤ l.sk ∧ l.sk ≤ 64)) ∨ ((1 ≤ l.pe ∧ l.pe ≤ 16) ∧ (1 ≤ l.pk ∧ l.pk ≤ 64) ∧ (0 ≤ l.sk ∧ l.sk ≤ 64) ∧ ¬ (0 ≤ l.ss ∧ l.ss ≤ 256)) ∨ ((1 ≤ l.pe ∧ l.pe ≤ 16) ∧ (1 ≤ l.pk ∧ l.pk ≤ 64) ∧ (0 ≤ l.sk ∧ l.sk ≤ 64) ∧ (0 ≤ l.ss ∧ l.ss ≤ 256) ∧ ¬ (1 ≤ l.ob ∧ l.ob ≤ 64)) ∨ ((1 ≤ l.pe ∧ l.pe ≤ 16) ∧ (1 ≤ l.pk ∧ l.pk ≤ 64) ∧ (0 ≤ l.sk ∧ l.sk ≤ 64) ∧ (0 ≤ l.ss ∧ l.ss ≤ 256) ∧ (1 ≤ l.ob ∧ l.ob ≤ 64) ∧ l.ct = 0) ∨ ((1 ≤ l.pe ∧ l.pe ≤ 16) ∧ (1 ≤ l.pk ∧ l.pk ≤ 64) ∧ (0 ≤ l.sk ∧ l.sk ≤ 64) ∧ (0 ≤ l.ss ∧ l.ss ≤ 256) ∧ (1 ≤ l.ob ∧ l.ob ≤ 64) ∧ ¬ l.ct = 0) := by omega
  rcases hc with a1 | ⟨a1, a2⟩ | ⟨a1, a2, a3⟩ | ⟨a1, a2, a3, a4⟩ | ⟨a1, a2, a3, a4, a5⟩ | ⟨a1, a2, a3, a4, a5, a6⟩ | ⟨a1, a2, a3, a4, a5, a6⟩
  · refine EW.region ?_
    first | refine WL.field rfl rfl rfl (f43_0 q1 _) ?_
    first | refine WL.load rfl rfl rfl (Lm.ld_0 b1 k) ?_
    refine WL.call [.int .i64 l.pe, .int .i64 1, .int .i64 16] enter34 rfl rfl rfl (within_any l.pe 1 16 _) ?_
    rintro _ _ ⟨rfl, rfl⟩
    rw [decide_eq_false a1]
    refine ⟨_, rfl, ?_⟩
    refine WL.un rfl rfl rfl (not_t _ _) ?_
    first | refine WL.assign rfl rfl rfl ?_
    refine WL.done ?_
    refine EW.on ?_
    refine EW.cond_t rfl ?_
    refine EW.skip ?_
    refine EW.on ?_
    refine EW.cond_t rfl ?_
    refine EW.seq ?_
    refine EW.region ?_
    first | refine WL.assign rfl rfl rfl ?_
    refine WL.done ?_
    refine EW.on ?_
    refine EW.ret ?_
    refine pr_block ?_
    refine pr_then ?_
    exact EW.returns Try.results14 rfl ⟨by rw [chkL, if_neg (fun h => a1 h.1)], e1⟩
  · refine EW.region ?_
    first | refine WL.field rfl rfl rfl (f43_0 q1 _) ?_
    first | refine WL.load rfl rfl rfl (Lm.ld_0 b1 k) ?_
    refine WL.call [.int .i64 l.pe, .int .i64 1, .int .i64 16] enter34 rfl rfl rfl (within_any l.pe 1 16 _) ?_
    rintro _ _ ⟨rfl, rfl⟩
    rw [decide_eq_true a1]
    refine ⟨_, rfl, ?_⟩
    refine WL.un rfl rfl rfl (not_t _ _) ?_
    first | refine WL.assign rfl rfl rfl ?_
    refine WL.done ?_
    refine EW.on ?_
    refine EW.cond_f rfl ?_
    refine EW.seq ?_
    refine EW.region ?_
    first | refine WL.field rfl rfl rfl (f43_1 q1 _) ?_
    first | refine WL.load rfl rfl rfl (Lm.ld_1 b1 k) ?_
    refine WL.call [.int .i64 l.pk, .int .i64 1, .int .i64 64] enter34 rfl rfl rfl (within_any l.pk 1 64 _) ?_
    rintro _ _ ⟨rfl, rfl⟩
    rw [decide_eq_false a2]
    refine ⟨_, rfl, ?_⟩
    refine WL.un rfl rfl rfl (not_t _ _) ?_
    first | refine WL.assign rfl rfl rfl ?_
    refine WL.done ?_
    refine EW.on ?_
    refine EW.cond_t rfl ?_
    refine EW.skip ?_
    refine EW.on ?_
    refine EW.cond_t rfl ?_
    refine EW.seq ?_
    refine EW.region ?_
    first | refine WL.assign rfl rfl rfl ?_
    refine WL.done ?_
    refine EW.on ?_
    refine EW.ret ?_
    refine pr_block ?_
    refine pr_then ?_
    exact EW.returns Try.results14 rfl ⟨by rw [chkL, if_neg (fun h => a2 h.2.1)], e1⟩
  · refine EW.region ?_
    first | refine WL.field rfl rfl rfl (f43_0 q1 _) ?_
    first | refine WL.load rfl rfl rfl (Lm.ld_0 b1 k) ?_
    refine WL.call [.int .i64 l.pe, .int .i64 1, .int .i64 16] enter34 rfl rfl rfl (within_any l.pe 1 16 _) ?_
    rintro _ _ ⟨rfl, rfl⟩
    rw [decide_eq_true a1]
    refine ⟨_, rfl, ?_⟩
    refine WL.un rfl rfl rfl (not_t _ _) ?_
    first | refine WL.assign rfl rfl rfl ?_
    refine WL.done ?_
    refine EW.on ?_
    refine EW.cond_f rfl ?_
    refine EW.seq ?_
    refine EW.region ?_
    first | refine WL.field rfl rfl rfl (f43_1 q1 _) ?_
    first | refine WL.load rfl rfl rfl (Lm.ld_1 b1 k) ?_
    refine WL.call [.int .i64 l.pk, .int .i64 1, .int .i64 64] enter34 rfl rfl rfl (within_any l.pk 1 64 _) ?_
    rintro _ _ ⟨rfl, rfl⟩
    rw [decide_eq_true a2]
    refine ⟨_, rfl, ?_⟩
    refine WL.un rfl rfl rfl (not_t _ _) ?_
    first | refine WL.assign rfl rfl rfl ?_
    refine WL.done ?_
    refine EW.on ?_
    refine EW.cond_f rfl ?_
    refine EW.seq ?_
    refine EW.region ?_
    first | refine WL.field rfl rfl rfl (f43_2 q1 _) ?_
    first | refine WL.load rfl rfl rfl (Lm.ld_2 b1 k) ?_
    refine WL.call [.int .i64 l.sk, .int .i64 0, .int .i64 64] enter34 rfl rfl rfl (within_any l.sk 0 64 _) ?_
    rintro _ _ ⟨rfl, rfl⟩
    rw [decide_eq_false a3]
    refine ⟨_, rfl, ?_⟩
    refine WL.un rfl rfl rfl (not_t _ _) ?_
    first | refine WL.assign rfl rfl rfl ?_
    refine WL.done ?_
    refine EW.on ?_
    refine EW.cond_t rfl ?_
    refine EW.skip ?_
    refine EW.on ?_
    refine EW.cond_t rfl ?_
    refine EW.seq ?_
    refine EW.region ?_
    first | refine WL.assign rfl rfl rfl ?_
    refine WL.done ?_
    refine EW.on ?_
    refine EW.ret ?_
    refine pr_block ?_
    refine pr_then ?_
    exact EW.returns Try.results14 rfl ⟨by rw [chkL, if_neg (fun h => a3 h.2.2.1)], e1⟩
  · refine EW.region ?_
    first | refine WL.field rfl rfl rfl (f43_0 q1 _) ?_
    first | refine WL.load rfl rfl rfl (Lm.ld_0 b1 k) ?_
    refine WL.call [.int .i64 l.pe, .int .i64 1, .int .i64 16] enter34 rfl rfl rfl (within_any l.pe 1 16 _) ?_
    rintro _ _ ⟨rfl, rfl⟩
    rw [decide_eq_true a1]
    refine ⟨_, rfl, ?_⟩
    refine WL.un rfl rfl rfl (not_t _ _) ?_
    first | refine WL.assign rfl rfl rfl ?_
    refine WL.done ?_
    refine EW.on ?_
    refine EW.cond_f rfl ?_
    refine EW.seq ?_
    refine EW.region ?_
    first | refine WL.field rfl rfl rfl (f43_1 q1 _) ?_
    first | refine WL.load rfl rfl rfl (Lm.ld_1 b1 k) ?_
    refine WL.call [.int .i64 l.pk, .int .i64 1, .int .i64 64] enter34 rfl rfl rfl (within_any l.pk 1 64 _) ?_
    rintro _ _ ⟨rfl, rfl⟩
    rw [decide_eq_true a2]
    refine ⟨_, rfl, ?_⟩
    refine WL.un rfl rfl rfl (not_t _ _) ?_
    first | refine WL.assign rfl rfl rfl ?_
    refine WL.done ?_
    refine EW.on ?_
    refine EW.cond_f rfl ?_
    refine EW.seq ?_
    refine EW.region ?_
    first | refine WL.field rfl rfl rfl (f43_2 q1 _) ?_
    first | refine WL.load rfl rfl rfl (Lm.ld_2 b1 k) ?_
    refine WL.call [.int .i64 l.sk, .int .i64 0, .int .i64 64] enter34 rfl rfl rfl (within_any l.sk 0 64 _) ?_
    rintro _ _ ⟨rfl, rfl⟩
    rw [decide_eq_true a3]
    refine ⟨_, rfl, ?_⟩
    refine WL.un rfl rfl rfl (not_t _ _) ?_
    first | refine WL.assign rfl rfl rfl ?_
    refine WL.done ?_
    refine EW.on ?_
    refine EW.cond_f rfl ?_
    refine EW.seq ?_
    refine EW.region ?_
    first | refine WL.field rfl rfl rfl (f43_3 q1 _) ?_
    first | refine WL.load rfl rfl rfl (Lm.ld_3 b1 k) ?_
    refine WL.call [.int .i64 l.ss, .int .i64 0, .int .i64 256] enter34 rfl rfl rfl (within_any l.ss 0 256 _) ?_
    rintro _ _ ⟨rfl, rfl⟩
    rw [decide_eq_false a4]
    refine ⟨_, rfl, ?_⟩
    refine WL.un rfl rfl rfl (not_t _ _) ?_
    first | refine WL.assign rfl rfl rfl ?_
    refine WL.done ?_
    refine EW.on ?_
    refine EW.cond_t rfl ?_
    refine EW.skip ?_
    refine EW.on ?_
    refine EW.cond_t rfl ?_
    refine EW.seq ?_
    refine EW.region ?_
    first | refine WL.assign rfl rfl rfl ?_
    refine WL.done ?_
    refine EW.on ?_
    refine EW.ret ?_
    refine pr_block ?_
    refine pr_then ?_
    exact EW.returns Try.results14 rfl ⟨by rw [chkL, if_neg (fun h => a4 h.2.2.2.1)], e1⟩
  · refine EW.region ?_
    first | refine WL.field rfl rfl rfl (f43_0 q1 _) ?_
    first | refine WL.load rfl rfl rfl (Lm.ld_0 b1 k) ?_
    refine WL.call [.int .i64 l.pe, .int .i64 1, .int .i64 16] enter34 rfl rfl rfl (within_any l.pe 1 16 _) ?_
    rintro _ _ ⟨rfl, rfl⟩
    rw [decide_eq_true a1]
    refine ⟨_, rfl, ?_⟩
    refine WL.un rfl rfl rfl (not_t _ _) ?_
    first | refine WL.assign rfl rfl rfl ?_
    refine WL.done ?_
    refine EW.on ?_
    refine EW.cond_f rfl ?_
    refine EW.seq ?_
    refine EW.region ?_
    first | refine WL.field rfl rfl rfl (f43_1 q1 _) ?_
    first | refine WL.load rfl rfl rfl (Lm.ld_1 b1 k) ?_
    refine WL.call [.int .i64 l.pk, .int .i64 1, .int .i64 64] enter34 rfl rfl rfl (within_any l.pk 1 64 _) ?_
    rintro _ _ ⟨rfl, rfl⟩
    rw [decide_eq_true a2]
    refine ⟨_, rfl, ?_⟩
    refine WL.un rfl rfl rfl (not_t _ _) ?_
    first | refine WL.assign rfl rfl rfl ?_
    refine WL.done ?_
    refine EW.on ?_
    refine EW.cond_f rfl ?_
    refine EW.seq ?_
    refine EW.region ?_
    first | refine WL.field rfl rfl rfl (f43_2 q1 _) ?_
    first | refine WL.load rfl rfl rfl (Lm.ld_2 b1 k) ?_
    refine WL.call [.int .i64 l.sk, .int .i64 0, .int .i64 64] enter34 rfl rfl rfl (within_any l.sk 0 64 _) ?_
    rintro _ _ ⟨rfl, rfl⟩
    rw [decide_eq_true a3]
    refine ⟨_, rfl, ?_⟩
    refine WL.un rfl rfl rfl (not_t _ _) ?_
    first | refine WL.assign rfl rfl rfl ?_
    refine WL.done ?_
    refine EW.on ?_
    refine EW.cond_f rfl ?_
    refine EW.seq ?_
    refine EW.region ?_
    first | refine WL.field rfl rfl rfl (f43_3 q1 _) ?_
    first | refine WL.load rfl rfl rfl (Lm.ld_3 b1 k) ?_
    refine WL.call [.int .i64 l.ss, .int .i64 0, .int .i64 256] enter34 rfl rfl rfl (within_any l.ss 0 256 _) ?_
    rintro _ _ ⟨rfl, rfl⟩
    rw [decide_eq_true a4]
    refine ⟨_, rfl, ?_⟩
    refine WL.un rfl rfl rfl (not_t _ _) ?_
    first | refine WL.assign rfl rfl rfl ?_
    refine WL.done ?_
    refine EW.on ?_
    refine EW.cond_f rfl ?_
    refine EW.seq ?_
    refine EW.region ?_
    first | refine WL.field rfl rfl rfl (f43_4 q1 _) ?_
    first | refine WL.load rfl rfl rfl (Lm.ld_4 b1 k) ?_
    refine WL.call [.int .i64 l.ob, .int .i64 1, .int .i64 64] enter34 rfl rfl rfl (within_any l.ob 1 64 _) ?_
    rintro _ _ ⟨rfl, rfl⟩
    rw [decide_eq_false a5]
    refine ⟨_, rfl, ?_⟩
    refine WL.un rfl rfl rfl (not_t _ _) ?_
    first | refine WL.assign rfl rfl rfl ?_
    refine WL.done ?_
    refine EW.on ?_
    refine EW.cond_t rfl ?_
    refine EW.skip ?_
    refine EW.on ?_
    refine EW.cond_t rfl ?_
    refine EW.seq ?_
    refine EW.region ?_
    first | refine WL.assign rfl rfl rfl ?_
    refine WL.done ?_
    refine EW.on ?_
    refine EW.ret ?_
    refine pr_block ?_
    refine pr_then ?_
    exact EW.returns Try.results14 rfl ⟨by rw [chkL, if_neg (fun h => a5 h.2.2.2.2.1)], e1⟩
  · refine EW.region ?_
    first | refine WL.field rfl rfl rfl (f43_0 q1 _) ?_
    first | refine WL.load rfl rfl rfl (Lm.ld_0 b1 k) ?_
    refine WL.call [.int .i64 l.pe, .int .i64 1, .int .i64 16] enter34 rfl rfl rfl (within_any l.pe 1 16 _) ?_
    rintro _ _ ⟨rfl, rfl⟩
    rw [decide_eq_true a1]
    refine ⟨_, rfl, ?_⟩
    refine WL.un rfl rfl rfl (not_t _ _) ?_
    first | refine WL.assign rfl rfl rfl ?_
    refine WL.done ?_
    refine EW.on ?_
    refine EW.cond_f rfl ?_
    refine EW.seq ?_
    refine EW.region ?_
    first | refine WL.field rfl rfl rfl (f43_1 q1 _) ?_
    first | refine WL.load rfl rfl rfl (Lm.ld_1 b1 k) ?_
    refine WL.call [.int .i64 l.pk, .int .i64 1, .int .i64 64] enter34 rfl rfl rfl (within_any l.pk 1 64 _) ?_
    rintro _ _ ⟨rfl, rfl⟩
    rw [decide_eq_true a2]
    refine ⟨_, rfl, ?_⟩
    refine WL.un rfl rfl rfl (not_t _ _) ?_
    first | refine WL.assign rfl rfl rfl ?_
    refine WL.done ?_
    refine EW.on ?_
    refine EW.cond_f rfl ?_
    refine EW.seq ?_
    refine EW.region ?_
    first | refine WL.field rfl rfl rfl (f43_2 q1 _) ?_
    first | refine WL.load rfl rfl rfl (Lm.ld_2 b1 k) ?_
    refine WL.call [.int .i64 l.sk, .int .i64 0, .int .i64 64] enter34 rfl rfl rfl (within_any l.sk 0 64 _) ?_
    rintro _ _ ⟨rfl, rfl⟩
    rw [decide_eq_true a3]
    refine ⟨_, rfl, ?_⟩
    refine WL.un rfl rfl rfl (not_t _ _) ?_
    first | refine WL.assign rfl rfl rfl ?_
    refine WL.done ?_
    refine EW.on ?_
    refine EW.cond_f rfl ?_
    refine EW.seq ?_
    refine EW.region ?_
    first | refine WL.field rfl rfl rfl (f43_3 q1 _) ?_
    first | refine WL.load rfl rfl rfl (Lm.ld_3 b1 k) ?_
    refine WL.call [.int .i64 l.ss, .int .i64 0, .int .i64 256] enter34 rfl rfl rfl (within_any l.ss 0 256 _) ?_
    rintro _ _ ⟨rfl, rfl⟩
    rw [decide_eq_true a4]
    refine ⟨_, rfl, ?_⟩
    refine WL.un rfl rfl rfl (not_t _ _) ?_
    first | refine WL.assign rfl rfl rfl ?_
    refine WL.done ?_
    refine EW.on ?_
    refine EW.cond_f rfl ?_
    refine EW.seq ?_
    refine EW.region ?_
    first | refine WL.field rfl rfl rfl (f43_4 q1 _) ?_
    first | refine WL.load rfl rfl rfl (Lm.ld_4 b1 k) ?_
    refine WL.call [.int .i64 l.ob, .int .i64 1, .int .i64 64] enter34 rfl rfl rfl (within_any l.ob 1 64 _) ?_
    rintro _ _ ⟨rfl, rfl⟩
    rw [decide_eq_true a5]
    refine ⟨_, rfl, ?_⟩
    refine WL.un rfl rfl rfl (not_t _ _) ?_
    first | refine WL.assign rfl rfl rfl ?_
    refine WL.done ?_
    refine EW.on ?_
    refine EW.cond_f rfl ?_
    refine EW.region ?_
    first | refine WL.field rfl rfl rfl (f43_5 q1 _) ?_
    first | refine WL.load rfl rfl rfl (Lm.ld_5 b1 k) ?_
    refine WL.bin rfl rfl rfl rfl (u_eq_t a6 _ _ _) ?_
    first | refine WL.assign rfl rfl rfl ?_
    refine WL.done ?_
    refine EW.on ?_
    refine EW.cond_t rfl ?_
    refine EW.seq ?_
    refine EW.region ?_
    first | refine WL.assign rfl rfl rfl ?_
    refine WL.done ?_
    refine EW.on ?_
    refine EW.ret ?_
    refine pr_block ?_
    refine pr_then ?_
    exact EW.returns Try.results14 rfl ⟨by rw [chkL, if_neg (fun h => h.2.2.2.2.2 a6)], e1⟩
  · refine EW.region ?_
    first | refine WL.field rfl rfl rfl (f43_0 q1 _) ?_
    first | refine WL.load rfl rfl rfl (Lm.ld_0 b1 k) ?_
    refine WL.call [.int .i64 l.pe, .int .i64 1, .int .i64 16] enter34 rfl rfl rfl (within_any l.pe 1 16 _) ?_
    rintro _ _ ⟨rfl, rfl⟩
    rw [decide_eq_true a1]
    refine ⟨_, rfl, ?_⟩
    refine WL.un rfl rfl rfl (not_t _ _) ?_
    first | refine WL.assign rfl rfl rfl ?_
    refine WL.done ?_
    refine EW.on ?_
    refine EW.cond_f rfl ?_
    refine EW.seq ?_
    refine EW.region ?_
    first | refine WL.field rfl rfl rfl (f43_1 q1 _) ?_
    first | refine WL.load rfl rfl rfl (Lm.ld_1 b1 k) ?_
    refine WL.call [.int .i64 l.pk, .int .i64 1, .int .i64 64] enter34 rfl rfl rfl (within_any l.pk 1 64 _) ?_
    rintro _ _ ⟨rfl, rfl⟩
    rw [decide_eq_true a2]
    refine ⟨_, rfl, ?_⟩
    refine WL.un rfl rfl rfl (not_t _ _) ?_
    first | refine WL.assign rfl rfl rfl ?_
    refine WL.done ?_
    refine EW.on ?_
    refine EW.cond_f rfl ?_
    refine EW.seq ?_
    refine EW.region ?_
    first | refine WL.field rfl rfl rfl (f43_2 q1 _) ?_
    first | refine WL.load rfl rfl rfl (Lm.ld_2 b1 k) ?_
    refine WL.call [.int .i64 l.sk, .int .i64 0, .int .i64 64] enter34 rfl rfl rfl (within_any l.sk 0 64 _) ?_
    rintro _ _ ⟨rfl, rfl⟩
    rw [decide_eq_true a3]
    refine ⟨_, rfl, ?_⟩
    refine WL.un rfl rfl rfl (not_t _ _) ?_
    first | refine WL.assign rfl rfl rfl ?_
    refine WL.done ?_
    refine EW.on ?_
    refine EW.cond_f rfl ?_
    refine EW.seq ?_
    refine EW.region ?_
    first | refine WL.field rfl rfl rfl (f43_3 q1 _) ?_
    first | refine WL.load rfl rfl rfl (Lm.ld_3 b1 k) ?_
    refine WL.call [.int .i64 l.ss, .int .i64 0, .int .i64 256] enter34 rfl rfl rfl (within_any l.ss 0 256 _) ?_
    rintro _ _ ⟨rfl, rfl⟩
    rw [decide_eq_true a4]
    refine ⟨_, rfl, ?_⟩
    refine WL.un rfl rfl rfl (not_t _ _) ?_
    first | refine WL.assign rfl rfl rfl ?_
    refine WL.done ?_
    refine EW.on ?_
    refine EW.cond_f rfl ?_
    refine EW.seq ?_
    refine EW.region ?_
    first | refine WL.field rfl rfl rfl (f43_4 q1 _) ?_
    first | refine WL.load rfl rfl rfl (Lm.ld_4 b1 k) ?_
    refine WL.call [.int .i64 l.ob, .int .i64 1, .int .i64 64] enter34 rfl rfl rfl (within_any l.ob 1 64 _) ?_
    rintro _ _ ⟨rfl, rfl⟩
    rw [decide_eq_true a5]
    refine ⟨_, rfl, ?_⟩
    refine WL.un rfl rfl rfl (not_t _ _) ?_
    first | refine WL.assign rfl rfl rfl ?_
    refine WL.done ?_
    refine EW.on ?_
    refine EW.cond_f rfl ?_
    refine EW.region ?_
    first | refine WL.field rfl rfl rfl (f43_5 q1 _) ?_
    first | refine WL.load rfl rfl rfl (Lm.ld_5 b1 k) ?_
    refine WL.bin rfl rfl rfl rfl (u_eq_f a6 _ _ _) ?_
    first | refine WL.assign rfl rfl rfl ?_
    refine WL.done ?_
    refine EW.on ?_
    refine EW.cond_f rfl ?_
    refine EW.skip ?_
    refine pn_block ?_
    refine EW.on ?_
    refine EW.seq ?_
    refine EW.region ?_
    first | refine WL.assign rfl rfl rfl ?_
    refine WL.done ?_
    refine EW.on ?_
    refine EW.ret ?_
    exact EW.returns Try.results14 rfl ⟨by rw [chkL, if_pos ⟨a1, a2, a3, a4, a5, a6⟩], e1⟩
set_option maxRecDepth 100000 in
set_option maxHeartbeats 4000000 in
theorem tellL (u : FrameMode) (q p pe : Nat) (v : Value) (c : List UInt8) (at_ : Nat) (f : Int) (s : Lm) (ks : s.ok) (e0 : Int) (w : World) (hr : Rd w q v c at_ f) (hp : Blk w p s.cs 43) (he : Blk w pe [.int .i64 e0] 35) (hpe : ¬ p = pe) : CallsD Try.prog 36 #[.pointer (some ⟨q, 0, none⟩), .pointer (some ⟨p, 0, none⟩), .pointer (some ⟨pe, 0, none⟩)] u w fun x u' w' => u' = u ∧ x = .returned (.tuple #[]) ∧ Blk w' p (if tlE f e0 = 0 then s else Lm.z).cs 43 ∧ Blk w' pe [.int .i64 (tlE f e0)] 35 ∧ Fx (fun k => k = p ∨ k = pe) w w' := by
  refine callsDA_of_args u [.pointer (some ⟨q, 0, none⟩), .pointer (some ⟨p, 0, none⟩), .pointer (some ⟨pe, 0, none⟩)] Try.func36 rfl 26 Try.ntmps36 (by show 3 ≤ 26; decide) ?_
  refine EW.seq ?_
  refine EW.seq ?_
  refine EW.region ?_
  first | refine WL.move rfl rfl rfl ?_
  refine WL.call [.pointer (some ⟨q, 0, none⟩)] enter59 rfl rfl rfl (fault_any q v c (at_, f) w hr) ?_
  rintro _ w1 ⟨a, rfl, e1⟩
  refine ⟨_, rfl, ?_⟩
  have bp1 := hp.on e1
  have be1 := he.on e1
  first | refine WL.move rfl rfl rfl ?_
  first | refine WL.extract rfl rfl rfl (ext_2 _ _ _).1 ?_
  first | refine WL.extract rfl rfl rfl (ext_2 _ _ _).2 ?_
  first | refine WL.assign rfl rfl rfl ?_
  first | refine WL.assign rfl rfl rfl ?_
  refine WL.done ?_
  refine EW.on ?_
  refine EW.seq ?_
  by_cases hf : f = 0
  · refine EW.region ?_
    first | refine WL.move rfl rfl rfl ?_
    refine WL.bin rfl rfl rfl rfl (int_ne_f hf _ _ _) ?_
    refine WL.done ?_
    refine EW.on ?_
    refine EW.cond_f rfl ?_
    refine EW.skip ?_
    refine EW.on ?_
    refine EW.seq ?_
    refine EW.region ?_
    first | refine WL.move rfl rfl rfl ?_
    first | refine WL.nilc rfl rfl rfl ?_
    refine WL.load rfl rfl rfl (ldE0 be1) ?_
    refine WL.bin rfl rfl rfl rfl (int_ne_d _ _ _ _ _) ?_
    refine WL.done ?_
    refine EW.on ?_
    refine EW.cond_d rfl (fun h22 => ?_) (fun h22 => ?_)
    · refine EW.seq ?_
      refine EW.region ?_
      obtain ⟨w3, q3, r3, b3, e3, hq3⟩ := new_any (t := 43) (cs := Lm.z.cs) zv43 w1
      refine WL.new rfl rfl r3 ?_
      have bp3 := bp1.on e3
      have be3 := be1.on e3
      have hq3' := bp3.lt
      refine WL.done ?_
      refine EW.on ?_
      refine EW.region ?_
      first | refine WL.move rfl rfl rfl ?_
      refine WL.load rfl rfl rfl (Lm.ld b3 Lm.z_ok) ?_
      first | refine WL.nilc rfl rfl rfl ?_
      obtain ⟨w4, s4, bp4, f4⟩ := Lm.st (s := Lm.z) bp3 ks Lm.z_ok
      refine WL.store rfl rfl rfl s4 ?_
      have be4 := be3.fx f4 (fun e => hpe e.symm)
      refine WL.done ?_
      exact EW.falls Try.results36 ⟨rfl, by rw [tlE, if_pos hf, if_neg h22]; exact bp4, by rw [tlE, if_pos hf]; exact be4, (Fx.of_below (bt e1 e3)).trans f4 (fun k _ e => .inl e)⟩
    · refine EW.skip ?_
      exact EW.falls Try.results36 ⟨rfl, by rw [tlE, if_pos hf, if_pos (Classical.not_not.1 h22)]; exact bp1, by rw [tlE, if_pos hf]; exact be1, Fx.of_below e1⟩
  · refine EW.region ?_
    first | refine WL.move rfl rfl rfl ?_
    refine WL.bin rfl rfl rfl rfl (int_ne_t hf _ _ _) ?_
    refine WL.done ?_
    refine EW.on ?_
    refine EW.cond_t rfl ?_
    refine EW.region ?_
    first | refine WL.move rfl rfl rfl ?_
    first | refine WL.move rfl rfl rfl ?_
    first | refine WL.nilc rfl rfl rfl ?_
    obtain ⟨w2, s2, be2, f2⟩ := stE0 be1 f
    refine WL.store rfl rfl rfl s2 ?_
    have bp2 := bp1.fx f2 (fun e => hpe e)
    refine WL.done ?_
    refine EW.on ?_
    refine EW.seq ?_
    refine EW.region ?_
    first | refine WL.move rfl rfl rfl ?_
    first | refine WL.nilc rfl rfl rfl ?_
    refine WL.load rfl rfl rfl (ldE0 be2) ?_
    refine WL.bin rfl rfl rfl rfl (int_ne_t hf _ _ _) ?_
    refine WL.done ?_
    refine EW.on ?_
    refine EW.cond_t rfl ?_
    refine EW.seq ?_
    refine EW.region ?_
    obtain ⟨w3, q3, r3, b3, e3, hq3⟩ := new_any (t := 43) (cs := Lm.z.cs) zv43 w2
    refine WL.new rfl rfl r3 ?_
    have bp3 := bp2.on e3
    have be3 := be2.on e3
    have hq3' := bp3.lt
    refine WL.done ?_
    refine EW.on ?_
    refine EW.region ?_
    first | refine WL.move rfl rfl rfl ?_
    refine WL.load rfl rfl rfl (Lm.ld b3 Lm.z_ok) ?_
    first | refine WL.nilc rfl rfl rfl ?_
    obtain ⟨w4, s4, bp4, f4⟩ := Lm.st (s := Lm.z) bp3 ks Lm.z_ok
    refine WL.store rfl rfl rfl s4 ?_
    have be4 := be3.fx f4 (fun e => hpe e.symm)
    refine WL.done ?_
    exact EW.falls Try.results36 ⟨rfl, by rw [tlE, if_neg hf, if_neg hf]; exact bp4, by rw [tlE, if_neg hf]; exact be4, (((Fx.of_below e1).trans f2 (fun k _ e => .inr e)).then_below e3).trans f4 (fun k _ e => .inl e)⟩
end Go.Proofs.Ytacimelcmkhhlaa
