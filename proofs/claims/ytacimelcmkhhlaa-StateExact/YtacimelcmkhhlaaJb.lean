import Derived.Test.YtacimelcmkhhlaaJa
set_option linter.unusedVariables false
set_option linter.unusedSimpArgs false
namespace Go.Proofs.Ytacimelcmkhhlaa
open Go.RowKit

theorem eqHlD (d : Nat) (g h : Hl) (kg : g.ok) (kh : h.ok) (W : World) : (Op.equalIn (d + 3) 30 (.agg g.cs.toArray) (.agg h.cs.toArray)).run Try.prog W = .ok (decide (g = h)) W := by
  rw [run_equalIn_struct W (d + 2) 30 _ _ (by kernel_rfl) (by kernel_rfl)]
  simp only [Program.fieldsOf, Try.underlying30]
  have e : decide (g = h) = (decide (g.id = h.id) && (decide (g.once = h.once) && (decide (g.pre = h.pre) && true))) := by
    rw [Bool.and_true, ← Bool.decide_and, ← Bool.decide_and]
    apply decide_eq_decide.2
    cases g; cases h; simp
  rw [e]
  refine eqF_cons (by decide) (part_row (a := []) Try.isAgg25 (sz25 kg.i) rfl rfl W) (part_row (a := []) Try.isAgg25 (sz25 kh.i) rfl rfl W) (arrD 25 32 u25 _ _ kg.i kh.i d W) ?_
  refine eqF_cons (by decide) (part_row (a := g.id.map byt) Try.isAgg25 (sz25 kg.o) rfl (by rw [List.length_map]; exact kg.i) W) (part_row (a := h.id.map byt) Try.isAgg25 (sz25 kh.o) rfl (by rw [List.length_map]; exact kh.i) W) (arrD 25 32 u25 _ _ kg.o kh.o d W) ?_
  refine eqF_cons (by decide) (part_one (a := g.id.map byt ++ g.once.map byt) (b := []) Try.isAgg28 (by simp [Hl.cs]) (by simp [kg.i, kg.o]) W) (part_one (a := h.id.map byt ++ h.once.map byt) (b := []) Try.isAgg28 (by simp [Hl.cs]) (by simp [kh.i, kh.o]) W) (eqU (d + 1) _ _ W) ?_
  exact eqF_nil _ _ _ _
theorem eqPrD (d : Nat) (a b a' b' : List UInt8) (h1 : a.length = 32) (h2 : b.length = 32) (h3 : a'.length = 32) (h4 : b'.length = 32) (W : World) : (Op.equalIn (d + 3) 27 (.agg (a.map byt ++ b.map byt).toArray) (.agg (a'.map byt ++ b'.map byt).toArray)).run Try.prog W = .ok (decide (a = a') && decide (b = b')) W := by
  rw [run_equalIn_struct W (d + 2) 27 _ _ (by kernel_rfl) (by kernel_rfl)]
  simp only [Program.fieldsOf, Try.underlying27]
  rw [← Bool.and_true (decide (b = b'))]
  refine eqF_cons (by decide) (part_row (a := []) Try.isAgg25 (sz25 h1) rfl rfl W) (part_row (a := []) Try.isAgg25 (sz25 h3) rfl rfl W) (arrD 25 32 u25 _ _ h1 h3 d W) ?_
  refine eqF_cons (by decide) (part_row (a := a.map byt) (b := []) Try.isAgg25 (sz25 h2) (by simp) (by rw [List.length_map]; exact h1) W) (part_row (a := a'.map byt) (b := []) Try.isAgg25 (sz25 h4) (by simp) (by rw [List.length_map]; exact h3) W) (arrD 25 32 u25 _ _ h2 h4 d W) ?_
  exact eqF_nil _ _ _ _
theorem sz31 {K : List UInt8} (h : K.length = 64) : ∀ w, (sizeOf 31).run Try.prog w = .ok (K.map byt).length w := fun w => by rw [List.length_map, h]; exact Try.sizeOf31 w
theorem sz30 {h : Hl} (k : h.ok) : ∀ w, (sizeOf 30).run Try.prog w = .ok h.cs.length w := fun w => by rw [Hl.len k]; exact Try.sizeOf30 w
theorem sz27 {a b : List UInt8} (h1 : a.length = 32) (h2 : b.length = 32) : ∀ w, (sizeOf 27).run Try.prog w = .ok (a.map byt ++ b.map byt).length w := fun w => by rw [List.length_append, List.length_map, List.length_map, h1, h2]; exact Try.sizeOf27 w
instance : DecidableEq Sg := fun a b => decidable_of_iff (a.sid = b.sid ∧ a.root = b.root ∧ a.pri = b.pri ∧ a.pub = b.pub ∧ a.peer = b.peer ∧ a.sk = b.sk ∧ a.rk = b.rk ∧ a.own = b.own ∧ a.turns = b.turns ∧ a.sent = b.sent ∧ a.got = b.got ∧ a.prev = b.prev ∧ a.ser = b.ser ∧ a.hl = b.hl ∧ a.bind = b.bind) (by cases a; cases b; simp)
theorem eqSg (g h : Sg) (kg : g.ok) (kh : h.ok) (W : World) : (Op.equalIn 10000 33 g.v h.v).run Try.prog W = .ok (decide (g = h)) W := by
  unfold Sg.v
  rw [run_equalIn_struct W 9999 33 _ _ (by kernel_rfl) (by kernel_rfl)]
  simp only [Program.fieldsOf, Try.underlying33]
  have e : decide (g = h) = (decide (g.sid = h.sid) && (decide (g.root = h.root) && ((decide (g.pri = h.pri) && decide (g.pub = h.pub)) && (decide (g.peer = h.peer) && (decide (g.sk = h.sk) && (decide (g.rk = h.rk) && (decide (g.own = h.own) && (decide (g.turns = h.turns) && (decide (g.sent = h.sent) && (decide (g.got = h.got) && (decide (g.prev = h.prev) && (decide (g.ser = h.ser) && (decide (g.hl = h.hl) && (decide (g.bind = h.bind) && true)))))))))))))) := by
    rw [Bool.and_true]
    simp only [← Bool.decide_and]
    apply decide_eq_decide.2
    cases g; cases h; simp [and_assoc]
  rw [e]
  refine eqF_cons (by decide) (part_row Try.isAgg23 (sz23 kg.sid) Sg.c_sid (Sg.l_sid kg) W) (part_row Try.isAgg23 (sz23 kh.sid) Sg.c_sid (Sg.l_sid kh) W) (arrD 23 16 u23 _ _ kg.sid kh.sid 9997 W) ?_
  refine eqF_cons (by decide) (part_row Try.isAgg25 (sz25 kg.root) Sg.c_root (Sg.l_root kg) W) (part_row Try.isAgg25 (sz25 kh.root) Sg.c_root (Sg.l_root kh) W) (arrD 25 32 u25 _ _ kg.root kh.root 9997 W) ?_
  refine eqF_cons (by decide) (part_row (a := g.a_pri) (m := g.pri.map byt ++ g.pub.map byt) (b := g.b_pub) Try.isAgg27 (sz27 kg.pri kg.pub) (by simp [Sg.cs, Sg.a_pri, Sg.b_pub]) (Sg.l_pri kg) W) (part_row (a := h.a_pri) (m := h.pri.map byt ++ h.pub.map byt) (b := h.b_pub) Try.isAgg27 (sz27 kh.pri kh.pub) (by simp [Sg.cs, Sg.a_pri, Sg.b_pub]) (Sg.l_pri kh) W) (eqPrD 9996 _ _ _ _ kg.pri kg.pub kh.pri kh.pub W) ?_
  refine eqF_cons (by decide) (part_row Try.isAgg25 (sz25 kg.peer) Sg.c_peer (Sg.l_peer kg) W) (part_row Try.isAgg25 (sz25 kh.peer) Sg.c_peer (Sg.l_peer kh) W) (arrD 25 32 u25 _ _ kg.peer kh.peer 9997 W) ?_
  refine eqF_cons (by decide) (part_row Try.isAgg25 (sz25 kg.sk) Sg.c_sk (Sg.l_sk kg) W) (part_row Try.isAgg25 (sz25 kh.sk) Sg.c_sk (Sg.l_sk kh) W) (arrD 25 32 u25 _ _ kg.sk kh.sk 9997 W) ?_
  refine eqF_cons (by decide) (part_row Try.isAgg25 (sz25 kg.rk) Sg.c_rk (Sg.l_rk kg) W) (part_row Try.isAgg25 (sz25 kh.rk) Sg.c_rk (Sg.l_rk kh) W) (arrD 25 32 u25 _ _ kg.rk kh.rk 9997 W) ?_
  refine eqF_cons (by decide) (part_one Try.isAgg28 Sg.c_own (Sg.l_own kg) W) (part_one Try.isAgg28 Sg.c_own (Sg.l_own kh) W) (eqU 9998 _ _ W) ?_
  refine eqF_cons (by decide) (part_one Try.isAgg28 Sg.c_turns (Sg.l_turns kg) W) (part_one Try.isAgg28 Sg.c_turns (Sg.l_turns kh) W) (eqU 9998 _ _ W) ?_
  refine eqF_cons (by decide) (part_one Try.isAgg28 Sg.c_sent (Sg.l_sent kg) W) (part_one Try.isAgg28 Sg.c_sent (Sg.l_sent kh) W) (eqU 9998 _ _ W) ?_
  refine eqF_cons (by decide) (part_one Try.isAgg28 Sg.c_got (Sg.l_got kg) W) (part_one Try.isAgg28 Sg.c_got (Sg.l_got kh) W) (eqU 9998 _ _ W) ?_
  refine eqF_cons (by decide) (part_one Try.isAgg28 Sg.c_prev (Sg.l_prev kg) W) (part_one Try.isAgg28 Sg.c_prev (Sg.l_prev kh) W) (eqU 9998 _ _ W) ?_
  refine eqF_cons (by decide) (part_one Try.isAgg28 Sg.c_ser (Sg.l_ser kg) W) (part_one Try.isAgg28 Sg.c_ser (Sg.l_ser kh) W) (eqU 9998 _ _ W) ?_
  refine eqF_cons (by decide) (part_row Try.isAgg30 (sz30 kg.hl) Sg.c_hl (Sg.l_hl kg) W) (part_row Try.isAgg30 (sz30 kh.hl) Sg.c_hl (Sg.l_hl kh) W) (eqHlD 9996 _ _ kg.hl kh.hl W) ?_
  refine eqF_cons (by decide) (part_row Try.isAgg31 (sz31 kg.bind) Sg.c_bind (Sg.l_bind kg) W) (part_row Try.isAgg31 (sz31 kh.bind) Sg.c_bind (Sg.l_bind kh) W) (arrD 31 64 u31 _ _ kg.bind kh.bind 9997 W) ?_
  exact eqF_nil _ _ _ _
theorem eql33 (g h : Sg) (kg : g.ok) (kh : h.ok) (W : World) (x y : Operand) : (do eqGuard .eql 33 x y g.v h.v; binOp .eql 33 g.v h.v : Sem Value).run Try.prog W = .ok (.bool (decide (g = h))) W := by
  have he := eqSg g h kg kh W
  have hg : Try.prog.eqGuardType Try.prog.depth 33 = false := by kernel_rfl
  unfold Sg.v at *
  rw [Sem.run_bind, run_eqGuard_agg W .eql 33 x y _ _ hg, Result.andThen_ok, run_eql_struct, he, Result.andThen_ok]
theorem neq33 (g h : Sg) (kg : g.ok) (kh : h.ok) (W : World) (x y : Operand) : (do eqGuard .neq 33 x y g.v h.v; binOp .neq 33 g.v h.v : Sem Value).run Try.prog W = .ok (.bool (decide (¬ g = h))) W := by
  have he := eqSg g h kg kh W
  have hg : Try.prog.eqGuardType Try.prog.depth 33 = false := by kernel_rfl
  unfold Sg.v at *
  rw [Sem.run_bind, run_eqGuard_agg W .neq 33 x y _ _ hg, Result.andThen_ok, run_neq_struct, he, Result.andThen_ok]
  rw [decide_not]
end Go.Proofs.Ytacimelcmkhhlaa
