import Derived.Test.YthlpfpggjkocmaaXc
set_option linter.unusedVariables false
set_option linter.unusedSimpArgs false
namespace Go.Proofs.Ythlpfpggjkocmaa
open Go.RowKit

theorem WL.idxv {P : Program} {n : Fm} {ops : Array Oper} {Q : Exit → Act → World → Prop} {i : Nat} {ty : TypeId} {ps : String} {af : Array Edge} {gd : Option (Nat × Bool)} {r : List Oper} {e : List (Nat × Value)} {w : World} {t : TypeId} {x y : Operand} {u u' v : Value} (hw : wantE ops e ⟨some i, .index t x y, ty, ps, af, gd⟩ = some true) (hi : decide (i < n.k) = true) (hx : evE e x = some u) (hy : evE e y = some u') (hr : (Instr.index t u u').run P w = .ok v w) (k : WL P n ops Q r ((i, v) :: e) w) : WL P n ops Q (⟨some i, .index t x y, ty, ps, af, gd⟩ :: r) e w :=
  WL.op i v hw rfl hi (fun a ha => by simp [execOp, ha.ev hx, ha.ev hy, hr, Result.andThen]) k
theorem conv121 (W : World) : (Go.convert 3 121 (.int .i64 1)).run Try.prog W = .ok (.int .u64 1) W := by kernel_rfl
theorem conv134 (W : World) : (Go.convert 134 5 (.int .u64 1)).run Try.prog W = .ok (.int .u8 1) W := by kernel_rfl
theorem conv53 (W : World) : (Go.convert 5 3 (.int .u8 1)).run Try.prog W = .ok (.int .i64 1) W := by kernel_rfl
theorem ge134 (b : Int) (hb : ¬ b ≤ 1) (W : World) (x y : Operand) : (do eqGuard .geq 134 x y (.int .u64 1) (.int .u64 b); binOp .geq 134 (.int .u64 1) (.int .u64 b) : Sem Value).run Try.prog W = .ok (.bool false) W := by
  go_simp
set_option maxRecDepth 100000 in
set_option maxHeartbeats 1000000 in
theorem len64_1 (w : World) : Calls Try.prog 91 #[.int .u64 1] w fun e w' => e = .returned (.int .i64 1) ∧ w' = w := by
  refine calls_of_args [.int .u64 1] Try.func91 rfl 25 Try.ntmps91 (by show 1 ≤ 25; decide) ?_
  refine EW.seq ?_
  refine EW.region ?_
  first | refine WL.assign rfl rfl rfl ?_
  refine WL.done ?_
  refine EW.on ?_
  refine EW.seq ?_
  refine EW.seq ?_
  refine EW.region ?_
  first | refine WL.move rfl rfl rfl ?_
  refine WL.bin rfl rfl rfl rfl (ge134 _ (by decide) _ _ _) ?_
  refine WL.done ?_
  refine EW.on ?_
  refine EW.cond_f rfl ?_
  refine EW.skip ?_
  refine EW.on ?_
  refine EW.seq ?_
  refine EW.seq ?_
  refine EW.region ?_
  first | refine WL.move rfl rfl rfl ?_
  refine WL.bin rfl rfl rfl rfl (ge134 _ (by decide) _ _ _) ?_
  refine WL.done ?_
  refine EW.on ?_
  refine EW.cond_f rfl ?_
  refine EW.skip ?_
  refine EW.on ?_
  refine EW.seq ?_
  refine EW.seq ?_
  refine EW.region ?_
  first | refine WL.move rfl rfl rfl ?_
  refine WL.bin rfl rfl rfl rfl (ge134 _ (by decide) _ _ _) ?_
  refine WL.done ?_
  refine EW.on ?_
  refine EW.cond_f rfl ?_
  refine EW.skip ?_
  refine EW.on ?_
  refine EW.seq ?_
  refine EW.region ?_
  first | refine WL.move rfl rfl rfl ?_
  first | refine WL.move rfl rfl rfl ?_
  refine WL.conv rfl rfl rfl (conv134 _) ?_
  refine WL.idxv (v := .int .u8 1) rfl rfl rfl rfl (by kernel_rfl) ?_
  refine WL.conv rfl rfl rfl (conv53 _) ?_
  refine WL.bin rfl rfl rfl rfl (int_add (c := 1) (by decide) _ _ _) ?_
  first | refine WL.assign rfl rfl rfl ?_
  refine WL.done ?_
  refine EW.on ?_
  refine EW.ret ?_
  exact EW.returns Try.results91 rfl ⟨rfl, rfl⟩
set_option maxRecDepth 100000 in
set_option maxHeartbeats 1000000 in
theorem len_1 (w : World) : Calls Try.prog 78 #[.int .u64 1] w fun e w' => e = .returned (.int .i64 1) ∧ w' = w := by
  refine calls_of_args [.int .u64 1] Try.func78 rfl 8 Try.ntmps78 (by show 1 ≤ 8; decide) ?_
  refine EW.seq ?_
  refine EW.region ?_
  first | refine WL.assign rfl rfl rfl ?_
  refine WL.done ?_
  refine EW.on ?_
  refine EW.seq ?_
  refine EW.cond_f rfl ?_
  refine EW.skip ?_
  refine EW.on ?_
  refine EW.seq ?_
  refine EW.region ?_
  first | refine WL.move rfl rfl rfl ?_
  refine WL.call [.int .u64 1] enter91 rfl rfl rfl (len64_1 _) ?_
  rintro _ w1 ⟨rfl, hz⟩
  rw [hz]
  refine ⟨_, rfl, ?_⟩
  first | refine WL.assign rfl rfl rfl ?_
  refine WL.done ?_
  refine EW.on ?_
  refine EW.ret ?_
  exact EW.returns Try.results78 rfl ⟨rfl, rfl⟩
def fnV : Value := .func (.func 74) #[] #[]
def s1E (v : Value) (_ : Unit) : List (Nat × Value) := [(0, v), (1, .int .i64 0), (2, .int .i64 1), (3, fnV), (8, .int .i64 1)]
def s2E (v : Value) (_ : Unit) : List (Nat × Value) := [(0, v), (1, .int .i64 0), (2, .int .i64 1), (3, .int .i64 1), (4, fnV), (10, .bool true), (11, .bool true)]
set_option maxRecDepth 100000 in
set_option maxHeartbeats 1000000 in
theorem isort_1 (v : Value) (w : World) : Calls Try.prog 82 #[v, .int .i64 0, .int .i64 1, fnV] w fun e w' => e = .returned (.tuple #[]) ∧ w' = w := by
  refine calls_of_args [v, .int .i64 0, .int .i64 1, fnV] Try.func82 rfl 53 Try.ntmps82 (by show 4 ≤ 53; decide) ?_
  refine EW.seq ?_
  refine EW.region ?_
  first | refine WL.move rfl rfl rfl ?_
  refine WL.bin rfl rfl rfl rfl (int_add (c := 1) (by decide) _ _ _) ?_
  first | refine WL.assign rfl rfl rfl ?_
  refine WL.done ?_
  refine EW.on ?_
  refine EW.block ?_
  refine EW.loop (s1E v) (fun _ W => W = w) (fun _ => 0) () [0, 1, 2, 3, 8] rfl rfl ?_
  rintro _ wi rfl
  show EW _ _ _ _ [(0, v), (1, .int .i64 0), (2, .int .i64 1), (3, fnV), (8, .int .i64 1)] _
  refine EW.seq ?_
  refine EW.seq ?_
  refine EW.region ?_
  first | refine WL.move rfl rfl rfl ?_
  first | refine WL.move rfl rfl rfl ?_
  refine WL.bin rfl rfl rfl rfl (int_lt_f (by decide) _ _ _) ?_
  refine WL.done ?_
  refine EW.on ?_
  refine EW.cond_f rfl ?_
  refine EW.exit ?_
  refine px_then ?_
  refine px_then ?_
  refine px_block ?_
  exact EW.falls Try.results82 ⟨rfl, rfl⟩
theorem EW.bare {P : Program} {e : List (Nat × Value)} {w : World} {m : Nat} {fn : Func} {R : Ending → World → Prop} (hres : fn.results = #[]) (h : R (.returned (.tuple #[])) w) : ∀ a, Env ⟨m, []⟩ a e → bodyPost P fn R .ret a w := fun a ha =>
  bodyPost_ret (v := .tuple #[]) (results_none hres a.tmps P w) ha.df h
set_option maxRecDepth 100000 in
set_option maxHeartbeats 1000000 in
theorem pdq_1 (v : Value) (w : World) : Calls Try.prog 77 #[v, .int .i64 0, .int .i64 1, .int .i64 1, fnV] w fun e w' => e = .returned (.tuple #[]) ∧ w' = w := by
  refine calls_of_args [v, .int .i64 0, .int .i64 1, .int .i64 1, fnV] Try.func77 rfl 148 Try.ntmps77 (by show 5 ≤ 148; decide) ?_
  refine EW.seq ?_
  refine EW.region ?_
  first | refine WL.assign rfl rfl rfl ?_
  refine WL.done ?_
  refine EW.on ?_
  refine EW.seq ?_
  refine EW.region ?_
  first | refine WL.assign rfl rfl rfl ?_
  refine WL.done ?_
  refine EW.on ?_
  refine EW.block ?_
  refine EW.loop (s2E v) (fun _ W => W = w) (fun _ => 0) () [0, 1, 2, 3, 4, 10, 11] rfl rfl ?_
  rintro _ wi rfl
  show EW _ _ _ _ [(0, v), (1, .int .i64 0), (2, .int .i64 1), (3, .int .i64 1), (4, fnV), (10, .bool true), (11, .bool true)] _
  refine EW.block ?_
  refine EW.seq ?_
  refine EW.region ?_
  first | refine WL.move rfl rfl rfl ?_
  first | refine WL.move rfl rfl rfl ?_
  refine WL.bin rfl rfl rfl rfl (int_sub (c := 1) (by decide) _ _ _) ?_
  first | refine WL.assign rfl rfl rfl ?_
  refine WL.done ?_
  refine EW.on ?_
  refine EW.seq ?_
  refine EW.seq ?_
  refine EW.region ?_
  first | refine WL.move rfl rfl rfl ?_
  refine WL.bin rfl rfl rfl rfl (int_le_t (by decide) _ _ _) ?_
  refine WL.done ?_
  refine EW.on ?_
  refine EW.cond_t rfl ?_
  refine EW.seq ?_
  refine EW.region ?_
  first | refine WL.move rfl rfl rfl ?_
  first | refine WL.move rfl rfl rfl ?_
  first | refine WL.move rfl rfl rfl ?_
  first | refine WL.move rfl rfl rfl ?_
  refine WL.call [v, .int .i64 0, .int .i64 1, fnV] enter82 rfl rfl rfl (isort_1 v _) ?_
  rintro _ w1 ⟨rfl, hz⟩
  rw [hz]
  refine ⟨_, rfl, ?_⟩
  refine WL.done ?_
  refine EW.on ?_
  refine EW.ret ?_
  refine pr_then ?_
  refine pr_block ?_
  refine pr_then ?_
  refine pr_block ?_
  exact EW.bare Try.results77 ⟨rfl, rfl⟩
set_option maxRecDepth 100000 in
set_option maxHeartbeats 1000000 in
theorem sort_1 (v : Value) (w : World) (hl : ∀ ty W, (Builtin.len_ #[72] ty #[v]).run Try.prog W = .ok (.int .i64 1) W) : Calls Try.prog 73 #[v, fnV] w fun e w' => e = .returned (.tuple #[]) ∧ w' = w := by
  refine calls_of_args [v, fnV] Try.func73 rfl 14 Try.ntmps73 (by show 2 ≤ 14; decide) ?_
  refine EW.seq ?_
  refine EW.region ?_
  first | refine WL.move rfl rfl rfl ?_
  refine WL.len rfl rfl rfl (hl _ _) ?_
  first | refine WL.assign rfl rfl rfl ?_
  refine WL.done ?_
  refine EW.on ?_
  refine EW.region ?_
  first | refine WL.move rfl rfl rfl ?_
  first | refine WL.move rfl rfl rfl ?_
  first | refine WL.move rfl rfl rfl ?_
  refine WL.conv rfl rfl rfl (conv121 _) ?_
  refine WL.call [.int .u64 1] enter78 rfl rfl rfl (len_1 _) ?_
  rintro _ w1 ⟨rfl, hz⟩
  rw [hz]
  refine ⟨_, rfl, ?_⟩
  first | refine WL.move rfl rfl rfl ?_
  refine WL.call [v, .int .i64 0, .int .i64 1, .int .i64 1, fnV] enter77 rfl rfl rfl (pdq_1 v _) ?_
  rintro _ w2 ⟨rfl, hz2⟩
  rw [hz2]
  refine ⟨_, rfl, ?_⟩
  refine WL.done ?_
  exact EW.falls Try.results73 ⟨rfl, rfl⟩
set_option maxRecDepth 100000 in
set_option maxHeartbeats 1000000 in
theorem rising_1 {w : World} {g cp : Nat} {x : Pw} (hp : Pws w (.slice (some ⟨g, 0, none⟩) 1 cp) [x]) : Calls Try.prog 62 #[.slice (some ⟨g, 0, none⟩) 1 cp] w fun e w' => ∃ u, e = .returned u ∧ Pws w' u [x] ∧ Below w.heap.size w w' ∧ (∀ k, u.ownBlock = some k → w.heap.size ≤ k) := by
  refine calls_of_args [.slice (some ⟨g, 0, none⟩) 1 cp] Try.func62 rfl 9 Try.ntmps62 (by show 1 ≤ 9; decide) ?_
  refine EW.seq ?_
  refine EW.region ?_
  first | refine WL.assign rfl rfl rfl ?_
  refine WL.done ?_
  refine EW.on ?_
  refine EW.seq ?_
  refine EW.region ?_
  first | refine WL.move rfl rfl rfl ?_
  refine WL.call [.slice (some ⟨g, 0, none⟩) 1 cp] enter72 rfl rfl rfl (clonep_any (l := [x]) hp (Nat.le_of_ble_eq_true rfl)) ?_
  rintro _ w1 ⟨u, rfl, p1, e1, hf1⟩
  refine ⟨_, rfl, ?_⟩
  first | refine WL.assign rfl rfl rfl ?_
  refine WL.done ?_
  refine EW.on ?_
  refine EW.seq ?_
  refine EW.region ?_
  first | refine WL.move rfl rfl rfl ?_
  refine WL.call [u, fnV] enter73 rfl rfl rfl (sort_1 u _ (fun ty W => by have := p1.len ty W; simpa using this)) ?_
  rintro _ w2 ⟨rfl, hz⟩
  rw [hz]
  refine ⟨_, rfl, ?_⟩
  refine WL.done ?_
  refine EW.on ?_
  refine EW.seq ?_
  refine EW.region ?_
  first | refine WL.move rfl rfl rfl ?_
  first | refine WL.assign rfl rfl rfl ?_
  refine WL.done ?_
  refine EW.on ?_
  refine EW.ret ?_
  exact EW.returns Try.results62 rfl ⟨_, rfl, p1, e1, hf1⟩
set_option maxRecDepth 100000 in
set_option maxHeartbeats 1000000 in
theorem commit_1 {w : World} {L : Lay} {N : Nat} {s : Nat → List UInt8} {c n q : Nat} (h : Dk w L N s 0 c) (hb : Blk w q (lgC L.p n .nilIface) 66) (hnN : 4 * n + 1 ≤ N) (hN : N ≤ 4096) (hn2 : n ≤ 250) (hcal : c ≤ 100000) {g cp : Nat} {x : Pw} (hp : Pws w (.slice (some ⟨g, 0, none⟩) 1 cp) [x]) (hx : x.n < n) (hxF : ∀ k, x.v.ownBlock = some k → ¬ L.F k) (hxB : ∀ k, x.v.ownBlock = some k → k < w.heap.size) : Calls Try.prog 36 #[.pointer (some ⟨q, 0, none⟩), .slice (some ⟨g, 0, none⟩) 1 cp] w fun e w' => e = .returned .nilIface ∧ ∃ L', Turn w w' L L' ∧ Dk w' L' N (chS n s [x]) 0 (c + 14) := by
  refine calls_of_argsD [.pointer (some ⟨q, 0, none⟩), .slice (some ⟨g, 0, none⟩) 1 cp] Try.func36 rfl 35 Try.ntmps36 (by show 2 ≤ 35; decide) ?_
  refine EW.seq ?_
  refine EW.region ?_
  obtain ⟨w1, q1, r1, b1, e1, hq1, z1⟩ := box22 (some ⟨q, 0, none⟩) w
  refine WL.box rfl rfl rfl r1 ?_
  obtain ⟨w3, q3, r3, b3, e3, hq3, z3⟩ := new24 w1
  have e03 := e1.trans (e3.mono e1.size)
  have h3 := h.below e03
  have g3 := hb.on e03
  have p3 := hp.below e03
  have b13 := b1.on e3
  have hF : ∀ k, w.heap.size ≤ k → ¬ L.F k := fun k hk hF => by have := h.lt _ hF; omega
  refine WL.new rfl rfl r3 ?_
  refine WL.done ?_
  refine EW.on ?_
  refine EW.seq ?_
  refine EW.region ?_
  refine WL.mkf [.pointer (some ⟨q1, 0, none⟩), .pointer (some ⟨q3, 0, none⟩)] rfl rfl rfl ?_
  refine WL.defer rfl rfl ?_
  refine WL.done ?_
  refine EW.on ?_
  refine EW.seq ?_
  refine EW.seq ?_
  refine EW.region ?_
  refine WL.load rfl rfl rfl (ld22c b13) ?_
  first | refine WL.nilc rfl rfl rfl ?_
  refine WL.field rfl rfl rfl (fld66_1 q _) ?_
  refine WL.load rfl rfl rfl (ldl24 g3) ?_
  refine WL.bin rfl rfl rfl rfl (ne24n _ _) ?_
  refine WL.done ?_
  refine EW.on ?_
  refine EW.cond_f rfl ?_
  refine EW.skip ?_
  refine EW.on ?_
  refine EW.seq ?_
  refine EW.seq ?_
  refine EW.region ?_
  refine WL.load rfl rfl rfl (ld22c b13) ?_
  first | refine WL.move rfl rfl rfl ?_
  refine WL.call [.pointer (some ⟨q, 0, none⟩), .slice (some ⟨g, 0, none⟩) 1 cp] enter60 rfl rfl rfl (refusal_ok g3 _ [x] p3 (Nat.le_of_ble_eq_true rfl) (fun y hy => by rw [List.mem_singleton.1 hy]; exact hx) (by omega) (by simp)) ?_
  rintro _ w4 ⟨rfl, e4⟩
  have e04 := e03.trans (e4.mono e03.size)
  have h4 := h.below e04
  have g4 := g3.on e4
  have p4 := p3.below e4
  have b14 := b13.on e4
  have b34 := b3.on e4
  refine ⟨_, rfl, ?_⟩
  first | refine WL.move rfl rfl rfl ?_
  first | refine WL.extract rfl rfl rfl (ext_2 _ _ _).1 ?_
  first | refine WL.extract rfl rfl rfl (ext_2 _ _ _).2 ?_
  first | refine WL.assign rfl rfl rfl ?_
  first | refine WL.assign rfl rfl rfl ?_
  refine WL.done ?_
  refine EW.on ?_
  refine EW.seq ?_
  refine EW.region ?_
  first | refine WL.move rfl rfl rfl ?_
  refine WL.bin rfl rfl rfl rfl (int_ne_f rfl _ _ _) ?_
  refine WL.done ?_
  refine EW.on ?_
  refine EW.cond_f rfl ?_
  refine EW.skip ?_
  refine EW.on ?_
  refine EW.seq ?_
  refine EW.seq ?_
  refine EW.region ?_
  first | refine WL.move rfl rfl rfl ?_
  refine WL.len rfl rfl rfl (p4.len _ _) ?_
  refine WL.bin rfl rfl rfl rfl (int_gt_t (show (0 : Int) < 1 by decide) _ _ _) ?_
  refine WL.done ?_
  refine EW.on ?_
  refine EW.cond_t rfl ?_
  refine EW.ordB [(0, 0, 1), (1, 0, 0), (2, 0, 0), (3, 0, 1), (4, 0, 0), (5, 1, 1), (6, 1, 0)] (by kernel_rfl) rfl (by kernel_rfl) ?_
  simp only [opsZ, List.getD_cons_zero, List.getD_cons_succ]
  refine ZE.load rfl rfl rfl rfl sz1 (fun W hW => ld22c (b14.on (sb_of hW))) ?_
  refine ZE.nilc rfl rfl rfl rfl sz0 ?_
  refine ZE.field rfl rfl rfl rfl sz0 (fun W => fld66_0 q W) ?_
  refine ZE.load rfl rfl rfl rfl sz1 (fun W hW => ldl55 (g4.on (sb_of hW))) ?_
  first | refine ZE.move rfl rfl rfl rfl sz0 ?_
  refine ZE.callR [.slice (some ⟨g, 0, none⟩) 1 cp] (fun v W => (Pws W v [x] ∧ ∀ k, v.ownBlock = some k → w4.heap.size ≤ k) ∧ Below w4.heap.size w4 W) enter62 rfl rfl rfl (fun _ _ h => .inr h.2) (fun W hW => (rising_1 (p4.below hW)).mono fun e w' ⟨u, g1, g2, g3, g4⟩ => ⟨u, g1, ⟨g2, fun k hk => Nat.le_trans hW.size (g4 k hk)⟩, hW.trans (g3.mono hW.size)⟩) ?_
  rintro vs ⟨_, _, _⟩
  refine ZE.callR [dkV L.p n, vs] (fun v W => v = .tuple #[] ∧ ∃ L', Turn w4 W L L' ∧ Dk W L' N (chS n s [x]) 0 (c + 14)) enter61 rfl rfl rfl (fun _ _ _ => .inl rfl) (fun W hW => (change_ok n (h4.below hW.2) hnN (by omega) vs [x] hW.1.1 (Nat.le_of_ble_eq_true rfl) (fun y hy => by rw [List.mem_singleton.1 hy]; exact hx) hn2 (fun k hk => hF k (Nat.le_trans e04.size (hW.1.2 k hk))) (fun y hy k hk => by rw [List.mem_singleton.1 hy] at hk; exact hxF k hk) (fun y hy k hk => by rw [List.mem_singleton.1 hy] at hk; have := hxB k hk; have := e04.size; have := hW.2.size; omega) (by omega)).mono fun e w' ⟨g1, L', g2, g3⟩ => ⟨_, g1, rfl, L', g2.pre hW.2, g3⟩) ?_
  rintro _ ⟨_, rfl, _⟩
  rintro w6 ⟨_, L6, t6, d6⟩
  have b36 := b34.fx t6.fx (hF q3 (by omega))
  refine EW.on ?_
  refine EW.seq ?_
  refine EW.region ?_
  obtain ⟨w7, s7, b7, x7⟩ := st24n b36
  refine WL.store rfl rfl rfl s7 ?_
  refine WL.done ?_
  refine EW.on ?_
  refine EW.ret ?_
  refine EW.leaves enter58 (commit1_none _ _ _) ?_
  rintro u w' ⟨hu, hw⟩
  subst hu
  rw [hw]
  have t06 := t6.pre e04
  have h6F : ∀ k, L6.F k → ¬ k = q3 := fun k hk hh => (t6.own k hk).elim (hF k (by omega)) (fun h2 => by have := b34.lt; omega)
  refine ⟨rfl, fun a ha => ⟨_, results_c1 Try.results36 a.tmps w7 (ha.kn 4 _ rfl) (ld24c b7), rfl, L6, ⟨t06.fx.trans x7 (fun k hk hh => by omega), t06.own, t06.p⟩, ?_⟩⟩
  obtain ⟨D, k1, k2⟩ := d6.ex
  exact ⟨D, k1.fx x7 h6F, k2⟩
end Go.Proofs.Ythlpfpggjkocmaa
