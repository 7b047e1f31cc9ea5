import Derived.Test.YthlpfpggjkocmaaEd
set_option linter.unusedVariables false
set_option linter.unusedSimpArgs false
namespace Go.Proofs.Ythlpfpggjkocmaa
open Go.RowKit

theorem eq20n (W : World) (x : Operand) : (do eqGuard .eql 20 x (.const .nilIface) .nilIface .nilIface; binOp .eql 20 .nilIface .nilIface : Sem Value).run Try.prog W = .ok (.bool true) W := by
  have h : eqGuard .eql 20 x (.const .nilIface) .nilIface .nilIface = pure () := by
    unfold eqGuard
    cases x <;> simp
  rw [h]
  go_simp
set_option maxRecDepth 100000 in
set_option maxHeartbeats 1000000 in
theorem caught_nil (w : World) : Calls Try.prog 18 #[.nilIface] w fun e w' => e = .returned (.int .i64 0) ∧ w' = w := by
  refine calls_of_args [.nilIface] Try.func18 rfl 13 Try.ntmps18 (by show 1 ≤ 13; decide) ?_
  refine EW.seq ?_
  refine EW.region ?_
  first | refine WL.assign rfl rfl rfl ?_
  refine WL.done ?_
  refine EW.on ?_
  refine EW.seq ?_
  refine EW.seq ?_
  refine EW.region ?_
  first | refine WL.move rfl rfl rfl ?_
  refine WL.done ?_
  refine EW.on ?_
  refine EW.block ?_
  refine EW.seq ?_
  refine EW.region ?_
  refine WL.bin rfl rfl rfl rfl (eq20n _ _) ?_
  refine WL.done ?_
  refine EW.on ?_
  refine EW.cond_t rfl ?_
  refine EW.seq ?_
  refine EW.region ?_
  first | refine WL.assign rfl rfl rfl ?_
  refine WL.done ?_
  refine EW.on ?_
  refine EW.seq ?_
  refine EW.region ?_
  first | refine WL.assign rfl rfl rfl ?_
  refine WL.done ?_
  refine EW.on ?_
  refine EW.ret ?_
  refine pr_block ?_
  refine pr_then ?_
  exact EW.returns Try.results18 rfl ⟨rfl, rfl⟩
set_option maxRecDepth 100000 in
set_option maxHeartbeats 1000000 in
theorem open1_none (v0 v1 v2 : Value) (w : World) : CallsD Try.prog 17 #[v0, v1, v2] .returning w fun x u w' => (∃ v, x = .returned v) ∧ u = .returning ∧ w' = w := by
  refine callsD_of_args [v0, v1, v2] Try.func17 rfl 10 Try.ntmps17 (by show 3 ≤ 10; decide) (fun c₀ cs hc => ?_)
  refine ES.seq ?_
  refine ES.region ?_
  refine WS.recover0 rfl rfl rfl (recover_no hc) ?_
  refine WS.call [.nilIface] enter18 rfl rfl rfl rfl (caught_nil _) ?_
  rintro _ w1 ⟨rfl, hz⟩
  rw [hz]
  refine ⟨_, rfl, ?_⟩
  refine WS.assign rfl rfl rfl rfl ?_
  refine WS.on ?_
  refine ES.of ?_
  refine EW.seq ?_
  refine EW.region ?_
  refine WL.move rfl rfl rfl ?_
  refine WL.bin rfl rfl rfl rfl (int_ne_f rfl _ _ _) ?_
  refine WL.done ?_
  refine EW.on ?_
  refine EW.cond_f rfl ?_
  refine EW.skip ?_
  intro a ha
  exact ⟨ha.df, .returning, by rw [← hc], _, by rw [results_none Try.results17], ⟨_, rfl⟩, rfl, rfl⟩
set_option maxRecDepth 100000 in
set_option maxHeartbeats 1000000 in
theorem clear1_none (v0 : Value) (w : World) : CallsD Try.prog 29 #[v0] .returning w fun x u w' => (∃ v, x = .returned v) ∧ u = .returning ∧ w' = w := by
  refine callsD_of_args [v0] Try.func29 rfl 8 Try.ntmps29 (by show 1 ≤ 8; decide) (fun c₀ cs hc => ?_)
  refine ES.seq ?_
  refine ES.region ?_
  refine WS.recover0 rfl rfl rfl (recover_no hc) ?_
  refine WS.call [.nilIface] enter18 rfl rfl rfl rfl (caught_nil _) ?_
  rintro _ w1 ⟨rfl, hz⟩
  rw [hz]
  refine ⟨_, rfl, ?_⟩
  refine WS.assign rfl rfl rfl rfl ?_
  refine WS.on ?_
  refine ES.of ?_
  refine EW.seq ?_
  refine EW.region ?_
  refine WL.move rfl rfl rfl ?_
  refine WL.bin rfl rfl rfl rfl (int_ne_f rfl _ _ _) ?_
  refine WL.done ?_
  refine EW.on ?_
  refine EW.cond_f rfl ?_
  refine EW.skip ?_
  intro a ha
  exact ⟨ha.df, .returning, by rw [← hc], _, by rw [results_none Try.results29], ⟨_, rfl⟩, rfl, rfl⟩
end Go.Proofs.Ythlpfpggjkocmaa
