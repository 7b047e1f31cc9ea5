import Derived.Test.YthlpfpggjkocmaaXg
set_option linter.unusedVariables false
set_option linter.unusedSimpArgs false
namespace Go.Proofs.Ythlpfpggjkocmaa
open Go.RowKit

theorem bld31 (s : ByteArray) (c : Int) (W : World) : (Instr.build 31 [(0, .string s), (2, .int .i64 c)].toArray).run Try.prog W = .ok (.agg (rfC s 0 c).toArray) W := by kernel_rfl
set_option maxRecDepth 100000 in
set_option maxHeartbeats 1000000 in
theorem names_any (n : Int) (hn : n < 9223372036854775808) (w : World) : Calls Try.prog 3 #[.int .i64 n] w fun e w' => e = .returned (.bool true) ∧ Below w.heap.size w w' := by
  refine calls_of_args [.int .i64 n] Try.func3 rfl 61 Try.ntmps3 (by show 1 ≤ 61; decide) ?_
  refine EW.seq ?_
  refine EW.region ?_
  first | refine WL.assign rfl rfl rfl ?_
  refine WL.done ?_
  refine EW.on ?_
  refine EW.seq ?_
  refine EW.region ?_
  refine WL.call [.pointer none] enter5 rfl rfl rfl (open_nil w) ?_
  rintro _ w1 ⟨u1, q1, rfl, rfl, f1, e1⟩
  refine ⟨_, rfl, ?_⟩
  first | refine WL.move rfl rfl rfl ?_
  refine WL.extract rfl rfl rfl (ext_3 _ _ _ _).1 ?_
  refine WL.extract rfl rfl rfl (ext_3 _ _ _ _).2.1 ?_
  refine WL.extract rfl rfl rfl (ext_3 _ _ _ _).2.2 ?_
  first | refine WL.assign rfl rfl rfl ?_
  first | refine WL.assign rfl rfl rfl ?_
  first | refine WL.assign rfl rfl rfl ?_
  refine WL.done ?_
  refine EW.on ?_
  refine EW.seq ?_
  refine EW.region ?_
  refine WL.call [.pointer none] enter6 rfl rfl rfl (clear_nil w1) ?_
  rintro _ w2 ⟨u2, q2, rfl, rfl, f2, e2⟩
  refine ⟨_, rfl, ?_⟩
  first | refine WL.assign rfl rfl rfl ?_
  refine WL.done ?_
  refine EW.on ?_
  refine EW.seq ?_
  refine EW.region ?_
  refine WL.call [] enter7 rfl rfl rfl (fixed_ok w2) ?_
  rintro _ w3 ⟨rfl, e3⟩
  have g1 := (f1.on e2).on e3
  have g2 := f2.on e3
  refine ⟨_, rfl, ?_⟩
  first | refine WL.assign rfl rfl rfl ?_
  refine WL.done ?_
  refine EW.on ?_
  refine EW.seq ?_
  refine EW.seq ?_
  refine EW.region ?_
  first | refine WL.move rfl rfl rfl ?_
  first | refine WL.un rfl rfl rfl (not_t _ _) ?_
  first | refine WL.move rfl rfl rfl ?_
  first | refine WL.move rfl rfl rfl ?_ | refine WL.skip _ rfl rfl rfl ?_
  refine WL.buildN [(0, .string sOpen), (2, .int .i64 3)] rfl rfl rfl (bld31 _ _ _) ?_
  refine WL.call [.iface 79 (.pointer (some ⟨q1, 0, none⟩)), .agg (rfC sOpen 0 3).toArray] enter8 rfl rfl rfl (told_yes sOpen 0 3 (by decide) g1) ?_
  rintro _ w4 ⟨rfl, e4⟩
  refine ⟨_, rfl, ?_⟩
  first | refine WL.un rfl rfl rfl (not_t _ _) ?_ | refine WL.skip _ rfl rfl rfl ?_
  first | refine WL.pick rfl rfl rfl rfl ?_
  first | refine WL.move rfl rfl rfl ?_
  first | refine WL.move rfl rfl rfl ?_ | refine WL.skip _ rfl rfl rfl ?_
  refine WL.buildN [(0, .string sClear), (2, .int .i64 3)] rfl rfl rfl (bld31 _ _ _) ?_
  refine WL.call [.iface 79 (.pointer (some ⟨q2, 0, none⟩)), .agg (rfC sClear 0 3).toArray] enter8 rfl rfl rfl (told_yes sClear 0 3 (by decide) (g2.on e4)) ?_
  rintro _ w5 ⟨rfl, e5⟩
  refine ⟨_, rfl, ?_⟩
  first | refine WL.un rfl rfl rfl (not_t _ _) ?_ | refine WL.skip _ rfl rfl rfl ?_
  first | refine WL.pick rfl rfl rfl rfl ?_
  first | refine WL.move rfl rfl rfl ?_
  first | refine WL.pick rfl rfl rfl rfl ?_
  first | refine WL.move rfl rfl rfl ?_
  first | refine WL.pick rfl rfl rfl rfl ?_
  refine WL.done ?_
  refine EW.on ?_
  refine EW.cond_f rfl ?_
  refine EW.skip ?_
  refine EW.on ?_
  refine EW.seq ?_
  refine EW.cond_f rfl ?_
  refine EW.skip ?_
  refine EW.on ?_
  refine EW.seq ?_
  refine EW.region ?_
  first | refine WL.move rfl rfl rfl ?_
  refine WL.call [.int .i64 n] enter9 rfl rfl rfl (room_any n hn _) ?_
  rintro _ y34 ⟨rfl, hy34⟩
  rw [hy34]
  refine ⟨_, rfl, ?_⟩
  first | refine WL.move rfl rfl rfl ?_
  refine WL.call [.int .i64 n] enter10 rfl rfl rfl (refroom_any n hn _) ?_
  rintro _ y36 ⟨rfl, hy36⟩
  rw [hy36]
  refine ⟨_, rfl, ?_⟩
  refine WL.bin rfl rfl rfl rfl (int_eq_t rfl _ _ _) ?_
  first | refine WL.move rfl rfl rfl ?_
  first | refine WL.move rfl rfl rfl ?_ | refine WL.skip _ rfl rfl rfl ?_
  refine WL.call [.int .i64 n] enter11 rfl rfl rfl (need_any n _) ?_
  rintro _ y40 ⟨rfl, hy40⟩
  rw [hy40]
  refine ⟨_, rfl, ?_⟩
  first | refine WL.move rfl rfl rfl ?_ | refine WL.skip _ rfl rfl rfl ?_
  refine WL.call [.int .i64 n] enter12 rfl rfl rfl (refneed_any n _) ?_
  rintro _ y42 ⟨rfl, hy42⟩
  rw [hy42]
  refine ⟨_, rfl, ?_⟩
  refine WL.bin rfl rfl rfl rfl (int_eq_t rfl _ _ _) ?_
  first | refine WL.pick rfl rfl rfl rfl ?_
  first | refine WL.move rfl rfl rfl ?_
  refine WL.call [.int .i64 1000] enter9 rfl rfl rfl (room_any 1000 (by decide) _) ?_
  rintro _ y46 ⟨rfl, hy46⟩
  rw [hy46, show roomD 1000 = 249 by decide]
  refine ⟨_, rfl, ?_⟩
  refine WL.bin rfl rfl rfl rfl (int_eq_t rfl _ _ _) ?_
  first | refine WL.pick rfl rfl rfl rfl ?_
  first | refine WL.move rfl rfl rfl ?_
  refine WL.call [.int .i64 1001] enter9 rfl rfl rfl (room_any 1001 (by decide) _) ?_
  rintro _ y50 ⟨rfl, hy50⟩
  rw [hy50, show roomD 1001 = 250 by decide]
  refine ⟨_, rfl, ?_⟩
  refine WL.bin rfl rfl rfl rfl (int_eq_t rfl _ _ _) ?_
  first | refine WL.pick rfl rfl rfl rfl ?_
  first | refine WL.move rfl rfl rfl ?_
  refine WL.call [.int .i64 4] enter9 rfl rfl rfl (room_any 4 (by decide) _) ?_
  rintro _ y54 ⟨rfl, hy54⟩
  rw [hy54, show roomD 4 = 0 by decide]
  refine ⟨_, rfl, ?_⟩
  refine WL.bin rfl rfl rfl rfl (int_eq_t rfl _ _ _) ?_
  first | refine WL.pick rfl rfl rfl rfl ?_
  first | refine WL.move rfl rfl rfl ?_
  refine WL.call [.int .i64 250] enter11 rfl rfl rfl (need_any 250 _) ?_
  rintro _ y58 ⟨rfl, hy58⟩
  rw [hy58, show needD 250 = 1001 by decide]
  refine ⟨_, rfl, ?_⟩
  refine WL.bin rfl rfl rfl rfl (int_eq_t rfl _ _ _) ?_
  first | refine WL.pick rfl rfl rfl rfl ?_
  first | refine WL.assign rfl rfl rfl ?_
  refine WL.done ?_
  refine EW.on ?_
  refine EW.ret ?_
  exact EW.returns Try.results3 rfl ⟨rfl, (by
    have k2 := e1.trans (e2.mono e1.size)
    have k3 := k2.trans (e3.mono k2.size)
    have k4 := k3.trans (e4.mono k3.size)
    exact k4.trans (e5.mono k4.size))⟩
end Go.Proofs.Ythlpfpggjkocmaa
