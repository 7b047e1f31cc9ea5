import Derived.Test.YtacimelcmkhhlaaJm
set_option linter.unusedVariables false
set_option linter.unusedSimpArgs false
namespace Go.Proofs.Ytacimelcmkhhlaa
open Go.RowKit

theorem putS {s : Sg} (k : s.ok) (w : World) : ∃ q w1 w2, (Instr.alloc 33 true (.tuple #[])).run Try.prog w = .ok (.pointer (some ⟨q, 0, none⟩)) w1 ∧ (Instr.storeAt 33 (.pointer (some ⟨q, 0, none⟩)) s.v).run Try.prog w1 = .ok () w2 ∧ Blk w2 q s.cs 33 ∧ Below w.heap.size w w2 ∧ q = w.heap.size := by
  obtain ⟨w1, q, r1, b1, e1, hq⟩ := new_any (t := 33) (cs := Sg.z.cs) zv33 w
  obtain ⟨w2, s2, b2, f2⟩ := Sg.st (s := s) b1 Sg.z_ok k
  exact ⟨q, w1, w2, r1, s2, b2, bfx e1 (by omega) f2, hq⟩
theorem bool_eq (a b : Bool) (W : World) (x y : Operand) : (do eqGuard .eql 4 x y (.bool a) (.bool b); binOp .eql 4 (.bool a) (.bool b) : Sem Value).run Try.prog W = .ok (.bool (a == b)) W := by
  cases a <;> cases b <;> go_simp
set_option maxRecDepth 100000 in
set_option maxHeartbeats 4000000 in
theorem back_any (s t : Sg) (ks : s.ok) (kt : t.ok) (hel : Bool) (w : World) : Calls Try.prog 5 #[s.v, t.v, .bool hel] w fun e w' => e = .returned (.bool true) ∧ Below w.heap.size w w' := by
  obtain ⟨S, hS⟩ : ∃ S, mayD s hel = S := ⟨_, rfl⟩
  obtain ⟨T, hT⟩ : ∃ T, mayD t (!hel) = T := ⟨_, rfl⟩
  have kS : S.ok := by rw [← hS]; exact may_ok ks _
  have kT : T.ok := by rw [← hT]; exact may_ok kt _
  have gS : Good S := by rw [← hS]; exact good_may ks _
  have gT : Good T := by rw [← hT]; exact good_may kt _
  have hlen := enc_len kS gS
  obtain ⟨w1, q1, r1, b1, e1, hq1⟩ := box_any 33 s.cs w
  obtain ⟨w2, q2, r2, bt2, e2, hq2⟩ := box_any 33 t.cs w1
  have bs2 := b1.on e2
  have l2 := bt e1 e2
  have l1' := e1.size
  have hb1 := b1.lt
  refine calls_of_args [s.v, t.v, .bool hel] Try.func5 rfl 74 Try.ntmps5 (by show 3 ≤ 74; decide) ?_
  refine EW.seq ?_
  refine EW.region ?_
  refine WL.box rfl rfl rfl r1 ?_
  refine WL.box rfl rfl rfl r2 ?_
  first | refine WL.assign rfl rfl rfl ?_
  refine WL.done ?_
  refine EW.on ?_
  refine EW.seq ?_
  refine EW.ordB [(0, 0, 1), (1, 0, 0), (3, 0, 1), (4, 0, 0), (5, 0, 0), (2, 1, 1), (6, 1, 1), (7, 1, 0), (8, 1, 0)] (by kernel_rfl) rfl (by kernel_rfl) ?_
  simp only [opsZ, List.getD_cons_zero, List.getD_cons_succ]
  refine ZE.load rfl rfl rfl rfl sz1 (fun W hW => Sg.ld (bs2.on (sb_of hW)) ks) ?_
  first | refine ZE.move rfl rfl rfl rfl sz0 ?_
  refine ZE.load rfl rfl rfl rfl sz1 (fun W hW => Sg.ld (bt2.on (sb_of hW)) kt) ?_
  first | refine ZE.move rfl rfl rfl rfl sz0 ?_
  refine ZE.un rfl rfl rfl rfl sz0 (fun W => not_t _ W) ?_
  refine ZE.callB [s.v, .bool hel] enter9 rfl rfl rfl (fun W h => .inr h) (fun W hW => hS ▸ may_any s ks hel W) ?_
  refine ZE.callB [t.v, .bool (!hel)] enter9 rfl rfl rfl (fun W h => .inr h) (fun W hW => hT ▸ may_any t kt (!hel) W) ?_
  refine ZE.store (fun W => Blk W q1 S.cs 33 ∧ Blk W q2 t.cs 33 ∧ Below w.heap.size w W) rfl rfl rfl (fun _ _ => .inl rfl) (fun W hW => ?_) ?_
  · obtain ⟨w', g1, g2, g3⟩ := Sg.st (s := S) (bs2.on hW) ks kS
    exact ⟨w', g1, g2, (bt2.on hW).fx g3 (fun e => by omega), bfx (bt l2 hW) (by omega) g3⟩
  refine ZE.store (fun W => Blk W q1 S.cs 33 ∧ Blk W q2 T.cs 33 ∧ Below w.heap.size w W) rfl rfl rfl (fun _ _ => .inl rfl) (fun W hW => ?_) ?_
  · obtain ⟨x1, x2, x3⟩ := hW
    obtain ⟨w', g1, g2, g3⟩ := Sg.st (s := T) x2 kt kT
    exact ⟨w', g1, x1.fx g3 (fun e => by omega), g2, bfx x3 (by omega) g3⟩
  rintro w3 ⟨bs3, bt3, l3⟩
  refine EW.on ?_
  refine EW.seq ?_
  refine EW.region ?_
  first | refine WL.load rfl rfl rfl (Sg.ld bs3 kS) ?_
  refine WL.call [S.v] enter12 rfl rfl rfl (encode_any S kS _) ?_
  rintro _ w4 ⟨vb, rfl, ob, e4⟩
  rw [if_pos gS] at ob
  rw [chkD, if_pos gS]
  have bs4 := bs3.on e4
  have bt4 := bt3.on e4
  have l4 := bt l3 e4
  refine ⟨_, rfl, ?_⟩
  first | refine WL.move rfl rfl rfl ?_
  first | refine WL.extract rfl rfl rfl (ext_2 _ _ _).1 ?_
  first | refine WL.extract rfl rfl rfl (ext_2 _ _ _).2 ?_
  first | refine WL.assign rfl rfl rfl ?_
  first | refine WL.assign rfl rfl rfl ?_
  refine WL.done ?_
  refine EW.on ?_
  refine EW.seq ?_
  refine EW.region ?_
  first | refine WL.move rfl rfl rfl ?_
  refine WL.call [vb] enter16 rfl rfl rfl (decode_any vb (encD S) _ ob.has (by omega)) ?_
  rintro _ w5 ⟨rfl, e5⟩
  rw [(dec_enc kS gS).1, (dec_enc kS gS).2]
  refine ⟨_, rfl, ?_⟩
  first | refine WL.move rfl rfl rfl ?_
  first | refine WL.extract rfl rfl rfl (ext_2 _ _ _).1 ?_
  first | refine WL.extract rfl rfl rfl (ext_2 _ _ _).2 ?_
  obtain ⟨q6, w6, w7, r6, s7, b7, e7, hq6⟩ := putS kS w5
  refine WL.new rfl rfl r6 ?_
  refine WL.store rfl rfl rfl s7 ?_
  have bs7 := (bs4.on e5).on e7
  have bt7 := (bt4.on e5).on e7
  have ob7 := (ob.below e5).below e7
  have l7 := bt (bt l4 e5) e7
  first | refine WL.assign rfl rfl rfl ?_
  refine WL.done ?_
  refine EW.on ?_
  refine EW.seq ?_
  refine EW.seq ?_
  refine EW.region ?_
  first | refine WL.move rfl rfl rfl ?_
  first | refine WL.bin rfl rfl rfl rfl (int_ne_f rfl _ _ _) ?_ | refine WL.bin rfl rfl rfl rfl (int_ne_t ‹_› _ _ _) ?_ | refine WL.bin rfl rfl rfl rfl (int_ne_f ‹_› _ _ _) ?_ | refine WL.bin rfl rfl rfl rfl (int_ne_t (by decide) _ _ _) ?_ | refine WL.bin rfl rfl rfl rfl (int_ne_d _ _ _ _ _) ?_
  first | refine WL.move rfl rfl rfl ?_
  first | refine WL.move rfl rfl rfl ?_ | refine WL.skip _ rfl rfl rfl ?_
  first | refine WL.bin rfl rfl rfl rfl (int_ne_f rfl _ _ _) ?_ | refine WL.bin rfl rfl rfl rfl (int_ne_t ‹_› _ _ _) ?_ | refine WL.bin rfl rfl rfl rfl (int_ne_f ‹_› _ _ _) ?_ | refine WL.bin rfl rfl rfl rfl (int_ne_t (by decide) _ _ _) ?_ | refine WL.bin rfl rfl rfl rfl (int_ne_d _ _ _ _ _) ?_ | refine WL.skip _ rfl rfl rfl ?_
  first | refine WL.pick rfl rfl rfl rfl ?_
  first | refine WL.move rfl rfl rfl ?_
  first | refine WL.load rfl rfl rfl (Sg.ld b7 kS) ?_
  first | refine WL.load rfl rfl rfl (Sg.ld bs7 kS) ?_
  refine WL.bin rfl rfl rfl rfl ((neq33 S S kS kS _ _ _).trans (by rw [decide_eq_false (fun h => h rfl)])) ?_
  first | refine WL.pick rfl rfl rfl rfl ?_
  first | refine WL.move rfl rfl rfl ?_
  first | refine WL.move rfl rfl rfl ?_ | refine WL.skip _ rfl rfl rfl ?_
  refine WL.len rfl rfl rfl (ob7.has.len _ _) ?_
  refine WL.bin rfl rfl rfl rfl (int_gt_f (by omega) _ _ _) ?_
  first | refine WL.pick rfl rfl rfl rfl ?_
  first | refine WL.move rfl rfl rfl ?_
  first | refine WL.move rfl rfl rfl ?_ | refine WL.skip _ rfl rfl rfl ?_
  refine WL.len rfl rfl rfl (ob7.has.len _ _) ?_
  refine WL.bin rfl rfl rfl rfl (int_lt_f (by omega) _ _ _) ?_
  first | refine WL.pick rfl rfl rfl rfl ?_
  first | refine WL.move rfl rfl rfl ?_
  first | refine WL.load rfl rfl rfl (Sg.ld bs7 kS) ?_
  refine WL.call [S.v] enter10 rfl rfl rfl (check_any S kS _) ?_
  rintro _ w8 ⟨rfl, e8⟩
  rw [chkD, if_pos gS]
  have bs8 := bs7.on e8
  have bt8 := bt7.on e8
  have ob8 := ob7.below e8
  have l8 := bt l7 e8
  refine ⟨_, rfl, ?_⟩
  first | refine WL.bin rfl rfl rfl rfl (int_ne_f rfl _ _ _) ?_ | refine WL.bin rfl rfl rfl rfl (int_ne_t ‹_› _ _ _) ?_ | refine WL.bin rfl rfl rfl rfl (int_ne_f ‹_› _ _ _) ?_ | refine WL.bin rfl rfl rfl rfl (int_ne_t (by decide) _ _ _) ?_ | refine WL.bin rfl rfl rfl rfl (int_ne_d _ _ _ _ _) ?_ | refine WL.skip _ rfl rfl rfl ?_
  first | refine WL.pick rfl rfl rfl rfl ?_
  refine WL.done ?_
  refine EW.on ?_
  refine EW.cond_f rfl ?_
  refine EW.skip ?_
  refine EW.on ?_
  refine EW.seq ?_
  refine EW.region ?_
  first | refine WL.load rfl rfl rfl (Sg.ld bt8 kT) ?_
  refine WL.call [T.v] enter12 rfl rfl rfl (encode_any T kT _) ?_
  rintro _ w9 ⟨vc, rfl, oc, e9⟩
  rw [if_pos gT] at oc
  rw [chkD, if_pos gT]
  have bs9 := bs8.on e9
  have bt9 := bt8.on e9
  have ob9 := ob8.below e9
  have l9 := bt l8 e9
  refine ⟨_, rfl, ?_⟩
  first | refine WL.move rfl rfl rfl ?_
  first | refine WL.extract rfl rfl rfl (ext_2 _ _ _).1 ?_
  first | refine WL.extract rfl rfl rfl (ext_2 _ _ _).2 ?_
  first | refine WL.assign rfl rfl rfl ?_
  first | refine WL.assign rfl rfl rfl ?_
  refine WL.done ?_
  refine EW.on ?_
  refine EW.seq ?_
  refine EW.ordB [(0, 0, 0), (1, 0, 0), (2, 0, 0), (3, 0, 0), (4, 0, 1), (5, 0, 0), (6, 0, 1), (7, 0, 0), (8, 0, 1), (9, 0, 1), (10, 0, 0), (11, 0, 0), (12, 0, 0), (13, 0, 0)] (by kernel_rfl) rfl (by kernel_rfl) ?_
  simp only [opsZ, List.getD_cons_zero, List.getD_cons_succ]
  first | refine ZE.move rfl rfl rfl rfl sz0 ?_
  refine ZE.bin rfl rfl rfl rfl rfl sz0 (fun W => int_eq_t rfl W _ _) ?_
  first | refine ZE.move rfl rfl rfl rfl sz0 ?_
  first | refine ZE.move rfl rfl rfl rfl sz0 ?_ | refine ZE.skip rfl rfl rfl sz0 ?_
  refine ZE.conv rfl rfl rfl rfl sz1 (fun W hW => (ob9.has.below (sb_of hW)).convert) ?_
  first | refine ZE.move rfl rfl rfl rfl sz0 ?_ | refine ZE.skip rfl rfl rfl sz0 ?_
  refine ZE.conv rfl rfl rfl rfl sz1 (fun W hW => (oc.has.below (sb_of hW)).convert) ?_
  refine ZE.bin rfl rfl rfl rfl rfl sz0 (fun W => str_eq_d _ _ W _ _) ?_
  refine ZE.load rfl rfl rfl rfl sz1 (fun W hW => Sg.ld (bs9.on (sb_of hW)) kS) ?_
  refine ZE.load rfl rfl rfl rfl sz1 (fun W hW => Sg.ld (bt9.on (sb_of hW)) kT) ?_
  refine ZE.bin rfl rfl rfl rfl rfl sz0 (fun W => eql33 S T kS kT W _ _) ?_
  refine ZE.bin rfl rfl rfl rfl rfl sz0 (fun W => bool_eq _ _ W _ _) ?_
  first | refine ZE.pick rfl rfl rfl rfl rfl sz0 ?_
  first | refine ZE.assign rfl rfl rfl rfl sz0 ?_
  intro W be
  refine EW.on ?_
  refine EW.ret ?_
  exact EW.returns Try.results5 rfl ⟨by rw [beq_iff_eq.2 (decide_eq_decide.2 (enc_inj kS kT gS gT))], bt l9 be⟩
end Go.Proofs.Ytacimelcmkhhlaa
