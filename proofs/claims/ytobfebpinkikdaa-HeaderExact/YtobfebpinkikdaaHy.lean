import Derived.Test.YtobfebpinkikdaaHx
set_option linter.unusedVariables false
set_option linter.unusedSimpArgs false
namespace Go.Proofs.Ytobfebpinkikdaa
open Go.RowKit

set_option maxRecDepth 100000 in
set_option maxHeartbeats 16000000 in
theorem oneF_A (vb : Value) (c : List UInt8) (p : Pk) (kp : p.ok) (body : List UInt8) (w : World) (hc : Has w vb c) (hcm : c.length ≤ 140737488355328) (hy : Has w p.bv body) (hmax : body.length ≤ 140737488355328) (hu : unE c = 0) (hoE : ¬ ofE c = 0) : Calls Try.prog 5 #[vb, p.v] w fun e w' => e = .returned (.bool true) ∧ Below w.heap.size w w' := by
  obtain ⟨w1, qp, r1, bp1, sb1, hqp⟩ := box_any 33 p.cs w
  have l1 := sb1.size
  have hqpl := bp1.lt
  have hy1 := hy.below sb1
  have hpb := pack_back hu
  obtain ⟨_, _, hbb1, hbb2⟩ := flt_ok hpb.2.2.1
  refine calls_of_args [vb, p.v] Try.func5 rfl 103 Try.ntmps5 (by show 2 ≤ 103; decide) ?_
  refine EW.seq ?_
  refine EW.region ?_
  refine WL.box rfl rfl rfl r1 ?_
  first | refine WL.assign rfl rfl rfl ?_
  refine WL.done ?_
  refine EW.on ?_
  refine EW.seq ?_
  refine EW.region ?_
  refine WL.load rfl rfl rfl (ldPk bp1 kp) ?_
  refine WL.call [p.v] enter8 rfl rfl rfl (right_any' p kp body w1 hy1 hmax) ?_
  rintro _ w2 ⟨p1, k, body1, rfl, rt2, off2, be2⟩
  have bp2 := bp1.on be2
  have sb2 := sb1.trans (be2.mono sb1.size)
  have hop := off2 qp (hy.offB' (by omega)) (by omega)
  have kp1 := rt2.ok
  refine ⟨_, rfl, ?_⟩
  obtain ⟨w3, s3, bp3, f3⟩ := stPk bp2 kp p1 kp1 rt2.hs.sl
  refine WL.store rfl rfl rfl s3 ?_
  have sb3 := sb2.trans (f3.low (by omega) sb2.size)
  have rt3 := rt2.fx f3 hop
  have hc3 := ((hc.below sb1).below be2).fxo f3 (fun k hk => by have hk : k = qp := hk; rw [hk]; exact hc.offB' (by omega))
  have fl1 := rt3.fl
  have hk12 := rt3.k12
  obtain ⟨_, hsu, hb1, hb2⟩ := flt_ok fl1
  have hlen := packB_len hk12 kp1.l kp1.d body1
  have hat : 2 ≤ atD k := by unfold atD; split <;> omega
  refine WL.done ?_
  refine EW.on ?_
  refine EW.seq ?_
  refine EW.region ?_
  refine WL.load rfl rfl rfl (ldPk bp3 kp1) ?_
  refine WL.call [p1.v] enter9 rfl rfl rfl (pack_any p1 k body1 w3 rt3) ?_
  rintro _ w4 ⟨v, rfl, ov4, be4⟩
  have bp4 := bp3.on be4
  have rt4 := rt3.below be4
  have hc4 := hc3.below be4
  have sb4 := sb3.trans (be4.mono sb3.size)
  have sz4 := be4.size
  refine ⟨_, rfl, ?_⟩
  first | refine WL.move rfl rfl rfl ?_
  first | refine WL.extract rfl rfl rfl (ext_2 _ _ _).1 ?_
  first | refine WL.extract rfl rfl rfl (ext_2 _ _ _).2 ?_
  first | refine WL.assign rfl rfl rfl ?_
  first | refine WL.assign rfl rfl rfl ?_
  refine WL.done ?_
  refine EW.on ?_
  refine EW.seq ?_
  refine EW.seq ?_
  refine EW.region ?_
  first | refine WL.move rfl rfl rfl ?_
  first | refine WL.bin rfl rfl rfl rfl (int_ne_f rfl _ _ _) ?_ | refine WL.bin rfl rfl rfl rfl (int_ne_t ‹_› _ _ _) ?_ | refine WL.bin rfl rfl rfl rfl (int_ne_f ‹_› _ _ _) ?_ | refine WL.bin rfl rfl rfl rfl (int_ne_t (by decide) _ _ _) ?_ | refine WL.bin rfl rfl rfl rfl (int_ne_d _ _ _ _ _) ?_
  first | refine WL.move rfl rfl rfl ?_
  first | refine WL.move rfl rfl rfl ?_ | refine WL.skip _ rfl rfl rfl ?_
  refine WL.len rfl rfl rfl (ov4.len _ _) ?_
  refine WL.bin rfl rfl rfl rfl (int_lt_f (by omega) _ _ _) ?_
  first | refine WL.pick rfl rfl rfl rfl ?_
  refine WL.done ?_
  refine EW.on ?_
  refine EW.cond_f rfl ?_
  refine EW.skip ?_
  refine EW.on ?_
  refine EW.seq ?_
  refine EW.region ?_
  first | refine WL.move rfl rfl rfl ?_
  refine WL.call [vb] enter11 rfl rfl rfl (unpack_any vb c w4 hc4 (by omega)) ?_
  rintro _ w5 ⟨pq, rfl, hbad, hok, be5⟩
  obtain ⟨vy, hpq, oy5⟩ := hok hu
  have kq : pq.ok := by rw [hpq]; exact ⟨hpb.2.2.2.1, hpb.2.2.2.2⟩
  have hbv : ∃ ao n c, pq.bv = .slice ao n c := by rw [hpq]; exact oy5.has.sl
  have bp5 := bp4.on be5
  have rt5 := rt4.below be5
  have hc5 := hc4.below be5
  have ov5 := ov4.below be5
  have sb5 := sb4.trans (be5.mono sb4.size)
  have sz5 := be5.size
  refine ⟨_, rfl, ?_⟩
  obtain ⟨wa5, w6, qq, ra6, rs6, bq6, bea6, hqq⟩ := new33 w5 pq kq hbv
  have bp6 := bp5.on bea6
  have rt6 := rt5.below bea6
  have hc6 := hc5.below bea6
  have ov6 := ov5.below bea6
  have oy6 := oy5.below bea6
  have sb6 := sb5.trans (bea6.mono sb5.size)
  have sz6 := bea6.size
  first | refine WL.move rfl rfl rfl ?_
  first | refine WL.extract rfl rfl rfl (ext_2 _ _ _).1 ?_
  first | refine WL.extract rfl rfl rfl (ext_2 _ _ _).2 ?_
  refine WL.new rfl rfl ra6 ?_
  refine WL.store rfl rfl rfl rs6 ?_
  first | refine WL.assign rfl rfl rfl ?_
  refine WL.done ?_
  refine EW.on ?_
  refine EW.seq ?_
  refine EW.seq ?_
  refine EW.region ?_
  first | refine WL.move rfl rfl rfl ?_
  refine WL.bin rfl rfl rfl rfl (int_eq_t hu _ _ _) ?_
  refine WL.done ?_
  refine EW.on ?_
  refine EW.cond_t rfl ?_
  refine EW.seq ?_
  refine EW.region ?_
  refine WL.load rfl rfl rfl (ldPk bq6 kq) ?_
  refine WL.call [pq.v] enter9 rfl rfl rfl (pack_any pq (kdD c) (boD c) w6 ⟨by rw [hpq]; rfl, hpb.2.1, kq, by rw [hpq]; exact hpb.2.2.1, by rw [hpq]; exact oy6.has⟩) ?_
  rintro _ w7 ⟨va, rfl, oa7, be7⟩
  rw [show packB (kdD c) pq.hl pq.hd (boD c) = c from by rw [hpq]; exact hpb.1] at oa7
  have bp7 := bp6.on be7
  have rt7 := rt6.below be7
  have hc7 := hc6.below be7
  have ov7 := ov6.below be7
  have oy7 := oy6.below be7
  have bq7 := bq6.on be7
  have sb7 := sb6.trans (be7.mono sb6.size)
  have sz7 := be7.size
  refine ⟨_, rfl, ?_⟩
  first | refine WL.move rfl rfl rfl ?_
  first | refine WL.extract rfl rfl rfl (ext_2 _ _ _).1 ?_
  first | refine WL.extract rfl rfl rfl (ext_2 _ _ _).2 ?_
  first | refine WL.assign rfl rfl rfl ?_
  first | refine WL.assign rfl rfl rfl ?_
  refine WL.done ?_
  refine EW.on ?_
  refine EW.seq ?_
  refine EW.region ?_
  first | refine WL.move rfl rfl rfl ?_
  first | refine WL.bin rfl rfl rfl rfl (int_ne_f rfl _ _ _) ?_ | refine WL.bin rfl rfl rfl rfl (int_ne_t ‹_› _ _ _) ?_ | refine WL.bin rfl rfl rfl rfl (int_ne_f ‹_› _ _ _) ?_ | refine WL.bin rfl rfl rfl rfl (int_ne_t (by decide) _ _ _) ?_ | refine WL.bin rfl rfl rfl rfl (int_ne_d _ _ _ _ _) ?_
  first | refine WL.move rfl rfl rfl ?_
  first | refine WL.move rfl rfl rfl ?_ | refine WL.skip _ rfl rfl rfl ?_
  first | refine WL.move rfl rfl rfl ?_ | refine WL.skip _ rfl rfl rfl ?_
  refine WL.call [va, vb] enter14 rfl rfl rfl (eq_yes va vb c w7 oa7.has hc7) ?_
  rintro _ w8 ⟨rfl, hz⟩
  rw [hz]
  clear hz
  clear w8
  refine ⟨_, rfl, ?_⟩
  first | refine WL.un rfl rfl rfl (not_t _ _) ?_ | refine WL.skip _ rfl rfl rfl ?_
  first | refine WL.pick rfl rfl rfl rfl ?_
  first | refine WL.move rfl rfl rfl ?_
  refine WL.field rfl rfl rfl (f33_3 qq 0 _) ?_
  refine WL.load rfl rfl rfl (ldPkB bq7 kq) ?_
  refine WL.len rfl rfl rfl (by rw [hpq]; exact oy7.len _ _) ?_
  refine WL.bin rfl rfl rfl rfl (int_lt_f (by omega) _ _ _) ?_
  first | refine WL.pick rfl rfl rfl rfl ?_
  first | refine WL.move rfl rfl rfl ?_
  refine WL.field rfl rfl rfl (f33_3 qq 0 _) ?_
  refine WL.load rfl rfl rfl (ldPkB bq7 kq) ?_
  refine WL.len rfl rfl rfl (by rw [hpq]; exact oy7.len _ _) ?_
  refine WL.bin rfl rfl rfl rfl (int_gt_f (by omega) _ _ _) ?_
  first | refine WL.pick rfl rfl rfl rfl ?_
  refine WL.done ?_
  refine EW.on ?_
  refine EW.cond_f rfl ?_
  refine EW.skip ?_
  refine EW.on ?_
  refine EW.seq ?_
  refine EW.region ?_
  first | refine WL.move rfl rfl rfl ?_
  refine WL.call [vb] enter12 rfl rfl rfl (roffer_any vb c w7 hc7 (by omega)) ?_
  rintro _ w8 ⟨rfl, be8⟩
  have bp8 := bp7.on be8
  have rt8 := rt7.below be8
  have hc8 := hc7.below be8
  have ov8 := ov7.below be8
  have oy8 := oy7.below be8
  have bq8 := bq7.on be8
  have oa8 := oa7.below be8
  have sb8 := sb7.trans (be8.mono sb7.size)
  have sz8 := be8.size
  refine ⟨_, rfl, ?_⟩
  obtain ⟨wa8, w9, qd, ra9, rs9, bd9, bea9, hqd⟩ := new42 w8 (ofV c) (ofV_ok c)
  have bp9 := bp8.on bea9
  have rt9 := rt8.below bea9
  have hc9 := hc8.below bea9
  have ov9 := ov8.below bea9
  have oy9 := oy8.below bea9
  have bq9 := bq8.on bea9
  have oa9 := oa8.below bea9
  have sb9 := sb8.trans (bea9.mono sb8.size)
  have sz9 := bea9.size
  first | refine WL.move rfl rfl rfl ?_
  first | refine WL.extract rfl rfl rfl (ext_2 _ _ _).1 ?_
  first | refine WL.extract rfl rfl rfl (ext_2 _ _ _).2 ?_
  refine WL.new rfl rfl ra9 ?_
  refine WL.store rfl rfl rfl rs9 ?_
  first | refine WL.assign rfl rfl rfl ?_
  refine WL.done ?_
  refine EW.on ?_
  refine EW.seq ?_
  refine EW.seq ?_
  refine EW.region ?_
  first | refine WL.move rfl rfl rfl ?_
  refine WL.bin rfl rfl rfl rfl (int_eq_f hoE _ _ _) ?_
  refine WL.done ?_
  refine EW.on ?_
  refine EW.cond_f rfl ?_
  refine EW.skip ?_
  refine EW.on ?_
  refine EW.seq ?_
  refine EW.region ?_
  refine WL.load rfl rfl rfl (ldOf bd9 (ofV_ok c)) ?_
  refine WL.buildN [] rfl rfl rfl (bd42 _) ?_
  refine WL.bin rfl rfl rfl rfl (eql42 _ _ (ofV_ok c) Of.z_ok _ _ _) ?_
  rw [show decide (ofV c = Of.z) = true from decide_eq_true (by unfold ofV; rw [if_neg hoE])]
  first | refine WL.assign rfl rfl rfl ?_
  refine WL.done ?_
  refine EW.on ?_
  refine EW.ret ?_
  exact EW.returns Try.results5 rfl ⟨rfl, sb9⟩
set_option maxRecDepth 100000 in
set_option maxHeartbeats 16000000 in
theorem oneF_B (vb : Value) (c : List UInt8) (p : Pk) (kp : p.ok) (body : List UInt8) (w : World) (hc : Has w vb c) (hcm : c.length ≤ 140737488355328) (hy : Has w p.bv body) (hmax : body.length ≤ 140737488355328) (hu : ¬ unE c = 0) (hoE : ofE c = 0) : Calls Try.prog 5 #[vb, p.v] w fun e w' => e = .returned (.bool true) ∧ Below w.heap.size w w' := by
  obtain ⟨w1, qp, r1, bp1, sb1, hqp⟩ := box_any 33 p.cs w
  have l1 := sb1.size
  have hqpl := bp1.lt
  have hy1 := hy.below sb1
  have hob := off_back hoE
  have hov : ofV c = ofD c := by unfold ofV; rw [if_pos hoE]
  refine calls_of_args [vb, p.v] Try.func5 rfl 103 Try.ntmps5 (by show 2 ≤ 103; decide) ?_
  refine EW.seq ?_
  refine EW.region ?_
  refine WL.box rfl rfl rfl r1 ?_
  first | refine WL.assign rfl rfl rfl ?_
  refine WL.done ?_
  refine EW.on ?_
  refine EW.seq ?_
  refine EW.region ?_
  refine WL.load rfl rfl rfl (ldPk bp1 kp) ?_
  refine WL.call [p.v] enter8 rfl rfl rfl (right_any' p kp body w1 hy1 hmax) ?_
  rintro _ w2 ⟨p1, k, body1, rfl, rt2, off2, be2⟩
  have bp2 := bp1.on be2
  have sb2 := sb1.trans (be2.mono sb1.size)
  have hop := off2 qp (hy.offB' (by omega)) (by omega)
  have kp1 := rt2.ok
  refine ⟨_, rfl, ?_⟩
  obtain ⟨w3, s3, bp3, f3⟩ := stPk bp2 kp p1 kp1 rt2.hs.sl
  refine WL.store rfl rfl rfl s3 ?_
  have sb3 := sb2.trans (f3.low (by omega) sb2.size)
  have rt3 := rt2.fx f3 hop
  have hc3 := ((hc.below sb1).below be2).fxo f3 (fun k hk => by have hk : k = qp := hk; rw [hk]; exact hc.offB' (by omega))
  have fl1 := rt3.fl
  have hk12 := rt3.k12
  obtain ⟨_, hsu, hb1, hb2⟩ := flt_ok fl1
  have hlen := packB_len hk12 kp1.l kp1.d body1
  have hat : 2 ≤ atD k := by unfold atD; split <;> omega
  refine WL.done ?_
  refine EW.on ?_
  refine EW.seq ?_
  refine EW.region ?_
  refine WL.load rfl rfl rfl (ldPk bp3 kp1) ?_
  refine WL.call [p1.v] enter9 rfl rfl rfl (pack_any p1 k body1 w3 rt3) ?_
  rintro _ w4 ⟨v, rfl, ov4, be4⟩
  have bp4 := bp3.on be4
  have rt4 := rt3.below be4
  have hc4 := hc3.below be4
  have sb4 := sb3.trans (be4.mono sb3.size)
  have sz4 := be4.size
  refine ⟨_, rfl, ?_⟩
  first | refine WL.move rfl rfl rfl ?_
  first | refine WL.extract rfl rfl rfl (ext_2 _ _ _).1 ?_
  first | refine WL.extract rfl rfl rfl (ext_2 _ _ _).2 ?_
  first | refine WL.assign rfl rfl rfl ?_
  first | refine WL.assign rfl rfl rfl ?_
  refine WL.done ?_
  refine EW.on ?_
  refine EW.seq ?_
  refine EW.seq ?_
  refine EW.region ?_
  first | refine WL.move rfl rfl rfl ?_
  first | refine WL.bin rfl rfl rfl rfl (int_ne_f rfl _ _ _) ?_ | refine WL.bin rfl rfl rfl rfl (int_ne_t ‹_› _ _ _) ?_ | refine WL.bin rfl rfl rfl rfl (int_ne_f ‹_› _ _ _) ?_ | refine WL.bin rfl rfl rfl rfl (int_ne_t (by decide) _ _ _) ?_ | refine WL.bin rfl rfl rfl rfl (int_ne_d _ _ _ _ _) ?_
  first | refine WL.move rfl rfl rfl ?_
  first | refine WL.move rfl rfl rfl ?_ | refine WL.skip _ rfl rfl rfl ?_
  refine WL.len rfl rfl rfl (ov4.len _ _) ?_
  refine WL.bin rfl rfl rfl rfl (int_lt_f (by omega) _ _ _) ?_
  first | refine WL.pick rfl rfl rfl rfl ?_
  refine WL.done ?_
  refine EW.on ?_
  refine EW.cond_f rfl ?_
  refine EW.skip ?_
  refine EW.on ?_
  refine EW.seq ?_
  refine EW.region ?_
  first | refine WL.move rfl rfl rfl ?_
  refine WL.call [vb] enter11 rfl rfl rfl (unpack_any vb c w4 hc4 (by omega)) ?_
  rintro _ w5 ⟨pq, rfl, hbad, hok, be5⟩
  have hpq := hbad hu
  have kq : pq.ok := by rw [hpq]; exact Pk.z_ok
  have hbv : ∃ ao n c, pq.bv = .slice ao n c := by rw [hpq]; exact ⟨_, _, _, rfl⟩
  have bp5 := bp4.on be5
  have rt5 := rt4.below be5
  have hc5 := hc4.below be5
  have ov5 := ov4.below be5
  have sb5 := sb4.trans (be5.mono sb4.size)
  have sz5 := be5.size
  refine ⟨_, rfl, ?_⟩
  obtain ⟨wa5, w6, qq, ra6, rs6, bq6, bea6, hqq⟩ := new33 w5 pq kq hbv
  have bp6 := bp5.on bea6
  have rt6 := rt5.below bea6
  have hc6 := hc5.below bea6
  have ov6 := ov5.below bea6
  have sb6 := sb5.trans (bea6.mono sb5.size)
  have sz6 := bea6.size
  first | refine WL.move rfl rfl rfl ?_
  first | refine WL.extract rfl rfl rfl (ext_2 _ _ _).1 ?_
  first | refine WL.extract rfl rfl rfl (ext_2 _ _ _).2 ?_
  refine WL.new rfl rfl ra6 ?_
  refine WL.store rfl rfl rfl rs6 ?_
  first | refine WL.assign rfl rfl rfl ?_
  refine WL.done ?_
  refine EW.on ?_
  refine EW.seq ?_
  refine EW.seq ?_
  refine EW.region ?_
  first | refine WL.move rfl rfl rfl ?_
  refine WL.bin rfl rfl rfl rfl (int_eq_f hu _ _ _) ?_
  refine WL.done ?_
  refine EW.on ?_
  refine EW.cond_f rfl ?_
  refine EW.seq ?_
  refine EW.region ?_
  refine WL.field rfl rfl rfl (f33_0 qq 0 _) ?_
  refine WL.load rfl rfl rfl (ldPkK bq6) ?_
  refine WL.bin rfl rfl rfl rfl (int_ne_f (by rw [hpq]; rfl) _ _ _) ?_
  first | refine WL.move rfl rfl rfl ?_
  refine WL.field rfl rfl rfl (f33_3 qq 0 _) ?_
  refine WL.load rfl rfl rfl (ldPkB bq6 kq) ?_
  refine WL.len rfl rfl rfl (show _ = _ from by rw [hpq]; exact (Has.nil w).len _ _) ?_
  refine WL.bin rfl rfl rfl rfl (int_ne_f rfl _ _ _) ?_
  first | refine WL.pick rfl rfl rfl rfl ?_
  first | refine WL.move rfl rfl rfl ?_
  refine WL.field rfl rfl rfl (f33_2 qq 0 _) ?_
  refine WL.load rfl rfl rfl (ldPkH bq6 kq) ?_
  refine WL.buildN [] rfl rfl rfl (bd30 _) ?_
  refine WL.bin rfl rfl rfl rfl (neq30 _ _ kq.d Hd.z_ok _ _ _) ?_
  rw [show decide (¬ pq.hd = Hd.z) = false from decide_eq_false (by rw [hpq]; exact fun h => h rfl)]
  first | refine WL.pick rfl rfl rfl rfl ?_
  first | refine WL.move rfl rfl rfl ?_
  refine WL.field rfl rfl rfl (f33_1 qq 0 _) ?_
  refine WL.load rfl rfl rfl (ldPkL bq6 kq) ?_
  refine WL.buildN [] rfl rfl rfl (bd26 _) ?_
  refine WL.bin rfl rfl rfl rfl (neq26 _ _ kq.l Hl.z_ok _ _ _) ?_
  rw [show decide (¬ pq.hl = Hl.z) = false from decide_eq_false (by rw [hpq]; exact fun h => h rfl)]
  first | refine WL.pick rfl rfl rfl rfl ?_
  refine WL.done ?_
  refine EW.on ?_
  refine EW.cond_f rfl ?_
  refine EW.skip ?_
  refine EW.on ?_
  refine EW.seq ?_
  refine EW.region ?_
  first | refine WL.move rfl rfl rfl ?_
  refine WL.call [vb] enter12 rfl rfl rfl (roffer_any vb c w6 hc6 (by omega)) ?_
  rintro _ w7 ⟨rfl, be7⟩
  have bp7 := bp6.on be7
  have rt7 := rt6.below be7
  have hc7 := hc6.below be7
  have ov7 := ov6.below be7
  have bq7 := bq6.on be7
  have sb7 := sb6.trans (be7.mono sb6.size)
  have sz7 := be7.size
  refine ⟨_, rfl, ?_⟩
  obtain ⟨wa7, w8, qd, ra8, rs8, bd8, bea8, hqd⟩ := new42 w7 (ofV c) (ofV_ok c)
  have bp8 := bp7.on bea8
  have rt8 := rt7.below bea8
  have hc8 := hc7.below bea8
  have ov8 := ov7.below bea8
  have bq8 := bq7.on bea8
  have sb8 := sb7.trans (bea8.mono sb7.size)
  have sz8 := bea8.size
  first | refine WL.move rfl rfl rfl ?_
  first | refine WL.extract rfl rfl rfl (ext_2 _ _ _).1 ?_
  first | refine WL.extract rfl rfl rfl (ext_2 _ _ _).2 ?_
  refine WL.new rfl rfl ra8 ?_
  refine WL.store rfl rfl rfl rs8 ?_
  first | refine WL.assign rfl rfl rfl ?_
  refine WL.done ?_
  refine EW.on ?_
  refine EW.seq ?_
  refine EW.seq ?_
  refine EW.region ?_
  first | refine WL.move rfl rfl rfl ?_
  refine WL.bin rfl rfl rfl rfl (int_eq_t hoE _ _ _) ?_
  refine WL.done ?_
  refine EW.on ?_
  refine EW.cond_t rfl ?_
  refine EW.seq ?_
  refine EW.region ?_
  refine WL.load rfl rfl rfl (ldOf bd8 (ofV_ok c)) ?_
  refine WL.call [(ofV c).v] enter13 rfl rfl rfl (offer_any (ofV c) (ofV_ok c) w8) ?_
  rintro _ w9 ⟨vo, rfl, oo9, be9⟩
  rw [hov, hob.1] at oo9
  have bp9 := bp8.on be9
  have rt9 := rt8.below be9
  have hc9 := hc8.below be9
  have ov9 := ov8.below be9
  have bq9 := bq8.on be9
  have bd9 := bd8.on be9
  have sb9 := sb8.trans (be9.mono sb8.size)
  have sz9 := be9.size
  refine ⟨_, rfl, ?_⟩
  first | refine WL.move rfl rfl rfl ?_
  refine WL.call [vo, vb] enter14 rfl rfl rfl (eq_yes vo vb c w9 oo9.has hc9) ?_
  rintro _ w10 ⟨rfl, hz⟩
  rw [hz]
  clear hz
  clear w10
  refine ⟨_, rfl, ?_⟩
  first | refine WL.move rfl rfl rfl ?_
  first | refine WL.move rfl rfl rfl ?_ | refine WL.skip _ rfl rfl rfl ?_
  refine WL.bin rfl rfl rfl rfl (int_ne_t hu _ _ _) ?_
  first | refine WL.pick rfl rfl rfl rfl ?_
  first | refine WL.move rfl rfl rfl ?_
  refine WL.field rfl rfl rfl (f42_1 qd 0 _) ?_
  refine WL.load rfl rfl rfl (ldOfP bd9 (ofV_ok c)) ?_
  refine WL.bin rfl rfl rfl rfl (neqU _ 0 _ _ _) ?_
  rw [show decide (¬ (ofV c).pre = 0) = true from decide_eq_true (by rw [hov]; exact hob.2.2.1.2.2)]
  first | refine WL.pick rfl rfl rfl rfl ?_
  first | refine WL.assign rfl rfl rfl ?_
  refine WL.done ?_
  refine EW.on ?_
  refine EW.ret ?_
  refine pr_then ?_
  exact EW.returns Try.results5 rfl ⟨rfl, sb9⟩
set_option maxRecDepth 100000 in
set_option maxHeartbeats 16000000 in
theorem oneF_C (vb : Value) (c : List UInt8) (p : Pk) (kp : p.ok) (body : List UInt8) (w : World) (hc : Has w vb c) (hcm : c.length ≤ 140737488355328) (hy : Has w p.bv body) (hmax : body.length ≤ 140737488355328) (hu : ¬ unE c = 0) (hoE : ¬ ofE c = 0) : Calls Try.prog 5 #[vb, p.v] w fun e w' => e = .returned (.bool true) ∧ Below w.heap.size w w' := by
  obtain ⟨w1, qp, r1, bp1, sb1, hqp⟩ := box_any 33 p.cs w
  have l1 := sb1.size
  have hqpl := bp1.lt
  have hy1 := hy.below sb1
  refine calls_of_args [vb, p.v] Try.func5 rfl 103 Try.ntmps5 (by show 2 ≤ 103; decide) ?_
  refine EW.seq ?_
  refine EW.region ?_
  refine WL.box rfl rfl rfl r1 ?_
  first | refine WL.assign rfl rfl rfl ?_
  refine WL.done ?_
  refine EW.on ?_
  refine EW.seq ?_
  refine EW.region ?_
  refine WL.load rfl rfl rfl (ldPk bp1 kp) ?_
  refine WL.call [p.v] enter8 rfl rfl rfl (right_any' p kp body w1 hy1 hmax) ?_
  rintro _ w2 ⟨p1, k, body1, rfl, rt2, off2, be2⟩
  have bp2 := bp1.on be2
  have sb2 := sb1.trans (be2.mono sb1.size)
  have hop := off2 qp (hy.offB' (by omega)) (by omega)
  have kp1 := rt2.ok
  refine ⟨_, rfl, ?_⟩
  obtain ⟨w3, s3, bp3, f3⟩ := stPk bp2 kp p1 kp1 rt2.hs.sl
  refine WL.store rfl rfl rfl s3 ?_
  have sb3 := sb2.trans (f3.low (by omega) sb2.size)
  have rt3 := rt2.fx f3 hop
  have hc3 := ((hc.below sb1).below be2).fxo f3 (fun k hk => by have hk : k = qp := hk; rw [hk]; exact hc.offB' (by omega))
  have fl1 := rt3.fl
  have hk12 := rt3.k12
  obtain ⟨_, hsu, hb1, hb2⟩ := flt_ok fl1
  have hlen := packB_len hk12 kp1.l kp1.d body1
  have hat : 2 ≤ atD k := by unfold atD; split <;> omega
  refine WL.done ?_
  refine EW.on ?_
  refine EW.seq ?_
  refine EW.region ?_
  refine WL.load rfl rfl rfl (ldPk bp3 kp1) ?_
  refine WL.call [p1.v] enter9 rfl rfl rfl (pack_any p1 k body1 w3 rt3) ?_
  rintro _ w4 ⟨v, rfl, ov4, be4⟩
  have bp4 := bp3.on be4
  have rt4 := rt3.below be4
  have hc4 := hc3.below be4
  have sb4 := sb3.trans (be4.mono sb3.size)
  have sz4 := be4.size
  refine ⟨_, rfl, ?_⟩
  first | refine WL.move rfl rfl rfl ?_
  first | refine WL.extract rfl rfl rfl (ext_2 _ _ _).1 ?_
  first | refine WL.extract rfl rfl rfl (ext_2 _ _ _).2 ?_
  first | refine WL.assign rfl rfl rfl ?_
  first | refine WL.assign rfl rfl rfl ?_
  refine WL.done ?_
  refine EW.on ?_
  refine EW.seq ?_
  refine EW.seq ?_
  refine EW.region ?_
  first | refine WL.move rfl rfl rfl ?_
  first | refine WL.bin rfl rfl rfl rfl (int_ne_f rfl _ _ _) ?_ | refine WL.bin rfl rfl rfl rfl (int_ne_t ‹_› _ _ _) ?_ | refine WL.bin rfl rfl rfl rfl (int_ne_f ‹_› _ _ _) ?_ | refine WL.bin rfl rfl rfl rfl (int_ne_t (by decide) _ _ _) ?_ | refine WL.bin rfl rfl rfl rfl (int_ne_d _ _ _ _ _) ?_
  first | refine WL.move rfl rfl rfl ?_
  first | refine WL.move rfl rfl rfl ?_ | refine WL.skip _ rfl rfl rfl ?_
  refine WL.len rfl rfl rfl (ov4.len _ _) ?_
  refine WL.bin rfl rfl rfl rfl (int_lt_f (by omega) _ _ _) ?_
  first | refine WL.pick rfl rfl rfl rfl ?_
  refine WL.done ?_
  refine EW.on ?_
  refine EW.cond_f rfl ?_
  refine EW.skip ?_
  refine EW.on ?_
  refine EW.seq ?_
  refine EW.region ?_
  first | refine WL.move rfl rfl rfl ?_
  refine WL.call [vb] enter11 rfl rfl rfl (unpack_any vb c w4 hc4 (by omega)) ?_
  rintro _ w5 ⟨pq, rfl, hbad, hok, be5⟩
  have hpq := hbad hu
  have kq : pq.ok := by rw [hpq]; exact Pk.z_ok
  have hbv : ∃ ao n c, pq.bv = .slice ao n c := by rw [hpq]; exact ⟨_, _, _, rfl⟩
  have bp5 := bp4.on be5
  have rt5 := rt4.below be5
  have hc5 := hc4.below be5
  have ov5 := ov4.below be5
  have sb5 := sb4.trans (be5.mono sb4.size)
  have sz5 := be5.size
  refine ⟨_, rfl, ?_⟩
  obtain ⟨wa5, w6, qq, ra6, rs6, bq6, bea6, hqq⟩ := new33 w5 pq kq hbv
  have bp6 := bp5.on bea6
  have rt6 := rt5.below bea6
  have hc6 := hc5.below bea6
  have ov6 := ov5.below bea6
  have sb6 := sb5.trans (bea6.mono sb5.size)
  have sz6 := bea6.size
  first | refine WL.move rfl rfl rfl ?_
  first | refine WL.extract rfl rfl rfl (ext_2 _ _ _).1 ?_
  first | refine WL.extract rfl rfl rfl (ext_2 _ _ _).2 ?_
  refine WL.new rfl rfl ra6 ?_
  refine WL.store rfl rfl rfl rs6 ?_
  first | refine WL.assign rfl rfl rfl ?_
  refine WL.done ?_
  refine EW.on ?_
  refine EW.seq ?_
  refine EW.seq ?_
  refine EW.region ?_
  first | refine WL.move rfl rfl rfl ?_
  refine WL.bin rfl rfl rfl rfl (int_eq_f hu _ _ _) ?_
  refine WL.done ?_
  refine EW.on ?_
  refine EW.cond_f rfl ?_
  refine EW.seq ?_
  refine EW.region ?_
  refine WL.field rfl rfl rfl (f33_0 qq 0 _) ?_
  refine WL.load rfl rfl rfl (ldPkK bq6) ?_
  refine WL.bin rfl rfl rfl rfl (int_ne_f (by rw [hpq]; rfl) _ _ _) ?_
  first | refine WL.move rfl rfl rfl ?_
  refine WL.field rfl rfl rfl (f33_3 qq 0 _) ?_
  refine WL.load rfl rfl rfl (ldPkB bq6 kq) ?_
  refine WL.len rfl rfl rfl (show _ = _ from by rw [hpq]; exact (Has.nil w).len _ _) ?_
  refine WL.bin rfl rfl rfl rfl (int_ne_f rfl _ _ _) ?_
  first | refine WL.pick rfl rfl rfl rfl ?_
  first | refine WL.move rfl rfl rfl ?_
  refine WL.field rfl rfl rfl (f33_2 qq 0 _) ?_
  refine WL.load rfl rfl rfl (ldPkH bq6 kq) ?_
  refine WL.buildN [] rfl rfl rfl (bd30 _) ?_
  refine WL.bin rfl rfl rfl rfl (neq30 _ _ kq.d Hd.z_ok _ _ _) ?_
  rw [show decide (¬ pq.hd = Hd.z) = false from decide_eq_false (by rw [hpq]; exact fun h => h rfl)]
  first | refine WL.pick rfl rfl rfl rfl ?_
  first | refine WL.move rfl rfl rfl ?_
  refine WL.field rfl rfl rfl (f33_1 qq 0 _) ?_
  refine WL.load rfl rfl rfl (ldPkL bq6 kq) ?_
  refine WL.buildN [] rfl rfl rfl (bd26 _) ?_
  refine WL.bin rfl rfl rfl rfl (neq26 _ _ kq.l Hl.z_ok _ _ _) ?_
  rw [show decide (¬ pq.hl = Hl.z) = false from decide_eq_false (by rw [hpq]; exact fun h => h rfl)]
  first | refine WL.pick rfl rfl rfl rfl ?_
  refine WL.done ?_
  refine EW.on ?_
  refine EW.cond_f rfl ?_
  refine EW.skip ?_
  refine EW.on ?_
  refine EW.seq ?_
  refine EW.region ?_
  first | refine WL.move rfl rfl rfl ?_
  refine WL.call [vb] enter12 rfl rfl rfl (roffer_any vb c w6 hc6 (by omega)) ?_
  rintro _ w7 ⟨rfl, be7⟩
  have bp7 := bp6.on be7
  have rt7 := rt6.below be7
  have hc7 := hc6.below be7
  have ov7 := ov6.below be7
  have bq7 := bq6.on be7
  have sb7 := sb6.trans (be7.mono sb6.size)
  have sz7 := be7.size
  refine ⟨_, rfl, ?_⟩
  obtain ⟨wa7, w8, qd, ra8, rs8, bd8, bea8, hqd⟩ := new42 w7 (ofV c) (ofV_ok c)
  have bp8 := bp7.on bea8
  have rt8 := rt7.below bea8
  have hc8 := hc7.below bea8
  have ov8 := ov7.below bea8
  have bq8 := bq7.on bea8
  have sb8 := sb7.trans (bea8.mono sb7.size)
  have sz8 := bea8.size
  first | refine WL.move rfl rfl rfl ?_
  first | refine WL.extract rfl rfl rfl (ext_2 _ _ _).1 ?_
  first | refine WL.extract rfl rfl rfl (ext_2 _ _ _).2 ?_
  refine WL.new rfl rfl ra8 ?_
  refine WL.store rfl rfl rfl rs8 ?_
  first | refine WL.assign rfl rfl rfl ?_
  refine WL.done ?_
  refine EW.on ?_
  refine EW.seq ?_
  refine EW.seq ?_
  refine EW.region ?_
  first | refine WL.move rfl rfl rfl ?_
  refine WL.bin rfl rfl rfl rfl (int_eq_f hoE _ _ _) ?_
  refine WL.done ?_
  refine EW.on ?_
  refine EW.cond_f rfl ?_
  refine EW.skip ?_
  refine EW.on ?_
  refine EW.seq ?_
  refine EW.region ?_
  refine WL.load rfl rfl rfl (ldOf bd8 (ofV_ok c)) ?_
  refine WL.buildN [] rfl rfl rfl (bd42 _) ?_
  refine WL.bin rfl rfl rfl rfl (eql42 _ _ (ofV_ok c) Of.z_ok _ _ _) ?_
  rw [show decide (ofV c = Of.z) = true from decide_eq_true (by unfold ofV; rw [if_neg hoE])]
  first | refine WL.assign rfl rfl rfl ?_
  refine WL.done ?_
  refine EW.on ?_
  refine EW.ret ?_
  exact EW.returns Try.results5 rfl ⟨rfl, sb8⟩
theorem oneForm_any (vb : Value) (c : List UInt8) (p : Pk) (kp : p.ok) (body : List UInt8) (w : World) (hc : Has w vb c) (hcm : c.length ≤ 140737488355328) (hy : Has w p.bv body) (hmax : body.length ≤ 140737488355328) : Calls Try.prog 5 #[vb, p.v] w fun e w' => e = .returned (.bool true) ∧ Below w.heap.size w w' := by
  by_cases hu : unE c = 0
  · refine oneF_A vb c p kp body w hc hcm hy hmax hu (fun hoE => ?_)
    have h3 := (off_back hoE).2.2.2.1
    have h12 := (pack_back hu).2.1
    omega
  · by_cases hoE : ofE c = 0
    · exact oneF_B vb c p kp body w hc hcm hy hmax hu hoE
    · exact oneF_C vb c p kp body w hc hcm hy hmax hu hoE
end Go.Proofs.Ytobfebpinkikdaa
