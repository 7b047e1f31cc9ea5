import Derived.Test.YtobfebpinkikdaaHz
set_option linter.unusedVariables false
set_option linter.unusedSimpArgs false
namespace Go.Proofs.Ytobfebpinkikdaa
open Go.RowKit

theorem Ob.push1 {w : World} {b : Nat} {v : Value} {bs : List UInt8} (h : Ob w b v bs) (hbw : b ≤ w.heap.size) (t : UInt8) (hl : bs.length + 1 ≤ 1000000000) (ty : TypeId) (g : Nat) (hg : Has w (.slice (some ⟨g, 0, none⟩) 1 1) [t]) : ∃ v' w', (Builtin.append_ #[31, 31] ty #[v, .slice (some ⟨g, 0, none⟩) 1 1]).run Try.prog w = .ok v' w' ∧ Ob w' b v' (bs ++ [t]) ∧ Below b w w' := by
  obtain ⟨v', w', r1, r2, r3, r4⟩ := h.push hbw _ _ hg hl ty
  exact ⟨v', w', r1, r2, r3.below (fun k hk e => by have := h.base k e; omega) hbw⟩
set_option maxRecDepth 100000 in
set_option maxHeartbeats 16000000 in
theorem cut_any (p : Pk) (kp : p.ok) (o : Of) (ko : o.ok) (x : Int) (tl : UInt8) (body : List UInt8) (w : World) (hy : Has w p.bv body) (hmax : body.length ≤ 140737488355328) : Calls Try.prog 4 #[p.v, o.v, .int .i64 x, byt tl] w fun e w' => e = .returned (.bool true) ∧ Below w.heap.size w w' := by
  obtain ⟨w1, qp, r1, bp1, e1, hqp⟩ := box_any 33 p.cs w
  obtain ⟨w2, qo, r2, bo2, e2, hqo⟩ := box_any 42 o.cs w1
  have l1 := e1.size
  have l2 := e2.size
  have hqpl := bp1.lt
  have hqol := bo2.lt
  have bp2 := bp1.on e2
  have sb2 := e1.trans (e2.mono l1)
  have hy2 := hy.below sb2
  obtain ⟨u, hu⟩ := ofset (l := o.id) (j := 5) (by rw [ko.i]; decide)
  obtain ⟨u', hu2⟩ := ofset (l := o.key) (j := 5) (by rw [ko.k]; decide)
  obtain ⟨o1, ho1⟩ : ∃ o1 : Of, o1 = ⟨o.id.set 5 (u ||| 2), o.pre ||| 1, o.key.set 5 (u' ||| 2)⟩ := ⟨_, rfl⟩
  have ko1 : o1.ok := by rw [ho1]; exact ⟨by simp [ko.i], or1_lt ko.p, by simp [ko.k]⟩
  have hro : rightO o1 := by rw [ho1]; exact ⟨set_ne _ 5 (by decide) ko.i u, set_ne _ 5 (by decide) ko.k u', or1_ne _⟩
  obtain ⟨d, hdd⟩ : ∃ d, d = offB o1 := ⟨_, rfl⟩
  have hof : ofE d = 0 := by rw [hdd]; exact off_E ko1 hro
  have hdl : d.length = 70 := by rw [hdd]; exact offB_len ko1
  refine calls_of_args [p.v, o.v, .int .i64 x, byt tl] Try.func4 rfl 112 Try.ntmps4 (by show 4 ≤ 112; decide) ?_
  refine EW.seq ?_
  refine EW.region ?_
  refine WL.box rfl rfl rfl r1 ?_
  refine WL.box rfl rfl rfl r2 ?_
  first | refine WL.assign rfl rfl rfl ?_
  refine WL.done ?_
  refine EW.on ?_
  refine EW.seq ?_
  refine EW.region ?_
  refine WL.load rfl rfl rfl (ldPk bp2 kp) ?_
  refine WL.call [p.v] enter8 rfl rfl rfl (right_any' p kp body w2 hy2 hmax) ?_
  rintro _ w3 ⟨p1, k, body1, rfl, rt3, off3, be3⟩
  have bp3 := bp2.on be3
  have bo3 := bo2.on be3
  have sb3 := sb2.trans (be3.mono sb2.size)
  have l3 := be3.size
  have hop := off3 qp (hy.offB' (by omega)) (by omega)
  have hoo := off3 qo (hy.offB' (by omega)) (by omega)
  have kp1 := rt3.ok
  refine ⟨_, rfl, ?_⟩
  obtain ⟨w4, s4, bp4, f4⟩ := stPk bp3 kp p1 kp1 rt3.hs.sl
  refine WL.store rfl rfl rfl s4 ?_
  have sb4 := sb3.trans (f4.low (by omega) sb3.size)
  have bo4 := bo3.fx f4 (fun e => by omega)
  have rt4 := rt3.fx f4 hop
  refine WL.done ?_
  refine EW.on ?_
  refine EW.seq ?_
  refine EW.region ?_
  refine WL.field rfl rfl rfl (f42_0 qo 0 _) ?_
  refine WL.index rfl rfl rfl rfl (idxK qo _ 5 (by decide) _) ?_
  refine WL.load rfl rfl rfl (ldCell5 bo4 (of_id hu)) ?_
  refine WL.bin rfl rfl rfl rfl (or8_2 _ _ _ _) ?_
  refine WL.field rfl rfl rfl (f42_0 qo 0 _) ?_
  refine WL.index rfl rfl rfl rfl (idxK qo _ 5 (by decide) _) ?_
  obtain ⟨w5, s5, bo5, f5⟩ := stCell5 bo4 (show 5 < o.cs.length by rw [Of.len ko]; decide) (u ||| 2)
  refine WL.store rfl rfl rfl s5 ?_
  rw [of_set (by rw [ko.i]; decide)] at bo5
  have sb5 := sb4.trans (f5.low (by omega) sb4.size)
  have bp5 := bp4.fx f5 (fun e => by omega)
  have rt5 := rt4.fx f5 hoo
  have ko5 : Of.ok ⟨o.id.set 5 (u ||| 2), o.pre, o.key⟩ := ⟨by simp [ko.i], ko.p, ko.k⟩
  refine WL.done ?_
  refine EW.on ?_
  refine EW.seq ?_
  refine EW.region ?_
  refine WL.field rfl rfl rfl (f42_2 qo 0 _) ?_
  refine WL.index rfl rfl rfl rfl (idxK qo _ 5 (by decide) _) ?_
  refine WL.load rfl rfl rfl (ldCell5 bo5 (of_key (by simp [ko.i]) hu2)) ?_
  refine WL.bin rfl rfl rfl rfl (or8_2 _ _ _ _) ?_
  refine WL.field rfl rfl rfl (f42_2 qo 0 _) ?_
  refine WL.index rfl rfl rfl rfl (idxK qo _ 5 (by decide) _) ?_
  obtain ⟨w6, s6, bo6, f6⟩ := stCell5 bo5 (show 33 + 5 < _ by rw [Of.len ko5]; decide) (u' ||| 2)
  refine WL.store rfl rfl rfl s6 ?_
  rw [of_set2 ko5.i] at bo6
  have sb6 := sb5.trans (f6.low (by omega) sb5.size)
  have bp6 := bp5.fx f6 (fun e => by omega)
  have rt6 := rt5.fx f6 hoo
  have ko6 : Of.ok ⟨o.id.set 5 (u ||| 2), o.pre, o.key.set 5 (u' ||| 2)⟩ := ⟨by simp [ko.i], ko.p, by simp [ko.k]⟩
  refine WL.done ?_
  refine EW.on ?_
  refine EW.seq ?_
  refine EW.region ?_
  refine WL.field rfl rfl rfl (f42_1 qo 0 _) ?_
  refine WL.load rfl rfl rfl (ldOfP bo6 ko6) ?_
  refine WL.bin rfl rfl rfl rfl (orU_1 ko.p _ _ _) ?_
  refine WL.field rfl rfl rfl (f42_1 qo 0 _) ?_
  obtain ⟨w7, s7, bo7, f7⟩ := stOfP bo6 ko6 (o.pre ||| 1)
  refine WL.store rfl rfl rfl s7 ?_
  have sb7 := sb6.trans (f7.low (by omega) sb6.size)
  have bp7 := bp6.fx f7 (fun e => by omega)
  have rt7 := rt6.fx f7 hoo
  rw [show (⟨o.id.set 5 (u ||| 2), o.pre ||| 1, o.key.set 5 (u' ||| 2)⟩ : Of) = o1 from ho1.symm] at bo7
  have fl1 := rt7.fl
  have hk12 := rt7.k12
  obtain ⟨_, hsu, hb1, hb2⟩ := flt_ok fl1
  have hat : 2 ≤ atD k := by unfold atD; split <;> omega
  have hat2 : atD k ≤ 70 := by unfold atD; split <;> omega
  have hun := pack_un hk12 kp1.l kp1.d body1 fl1
  have hlen := packB_len hk12 kp1.l kp1.d body1
  obtain ⟨c, hcc⟩ : ∃ c, c = packB k p1.hl p1.hd body1 := ⟨_, rfl⟩
  rw [← hcc] at hun hlen
  refine WL.done ?_
  refine EW.on ?_
  refine EW.seq ?_
  refine EW.region ?_
  refine WL.load rfl rfl rfl (ldPk bp7 kp1) ?_
  refine WL.call [p1.v] enter9 rfl rfl rfl (pack_any p1 k body1 w7 rt7) ?_
  rintro _ w8 ⟨v, rfl, ov8, be8⟩
  rw [← hcc] at ov8
  have bp8 := bp7.on be8
  have bo8 := bo7.on be8
  have rt8 := rt7.below be8
  have sb8 := sb7.trans (be8.mono sb7.size)
  have sz8 := be8.size
  refine ⟨_, rfl, ?_⟩
  first | refine WL.move rfl rfl rfl ?_
  first | refine WL.extract rfl rfl rfl (ext_2 _ _ _).1 ?_
  first | refine WL.extract rfl rfl rfl (ext_2 _ _ _).2 ?_
  first | refine WL.assign rfl rfl rfl ?_
  first | refine WL.assign rfl rfl rfl ?_
  refine WL.done ?_
  refine EW.on ?_
  refine EW.seq ?_
  refine EW.region ?_
  refine WL.load rfl rfl rfl (ldOf bo8 ko1) ?_
  refine WL.call [o1.v] enter13 rfl rfl rfl (offer_any o1 ko1 w8) ?_
  rintro _ w9 ⟨vo, rfl, oo9, be9⟩
  rw [← hdd] at oo9
  have bp9 := bp8.on be9
  have bo9 := bo8.on be9
  have rt9 := rt8.below be9
  have ov9 := ov8.below be9
  have sb9 := sb8.trans (be9.mono sb8.size)
  have sz9 := be9.size
  refine ⟨_, rfl, ?_⟩
  first | refine WL.assign rfl rfl rfl ?_
  refine WL.done ?_
  refine EW.on ?_
  refine EW.seq ?_
  refine EW.seq ?_
  refine EW.region ?_
  first | refine WL.move rfl rfl rfl ?_
  first | refine WL.bin rfl rfl rfl rfl (int_ne_f rfl _ _ _) ?_ | refine WL.bin rfl rfl rfl rfl (int_ne_t ‹_› _ _ _) ?_ | refine WL.bin rfl rfl rfl rfl (int_ne_f ‹_› _ _ _) ?_ | refine WL.bin rfl rfl rfl rfl (int_ne_t (by decide) _ _ _) ?_ | refine WL.bin rfl rfl rfl rfl (int_ne_d _ _ _ _ _) ?_
  first | refine WL.move rfl rfl rfl ?_
  first | refine WL.move rfl rfl rfl ?_ | refine WL.skip _ rfl rfl rfl ?_
  refine WL.len rfl rfl rfl (ov9.len _ _) ?_
  refine WL.bin rfl rfl rfl rfl (int_eq_f (by omega) _ _ _) ?_
  first | refine WL.pick rfl rfl rfl rfl ?_
  first | refine WL.move rfl rfl rfl ?_
  first | refine WL.move rfl rfl rfl ?_ | refine WL.skip _ rfl rfl rfl ?_
  refine WL.len rfl rfl rfl (oo9.len _ _) ?_
  refine WL.bin rfl rfl rfl rfl (int_ne_f (by rw [hdl]; rfl) _ _ _) ?_
  first | refine WL.pick rfl rfl rfl rfl ?_
  refine WL.done ?_
  refine EW.on ?_
  refine EW.cond_f rfl ?_
  refine EW.skip ?_
  refine EW.on ?_
  refine EW.seq ?_
  refine EW.region ?_
  first | refine WL.move rfl rfl rfl ?_
  first | refine WL.move rfl rfl rfl ?_
  refine WL.len rfl rfl rfl (ov9.len _ _) ?_
  refine WL.call [.int .i64 x, .int .i64 (c.length : Int)] enter10 rfl rfl rfl (rest_any x c.length (by omega) (by omega) _) ?_
  rintro _ wz ⟨rfl, hz⟩
  rw [hz]
  clear hz
  have hr9 := (rsD_lt x (show 0 < c.length by omega)).1
  refine ⟨_, rfl, ?_⟩
  first | refine WL.assign rfl rfl rfl ?_
  refine WL.done ?_
  refine EW.on ?_
  refine EW.seq ?_
  refine EW.region ?_
  first | refine WL.move rfl rfl rfl ?_
  first | refine WL.move rfl rfl rfl ?_
  first | refine WL.move rfl rfl rfl ?_
  refine WL.slice3 rfl rfl rfl rfl rfl (by rw [sl22]; exact ov9.has.cut3r (rsD x c.length) (by omega) _) ?_
  refine WL.call [(cut3V v (rsD x c.length))] enter11 rfl rfl rfl (unpack_any _ (c.take (rsD x c.length)) w9 (ov9.has.cut3 (rsD x c.length) (by omega)) (by first | (rw [List.length_take]; omega) | (rw [List.length_append]; show _ + 1 ≤ _; omega))) ?_
  rintro _ w10 ⟨pu, rfl, hbad, _, be10⟩
  have hE := un_short (like_take c (rsD x c.length)) hun (by rw [List.length_take]; omega)
  have hpu := hbad (by rw [hE]; decide)
  rw [hE, hpu]
  clear hE hpu hbad
  have bp10 := bp9.on be10
  have bo10 := bo9.on be10
  have rt10 := rt9.below be10
  have ov10 := ov9.below be10
  have oo10 := oo9.below be10
  have sb10 := sb9.trans (be10.mono sb9.size)
  have sz10 := be10.size
  refine ⟨_, rfl, ?_⟩
  obtain ⟨wa10, w11, qu10, ra11, rs11, bu11, bea11, hqu⟩ := new33 w10 Pk.z Pk.z_ok ⟨_, _, _, rfl⟩
  have bp11 := bp10.on bea11
  have bo11 := bo10.on bea11
  have rt11 := rt10.below bea11
  have ov11 := ov10.below bea11
  have oo11 := oo10.below bea11
  have sb11 := sb10.trans (bea11.mono sb10.size)
  have sz11 := bea11.size
  first | refine WL.move rfl rfl rfl ?_
  first | refine WL.extract rfl rfl rfl (ext_2 _ _ _).1 ?_
  first | refine WL.extract rfl rfl rfl (ext_2 _ _ _).2 ?_
  refine WL.new rfl rfl ra11 ?_
  refine WL.store rfl rfl rfl rs11 ?_
  first | refine WL.assign rfl rfl rfl ?_
  refine WL.done ?_
  refine EW.on ?_
  refine EW.seq ?_
  refine EW.region ?_
  first | refine WL.move rfl rfl rfl ?_
  obtain ⟨va11, w12, ap12, oa12, bep12⟩ := app_nil ov11.has (by omega) 31
  refine WL.app rfl rfl rfl rfl ap12 ?_
  have bp12 := bp11.on bep12
  have bo12 := bo11.on bep12
  have rt12 := rt11.below bep12
  have ov12 := ov11.below bep12
  have oo12 := oo11.below bep12
  have sb12 := sb11.trans (bep12.mono sb11.size)
  have sz12 := bep12.size
  first | refine WL.move rfl rfl rfl ?_
  refine WL.bslN [(0, byt tl)] rfl rfl rfl (bsl22_1 _ _) ?_
  have bn13 := below_new w12 (.cells ([tl].map byt).toArray 5)
  have hh13 : Has (w12.alloc (.cells ([tl].map byt).toArray 5)) (.slice (some ⟨w12.heap.size, 0, none⟩) 1 1) [tl] := Has.new (Blk.new _ _ _) 1 (Nat.le_refl _)
  obtain ⟨w13, hw13⟩ : ∃ w', w12.alloc (.cells ([tl].map byt).toArray 5) = w' := ⟨_, rfl⟩
  rw [hw13] at bn13 hh13 ⊢
  have bp13 := bp12.on bn13
  have bo13 := bo12.on bn13
  have rt13 := rt12.below bn13
  have ov13 := ov12.below bn13
  have oo13 := oo12.below bn13
  have oa13 := oa12.below bn13
  have sb13 := sb12.trans (bn13.mono sb12.size)
  have sz13 := bn13.size
  obtain ⟨vx11, w14, ap14, ox14, bel14⟩ := oa13.push1 (by omega) tl (by omega) 31 w12.heap.size hh13
  refine WL.app rfl rfl rfl rfl ap14 ?_
  have bex14 : Below w11.heap.size w11 w14 := (bep12.trans (bn13.mono bep12.size)).trans bel14
  have bp14 := bp11.on bex14
  have bo14 := bo11.on bex14
  have rt14 := rt11.below bex14
  have ov14 := ov11.below bex14
  have oo14 := oo11.below bex14
  have sb14 := sb11.trans (bex14.mono sb11.size)
  have sz14 := bex14.size
  refine WL.call [vx11] enter11 rfl rfl rfl (unpack_any _ (c ++ [tl]) w14 ox14.has (by first | (rw [List.length_take]; omega) | (rw [List.length_append]; show _ + 1 ≤ _; omega))) ?_
  rintro _ w15 ⟨pu, rfl, hbad, _, be15⟩
  have hE := un_long (like_app c [tl]) hun (by rw [List.length_append]; show c.length < c.length + 1; omega)
  have hpu := hbad (by rw [hE]; decide)
  rw [hE, hpu]
  clear hE hpu hbad
  have bp15 := bp14.on be15
  have bo15 := bo14.on be15
  have rt15 := rt14.below be15
  have ov15 := ov14.below be15
  have oo15 := oo14.below be15
  have ox15 := ox14.below be15
  have sb15 := sb14.trans (be15.mono sb14.size)
  have sz15 := be15.size
  refine ⟨_, rfl, ?_⟩
  obtain ⟨wa15, w16, qu11, ra16, rs16, bu16, bea16, hqu⟩ := new33 w15 Pk.z Pk.z_ok ⟨_, _, _, rfl⟩
  have bp16 := bp15.on bea16
  have bo16 := bo15.on bea16
  have rt16 := rt15.below bea16
  have ov16 := ov15.below bea16
  have oo16 := oo15.below bea16
  have ox16 := ox15.below bea16
  have sb16 := sb15.trans (bea16.mono sb15.size)
  have sz16 := bea16.size
  first | refine WL.move rfl rfl rfl ?_
  first | refine WL.extract rfl rfl rfl (ext_2 _ _ _).1 ?_
  first | refine WL.extract rfl rfl rfl (ext_2 _ _ _).2 ?_
  refine WL.new rfl rfl ra16 ?_
  refine WL.store rfl rfl rfl rs16 ?_
  first | refine WL.assign rfl rfl rfl ?_
  refine WL.done ?_
  refine EW.on ?_
  refine EW.seq ?_
  refine EW.region ?_
  first | refine WL.move rfl rfl rfl ?_
  refine WL.call [.int .i64 x, .int .i64 70] enter10 rfl rfl rfl (rest_any x 70 (by omega) (by omega) _) ?_
  rintro _ wz ⟨rfl, hz⟩
  rw [hz]
  clear hz
  have hr12 := (rsD_lt x (show 0 < 70 by omega)).1
  refine ⟨_, rfl, ?_⟩
  first | refine WL.assign rfl rfl rfl ?_
  refine WL.done ?_
  refine EW.on ?_
  refine EW.seq ?_
  refine EW.region ?_
  first | refine WL.move rfl rfl rfl ?_
  first | refine WL.move rfl rfl rfl ?_
  first | refine WL.move rfl rfl rfl ?_
  refine WL.slice3 rfl rfl rfl rfl rfl (by rw [sl22]; exact oo16.has.cut3r (rsD x 70) (by omega) _) ?_
  refine WL.call [(cut3V vo (rsD x 70))] enter12 rfl rfl rfl (roffer_any _ (d.take (rsD x 70)) w16 (oo16.has.cut3 (rsD x 70) (by omega)) (by first | (rw [List.length_take]; omega) | (rw [List.length_append]; show _ + 1 ≤ _; omega))) ?_
  rintro _ w17 ⟨rfl, be17⟩
  rw [of_short (like_take d (rsD x 70)) hof (by rw [List.length_take]; omega)]
  have bp17 := bp16.on be17
  have bo17 := bo16.on be17
  have rt17 := rt16.below be17
  have ov17 := ov16.below be17
  have oo17 := oo16.below be17
  have ox17 := ox16.below be17
  have sb17 := sb16.trans (be17.mono sb16.size)
  have sz17 := be17.size
  refine ⟨_, rfl, ?_⟩
  obtain ⟨wa17, w18, qu13, ra18, rs18, bu18, bea18, hqu⟩ := new42 w17 (ofV _) (ofV_ok _)
  have bp18 := bp17.on bea18
  have bo18 := bo17.on bea18
  have rt18 := rt17.below bea18
  have ov18 := ov17.below bea18
  have oo18 := oo17.below bea18
  have ox18 := ox17.below bea18
  have sb18 := sb17.trans (bea18.mono sb17.size)
  have sz18 := bea18.size
  first | refine WL.move rfl rfl rfl ?_
  first | refine WL.extract rfl rfl rfl (ext_2 _ _ _).1 ?_
  first | refine WL.extract rfl rfl rfl (ext_2 _ _ _).2 ?_
  refine WL.new rfl rfl ra18 ?_
  refine WL.store rfl rfl rfl rs18 ?_
  first | refine WL.assign rfl rfl rfl ?_
  refine WL.done ?_
  refine EW.on ?_
  refine EW.seq ?_
  refine EW.region ?_
  first | refine WL.move rfl rfl rfl ?_
  obtain ⟨va14, w19, ap19, ob19, bep19⟩ := app_nil oo18.has (by omega) 31
  refine WL.app rfl rfl rfl rfl ap19 ?_
  have bp19 := bp18.on bep19
  have bo19 := bo18.on bep19
  have rt19 := rt18.below bep19
  have ov19 := ov18.below bep19
  have oo19 := oo18.below bep19
  have ox19 := ox18.below bep19
  have sb19 := sb18.trans (bep19.mono sb18.size)
  have sz19 := bep19.size
  first | refine WL.move rfl rfl rfl ?_
  refine WL.bslN [(0, byt tl)] rfl rfl rfl (bsl22_1 _ _) ?_
  have bn20 := below_new w19 (.cells ([tl].map byt).toArray 5)
  have hh20 : Has (w19.alloc (.cells ([tl].map byt).toArray 5)) (.slice (some ⟨w19.heap.size, 0, none⟩) 1 1) [tl] := Has.new (Blk.new _ _ _) 1 (Nat.le_refl _)
  obtain ⟨w20, hw20⟩ : ∃ w', w19.alloc (.cells ([tl].map byt).toArray 5) = w' := ⟨_, rfl⟩
  rw [hw20] at bn20 hh20 ⊢
  have bp20 := bp19.on bn20
  have bo20 := bo19.on bn20
  have rt20 := rt19.below bn20
  have ov20 := ov19.below bn20
  have oo20 := oo19.below bn20
  have ox20 := ox19.below bn20
  have ob20 := ob19.below bn20
  have sb20 := sb19.trans (bn20.mono sb19.size)
  have sz20 := bn20.size
  obtain ⟨vx14, w21, ap21, oy21, bel21⟩ := ob20.push1 (by omega) tl (by omega) 31 w19.heap.size hh20
  refine WL.app rfl rfl rfl rfl ap21 ?_
  have bex21 : Below w18.heap.size w18 w21 := (bep19.trans (bn20.mono bep19.size)).trans bel21
  have bp21 := bp18.on bex21
  have bo21 := bo18.on bex21
  have rt21 := rt18.below bex21
  have ov21 := ov18.below bex21
  have oo21 := oo18.below bex21
  have ox21 := ox18.below bex21
  have sb21 := sb18.trans (bex21.mono sb18.size)
  have sz21 := bex21.size
  refine WL.call [vx14] enter12 rfl rfl rfl (roffer_any _ (d ++ [tl]) w21 oy21.has (by first | (rw [List.length_take]; omega) | (rw [List.length_append]; show _ + 1 ≤ _; omega))) ?_
  rintro _ w22 ⟨rfl, be22⟩
  rw [of_long (like_app d [tl]) hof (by rw [List.length_append]; show d.length < d.length + 1; omega)]
  have bp22 := bp21.on be22
  have bo22 := bo21.on be22
  have rt22 := rt21.below be22
  have ov22 := ov21.below be22
  have oo22 := oo21.below be22
  have ox22 := ox21.below be22
  have oy22 := oy21.below be22
  have sb22 := sb21.trans (be22.mono sb21.size)
  have sz22 := be22.size
  refine ⟨_, rfl, ?_⟩
  obtain ⟨wa22, w23, qu14, ra23, rs23, bu23, bea23, hqu⟩ := new42 w22 (ofV _) (ofV_ok _)
  have bp23 := bp22.on bea23
  have bo23 := bo22.on bea23
  have rt23 := rt22.below bea23
  have ov23 := ov22.below bea23
  have oo23 := oo22.below bea23
  have ox23 := ox22.below bea23
  have oy23 := oy22.below bea23
  have sb23 := sb22.trans (bea23.mono sb22.size)
  have sz23 := bea23.size
  first | refine WL.move rfl rfl rfl ?_
  first | refine WL.extract rfl rfl rfl (ext_2 _ _ _).1 ?_
  first | refine WL.extract rfl rfl rfl (ext_2 _ _ _).2 ?_
  refine WL.new rfl rfl ra23 ?_
  refine WL.store rfl rfl rfl rs23 ?_
  first | refine WL.assign rfl rfl rfl ?_
  refine WL.done ?_
  refine EW.on ?_
  refine EW.seq ?_
  refine EW.region ?_
  first | refine WL.move rfl rfl rfl ?_
  first | refine WL.bin rfl rfl rfl rfl (int_eq_t rfl _ _ _) ?_ | refine WL.bin rfl rfl rfl rfl (int_eq_t ‹_› _ _ _) ?_ | refine WL.bin rfl rfl rfl rfl (int_eq_f ‹_› _ _ _) ?_ | refine WL.bin rfl rfl rfl rfl (int_eq_d _ _ _ _ _) ?_
  first | refine WL.move rfl rfl rfl ?_
  first | refine WL.move rfl rfl rfl ?_ | refine WL.skip _ rfl rfl rfl ?_
  first | refine WL.bin rfl rfl rfl rfl (int_eq_t rfl _ _ _) ?_ | refine WL.bin rfl rfl rfl rfl (int_eq_t ‹_› _ _ _) ?_ | refine WL.bin rfl rfl rfl rfl (int_eq_f ‹_› _ _ _) ?_ | refine WL.bin rfl rfl rfl rfl (int_eq_d _ _ _ _ _) ?_ | refine WL.skip _ rfl rfl rfl ?_
  first | refine WL.pick rfl rfl rfl rfl ?_
  first | refine WL.move rfl rfl rfl ?_
  first | refine WL.move rfl rfl rfl ?_ | refine WL.skip _ rfl rfl rfl ?_
  first | refine WL.bin rfl rfl rfl rfl (int_eq_t rfl _ _ _) ?_ | refine WL.bin rfl rfl rfl rfl (int_eq_t ‹_› _ _ _) ?_ | refine WL.bin rfl rfl rfl rfl (int_eq_f ‹_› _ _ _) ?_ | refine WL.bin rfl rfl rfl rfl (int_eq_d _ _ _ _ _) ?_ | refine WL.skip _ rfl rfl rfl ?_
  first | refine WL.pick rfl rfl rfl rfl ?_
  first | refine WL.move rfl rfl rfl ?_
  first | refine WL.move rfl rfl rfl ?_ | refine WL.skip _ rfl rfl rfl ?_
  first | refine WL.bin rfl rfl rfl rfl (int_eq_t rfl _ _ _) ?_ | refine WL.bin rfl rfl rfl rfl (int_eq_t ‹_› _ _ _) ?_ | refine WL.bin rfl rfl rfl rfl (int_eq_f ‹_› _ _ _) ?_ | refine WL.bin rfl rfl rfl rfl (int_eq_d _ _ _ _ _) ?_ | refine WL.skip _ rfl rfl rfl ?_
  first | refine WL.pick rfl rfl rfl rfl ?_
  first | refine WL.assign rfl rfl rfl ?_
  refine WL.done ?_
  refine EW.on ?_
  refine EW.ret ?_
  exact EW.returns Try.results4 rfl ⟨rfl, sb23⟩
end Go.Proofs.Ytobfebpinkikdaa
