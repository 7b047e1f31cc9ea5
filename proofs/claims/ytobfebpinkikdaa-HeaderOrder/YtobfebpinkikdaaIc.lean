import Derived.Test.YtobfebpinkikdaaIb
set_option linter.unusedVariables false
set_option linter.unusedSimpArgs false
namespace Go.Proofs.Ytobfebpinkikdaa
open Go.RowKit

set_option maxRecDepth 100000 in
set_option maxHeartbeats 16000000 in
theorem order_any (p : Pk) (kp : p.ok) (x : Int) (v0 : UInt8) (body : List UInt8) (w : World) (hy : Has w p.bv body) (hmax : body.length ≤ 140737488355328) : Calls Try.prog 3 #[p.v, .int .i64 x, byt v0] w fun e w' => e = .returned (.bool true) ∧ Below w.heap.size w w' := by
  obtain ⟨w1, qp, r1, bp1, sb1, hqp⟩ := box_any 33 p.cs w
  have l1 := sb1.size
  have hqpl := bp1.lt
  have hy1 := hy.below sb1
  refine calls_of_args [p.v, .int .i64 x, byt v0] Try.func3 rfl 189 Try.ntmps3 (by show 3 ≤ 189; decide) ?_
  refine EW.seq ?_
  refine EW.region ?_
  refine WL.box rfl rfl rfl r1 ?_
  first | refine WL.assign rfl rfl rfl ?_
  refine WL.done ?_
  refine EW.on ?_
  refine EW.seq ?_
  refine EW.region ?_
  refine WL.load rfl rfl rfl (ldPk bp1 kp) ?_
  refine WL.call [p.v] enter8 rfl rfl rfl (right_any' p kp body w1 hy1 hmax) ?_
  rintro _ w2 ⟨p1, k, body1, rfl, rt2, off2, be2⟩
  have bp2 := bp1.on be2
  have sb2 := sb1.trans (be2.mono sb1.size)
  have hop := off2 qp (hy.offB' (by omega)) (by omega)
  have kp1 := rt2.ok
  have sz2 := be2.size
  refine ⟨_, rfl, ?_⟩
  obtain ⟨w3, s3, bp3, f3⟩ := stPk bp2 kp p1 kp1 rt2.hs.sl
  refine WL.store rfl rfl rfl s3 ?_
  have sb3 := sb2.trans (f3.low (by omega) sb2.size)
  have sz3 := f3.size
  have rt3 := rt2.fx f3 hop
  have fl1 := rt3.fl
  have hk12 := rt3.k12
  refine WL.done ?_
  refine EW.on ?_
  refine EW.seq ?_
  rcases rt3.k12 with rfl | rfl
  · obtain ⟨_, hsu, hb1, hb2⟩ := flt_ok fl1
    have hkk : p1.k = 1 := rt3.hk
    have hkI : p1.k = 1 ∨ p1.k = 2 := by rw [hkk]; decide
    have hsI : suitD p1.k p1.hl := by rw [hkk]; exact hsu
    have ha := atD_le 1
    have hlen := packB_len hk12 kp1.l kp1.d body1
    obtain ⟨c, hcc⟩ : ∃ c, c = packB 1 p1.hl p1.hd body1 := ⟨_, rfl⟩
    have hor : Ord c 1 p1.hl c.length := by
      rw [hcc]
      exact ⟨cutB_mid (o := 0) (n := 1) (a := []) (m := [1]) (b := [UInt8.ofNat 1] ++ ((if 1 = 1 then encL p1.hl else []) ++ (encH p1.hd ++ (lenB body1.length ++ body1)))) (by simp [packB]) rfl rfl, cutB_mid (o := 1) (n := 1) (a := [1]) (m := [UInt8.ofNat 1]) (b := (if 1 = 1 then encL p1.hl else []) ++ (encH p1.hd ++ (lenB body1.length ++ body1))) (by simp [packB]) rfl rfl, hk12, pack_hl hk12 kp1.l kp1.d body1 hsu, rfl, by rw [hlen]; omega⟩
    rw [← hcc] at hlen
    have o19 := hor.len2 255 255
    have u19 := o19.1.un (flt_5 (show ((1 : Nat) : Int) = 1 ∨ ((1 : Nat) : Int) = 2 by decide) hsu (by rw [o19.2]; decide)) (by decide)
    have hr32 := (rsD_lt x (show 0 < 32 by decide)).1
    have hr200 := (rsD_lt x (show 0 < 200 by decide)).1
    have o21 := o19.1.len2 0 (UInt8.ofNat (rsD x 32))
    have hn21 : numB [0, UInt8.ofNat (rsD x 32)] = rsD x 32 := by
      simp only [numB, List.foldl_cons, List.foldl_nil]
      rw [UInt8.toNat_ofNat', Nat.mod_eq_of_lt (by omega)]
      simp
    have u21 := o21.1.un (flt_10 (show ((1 : Nat) : Int) = 1 ∨ ((1 : Nat) : Int) = 2 by decide) hsu (by rw [o21.2, hn21]; omega)) (by decide)
    have o26 := o21.1.pre0
    have u26 := o26.un (flt_141 (.inl rfl) (fun h => (h.2 (by decide)).2 rfl)) (by decide)
    have hl26 := o26.len
    have u30 := kind_no (by omega) o26.beg (x := 3 + rsD x 200) (by omega) (by omega)
    refine EW.region ?_
    refine WL.load rfl rfl rfl (ldPk bp3 kp1) ?_
    refine WL.call [p1.v] enter9 rfl rfl rfl (pack_any p1 _ body1 w3 rt3) ?_
    rintro _ w4 ⟨v, rfl, ov4, be4⟩
    rw [← hcc] at ov4
    have bp4 := bp3.on be4
    have rt4 := rt3.below be4
    have sb4 := sb3.trans (be4.mono sb3.size)
    have sz4 := be4.size
    refine ⟨_, rfl, ?_⟩
    first | refine WL.move rfl rfl rfl ?_
    first | refine WL.extract rfl rfl rfl (ext_2 _ _ _).1 ?_
    first | refine WL.extract rfl rfl rfl (ext_2 _ _ _).2 ?_
    first | refine WL.assign rfl rfl rfl ?_
    first | refine WL.assign rfl rfl rfl ?_
    refine WL.done ?_
    refine EW.on ?_
    refine EW.seq ?_
    refine EW.seq ?_
    refine EW.region ?_
    first | refine WL.move rfl rfl rfl ?_
    first | refine WL.bin rfl rfl rfl rfl (int_ne_f rfl _ _ _) ?_ | refine WL.bin rfl rfl rfl rfl (int_ne_t ‹_› _ _ _) ?_ | refine WL.bin rfl rfl rfl rfl (int_ne_f ‹_› _ _ _) ?_ | refine WL.bin rfl rfl rfl rfl (int_ne_t (by decide) _ _ _) ?_ | refine WL.bin rfl rfl rfl rfl (int_ne_d _ _ _ _ _) ?_
    first | refine WL.move rfl rfl rfl ?_
    first | refine WL.move rfl rfl rfl ?_ | refine WL.skip _ rfl rfl rfl ?_
    refine WL.len rfl rfl rfl (ov4.len _ _) ?_
    refine WL.bin rfl rfl rfl rfl (int_lt_f (by omega) _ _ _) ?_
    first | refine WL.pick rfl rfl rfl rfl ?_
    refine WL.done ?_
    refine EW.on ?_
    refine EW.cond_f rfl ?_
    refine EW.skip ?_
    refine EW.on ?_
    refine EW.seq ?_
    refine EW.region ?_
    refine WL.load rfl rfl rfl (ldPk bp4 kp1) ?_
    have hoffq0 : ∀ g, w4.heap.size ≤ g → Off p1.bv body1 g := fun g hg => rt4.hs.offB' hg
    have hlt_ov : ∀ g, v.ownBlock = some g → g < w4.heap.size := fun g hg => (ov4.lt hg).1
    obtain ⟨wa4, w5, qq, ra5, rs5, bq5, bea5, hqq⟩ := new33 w4 p1 kp1 rt4.hs.sl
    have hqql := bq5.lt
    have hoffq := hoffq0 qq hqq
    have bp5 := bp4.on bea5
    have rt5 := rt4.below bea5
    have ov5 := ov4.below bea5
    have sb5 := sb4.trans (bea5.mono sb4.size)
    have sz5 := bea5.size
    refine WL.new rfl rfl ra5 ?_
    refine WL.store rfl rfl rfl rs5 ?_
    have okq5 := kp1
    refine WL.done ?_
    refine EW.on ?_
    refine EW.seq ?_
    refine EW.region ?_
    first | refine WL.move rfl rfl rfl ?_
    refine WL.call [.int .i64 x, .int .i64 32] enter10 rfl rfl rfl (rest_any x 32 (by decide) (by decide) _) ?_
    rintro _ wz ⟨rfl, hz⟩
    rw [hz]
    clear hz
    clear wz
    have hr6 := (rsD_lt x (show 0 < 32 by decide)).1
    refine ⟨_, rfl, ?_⟩
    refine WL.mks rfl rfl rfl rfl (run_mk22 _ (rsD x 32) (by omega)) ?_
    have bm6 := below_new w5 (.cells ((List.replicate (rsD x 32) (0 : UInt8)).map byt).toArray 5)
    have ha6 : Has (w5.alloc (.cells ((List.replicate (rsD x 32) (0 : UInt8)).map byt).toArray 5)) (.slice (some ⟨w5.heap.size, 0, none⟩) (rsD x 32) (rsD x 32)) (List.replicate (rsD x 32) 0) := by
      have h := Has.new (bs := List.replicate (rsD x 32) (0 : UInt8)) (Blk.new w5 _ 5) (rsD x 32) (by simp)
      simpa using h
    obtain ⟨w6, hw6⟩ : ∃ w', w5.alloc (.cells ((List.replicate (rsD x 32) (0 : UInt8)).map byt).toArray 5) = w' := ⟨_, rfl⟩
    rw [hw6] at bm6 ha6 ⊢
    have hoff_ha : Off (.slice (some ⟨w5.heap.size, 0, none⟩) (rsD x 32) (rsD x 32)) (List.replicate (rsD x 32) 0) qq := .inr fun e => by simp only [Value.ownBlock, Option.some.injEq] at e; omega
    have bp6 := bp5.on bm6
    have rt6 := rt5.below bm6
    have ov6 := ov5.below bm6
    have bq6 := bq5.on bm6
    have sb6 := sb5.trans (bm6.mono sb5.size)
    have sz6 := bm6.size
    refine WL.field rfl rfl rfl (f33_3 qq 0 _) ?_
    obtain ⟨w7, s7, bq7, f7⟩ := stPkB bq6 ⟨kp1.l, kp1.d⟩ _ ha6.sl
    refine WL.store rfl rfl rfl s7 ?_
    have bp7 := bp6.fx f7 (fun e => by omega)
    have rt7 := rt6.fx f7 hoffq
    have ov7 := ov6.fx f7 (fun k hk e => by have hk : k = qq := hk; have := hlt_ov k e; omega)
    have ha7 := ha6.fxo f7 (fun k hk => by have hk : k = qq := hk; rw [hk]; exact hoff_ha)
    have sb7 := sb6.trans (f7.low (by omega) sb6.size)
    have sz7 := f7.size
    have okq7 : Pk.ok ⟨p1.k, p1.hl, p1.hd, .slice (some ⟨w5.heap.size, 0, none⟩) (rsD x 32) (rsD x 32)⟩ := ⟨kp1.l, kp1.d⟩
    refine WL.done ?_
    refine EW.on ?_
    refine EW.seq ?_
    refine EW.region ?_
    refine WL.load rfl rfl rfl (ldPk bq7 okq7) ?_
    have hE7 : fltD ((p1.k)) p1.hl ((List.replicate (rsD x 32) (0 : UInt8)).length : Int) = 10 := flt_10 hkI hsI (by rw [List.length_replicate]; omega)
    refine WL.call [Pk.v ⟨(p1.k), p1.hl, p1.hd, (.slice (some ⟨w5.heap.size, 0, none⟩) (rsD x 32) (rsD x 32))⟩] enter9 rfl rfl rfl (pack_bad ⟨(p1.k), p1.hl, p1.hd, (.slice (some ⟨w5.heap.size, 0, none⟩) (rsD x 32) (rsD x 32))⟩ okq7 (List.replicate (rsD x 32) 0) w7 ha7 (by rw [hE7]; decide)) ?_
    rintro _ w8 ⟨rfl, be8⟩
    rw [hE7]
    have bp8 := bp7.on be8
    have rt8 := rt7.below be8
    have ov8 := ov7.below be8
    have bq8 := bq7.on be8
    have ha8 := ha7.below be8
    have sb8 := sb7.trans (be8.mono sb7.size)
    have sz8 := be8.size
    have okq8 := okq7
    refine ⟨_, rfl, ?_⟩
    first | refine WL.move rfl rfl rfl ?_
    first | refine WL.extract rfl rfl rfl (ext_2 _ _ _).1 ?_
    first | refine WL.extract rfl rfl rfl (ext_2 _ _ _).2 ?_
    first | refine WL.assign rfl rfl rfl ?_
    first | refine WL.assign rfl rfl rfl ?_
    refine WL.done ?_
    refine EW.on ?_
    refine EW.seq ?_
    refine EW.region ?_
    first | refine WL.move rfl rfl rfl ?_
    refine WL.call [.int .i64 x, .int .i64 100] enter10 rfl rfl rfl (rest_any x 100 (by decide) (by decide) _) ?_
    rintro _ wz ⟨rfl, hz⟩
    rw [hz]
    clear hz
    clear wz
    have hr8 := (rsD_lt x (show 0 < 100 by decide)).1
    refine ⟨_, rfl, ?_⟩
    refine WL.bin rfl rfl rfl rfl (int_add (c := ((545 + rsD x 100 : Nat) : Int)) (by rw [IntKind.wrap_i64]; omega) _ _ _) ?_
    refine WL.mks rfl rfl rfl rfl (run_mk22 _ (545 + rsD x 100) (by omega)) ?_
    have bm9 := below_new w8 (.cells ((List.replicate (545 + rsD x 100) (0 : UInt8)).map byt).toArray 5)
    have hb9 : Has (w8.alloc (.cells ((List.replicate (545 + rsD x 100) (0 : UInt8)).map byt).toArray 5)) (.slice (some ⟨w8.heap.size, 0, none⟩) (545 + rsD x 100) (545 + rsD x 100)) (List.replicate (545 + rsD x 100) 0) := by
      have h := Has.new (bs := List.replicate (545 + rsD x 100) (0 : UInt8)) (Blk.new w8 _ 5) (545 + rsD x 100) (by simp)
      simpa using h
    obtain ⟨w9, hw9⟩ : ∃ w', w8.alloc (.cells ((List.replicate (545 + rsD x 100) (0 : UInt8)).map byt).toArray 5) = w' := ⟨_, rfl⟩
    rw [hw9] at bm9 hb9 ⊢
    have hoff_hb : Off (.slice (some ⟨w8.heap.size, 0, none⟩) (545 + rsD x 100) (545 + rsD x 100)) (List.replicate (545 + rsD x 100) 0) qq := .inr fun e => by simp only [Value.ownBlock, Option.some.injEq] at e; omega
    have bp9 := bp8.on bm9
    have rt9 := rt8.below bm9
    have ov9 := ov8.below bm9
    have bq9 := bq8.on bm9
    have sb9 := sb8.trans (bm9.mono sb8.size)
    have sz9 := bm9.size
    refine WL.field rfl rfl rfl (f33_3 qq 0 _) ?_
    obtain ⟨w10, s10, bq10, f10⟩ := stPkB bq9 ⟨kp1.l, kp1.d⟩ _ hb9.sl
    refine WL.store rfl rfl rfl s10 ?_
    have bp10 := bp9.fx f10 (fun e => by omega)
    have rt10 := rt9.fx f10 hoffq
    have ov10 := ov9.fx f10 (fun k hk e => by have hk : k = qq := hk; have := hlt_ov k e; omega)
    have hb10 := hb9.fxo f10 (fun k hk => by have hk : k = qq := hk; rw [hk]; exact hoff_hb)
    have sb10 := sb9.trans (f10.low (by omega) sb9.size)
    have sz10 := f10.size
    have okq10 : Pk.ok ⟨p1.k, p1.hl, p1.hd, .slice (some ⟨w8.heap.size, 0, none⟩) (545 + rsD x 100) (545 + rsD x 100)⟩ := ⟨kp1.l, kp1.d⟩
    refine WL.done ?_
    refine EW.on ?_
    refine EW.seq ?_
    refine EW.region ?_
    refine WL.load rfl rfl rfl (ldPk bq10 okq10) ?_
    have hE9 : fltD (p1.k) p1.hl ((List.replicate (545 + rsD x 100) (0 : UInt8)).length : Int) = 5 := flt_5 hkI hsI (by rw [List.length_replicate]; omega)
    refine WL.call [Pk.v ⟨p1.k, p1.hl, p1.hd, (.slice (some ⟨w8.heap.size, 0, none⟩) (545 + rsD x 100) (545 + rsD x 100))⟩] enter9 rfl rfl rfl (pack_bad ⟨p1.k, p1.hl, p1.hd, (.slice (some ⟨w8.heap.size, 0, none⟩) (545 + rsD x 100) (545 + rsD x 100))⟩ okq10 (List.replicate (545 + rsD x 100) 0) w10 hb10 (by rw [hE9]; decide)) ?_
    rintro _ w11 ⟨rfl, be11⟩
    rw [hE9]
    have bp11 := bp10.on be11
    have rt11 := rt10.below be11
    have ov11 := ov10.below be11
    have bq11 := bq10.on be11
    have hb11 := hb10.below be11
    have sb11 := sb10.trans (be11.mono sb10.size)
    have sz11 := be11.size
    have okq11 := okq10
    refine ⟨_, rfl, ?_⟩
    first | refine WL.move rfl rfl rfl ?_
    first | refine WL.extract rfl rfl rfl (ext_2 _ _ _).1 ?_
    first | refine WL.extract rfl rfl rfl (ext_2 _ _ _).2 ?_
    first | refine WL.assign rfl rfl rfl ?_
    first | refine WL.assign rfl rfl rfl ?_
    refine WL.done ?_
    refine EW.on ?_
    refine EW.seq ?_
    refine EW.region ?_
    refine WL.buildN [(0, .int .u8 1)] rfl rfl rfl (bd23_1 _) ?_
    refine WL.buildN [(1, kv (1 :: List.replicate 31 0))] rfl rfl rfl (bd26_1 _) ?_
    refine WL.field rfl rfl rfl (f33_1 qq 0 _) ?_
    obtain ⟨w12, s12, bq12, f12⟩ := stPkL bq11 ⟨kp1.l, kp1.d⟩ badL badL_ok
    refine WL.store rfl rfl rfl s12 ?_
    have bp12 := bp11.fx f12 (fun e => by omega)
    have rt12 := rt11.fx f12 hoffq
    have ov12 := ov11.fx f12 (fun k hk e => by have hk : k = qq := hk; have := hlt_ov k e; omega)
    have hb12 := hb11.fxo f12 (fun k hk => by have hk : k = qq := hk; rw [hk]; exact hoff_hb)
    have sb12 := sb11.trans (f12.low (by omega) sb11.size)
    have sz12 := f12.size
    have okq12 : Pk.ok ⟨p1.k, badL, p1.hd, (.slice (some ⟨w8.heap.size, 0, none⟩) (545 + rsD x 100) (545 + rsD x 100))⟩ := ⟨badL_ok, kp1.d⟩
    refine WL.done ?_
    refine EW.on ?_
    refine EW.seq ?_
    refine EW.region ?_
    refine WL.load rfl rfl rfl (ldPk bq12 okq12) ?_
    have hE11 : fltD (p1.k) badL ((List.replicate (545 + rsD x 100) (0 : UInt8)).length : Int) = 141 := flt_141 hkI badL_no
    refine WL.call [Pk.v ⟨p1.k, badL, p1.hd, (.slice (some ⟨w8.heap.size, 0, none⟩) (545 + rsD x 100) (545 + rsD x 100))⟩] enter9 rfl rfl rfl (pack_bad ⟨p1.k, badL, p1.hd, (.slice (some ⟨w8.heap.size, 0, none⟩) (545 + rsD x 100) (545 + rsD x 100))⟩ okq12 (List.replicate (545 + rsD x 100) 0) w12 hb12 (by rw [hE11]; decide)) ?_
    rintro _ w13 ⟨rfl, be13⟩
    rw [hE11]
    have bp13 := bp12.on be13
    have rt13 := rt12.below be13
    have ov13 := ov12.below be13
    have bq13 := bq12.on be13
    have hb13 := hb12.below be13
    have sb13 := sb12.trans (be13.mono sb12.size)
    have sz13 := be13.size
    have okq13 := okq12
    refine ⟨_, rfl, ?_⟩
    first | refine WL.move rfl rfl rfl ?_
    first | refine WL.extract rfl rfl rfl (ext_2 _ _ _).1 ?_
    first | refine WL.extract rfl rfl rfl (ext_2 _ _ _).2 ?_
    first | refine WL.assign rfl rfl rfl ?_
    first | refine WL.assign rfl rfl rfl ?_
    refine WL.done ?_
    refine EW.on ?_
    refine EW.seq ?_
    refine EW.region ?_
    first | refine WL.move rfl rfl rfl ?_
    refine WL.call [.int .i64 x, .int .i64 100] enter10 rfl rfl rfl (rest_any x 100 (by decide) (by decide) _) ?_
    rintro _ wz ⟨rfl, hz⟩
    rw [hz]
    clear hz
    clear wz
    have hr12 := (rsD_lt x (show 0 < 100 by decide)).1
    refine ⟨_, rfl, ?_⟩
    refine WL.bin rfl rfl rfl rfl (int_add (c := ((3 + rsD x 100 : Nat) : Int)) (by rw [IntKind.wrap_i64]; omega) _ _ _) ?_
    refine WL.field rfl rfl rfl (f33_0 qq 0 _) ?_
    obtain ⟨w14, s14, bq14, f14⟩ := stPkK bq13 ((3 + rsD x 100 : Nat) : Int)
    refine WL.store rfl rfl rfl s14 ?_
    have bp14 := bp13.fx f14 (fun e => by omega)
    have rt14 := rt13.fx f14 hoffq
    have ov14 := ov13.fx f14 (fun k hk e => by have hk : k = qq := hk; have := hlt_ov k e; omega)
    have hb14 := hb13.fxo f14 (fun k hk => by have hk : k = qq := hk; rw [hk]; exact hoff_hb)
    have sb14 := sb13.trans (f14.low (by omega) sb13.size)
    have sz14 := f14.size
    have okq14 : Pk.ok ⟨((3 + rsD x 100 : Nat) : Int), badL, p1.hd, (.slice (some ⟨w8.heap.size, 0, none⟩) (545 + rsD x 100) (545 + rsD x 100))⟩ := ⟨badL_ok, kp1.d⟩
    refine WL.done ?_
    refine EW.on ?_
    refine EW.seq ?_
    refine EW.region ?_
    refine WL.load rfl rfl rfl (ldPk bq14 okq14) ?_
    have hE13 : fltD (((3 + rsD x 100 : Nat) : Int)) badL ((List.replicate (545 + rsD x 100) (0 : UInt8)).length : Int) = 103 := flt_103 (by omega)
    refine WL.call [Pk.v ⟨((3 + rsD x 100 : Nat) : Int), badL, p1.hd, (.slice (some ⟨w8.heap.size, 0, none⟩) (545 + rsD x 100) (545 + rsD x 100))⟩] enter9 rfl rfl rfl (pack_bad ⟨((3 + rsD x 100 : Nat) : Int), badL, p1.hd, (.slice (some ⟨w8.heap.size, 0, none⟩) (545 + rsD x 100) (545 + rsD x 100))⟩ okq14 (List.replicate (545 + rsD x 100) 0) w14 hb14 (by rw [hE13]; decide)) ?_
    rintro _ w15 ⟨rfl, be15⟩
    rw [hE13]
    have bp15 := bp14.on be15
    have rt15 := rt14.below be15
    have ov15 := ov14.below be15
    have bq15 := bq14.on be15
    have hb15 := hb14.below be15
    have sb15 := sb14.trans (be15.mono sb14.size)
    have sz15 := be15.size
    have okq15 := okq14
    refine ⟨_, rfl, ?_⟩
    first | refine WL.move rfl rfl rfl ?_
    first | refine WL.extract rfl rfl rfl (ext_2 _ _ _).1 ?_
    first | refine WL.extract rfl rfl rfl (ext_2 _ _ _).2 ?_
    first | refine WL.assign rfl rfl rfl ?_
    first | refine WL.assign rfl rfl rfl ?_
    refine WL.done ?_
    refine EW.on ?_
    refine EW.seq ?_
    refine EW.seq ?_
    refine EW.region ?_
    first | refine WL.move rfl rfl rfl ?_
    first | refine WL.bin rfl rfl rfl rfl (int_ne_f rfl _ _ _) ?_ | refine WL.bin rfl rfl rfl rfl (int_ne_t ‹_› _ _ _) ?_ | refine WL.bin rfl rfl rfl rfl (int_ne_f ‹_› _ _ _) ?_ | refine WL.bin rfl rfl rfl rfl (int_ne_t (by decide) _ _ _) ?_ | refine WL.bin rfl rfl rfl rfl (int_ne_d _ _ _ _ _) ?_
    first | refine WL.move rfl rfl rfl ?_
    first | refine WL.move rfl rfl rfl ?_ | refine WL.skip _ rfl rfl rfl ?_
    first | refine WL.bin rfl rfl rfl rfl (int_ne_f rfl _ _ _) ?_ | refine WL.bin rfl rfl rfl rfl (int_ne_t ‹_› _ _ _) ?_ | refine WL.bin rfl rfl rfl rfl (int_ne_f ‹_› _ _ _) ?_ | refine WL.bin rfl rfl rfl rfl (int_ne_t (by decide) _ _ _) ?_ | refine WL.bin rfl rfl rfl rfl (int_ne_d _ _ _ _ _) ?_ | refine WL.skip _ rfl rfl rfl ?_
    first | refine WL.pick rfl rfl rfl rfl ?_
    first | refine WL.move rfl rfl rfl ?_
    first | refine WL.move rfl rfl rfl ?_ | refine WL.skip _ rfl rfl rfl ?_
    first | refine WL.bin rfl rfl rfl rfl (int_ne_f rfl _ _ _) ?_ | refine WL.bin rfl rfl rfl rfl (int_ne_t ‹_› _ _ _) ?_ | refine WL.bin rfl rfl rfl rfl (int_ne_f ‹_› _ _ _) ?_ | refine WL.bin rfl rfl rfl rfl (int_ne_t (by decide) _ _ _) ?_ | refine WL.bin rfl rfl rfl rfl (int_ne_d _ _ _ _ _) ?_ | refine WL.skip _ rfl rfl rfl ?_
    first | refine WL.pick rfl rfl rfl rfl ?_
    first | refine WL.move rfl rfl rfl ?_
    first | refine WL.move rfl rfl rfl ?_ | refine WL.skip _ rfl rfl rfl ?_
    first | refine WL.bin rfl rfl rfl rfl (int_ne_f rfl _ _ _) ?_ | refine WL.bin rfl rfl rfl rfl (int_ne_t ‹_› _ _ _) ?_ | refine WL.bin rfl rfl rfl rfl (int_ne_f ‹_› _ _ _) ?_ | refine WL.bin rfl rfl rfl rfl (int_ne_t (by decide) _ _ _) ?_ | refine WL.bin rfl rfl rfl rfl (int_ne_d _ _ _ _ _) ?_ | refine WL.skip _ rfl rfl rfl ?_
    first | refine WL.pick rfl rfl rfl rfl ?_
    refine WL.done ?_
    refine EW.on ?_
    refine EW.cond_f rfl ?_
    refine EW.skip ?_
    refine EW.on ?_
    refine EW.seq ?_
    refine EW.region ?_
    first | refine WL.move rfl rfl rfl ?_
    obtain ⟨vc, w16, ap16, oc16, bep16⟩ := app_nil ov15.has (by omega) 31
    refine WL.app rfl rfl rfl rfl ap16 ?_
    have bp16 := bp15.on bep16
    have rt16 := rt15.below bep16
    have ov16 := ov15.below bep16
    have bq16 := bq15.on bep16
    have hb16 := hb15.below bep16
    have sb16 := sb15.trans (bep16.mono sb15.size)
    have sz16 := bep16.size
    have hB : w15.heap.size ≤ w16.heap.size := sz16
    first | refine WL.assign rfl rfl rfl ?_
    refine WL.done ?_
    refine EW.on ?_
    refine EW.seq ?_
    refine EW.region ?_
    first | refine WL.move rfl rfl rfl ?_
    refine WL.len rfl rfl rfl (oc16.len _ _) ?_
    refine WL.field rfl rfl rfl (f33_3 qp 0 _) ?_
    refine WL.load rfl rfl rfl (ldPkB bp16 kp1) ?_
    refine WL.len rfl rfl rfl (rt16.hs.len _ _) ?_
    refine WL.bin rfl rfl rfl rfl (int_sub (c := ((atD 1 + 62 : Nat) : Int)) (by rw [IntKind.wrap_i64]; omega) _ _ _) ?_
    refine WL.bin rfl rfl rfl rfl (int_sub (c := ((atD 1 + 60 : Nat) : Int)) (by rw [IntKind.wrap_i64]; omega) _ _ _) ?_
    first | refine WL.assign rfl rfl rfl ?_
    refine WL.done ?_
    refine EW.on ?_
    refine EW.seq ?_
    refine EW.region ?_
    first | refine WL.move rfl rfl rfl ?_
    first | refine WL.move rfl rfl rfl ?_
    first | refine WL.move rfl rfl rfl ?_
    first | refine WL.move rfl rfl rfl ?_
    refine WL.bin rfl rfl rfl rfl (int_add (c := ((atD 1 + 60 + 1 : Nat) : Int)) (by rw [IntKind.wrap_i64]; omega) _ _ _) ?_
    obtain ⟨ad17, w17, ix17, se17, oc17, bc17⟩ := oc16.setAt (by omega) (atD 1 + 60) (by first | (simp only [List.length_set]; omega) | omega) (255)
    refine WL.index rfl rfl rfl rfl (ix17 _) ?_
    refine WL.store rfl rfl rfl se17 ?_
    have bp17 := bp16.below bc17 (by omega)
    have sb17 := sb16.trans (bc17.mono (by omega))
    have sz17 := bc17.size
    obtain ⟨ad18, w18, ix18, se18, oc18, bc18⟩ := oc17.setAt (by omega) (atD 1 + 60 + 1) (by first | (simp only [List.length_set]; omega) | omega) (255)
    refine WL.index rfl rfl rfl rfl (ix18 _) ?_
    refine WL.store rfl rfl rfl se18 ?_
    have bp18 := bp17.below bc18 (by omega)
    have sb18 := sb17.trans (bc18.mono (by omega))
    have sz18 := bc18.size
    refine WL.done ?_
    refine EW.on ?_
    refine EW.seq ?_
    refine EW.region ?_
    first | refine WL.move rfl rfl rfl ?_
    refine WL.call [vc] enter11 rfl rfl rfl (unpack_any vc _ w18 oc18.has (by first | (simp only [List.length_set]; omega) | omega)) ?_
    rintro _ w19 ⟨pu, rfl, hbad, _, be19⟩
    have hpu := hbad (by rw [u19]; decide)
    rw [u19, hpu]
    clear hpu hbad
    have bp19 := bp18.on be19
    have oc19 := oc18.below be19
    have sb19 := sb18.trans (be19.mono sb18.size)
    have sz19 := be19.size
    refine ⟨_, rfl, ?_⟩
    first | refine WL.move rfl rfl rfl ?_
    first | refine WL.extract rfl rfl rfl (ext_2 _ _ _).1 ?_
    first | refine WL.extract rfl rfl rfl (ext_2 _ _ _).2 ?_
    first | refine WL.assign rfl rfl rfl ?_
    refine WL.done ?_
    refine EW.on ?_
    refine EW.seq ?_
    refine EW.region ?_
    first | refine WL.move rfl rfl rfl ?_
    first | refine WL.move rfl rfl rfl ?_
    first | refine WL.move rfl rfl rfl ?_
    first | refine WL.move rfl rfl rfl ?_
    refine WL.bin rfl rfl rfl rfl (int_add (c := ((atD 1 + 60 + 1 : Nat) : Int)) (by rw [IntKind.wrap_i64]; omega) _ _ _) ?_
    first | refine WL.move rfl rfl rfl ?_
    refine WL.call [.int .i64 x, .int .i64 32] enter10 rfl rfl rfl (rest_any x 32 (by decide) (by decide) _) ?_
    rintro _ wz ⟨rfl, hz⟩
    rw [hz]
    clear hz
    clear wz
    have hr20 := (rsD_lt x (show 0 < 32 by decide)).1
    refine ⟨_, rfl, ?_⟩
    refine WL.conv rfl rfl rfl (conv_b (x := rsD x 32) (by omega) _) ?_
    obtain ⟨ad20, w20, ix20, se20, oc20, bc20⟩ := oc19.setAt (by omega) (atD 1 + 60) (by first | (simp only [List.length_set]; omega) | omega) (0)
    refine WL.index rfl rfl rfl rfl (ix20 _) ?_
    refine WL.store rfl rfl rfl se20 ?_
    have bp20 := bp19.below bc20 (by omega)
    have sb20 := sb19.trans (bc20.mono (by omega))
    have sz20 := bc20.size
    obtain ⟨ad21, w21, ix21, se21, oc21, bc21⟩ := oc20.setAt (by omega) (atD 1 + 60 + 1) (by first | (simp only [List.length_set]; omega) | omega) (UInt8.ofNat (rsD x 32))
    refine WL.index rfl rfl rfl rfl (ix21 _) ?_
    refine WL.store rfl rfl rfl se21 ?_
    have bp21 := bp20.below bc21 (by omega)
    have sb21 := sb20.trans (bc21.mono (by omega))
    have sz21 := bc21.size
    refine WL.done ?_
    refine EW.on ?_
    refine EW.seq ?_
    refine EW.region ?_
    first | refine WL.move rfl rfl rfl ?_
    refine WL.call [vc] enter11 rfl rfl rfl (unpack_any vc _ w21 oc21.has (by first | (simp only [List.length_set]; omega) | omega)) ?_
    rintro _ w22 ⟨pu, rfl, hbad, _, be22⟩
    have hpu := hbad (by rw [u21]; decide)
    rw [u21, hpu]
    clear hpu hbad
    have bp22 := bp21.on be22
    have oc22 := oc21.below be22
    have sb22 := sb21.trans (be22.mono sb21.size)
    have sz22 := be22.size
    refine ⟨_, rfl, ?_⟩
    first | refine WL.move rfl rfl rfl ?_
    first | refine WL.extract rfl rfl rfl (ext_2 _ _ _).1 ?_
    first | refine WL.extract rfl rfl rfl (ext_2 _ _ _).2 ?_
    first | refine WL.assign rfl rfl rfl ?_
    refine WL.done ?_
    refine EW.on ?_
    refine EW.seq ?_
    refine EW.region ?_
    first | refine WL.assign rfl rfl rfl ?_
    refine WL.done ?_
    refine EW.on ?_
    refine EW.seq ?_
    refine EW.seq ?_
    refine EW.region ?_
    refine WL.field rfl rfl rfl (f33_0 qp 0 _) ?_
    refine WL.load rfl rfl rfl (ldPkK bp22) ?_
    rw [hkk]
    refine WL.bin rfl rfl rfl rfl (int_eq_t rfl _ _ _) ?_
    refine WL.done ?_
    refine EW.on ?_
    refine EW.cond_t rfl ?_
    refine EW.seq ?_
    refine EW.region ?_
    first | refine WL.move rfl rfl rfl ?_
    first | refine WL.move rfl rfl rfl ?_
    first | refine WL.move rfl rfl rfl ?_
    first | refine WL.move rfl rfl rfl ?_
    obtain ⟨ad23, w23, ix23, se23, oc23, bc23⟩ := oc22.setAt (by omega) (66) (by first | (simp only [List.length_set]; omega) | omega) (0)
    refine WL.index rfl rfl rfl rfl (ix23 _) ?_
    refine WL.store rfl rfl rfl se23 ?_
    have bp23 := bp22.below bc23 (by omega)
    have sb23 := sb22.trans (bc23.mono (by omega))
    have sz23 := bc23.size
    obtain ⟨ad24, w24, ix24, se24, oc24, bc24⟩ := oc23.setAt (by omega) (67) (by first | (simp only [List.length_set]; omega) | omega) (0)
    refine WL.index rfl rfl rfl rfl (ix24 _) ?_
    refine WL.store rfl rfl rfl se24 ?_
    have bp24 := bp23.below bc24 (by omega)
    have sb24 := sb23.trans (bc24.mono (by omega))
    have sz24 := bc24.size
    obtain ⟨ad25, w25, ix25, se25, oc25, bc25⟩ := oc24.setAt (by omega) (68) (by first | (simp only [List.length_set]; omega) | omega) (0)
    refine WL.index rfl rfl rfl rfl (ix25 _) ?_
    refine WL.store rfl rfl rfl se25 ?_
    have bp25 := bp24.below bc25 (by omega)
    have sb25 := sb24.trans (bc25.mono (by omega))
    have sz25 := bc25.size
    obtain ⟨ad26, w26, ix26, se26, oc26, bc26⟩ := oc25.setAt (by omega) (69) (by first | (simp only [List.length_set]; omega) | omega) (0)
    refine WL.index rfl rfl rfl rfl (ix26 _) ?_
    refine WL.store rfl rfl rfl se26 ?_
    have bp26 := bp25.below bc26 (by omega)
    have sb26 := sb25.trans (bc26.mono (by omega))
    have sz26 := bc26.size
    refine WL.done ?_
    refine EW.on ?_
    refine EW.region ?_
    first | refine WL.assign rfl rfl rfl ?_
    refine WL.done ?_
    refine EW.on ?_
    refine EW.seq ?_
    refine EW.region ?_
    first | refine WL.move rfl rfl rfl ?_
    refine WL.call [vc] enter11 rfl rfl rfl (unpack_any vc _ w26 oc26.has (by first | (simp only [List.length_set]; omega) | omega)) ?_
    rintro _ w27 ⟨pu, rfl, hbad, _, be27⟩
    have hpu := hbad (by rw [u26]; decide)
    rw [u26, hpu]
    clear hpu hbad
    have bp27 := bp26.on be27
    have oc27 := oc26.below be27
    have sb27 := sb26.trans (be27.mono sb26.size)
    have sz27 := be27.size
    refine ⟨_, rfl, ?_⟩
    first | refine WL.move rfl rfl rfl ?_
    first | refine WL.extract rfl rfl rfl (ext_2 _ _ _).1 ?_
    first | refine WL.extract rfl rfl rfl (ext_2 _ _ _).2 ?_
    first | refine WL.assign rfl rfl rfl ?_
    refine WL.done ?_
    refine EW.on ?_
    refine EW.seq ?_
    refine EW.seq ?_
    refine EW.region ?_
    first | refine WL.move rfl rfl rfl ?_
    first | refine WL.bin rfl rfl rfl rfl (int_ne_f rfl _ _ _) ?_ | refine WL.bin rfl rfl rfl rfl (int_ne_t ‹_› _ _ _) ?_ | refine WL.bin rfl rfl rfl rfl (int_ne_f ‹_› _ _ _) ?_ | refine WL.bin rfl rfl rfl rfl (int_ne_t (by decide) _ _ _) ?_ | refine WL.bin rfl rfl rfl rfl (int_ne_d _ _ _ _ _) ?_
    first | refine WL.move rfl rfl rfl ?_
    first | refine WL.move rfl rfl rfl ?_ | refine WL.skip _ rfl rfl rfl ?_
    first | refine WL.bin rfl rfl rfl rfl (int_ne_f rfl _ _ _) ?_ | refine WL.bin rfl rfl rfl rfl (int_ne_t ‹_› _ _ _) ?_ | refine WL.bin rfl rfl rfl rfl (int_ne_f ‹_› _ _ _) ?_ | refine WL.bin rfl rfl rfl rfl (int_ne_t (by decide) _ _ _) ?_ | refine WL.bin rfl rfl rfl rfl (int_ne_d _ _ _ _ _) ?_ | refine WL.skip _ rfl rfl rfl ?_
    first | refine WL.pick rfl rfl rfl rfl ?_
    first | refine WL.move rfl rfl rfl ?_
    first | refine WL.move rfl rfl rfl ?_ | refine WL.skip _ rfl rfl rfl ?_
    first | refine WL.move rfl rfl rfl ?_ | refine WL.skip _ rfl rfl rfl ?_
    first | refine WL.bin rfl rfl rfl rfl (int_ne_f rfl _ _ _) ?_ | refine WL.bin rfl rfl rfl rfl (int_ne_t ‹_› _ _ _) ?_ | refine WL.bin rfl rfl rfl rfl (int_ne_f ‹_› _ _ _) ?_ | refine WL.bin rfl rfl rfl rfl (int_ne_t (by decide) _ _ _) ?_ | refine WL.bin rfl rfl rfl rfl (int_ne_d _ _ _ _ _) ?_ | refine WL.skip _ rfl rfl rfl ?_
    first | refine WL.pick rfl rfl rfl rfl ?_
    refine WL.done ?_
    refine EW.on ?_
    refine EW.cond_f rfl ?_
    refine EW.skip ?_
    refine EW.on ?_
    refine EW.seq ?_
    refine EW.region ?_
    first | refine WL.move rfl rfl rfl ?_
    first | refine WL.move rfl rfl rfl ?_
    refine WL.call [.int .i64 x, .int .i64 200] enter10 rfl rfl rfl (rest_any x 200 (by decide) (by decide) _) ?_
    rintro _ wz ⟨rfl, hz⟩
    rw [hz]
    clear hz
    clear wz
    have hr29 := (rsD_lt x (show 0 < 200 by decide)).1
    refine ⟨_, rfl, ?_⟩
    refine WL.conv rfl rfl rfl (conv_b (x := rsD x 200) (by omega) _) ?_
    refine WL.bin rfl rfl rfl rfl (add5 (by omega) _ _ _) ?_
    obtain ⟨ad28, w28, ix28, se28, oc28, bc28⟩ := oc27.setAt (by omega) (1) (by first | (simp only [List.length_set]; omega) | omega) (UInt8.ofNat (3 + rsD x 200))
    refine WL.index rfl rfl rfl rfl (ix28 _) ?_
    refine WL.store rfl rfl rfl se28 ?_
    have bp28 := bp27.below bc28 (by omega)
    have sb28 := sb27.trans (bc28.mono (by omega))
    have sz28 := bc28.size
    refine WL.done ?_
    refine EW.on ?_
    refine EW.seq ?_
    refine EW.region ?_
    first | refine WL.move rfl rfl rfl ?_
    refine WL.call [vc] enter11 rfl rfl rfl (unpack_any vc _ w28 oc28.has (by first | (simp only [List.length_set]; omega) | omega)) ?_
    rintro _ w29 ⟨pu, rfl, hbad, _, be29⟩
    have hpu := hbad (by rw [u30]; decide)
    rw [u30, hpu]
    clear hpu hbad
    have bp29 := bp28.on be29
    have oc29 := oc28.below be29
    have sb29 := sb28.trans (be29.mono sb28.size)
    have sz29 := be29.size
    refine ⟨_, rfl, ?_⟩
    first | refine WL.move rfl rfl rfl ?_
    first | refine WL.extract rfl rfl rfl (ext_2 _ _ _).1 ?_
    first | refine WL.extract rfl rfl rfl (ext_2 _ _ _).2 ?_
    first | refine WL.assign rfl rfl rfl ?_
    refine WL.done ?_
    refine EW.on ?_
    refine EW.seq ?_
    refine EW.seq ?_
    by_cases hv : v0 = 1
    · subst hv
      have u34 := (ver_no (c := List.set _ 1 (UInt8.ofNat (3 + rsD x 200))) (by rw [List.length_set]; exact Nat.le_trans (by omega) (Nat.le_of_eq hl26.symm)) (v := 0) (by decide)).1
      have u35 := (ver_no (c := List.set _ 1 (UInt8.ofNat (3 + rsD x 200))) (by rw [List.length_set]; exact Nat.le_trans (by omega) (Nat.le_of_eq hl26.symm)) (v := 0) (by decide)).2
      refine EW.region ?_
      first | refine WL.move rfl rfl rfl ?_
      refine WL.bin rfl rfl rfl rfl (eq5_t _ _ _) ?_
      refine WL.done ?_
      refine EW.on ?_
      refine EW.cond_t rfl ?_
      refine EW.region ?_
      first | refine WL.assign rfl rfl rfl ?_
      refine WL.done ?_
      refine EW.on ?_
      refine EW.seq ?_
      refine EW.region ?_
      first | refine WL.move rfl rfl rfl ?_
      first | refine WL.move rfl rfl rfl ?_
      obtain ⟨ad30, w30, ix30, se30, oc30, bc30⟩ := oc29.setAt (by omega) (0) (by first | (simp only [List.length_set]; omega) | omega) (0)
      refine WL.index rfl rfl rfl rfl (ix30 _) ?_
      refine WL.store rfl rfl rfl se30 ?_
      have bp30 := bp29.below bc30 (by omega)
      have sb30 := sb29.trans (bc30.mono (by omega))
      have sz30 := bc30.size
      refine WL.done ?_
      refine EW.on ?_
      refine EW.seq ?_
      refine EW.region ?_
      first | refine WL.move rfl rfl rfl ?_
      refine WL.call [vc] enter11 rfl rfl rfl (unpack_any vc _ w30 oc30.has (by first | (simp only [List.length_set]; omega) | omega)) ?_
      rintro _ w31 ⟨pu, rfl, hbad, _, be31⟩
      have hpu := hbad (by rw [u34]; decide)
      rw [u34, hpu]
      clear hpu hbad
      have bp31 := bp30.on be31
      have oc31 := oc30.below be31
      have sb31 := sb30.trans (be31.mono sb30.size)
      have sz31 := be31.size
      refine ⟨_, rfl, ?_⟩
      obtain ⟨wa31, w32, qu, ra32, rs32, bu32, bea32, hqu⟩ := new33 w31 Pk.z Pk.z_ok ⟨_, _, _, rfl⟩
      have bp32 := bp31.on bea32
      have oc32 := oc31.below bea32
      have sb32 := sb31.trans (bea32.mono sb31.size)
      have sz32 := bea32.size
      first | refine WL.move rfl rfl rfl ?_
      first | refine WL.extract rfl rfl rfl (ext_2 _ _ _).1 ?_
      first | refine WL.extract rfl rfl rfl (ext_2 _ _ _).2 ?_
      refine WL.new rfl rfl ra32 ?_
      refine WL.store rfl rfl rfl rs32 ?_
      first | refine WL.assign rfl rfl rfl ?_
      refine WL.done ?_
      refine EW.on ?_
      refine EW.seq ?_
      refine EW.region ?_
      first | refine WL.move rfl rfl rfl ?_
      refine WL.call [vc] enter12 rfl rfl rfl (roffer_any vc _ w32 oc32.has (by first | (simp only [List.length_set]; omega) | omega)) ?_
      rintro _ w33 ⟨rfl, be33⟩
      rw [u35]
      have bp33 := bp32.on be33
      have oc33 := oc32.below be33
      have sb33 := sb32.trans (be33.mono sb32.size)
      have sz33 := be33.size
      refine ⟨_, rfl, ?_⟩
      obtain ⟨wa33, w34, qv, ra34, rs34, bv34, bea34, hqv⟩ := new42 w33 (ofV _) (ofV_ok _)
      have bp34 := bp33.on bea34
      have oc34 := oc33.below bea34
      have sb34 := sb33.trans (bea34.mono sb33.size)
      have sz34 := bea34.size
      first | refine WL.move rfl rfl rfl ?_
      first | refine WL.extract rfl rfl rfl (ext_2 _ _ _).1 ?_
      first | refine WL.extract rfl rfl rfl (ext_2 _ _ _).2 ?_
      refine WL.new rfl rfl ra34 ?_
      refine WL.store rfl rfl rfl rs34 ?_
      first | refine WL.assign rfl rfl rfl ?_
      refine WL.done ?_
      refine EW.on ?_
      refine EW.seq ?_
      refine EW.region ?_
      first | refine WL.move rfl rfl rfl ?_
      first | refine WL.bin rfl rfl rfl rfl (int_eq_t rfl _ _ _) ?_ | refine WL.bin rfl rfl rfl rfl (int_eq_t ‹_› _ _ _) ?_ | refine WL.bin rfl rfl rfl rfl (int_eq_f ‹_› _ _ _) ?_ | refine WL.bin rfl rfl rfl rfl (int_eq_d _ _ _ _ _) ?_
      first | refine WL.move rfl rfl rfl ?_
      first | refine WL.move rfl rfl rfl ?_ | refine WL.skip _ rfl rfl rfl ?_
      first | refine WL.bin rfl rfl rfl rfl (int_eq_t rfl _ _ _) ?_ | refine WL.bin rfl rfl rfl rfl (int_eq_t ‹_› _ _ _) ?_ | refine WL.bin rfl rfl rfl rfl (int_eq_f ‹_› _ _ _) ?_ | refine WL.bin rfl rfl rfl rfl (int_eq_d _ _ _ _ _) ?_ | refine WL.skip _ rfl rfl rfl ?_
      first | refine WL.pick rfl rfl rfl rfl ?_
      first | refine WL.move rfl rfl rfl ?_
      first | refine WL.move rfl rfl rfl ?_ | refine WL.skip _ rfl rfl rfl ?_
      first | refine WL.bin rfl rfl rfl rfl (int_eq_t rfl _ _ _) ?_ | refine WL.bin rfl rfl rfl rfl (int_eq_t ‹_› _ _ _) ?_ | refine WL.bin rfl rfl rfl rfl (int_eq_f ‹_› _ _ _) ?_ | refine WL.bin rfl rfl rfl rfl (int_eq_d _ _ _ _ _) ?_ | refine WL.skip _ rfl rfl rfl ?_
      first | refine WL.pick rfl rfl rfl rfl ?_
      first | refine WL.assign rfl rfl rfl ?_
      refine WL.done ?_
      refine EW.on ?_
      refine EW.ret ?_
      exact EW.returns Try.results3 rfl ⟨rfl, sb34⟩
    · have u34 := (ver_no (c := List.set _ 1 (UInt8.ofNat (3 + rsD x 200))) (by rw [List.length_set]; exact Nat.le_trans (by omega) (Nat.le_of_eq hl26.symm)) (v := v0) hv).1
      have u35 := (ver_no (c := List.set _ 1 (UInt8.ofNat (3 + rsD x 200))) (by rw [List.length_set]; exact Nat.le_trans (by omega) (Nat.le_of_eq hl26.symm)) (v := v0) hv).2
      refine EW.region ?_
      first | refine WL.move rfl rfl rfl ?_
      refine WL.bin rfl rfl rfl rfl (eq5_f hv _ _ _) ?_
      refine WL.done ?_
      refine EW.on ?_
      refine EW.cond_f rfl ?_
      refine EW.skip ?_
      refine EW.on ?_
      refine EW.seq ?_
      refine EW.region ?_
      first | refine WL.move rfl rfl rfl ?_
      first | refine WL.move rfl rfl rfl ?_
      obtain ⟨ad30, w30, ix30, se30, oc30, bc30⟩ := oc29.setAt (by omega) (0) (by first | (simp only [List.length_set]; omega) | omega) (v0)
      refine WL.index rfl rfl rfl rfl (ix30 _) ?_
      refine WL.store rfl rfl rfl se30 ?_
      have bp30 := bp29.below bc30 (by omega)
      have sb30 := sb29.trans (bc30.mono (by omega))
      have sz30 := bc30.size
      refine WL.done ?_
      refine EW.on ?_
      refine EW.seq ?_
      refine EW.region ?_
      first | refine WL.move rfl rfl rfl ?_
      refine WL.call [vc] enter11 rfl rfl rfl (unpack_any vc _ w30 oc30.has (by first | (simp only [List.length_set]; omega) | omega)) ?_
      rintro _ w31 ⟨pu, rfl, hbad, _, be31⟩
      have hpu := hbad (by rw [u34]; decide)
      rw [u34, hpu]
      clear hpu hbad
      have bp31 := bp30.on be31
      have oc31 := oc30.below be31
      have sb31 := sb30.trans (be31.mono sb30.size)
      have sz31 := be31.size
      refine ⟨_, rfl, ?_⟩
      obtain ⟨wa31, w32, qu, ra32, rs32, bu32, bea32, hqu⟩ := new33 w31 Pk.z Pk.z_ok ⟨_, _, _, rfl⟩
      have bp32 := bp31.on bea32
      have oc32 := oc31.below bea32
      have sb32 := sb31.trans (bea32.mono sb31.size)
      have sz32 := bea32.size
      first | refine WL.move rfl rfl rfl ?_
      first | refine WL.extract rfl rfl rfl (ext_2 _ _ _).1 ?_
      first | refine WL.extract rfl rfl rfl (ext_2 _ _ _).2 ?_
      refine WL.new rfl rfl ra32 ?_
      refine WL.store rfl rfl rfl rs32 ?_
      first | refine WL.assign rfl rfl rfl ?_
      refine WL.done ?_
      refine EW.on ?_
      refine EW.seq ?_
      refine EW.region ?_
      first | refine WL.move rfl rfl rfl ?_
      refine WL.call [vc] enter12 rfl rfl rfl (roffer_any vc _ w32 oc32.has (by first | (simp only [List.length_set]; omega) | omega)) ?_
      rintro _ w33 ⟨rfl, be33⟩
      rw [u35]
      have bp33 := bp32.on be33
      have oc33 := oc32.below be33
      have sb33 := sb32.trans (be33.mono sb32.size)
      have sz33 := be33.size
      refine ⟨_, rfl, ?_⟩
      obtain ⟨wa33, w34, qv, ra34, rs34, bv34, bea34, hqv⟩ := new42 w33 (ofV _) (ofV_ok _)
      have bp34 := bp33.on bea34
      have oc34 := oc33.below bea34
      have sb34 := sb33.trans (bea34.mono sb33.size)
      have sz34 := bea34.size
      first | refine WL.move rfl rfl rfl ?_
      first | refine WL.extract rfl rfl rfl (ext_2 _ _ _).1 ?_
      first | refine WL.extract rfl rfl rfl (ext_2 _ _ _).2 ?_
      refine WL.new rfl rfl ra34 ?_
      refine WL.store rfl rfl rfl rs34 ?_
      first | refine WL.assign rfl rfl rfl ?_
      refine WL.done ?_
      refine EW.on ?_
      refine EW.seq ?_
      refine EW.region ?_
      first | refine WL.move rfl rfl rfl ?_
      first | refine WL.bin rfl rfl rfl rfl (int_eq_t rfl _ _ _) ?_ | refine WL.bin rfl rfl rfl rfl (int_eq_t ‹_› _ _ _) ?_ | refine WL.bin rfl rfl rfl rfl (int_eq_f ‹_› _ _ _) ?_ | refine WL.bin rfl rfl rfl rfl (int_eq_d _ _ _ _ _) ?_
      first | refine WL.move rfl rfl rfl ?_
      first | refine WL.move rfl rfl rfl ?_ | refine WL.skip _ rfl rfl rfl ?_
      first | refine WL.bin rfl rfl rfl rfl (int_eq_t rfl _ _ _) ?_ | refine WL.bin rfl rfl rfl rfl (int_eq_t ‹_› _ _ _) ?_ | refine WL.bin rfl rfl rfl rfl (int_eq_f ‹_› _ _ _) ?_ | refine WL.bin rfl rfl rfl rfl (int_eq_d _ _ _ _ _) ?_ | refine WL.skip _ rfl rfl rfl ?_
      first | refine WL.pick rfl rfl rfl rfl ?_
      first | refine WL.move rfl rfl rfl ?_
      first | refine WL.move rfl rfl rfl ?_ | refine WL.skip _ rfl rfl rfl ?_
      first | refine WL.bin rfl rfl rfl rfl (int_eq_t rfl _ _ _) ?_ | refine WL.bin rfl rfl rfl rfl (int_eq_t ‹_› _ _ _) ?_ | refine WL.bin rfl rfl rfl rfl (int_eq_f ‹_› _ _ _) ?_ | refine WL.bin rfl rfl rfl rfl (int_eq_d _ _ _ _ _) ?_ | refine WL.skip _ rfl rfl rfl ?_
      first | refine WL.pick rfl rfl rfl rfl ?_
      first | refine WL.assign rfl rfl rfl ?_
      refine WL.done ?_
      refine EW.on ?_
      refine EW.ret ?_
      exact EW.returns Try.results3 rfl ⟨rfl, sb34⟩
  · obtain ⟨_, hsu, hb1, hb2⟩ := flt_ok fl1
    have hkk : p1.k = 2 := rt3.hk
    have hkI : p1.k = 1 ∨ p1.k = 2 := by rw [hkk]; decide
    have hsI : suitD p1.k p1.hl := by rw [hkk]; exact hsu
    have ha := atD_le 2
    have hlen := packB_len hk12 kp1.l kp1.d body1
    obtain ⟨c, hcc⟩ : ∃ c, c = packB 2 p1.hl p1.hd body1 := ⟨_, rfl⟩
    have hor : Ord c 2 p1.hl c.length := by
      rw [hcc]
      exact ⟨cutB_mid (o := 0) (n := 1) (a := []) (m := [1]) (b := [UInt8.ofNat 2] ++ ((if 2 = 1 then encL p1.hl else []) ++ (encH p1.hd ++ (lenB body1.length ++ body1)))) (by simp [packB]) rfl rfl, cutB_mid (o := 1) (n := 1) (a := [1]) (m := [UInt8.ofNat 2]) (b := (if 2 = 1 then encL p1.hl else []) ++ (encH p1.hd ++ (lenB body1.length ++ body1))) (by simp [packB]) rfl rfl, hk12, pack_hl hk12 kp1.l kp1.d body1 hsu, rfl, by rw [hlen]; omega⟩
    rw [← hcc] at hlen
    have o19 := hor.len2 255 255
    have u19 := o19.1.un (flt_5 (show ((2 : Nat) : Int) = 1 ∨ ((2 : Nat) : Int) = 2 by decide) hsu (by rw [o19.2]; decide)) (by decide)
    have hr32 := (rsD_lt x (show 0 < 32 by decide)).1
    have hr200 := (rsD_lt x (show 0 < 200 by decide)).1
    have o21 := o19.1.len2 0 (UInt8.ofNat (rsD x 32))
    have hn21 : numB [0, UInt8.ofNat (rsD x 32)] = rsD x 32 := by
      simp only [numB, List.foldl_cons, List.foldl_nil]
      rw [UInt8.toNat_ofNat', Nat.mod_eq_of_lt (by omega)]
      simp
    have u21 := o21.1.un (flt_10 (show ((2 : Nat) : Int) = 1 ∨ ((2 : Nat) : Int) = 2 by decide) hsu (by rw [o21.2, hn21]; omega)) (by decide)
    have o26 := o21.1
    have u26 := o26.un (flt_10 (show ((2 : Nat) : Int) = 1 ∨ ((2 : Nat) : Int) = 2 by decide) hsu (by rw [o21.2, hn21]; omega)) (by decide)
    have hl26 := o26.len
    have u30 := kind_no (by omega) o26.beg (x := 3 + rsD x 200) (by omega) (by omega)
    refine EW.region ?_
    refine WL.load rfl rfl rfl (ldPk bp3 kp1) ?_
    refine WL.call [p1.v] enter9 rfl rfl rfl (pack_any p1 _ body1 w3 rt3) ?_
    rintro _ w4 ⟨v, rfl, ov4, be4⟩
    rw [← hcc] at ov4
    have bp4 := bp3.on be4
    have rt4 := rt3.below be4
    have sb4 := sb3.trans (be4.mono sb3.size)
    have sz4 := be4.size
    refine ⟨_, rfl, ?_⟩
    first | refine WL.move rfl rfl rfl ?_
    first | refine WL.extract rfl rfl rfl (ext_2 _ _ _).1 ?_
    first | refine WL.extract rfl rfl rfl (ext_2 _ _ _).2 ?_
    first | refine WL.assign rfl rfl rfl ?_
    first | refine WL.assign rfl rfl rfl ?_
    refine WL.done ?_
    refine EW.on ?_
    refine EW.seq ?_
    refine EW.seq ?_
    refine EW.region ?_
    first | refine WL.move rfl rfl rfl ?_
    first | refine WL.bin rfl rfl rfl rfl (int_ne_f rfl _ _ _) ?_ | refine WL.bin rfl rfl rfl rfl (int_ne_t ‹_› _ _ _) ?_ | refine WL.bin rfl rfl rfl rfl (int_ne_f ‹_› _ _ _) ?_ | refine WL.bin rfl rfl rfl rfl (int_ne_t (by decide) _ _ _) ?_ | refine WL.bin rfl rfl rfl rfl (int_ne_d _ _ _ _ _) ?_
    first | refine WL.move rfl rfl rfl ?_
    first | refine WL.move rfl rfl rfl ?_ | refine WL.skip _ rfl rfl rfl ?_
    refine WL.len rfl rfl rfl (ov4.len _ _) ?_
    refine WL.bin rfl rfl rfl rfl (int_lt_f (by omega) _ _ _) ?_
    first | refine WL.pick rfl rfl rfl rfl ?_
    refine WL.done ?_
    refine EW.on ?_
    refine EW.cond_f rfl ?_
    refine EW.skip ?_
    refine EW.on ?_
    refine EW.seq ?_
    refine EW.region ?_
    refine WL.load rfl rfl rfl (ldPk bp4 kp1) ?_
    have hoffq0 : ∀ g, w4.heap.size ≤ g → Off p1.bv body1 g := fun g hg => rt4.hs.offB' hg
    have hlt_ov : ∀ g, v.ownBlock = some g → g < w4.heap.size := fun g hg => (ov4.lt hg).1
    obtain ⟨wa4, w5, qq, ra5, rs5, bq5, bea5, hqq⟩ := new33 w4 p1 kp1 rt4.hs.sl
    have hqql := bq5.lt
    have hoffq := hoffq0 qq hqq
    have bp5 := bp4.on bea5
    have rt5 := rt4.below bea5
    have ov5 := ov4.below bea5
    have sb5 := sb4.trans (bea5.mono sb4.size)
    have sz5 := bea5.size
    refine WL.new rfl rfl ra5 ?_
    refine WL.store rfl rfl rfl rs5 ?_
    have okq5 := kp1
    refine WL.done ?_
    refine EW.on ?_
    refine EW.seq ?_
    refine EW.region ?_
    first | refine WL.move rfl rfl rfl ?_
    refine WL.call [.int .i64 x, .int .i64 32] enter10 rfl rfl rfl (rest_any x 32 (by decide) (by decide) _) ?_
    rintro _ wz ⟨rfl, hz⟩
    rw [hz]
    clear hz
    clear wz
    have hr6 := (rsD_lt x (show 0 < 32 by decide)).1
    refine ⟨_, rfl, ?_⟩
    refine WL.mks rfl rfl rfl rfl (run_mk22 _ (rsD x 32) (by omega)) ?_
    have bm6 := below_new w5 (.cells ((List.replicate (rsD x 32) (0 : UInt8)).map byt).toArray 5)
    have ha6 : Has (w5.alloc (.cells ((List.replicate (rsD x 32) (0 : UInt8)).map byt).toArray 5)) (.slice (some ⟨w5.heap.size, 0, none⟩) (rsD x 32) (rsD x 32)) (List.replicate (rsD x 32) 0) := by
      have h := Has.new (bs := List.replicate (rsD x 32) (0 : UInt8)) (Blk.new w5 _ 5) (rsD x 32) (by simp)
      simpa using h
    obtain ⟨w6, hw6⟩ : ∃ w', w5.alloc (.cells ((List.replicate (rsD x 32) (0 : UInt8)).map byt).toArray 5) = w' := ⟨_, rfl⟩
    rw [hw6] at bm6 ha6 ⊢
    have hoff_ha : Off (.slice (some ⟨w5.heap.size, 0, none⟩) (rsD x 32) (rsD x 32)) (List.replicate (rsD x 32) 0) qq := .inr fun e => by simp only [Value.ownBlock, Option.some.injEq] at e; omega
    have bp6 := bp5.on bm6
    have rt6 := rt5.below bm6
    have ov6 := ov5.below bm6
    have bq6 := bq5.on bm6
    have sb6 := sb5.trans (bm6.mono sb5.size)
    have sz6 := bm6.size
    refine WL.field rfl rfl rfl (f33_3 qq 0 _) ?_
    obtain ⟨w7, s7, bq7, f7⟩ := stPkB bq6 ⟨kp1.l, kp1.d⟩ _ ha6.sl
    refine WL.store rfl rfl rfl s7 ?_
    have bp7 := bp6.fx f7 (fun e => by omega)
    have rt7 := rt6.fx f7 hoffq
    have ov7 := ov6.fx f7 (fun k hk e => by have hk : k = qq := hk; have := hlt_ov k e; omega)
    have ha7 := ha6.fxo f7 (fun k hk => by have hk : k = qq := hk; rw [hk]; exact hoff_ha)
    have sb7 := sb6.trans (f7.low (by omega) sb6.size)
    have sz7 := f7.size
    have okq7 : Pk.ok ⟨p1.k, p1.hl, p1.hd, .slice (some ⟨w5.heap.size, 0, none⟩) (rsD x 32) (rsD x 32)⟩ := ⟨kp1.l, kp1.d⟩
    refine WL.done ?_
    refine EW.on ?_
    refine EW.seq ?_
    refine EW.region ?_
    refine WL.load rfl rfl rfl (ldPk bq7 okq7) ?_
    have hE7 : fltD ((p1.k)) p1.hl ((List.replicate (rsD x 32) (0 : UInt8)).length : Int) = 10 := flt_10 hkI hsI (by rw [List.length_replicate]; omega)
    refine WL.call [Pk.v ⟨(p1.k), p1.hl, p1.hd, (.slice (some ⟨w5.heap.size, 0, none⟩) (rsD x 32) (rsD x 32))⟩] enter9 rfl rfl rfl (pack_bad ⟨(p1.k), p1.hl, p1.hd, (.slice (some ⟨w5.heap.size, 0, none⟩) (rsD x 32) (rsD x 32))⟩ okq7 (List.replicate (rsD x 32) 0) w7 ha7 (by rw [hE7]; decide)) ?_
    rintro _ w8 ⟨rfl, be8⟩
    rw [hE7]
    have bp8 := bp7.on be8
    have rt8 := rt7.below be8
    have ov8 := ov7.below be8
    have bq8 := bq7.on be8
    have ha8 := ha7.below be8
    have sb8 := sb7.trans (be8.mono sb7.size)
    have sz8 := be8.size
    have okq8 := okq7
    refine ⟨_, rfl, ?_⟩
    first | refine WL.move rfl rfl rfl ?_
    first | refine WL.extract rfl rfl rfl (ext_2 _ _ _).1 ?_
    first | refine WL.extract rfl rfl rfl (ext_2 _ _ _).2 ?_
    first | refine WL.assign rfl rfl rfl ?_
    first | refine WL.assign rfl rfl rfl ?_
    refine WL.done ?_
    refine EW.on ?_
    refine EW.seq ?_
    refine EW.region ?_
    first | refine WL.move rfl rfl rfl ?_
    refine WL.call [.int .i64 x, .int .i64 100] enter10 rfl rfl rfl (rest_any x 100 (by decide) (by decide) _) ?_
    rintro _ wz ⟨rfl, hz⟩
    rw [hz]
    clear hz
    clear wz
    have hr8 := (rsD_lt x (show 0 < 100 by decide)).1
    refine ⟨_, rfl, ?_⟩
    refine WL.bin rfl rfl rfl rfl (int_add (c := ((545 + rsD x 100 : Nat) : Int)) (by rw [IntKind.wrap_i64]; omega) _ _ _) ?_
    refine WL.mks rfl rfl rfl rfl (run_mk22 _ (545 + rsD x 100) (by omega)) ?_
    have bm9 := below_new w8 (.cells ((List.replicate (545 + rsD x 100) (0 : UInt8)).map byt).toArray 5)
    have hb9 : Has (w8.alloc (.cells ((List.replicate (545 + rsD x 100) (0 : UInt8)).map byt).toArray 5)) (.slice (some ⟨w8.heap.size, 0, none⟩) (545 + rsD x 100) (545 + rsD x 100)) (List.replicate (545 + rsD x 100) 0) := by
      have h := Has.new (bs := List.replicate (545 + rsD x 100) (0 : UInt8)) (Blk.new w8 _ 5) (545 + rsD x 100) (by simp)
      simpa using h
    obtain ⟨w9, hw9⟩ : ∃ w', w8.alloc (.cells ((List.replicate (545 + rsD x 100) (0 : UInt8)).map byt).toArray 5) = w' := ⟨_, rfl⟩
    rw [hw9] at bm9 hb9 ⊢
    have hoff_hb : Off (.slice (some ⟨w8.heap.size, 0, none⟩) (545 + rsD x 100) (545 + rsD x 100)) (List.replicate (545 + rsD x 100) 0) qq := .inr fun e => by simp only [Value.ownBlock, Option.some.injEq] at e; omega
    have bp9 := bp8.on bm9
    have rt9 := rt8.below bm9
    have ov9 := ov8.below bm9
    have bq9 := bq8.on bm9
    have sb9 := sb8.trans (bm9.mono sb8.size)
    have sz9 := bm9.size
    refine WL.field rfl rfl rfl (f33_3 qq 0 _) ?_
    obtain ⟨w10, s10, bq10, f10⟩ := stPkB bq9 ⟨kp1.l, kp1.d⟩ _ hb9.sl
    refine WL.store rfl rfl rfl s10 ?_
    have bp10 := bp9.fx f10 (fun e => by omega)
    have rt10 := rt9.fx f10 hoffq
    have ov10 := ov9.fx f10 (fun k hk e => by have hk : k = qq := hk; have := hlt_ov k e; omega)
    have hb10 := hb9.fxo f10 (fun k hk => by have hk : k = qq := hk; rw [hk]; exact hoff_hb)
    have sb10 := sb9.trans (f10.low (by omega) sb9.size)
    have sz10 := f10.size
    have okq10 : Pk.ok ⟨p1.k, p1.hl, p1.hd, .slice (some ⟨w8.heap.size, 0, none⟩) (545 + rsD x 100) (545 + rsD x 100)⟩ := ⟨kp1.l, kp1.d⟩
    refine WL.done ?_
    refine EW.on ?_
    refine EW.seq ?_
    refine EW.region ?_
    refine WL.load rfl rfl rfl (ldPk bq10 okq10) ?_
    have hE9 : fltD (p1.k) p1.hl ((List.replicate (545 + rsD x 100) (0 : UInt8)).length : Int) = 5 := flt_5 hkI hsI (by rw [List.length_replicate]; omega)
    refine WL.call [Pk.v ⟨p1.k, p1.hl, p1.hd, (.slice (some ⟨w8.heap.size, 0, none⟩) (545 + rsD x 100) (545 + rsD x 100))⟩] enter9 rfl rfl rfl (pack_bad ⟨p1.k, p1.hl, p1.hd, (.slice (some ⟨w8.heap.size, 0, none⟩) (545 + rsD x 100) (545 + rsD x 100))⟩ okq10 (List.replicate (545 + rsD x 100) 0) w10 hb10 (by rw [hE9]; decide)) ?_
    rintro _ w11 ⟨rfl, be11⟩
    rw [hE9]
    have bp11 := bp10.on be11
    have rt11 := rt10.below be11
    have ov11 := ov10.below be11
    have bq11 := bq10.on be11
    have hb11 := hb10.below be11
    have sb11 := sb10.trans (be11.mono sb10.size)
    have sz11 := be11.size
    have okq11 := okq10
    refine ⟨_, rfl, ?_⟩
    first | refine WL.move rfl rfl rfl ?_
    first | refine WL.extract rfl rfl rfl (ext_2 _ _ _).1 ?_
    first | refine WL.extract rfl rfl rfl (ext_2 _ _ _).2 ?_
    first | refine WL.assign rfl rfl rfl ?_
    first | refine WL.assign rfl rfl rfl ?_
    refine WL.done ?_
    refine EW.on ?_
    refine EW.seq ?_
    refine EW.region ?_
    refine WL.buildN [(0, .int .u8 1)] rfl rfl rfl (bd23_1 _) ?_
    refine WL.buildN [(1, kv (1 :: List.replicate 31 0))] rfl rfl rfl (bd26_1 _) ?_
    refine WL.field rfl rfl rfl (f33_1 qq 0 _) ?_
    obtain ⟨w12, s12, bq12, f12⟩ := stPkL bq11 ⟨kp1.l, kp1.d⟩ badL badL_ok
    refine WL.store rfl rfl rfl s12 ?_
    have bp12 := bp11.fx f12 (fun e => by omega)
    have rt12 := rt11.fx f12 hoffq
    have ov12 := ov11.fx f12 (fun k hk e => by have hk : k = qq := hk; have := hlt_ov k e; omega)
    have hb12 := hb11.fxo f12 (fun k hk => by have hk : k = qq := hk; rw [hk]; exact hoff_hb)
    have sb12 := sb11.trans (f12.low (by omega) sb11.size)
    have sz12 := f12.size
    have okq12 : Pk.ok ⟨p1.k, badL, p1.hd, (.slice (some ⟨w8.heap.size, 0, none⟩) (545 + rsD x 100) (545 + rsD x 100))⟩ := ⟨badL_ok, kp1.d⟩
    refine WL.done ?_
    refine EW.on ?_
    refine EW.seq ?_
    refine EW.region ?_
    refine WL.load rfl rfl rfl (ldPk bq12 okq12) ?_
    have hE11 : fltD (p1.k) badL ((List.replicate (545 + rsD x 100) (0 : UInt8)).length : Int) = 141 := flt_141 hkI badL_no
    refine WL.call [Pk.v ⟨p1.k, badL, p1.hd, (.slice (some ⟨w8.heap.size, 0, none⟩) (545 + rsD x 100) (545 + rsD x 100))⟩] enter9 rfl rfl rfl (pack_bad ⟨p1.k, badL, p1.hd, (.slice (some ⟨w8.heap.size, 0, none⟩) (545 + rsD x 100) (545 + rsD x 100))⟩ okq12 (List.replicate (545 + rsD x 100) 0) w12 hb12 (by rw [hE11]; decide)) ?_
    rintro _ w13 ⟨rfl, be13⟩
    rw [hE11]
    have bp13 := bp12.on be13
    have rt13 := rt12.below be13
    have ov13 := ov12.below be13
    have bq13 := bq12.on be13
    have hb13 := hb12.below be13
    have sb13 := sb12.trans (be13.mono sb12.size)
    have sz13 := be13.size
    have okq13 := okq12
    refine ⟨_, rfl, ?_⟩
    first | refine WL.move rfl rfl rfl ?_
    first | refine WL.extract rfl rfl rfl (ext_2 _ _ _).1 ?_
    first | refine WL.extract rfl rfl rfl (ext_2 _ _ _).2 ?_
    first | refine WL.assign rfl rfl rfl ?_
    first | refine WL.assign rfl rfl rfl ?_
    refine WL.done ?_
    refine EW.on ?_
    refine EW.seq ?_
    refine EW.region ?_
    first | refine WL.move rfl rfl rfl ?_
    refine WL.call [.int .i64 x, .int .i64 100] enter10 rfl rfl rfl (rest_any x 100 (by decide) (by decide) _) ?_
    rintro _ wz ⟨rfl, hz⟩
    rw [hz]
    clear hz
    clear wz
    have hr12 := (rsD_lt x (show 0 < 100 by decide)).1
    refine ⟨_, rfl, ?_⟩
    refine WL.bin rfl rfl rfl rfl (int_add (c := ((3 + rsD x 100 : Nat) : Int)) (by rw [IntKind.wrap_i64]; omega) _ _ _) ?_
    refine WL.field rfl rfl rfl (f33_0 qq 0 _) ?_
    obtain ⟨w14, s14, bq14, f14⟩ := stPkK bq13 ((3 + rsD x 100 : Nat) : Int)
    refine WL.store rfl rfl rfl s14 ?_
    have bp14 := bp13.fx f14 (fun e => by omega)
    have rt14 := rt13.fx f14 hoffq
    have ov14 := ov13.fx f14 (fun k hk e => by have hk : k = qq := hk; have := hlt_ov k e; omega)
    have hb14 := hb13.fxo f14 (fun k hk => by have hk : k = qq := hk; rw [hk]; exact hoff_hb)
    have sb14 := sb13.trans (f14.low (by omega) sb13.size)
    have sz14 := f14.size
    have okq14 : Pk.ok ⟨((3 + rsD x 100 : Nat) : Int), badL, p1.hd, (.slice (some ⟨w8.heap.size, 0, none⟩) (545 + rsD x 100) (545 + rsD x 100))⟩ := ⟨badL_ok, kp1.d⟩
    refine WL.done ?_
    refine EW.on ?_
    refine EW.seq ?_
    refine EW.region ?_
    refine WL.load rfl rfl rfl (ldPk bq14 okq14) ?_
    have hE13 : fltD (((3 + rsD x 100 : Nat) : Int)) badL ((List.replicate (545 + rsD x 100) (0 : UInt8)).length : Int) = 103 := flt_103 (by omega)
    refine WL.call [Pk.v ⟨((3 + rsD x 100 : Nat) : Int), badL, p1.hd, (.slice (some ⟨w8.heap.size, 0, none⟩) (545 + rsD x 100) (545 + rsD x 100))⟩] enter9 rfl rfl rfl (pack_bad ⟨((3 + rsD x 100 : Nat) : Int), badL, p1.hd, (.slice (some ⟨w8.heap.size, 0, none⟩) (545 + rsD x 100) (545 + rsD x 100))⟩ okq14 (List.replicate (545 + rsD x 100) 0) w14 hb14 (by rw [hE13]; decide)) ?_
    rintro _ w15 ⟨rfl, be15⟩
    rw [hE13]
    have bp15 := bp14.on be15
    have rt15 := rt14.below be15
    have ov15 := ov14.below be15
    have bq15 := bq14.on be15
    have hb15 := hb14.below be15
    have sb15 := sb14.trans (be15.mono sb14.size)
    have sz15 := be15.size
    have okq15 := okq14
    refine ⟨_, rfl, ?_⟩
    first | refine WL.move rfl rfl rfl ?_
    first | refine WL.extract rfl rfl rfl (ext_2 _ _ _).1 ?_
    first | refine WL.extract rfl rfl rfl (ext_2 _ _ _).2 ?_
    first | refine WL.assign rfl rfl rfl ?_
    first | refine WL.assign rfl rfl rfl ?_
    refine WL.done ?_
    refine EW.on ?_
    refine EW.seq ?_
    refine EW.seq ?_
    refine EW.region ?_
    first | refine WL.move rfl rfl rfl ?_
    first | refine WL.bin rfl rfl rfl rfl (int_ne_f rfl _ _ _) ?_ | refine WL.bin rfl rfl rfl rfl (int_ne_t ‹_› _ _ _) ?_ | refine WL.bin rfl rfl rfl rfl (int_ne_f ‹_› _ _ _) ?_ | refine WL.bin rfl rfl rfl rfl (int_ne_t (by decide) _ _ _) ?_ | refine WL.bin rfl rfl rfl rfl (int_ne_d _ _ _ _ _) ?_
    first | refine WL.move rfl rfl rfl ?_
    first | refine WL.move rfl rfl rfl ?_ | refine WL.skip _ rfl rfl rfl ?_
    first | refine WL.bin rfl rfl rfl rfl (int_ne_f rfl _ _ _) ?_ | refine WL.bin rfl rfl rfl rfl (int_ne_t ‹_› _ _ _) ?_ | refine WL.bin rfl rfl rfl rfl (int_ne_f ‹_› _ _ _) ?_ | refine WL.bin rfl rfl rfl rfl (int_ne_t (by decide) _ _ _) ?_ | refine WL.bin rfl rfl rfl rfl (int_ne_d _ _ _ _ _) ?_ | refine WL.skip _ rfl rfl rfl ?_
    first | refine WL.pick rfl rfl rfl rfl ?_
    first | refine WL.move rfl rfl rfl ?_
    first | refine WL.move rfl rfl rfl ?_ | refine WL.skip _ rfl rfl rfl ?_
    first | refine WL.bin rfl rfl rfl rfl (int_ne_f rfl _ _ _) ?_ | refine WL.bin rfl rfl rfl rfl (int_ne_t ‹_› _ _ _) ?_ | refine WL.bin rfl rfl rfl rfl (int_ne_f ‹_› _ _ _) ?_ | refine WL.bin rfl rfl rfl rfl (int_ne_t (by decide) _ _ _) ?_ | refine WL.bin rfl rfl rfl rfl (int_ne_d _ _ _ _ _) ?_ | refine WL.skip _ rfl rfl rfl ?_
    first | refine WL.pick rfl rfl rfl rfl ?_
    first | refine WL.move rfl rfl rfl ?_
    first | refine WL.move rfl rfl rfl ?_ | refine WL.skip _ rfl rfl rfl ?_
    first | refine WL.bin rfl rfl rfl rfl (int_ne_f rfl _ _ _) ?_ | refine WL.bin rfl rfl rfl rfl (int_ne_t ‹_› _ _ _) ?_ | refine WL.bin rfl rfl rfl rfl (int_ne_f ‹_› _ _ _) ?_ | refine WL.bin rfl rfl rfl rfl (int_ne_t (by decide) _ _ _) ?_ | refine WL.bin rfl rfl rfl rfl (int_ne_d _ _ _ _ _) ?_ | refine WL.skip _ rfl rfl rfl ?_
    first | refine WL.pick rfl rfl rfl rfl ?_
    refine WL.done ?_
    refine EW.on ?_
    refine EW.cond_f rfl ?_
    refine EW.skip ?_
    refine EW.on ?_
    refine EW.seq ?_
    refine EW.region ?_
    first | refine WL.move rfl rfl rfl ?_
    obtain ⟨vc, w16, ap16, oc16, bep16⟩ := app_nil ov15.has (by omega) 31
    refine WL.app rfl rfl rfl rfl ap16 ?_
    have bp16 := bp15.on bep16
    have rt16 := rt15.below bep16
    have ov16 := ov15.below bep16
    have bq16 := bq15.on bep16
    have hb16 := hb15.below bep16
    have sb16 := sb15.trans (bep16.mono sb15.size)
    have sz16 := bep16.size
    have hB : w15.heap.size ≤ w16.heap.size := sz16
    first | refine WL.assign rfl rfl rfl ?_
    refine WL.done ?_
    refine EW.on ?_
    refine EW.seq ?_
    refine EW.region ?_
    first | refine WL.move rfl rfl rfl ?_
    refine WL.len rfl rfl rfl (oc16.len _ _) ?_
    refine WL.field rfl rfl rfl (f33_3 qp 0 _) ?_
    refine WL.load rfl rfl rfl (ldPkB bp16 kp1) ?_
    refine WL.len rfl rfl rfl (rt16.hs.len _ _) ?_
    refine WL.bin rfl rfl rfl rfl (int_sub (c := ((atD 2 + 62 : Nat) : Int)) (by rw [IntKind.wrap_i64]; omega) _ _ _) ?_
    refine WL.bin rfl rfl rfl rfl (int_sub (c := ((atD 2 + 60 : Nat) : Int)) (by rw [IntKind.wrap_i64]; omega) _ _ _) ?_
    first | refine WL.assign rfl rfl rfl ?_
    refine WL.done ?_
    refine EW.on ?_
    refine EW.seq ?_
    refine EW.region ?_
    first | refine WL.move rfl rfl rfl ?_
    first | refine WL.move rfl rfl rfl ?_
    first | refine WL.move rfl rfl rfl ?_
    first | refine WL.move rfl rfl rfl ?_
    refine WL.bin rfl rfl rfl rfl (int_add (c := ((atD 2 + 60 + 1 : Nat) : Int)) (by rw [IntKind.wrap_i64]; omega) _ _ _) ?_
    obtain ⟨ad17, w17, ix17, se17, oc17, bc17⟩ := oc16.setAt (by omega) (atD 2 + 60) (by first | (simp only [List.length_set]; omega) | omega) (255)
    refine WL.index rfl rfl rfl rfl (ix17 _) ?_
    refine WL.store rfl rfl rfl se17 ?_
    have bp17 := bp16.below bc17 (by omega)
    have sb17 := sb16.trans (bc17.mono (by omega))
    have sz17 := bc17.size
    obtain ⟨ad18, w18, ix18, se18, oc18, bc18⟩ := oc17.setAt (by omega) (atD 2 + 60 + 1) (by first | (simp only [List.length_set]; omega) | omega) (255)
    refine WL.index rfl rfl rfl rfl (ix18 _) ?_
    refine WL.store rfl rfl rfl se18 ?_
    have bp18 := bp17.below bc18 (by omega)
    have sb18 := sb17.trans (bc18.mono (by omega))
    have sz18 := bc18.size
    refine WL.done ?_
    refine EW.on ?_
    refine EW.seq ?_
    refine EW.region ?_
    first | refine WL.move rfl rfl rfl ?_
    refine WL.call [vc] enter11 rfl rfl rfl (unpack_any vc _ w18 oc18.has (by first | (simp only [List.length_set]; omega) | omega)) ?_
    rintro _ w19 ⟨pu, rfl, hbad, _, be19⟩
    have hpu := hbad (by rw [u19]; decide)
    rw [u19, hpu]
    clear hpu hbad
    have bp19 := bp18.on be19
    have oc19 := oc18.below be19
    have sb19 := sb18.trans (be19.mono sb18.size)
    have sz19 := be19.size
    refine ⟨_, rfl, ?_⟩
    first | refine WL.move rfl rfl rfl ?_
    first | refine WL.extract rfl rfl rfl (ext_2 _ _ _).1 ?_
    first | refine WL.extract rfl rfl rfl (ext_2 _ _ _).2 ?_
    first | refine WL.assign rfl rfl rfl ?_
    refine WL.done ?_
    refine EW.on ?_
    refine EW.seq ?_
    refine EW.region ?_
    first | refine WL.move rfl rfl rfl ?_
    first | refine WL.move rfl rfl rfl ?_
    first | refine WL.move rfl rfl rfl ?_
    first | refine WL.move rfl rfl rfl ?_
    refine WL.bin rfl rfl rfl rfl (int_add (c := ((atD 2 + 60 + 1 : Nat) : Int)) (by rw [IntKind.wrap_i64]; omega) _ _ _) ?_
    first | refine WL.move rfl rfl rfl ?_
    refine WL.call [.int .i64 x, .int .i64 32] enter10 rfl rfl rfl (rest_any x 32 (by decide) (by decide) _) ?_
    rintro _ wz ⟨rfl, hz⟩
    rw [hz]
    clear hz
    clear wz
    have hr20 := (rsD_lt x (show 0 < 32 by decide)).1
    refine ⟨_, rfl, ?_⟩
    refine WL.conv rfl rfl rfl (conv_b (x := rsD x 32) (by omega) _) ?_
    obtain ⟨ad20, w20, ix20, se20, oc20, bc20⟩ := oc19.setAt (by omega) (atD 2 + 60) (by first | (simp only [List.length_set]; omega) | omega) (0)
    refine WL.index rfl rfl rfl rfl (ix20 _) ?_
    refine WL.store rfl rfl rfl se20 ?_
    have bp20 := bp19.below bc20 (by omega)
    have sb20 := sb19.trans (bc20.mono (by omega))
    have sz20 := bc20.size
    obtain ⟨ad21, w21, ix21, se21, oc21, bc21⟩ := oc20.setAt (by omega) (atD 2 + 60 + 1) (by first | (simp only [List.length_set]; omega) | omega) (UInt8.ofNat (rsD x 32))
    refine WL.index rfl rfl rfl rfl (ix21 _) ?_
    refine WL.store rfl rfl rfl se21 ?_
    have bp21 := bp20.below bc21 (by omega)
    have sb21 := sb20.trans (bc21.mono (by omega))
    have sz21 := bc21.size
    refine WL.done ?_
    refine EW.on ?_
    refine EW.seq ?_
    refine EW.region ?_
    first | refine WL.move rfl rfl rfl ?_
    refine WL.call [vc] enter11 rfl rfl rfl (unpack_any vc _ w21 oc21.has (by first | (simp only [List.length_set]; omega) | omega)) ?_
    rintro _ w22 ⟨pu, rfl, hbad, _, be22⟩
    have hpu := hbad (by rw [u21]; decide)
    rw [u21, hpu]
    clear hpu hbad
    have bp22 := bp21.on be22
    have oc22 := oc21.below be22
    have sb22 := sb21.trans (be22.mono sb21.size)
    have sz22 := be22.size
    refine ⟨_, rfl, ?_⟩
    first | refine WL.move rfl rfl rfl ?_
    first | refine WL.extract rfl rfl rfl (ext_2 _ _ _).1 ?_
    first | refine WL.extract rfl rfl rfl (ext_2 _ _ _).2 ?_
    first | refine WL.assign rfl rfl rfl ?_
    refine WL.done ?_
    refine EW.on ?_
    refine EW.seq ?_
    refine EW.region ?_
    first | refine WL.assign rfl rfl rfl ?_
    refine WL.done ?_
    refine EW.on ?_
    refine EW.seq ?_
    refine EW.seq ?_
    refine EW.region ?_
    refine WL.field rfl rfl rfl (f33_0 qp 0 _) ?_
    refine WL.load rfl rfl rfl (ldPkK bp22) ?_
    rw [hkk]
    refine WL.bin rfl rfl rfl rfl (int_eq_f (by decide) _ _ _) ?_
    refine WL.done ?_
    refine EW.on ?_
    refine EW.cond_f rfl ?_
    refine EW.skip ?_
    refine EW.on ?_
    refine EW.seq ?_
    refine EW.region ?_
    first | refine WL.move rfl rfl rfl ?_
    refine WL.call [vc] enter11 rfl rfl rfl (unpack_any vc _ w22 oc22.has (by first | (simp only [List.length_set]; omega) | omega)) ?_
    rintro _ w23 ⟨pu, rfl, hbad, _, be23⟩
    have hpu := hbad (by rw [u26]; decide)
    rw [u26, hpu]
    clear hpu hbad
    have bp23 := bp22.on be23
    have oc23 := oc22.below be23
    have sb23 := sb22.trans (be23.mono sb22.size)
    have sz23 := be23.size
    refine ⟨_, rfl, ?_⟩
    first | refine WL.move rfl rfl rfl ?_
    first | refine WL.extract rfl rfl rfl (ext_2 _ _ _).1 ?_
    first | refine WL.extract rfl rfl rfl (ext_2 _ _ _).2 ?_
    first | refine WL.assign rfl rfl rfl ?_
    refine WL.done ?_
    refine EW.on ?_
    refine EW.seq ?_
    refine EW.seq ?_
    refine EW.region ?_
    first | refine WL.move rfl rfl rfl ?_
    first | refine WL.bin rfl rfl rfl rfl (int_ne_f rfl _ _ _) ?_ | refine WL.bin rfl rfl rfl rfl (int_ne_t ‹_› _ _ _) ?_ | refine WL.bin rfl rfl rfl rfl (int_ne_f ‹_› _ _ _) ?_ | refine WL.bin rfl rfl rfl rfl (int_ne_t (by decide) _ _ _) ?_ | refine WL.bin rfl rfl rfl rfl (int_ne_d _ _ _ _ _) ?_
    first | refine WL.move rfl rfl rfl ?_
    first | refine WL.move rfl rfl rfl ?_ | refine WL.skip _ rfl rfl rfl ?_
    first | refine WL.bin rfl rfl rfl rfl (int_ne_f rfl _ _ _) ?_ | refine WL.bin rfl rfl rfl rfl (int_ne_t ‹_› _ _ _) ?_ | refine WL.bin rfl rfl rfl rfl (int_ne_f ‹_› _ _ _) ?_ | refine WL.bin rfl rfl rfl rfl (int_ne_t (by decide) _ _ _) ?_ | refine WL.bin rfl rfl rfl rfl (int_ne_d _ _ _ _ _) ?_ | refine WL.skip _ rfl rfl rfl ?_
    first | refine WL.pick rfl rfl rfl rfl ?_
    first | refine WL.move rfl rfl rfl ?_
    first | refine WL.move rfl rfl rfl ?_ | refine WL.skip _ rfl rfl rfl ?_
    first | refine WL.move rfl rfl rfl ?_ | refine WL.skip _ rfl rfl rfl ?_
    first | refine WL.bin rfl rfl rfl rfl (int_ne_f rfl _ _ _) ?_ | refine WL.bin rfl rfl rfl rfl (int_ne_t ‹_› _ _ _) ?_ | refine WL.bin rfl rfl rfl rfl (int_ne_f ‹_› _ _ _) ?_ | refine WL.bin rfl rfl rfl rfl (int_ne_t (by decide) _ _ _) ?_ | refine WL.bin rfl rfl rfl rfl (int_ne_d _ _ _ _ _) ?_ | refine WL.skip _ rfl rfl rfl ?_
    first | refine WL.pick rfl rfl rfl rfl ?_
    refine WL.done ?_
    refine EW.on ?_
    refine EW.cond_f rfl ?_
    refine EW.skip ?_
    refine EW.on ?_
    refine EW.seq ?_
    refine EW.region ?_
    first | refine WL.move rfl rfl rfl ?_
    first | refine WL.move rfl rfl rfl ?_
    refine WL.call [.int .i64 x, .int .i64 200] enter10 rfl rfl rfl (rest_any x 200 (by decide) (by decide) _) ?_
    rintro _ wz ⟨rfl, hz⟩
    rw [hz]
    clear hz
    clear wz
    have hr29 := (rsD_lt x (show 0 < 200 by decide)).1
    refine ⟨_, rfl, ?_⟩
    refine WL.conv rfl rfl rfl (conv_b (x := rsD x 200) (by omega) _) ?_
    refine WL.bin rfl rfl rfl rfl (add5 (by omega) _ _ _) ?_
    obtain ⟨ad24, w24, ix24, se24, oc24, bc24⟩ := oc23.setAt (by omega) (1) (by first | (simp only [List.length_set]; omega) | omega) (UInt8.ofNat (3 + rsD x 200))
    refine WL.index rfl rfl rfl rfl (ix24 _) ?_
    refine WL.store rfl rfl rfl se24 ?_
    have bp24 := bp23.below bc24 (by omega)
    have sb24 := sb23.trans (bc24.mono (by omega))
    have sz24 := bc24.size
    refine WL.done ?_
    refine EW.on ?_
    refine EW.seq ?_
    refine EW.region ?_
    first | refine WL.move rfl rfl rfl ?_
    refine WL.call [vc] enter11 rfl rfl rfl (unpack_any vc _ w24 oc24.has (by first | (simp only [List.length_set]; omega) | omega)) ?_
    rintro _ w25 ⟨pu, rfl, hbad, _, be25⟩
    have hpu := hbad (by rw [u30]; decide)
    rw [u30, hpu]
    clear hpu hbad
    have bp25 := bp24.on be25
    have oc25 := oc24.below be25
    have sb25 := sb24.trans (be25.mono sb24.size)
    have sz25 := be25.size
    refine ⟨_, rfl, ?_⟩
    first | refine WL.move rfl rfl rfl ?_
    first | refine WL.extract rfl rfl rfl (ext_2 _ _ _).1 ?_
    first | refine WL.extract rfl rfl rfl (ext_2 _ _ _).2 ?_
    first | refine WL.assign rfl rfl rfl ?_
    refine WL.done ?_
    refine EW.on ?_
    refine EW.seq ?_
    refine EW.seq ?_
    by_cases hv : v0 = 1
    · subst hv
      have u34 := (ver_no (c := List.set _ 1 (UInt8.ofNat (3 + rsD x 200))) (by rw [List.length_set]; exact Nat.le_trans (by omega) (Nat.le_of_eq hl26.symm)) (v := 0) (by decide)).1
      have u35 := (ver_no (c := List.set _ 1 (UInt8.ofNat (3 + rsD x 200))) (by rw [List.length_set]; exact Nat.le_trans (by omega) (Nat.le_of_eq hl26.symm)) (v := 0) (by decide)).2
      refine EW.region ?_
      first | refine WL.move rfl rfl rfl ?_
      refine WL.bin rfl rfl rfl rfl (eq5_t _ _ _) ?_
      refine WL.done ?_
      refine EW.on ?_
      refine EW.cond_t rfl ?_
      refine EW.region ?_
      first | refine WL.assign rfl rfl rfl ?_
      refine WL.done ?_
      refine EW.on ?_
      refine EW.seq ?_
      refine EW.region ?_
      first | refine WL.move rfl rfl rfl ?_
      first | refine WL.move rfl rfl rfl ?_
      obtain ⟨ad26, w26, ix26, se26, oc26, bc26⟩ := oc25.setAt (by omega) (0) (by first | (simp only [List.length_set]; omega) | omega) (0)
      refine WL.index rfl rfl rfl rfl (ix26 _) ?_
      refine WL.store rfl rfl rfl se26 ?_
      have bp26 := bp25.below bc26 (by omega)
      have sb26 := sb25.trans (bc26.mono (by omega))
      have sz26 := bc26.size
      refine WL.done ?_
      refine EW.on ?_
      refine EW.seq ?_
      refine EW.region ?_
      first | refine WL.move rfl rfl rfl ?_
      refine WL.call [vc] enter11 rfl rfl rfl (unpack_any vc _ w26 oc26.has (by first | (simp only [List.length_set]; omega) | omega)) ?_
      rintro _ w27 ⟨pu, rfl, hbad, _, be27⟩
      have hpu := hbad (by rw [u34]; decide)
      rw [u34, hpu]
      clear hpu hbad
      have bp27 := bp26.on be27
      have oc27 := oc26.below be27
      have sb27 := sb26.trans (be27.mono sb26.size)
      have sz27 := be27.size
      refine ⟨_, rfl, ?_⟩
      obtain ⟨wa27, w28, qu, ra28, rs28, bu28, bea28, hqu⟩ := new33 w27 Pk.z Pk.z_ok ⟨_, _, _, rfl⟩
      have bp28 := bp27.on bea28
      have oc28 := oc27.below bea28
      have sb28 := sb27.trans (bea28.mono sb27.size)
      have sz28 := bea28.size
      first | refine WL.move rfl rfl rfl ?_
      first | refine WL.extract rfl rfl rfl (ext_2 _ _ _).1 ?_
      first | refine WL.extract rfl rfl rfl (ext_2 _ _ _).2 ?_
      refine WL.new rfl rfl ra28 ?_
      refine WL.store rfl rfl rfl rs28 ?_
      first | refine WL.assign rfl rfl rfl ?_
      refine WL.done ?_
      refine EW.on ?_
      refine EW.seq ?_
      refine EW.region ?_
      first | refine WL.move rfl rfl rfl ?_
      refine WL.call [vc] enter12 rfl rfl rfl (roffer_any vc _ w28 oc28.has (by first | (simp only [List.length_set]; omega) | omega)) ?_
      rintro _ w29 ⟨rfl, be29⟩
      rw [u35]
      have bp29 := bp28.on be29
      have oc29 := oc28.below be29
      have sb29 := sb28.trans (be29.mono sb28.size)
      have sz29 := be29.size
      refine ⟨_, rfl, ?_⟩
      obtain ⟨wa29, w30, qv, ra30, rs30, bv30, bea30, hqv⟩ := new42 w29 (ofV _) (ofV_ok _)
      have bp30 := bp29.on bea30
      have oc30 := oc29.below bea30
      have sb30 := sb29.trans (bea30.mono sb29.size)
      have sz30 := bea30.size
      first | refine WL.move rfl rfl rfl ?_
      first | refine WL.extract rfl rfl rfl (ext_2 _ _ _).1 ?_
      first | refine WL.extract rfl rfl rfl (ext_2 _ _ _).2 ?_
      refine WL.new rfl rfl ra30 ?_
      refine WL.store rfl rfl rfl rs30 ?_
      first | refine WL.assign rfl rfl rfl ?_
      refine WL.done ?_
      refine EW.on ?_
      refine EW.seq ?_
      refine EW.region ?_
      first | refine WL.move rfl rfl rfl ?_
      first | refine WL.bin rfl rfl rfl rfl (int_eq_t rfl _ _ _) ?_ | refine WL.bin rfl rfl rfl rfl (int_eq_t ‹_› _ _ _) ?_ | refine WL.bin rfl rfl rfl rfl (int_eq_f ‹_› _ _ _) ?_ | refine WL.bin rfl rfl rfl rfl (int_eq_d _ _ _ _ _) ?_
      first | refine WL.move rfl rfl rfl ?_
      first | refine WL.move rfl rfl rfl ?_ | refine WL.skip _ rfl rfl rfl ?_
      first | refine WL.bin rfl rfl rfl rfl (int_eq_t rfl _ _ _) ?_ | refine WL.bin rfl rfl rfl rfl (int_eq_t ‹_› _ _ _) ?_ | refine WL.bin rfl rfl rfl rfl (int_eq_f ‹_› _ _ _) ?_ | refine WL.bin rfl rfl rfl rfl (int_eq_d _ _ _ _ _) ?_ | refine WL.skip _ rfl rfl rfl ?_
      first | refine WL.pick rfl rfl rfl rfl ?_
      first | refine WL.move rfl rfl rfl ?_
      first | refine WL.move rfl rfl rfl ?_ | refine WL.skip _ rfl rfl rfl ?_
      first | refine WL.bin rfl rfl rfl rfl (int_eq_t rfl _ _ _) ?_ | refine WL.bin rfl rfl rfl rfl (int_eq_t ‹_› _ _ _) ?_ | refine WL.bin rfl rfl rfl rfl (int_eq_f ‹_› _ _ _) ?_ | refine WL.bin rfl rfl rfl rfl (int_eq_d _ _ _ _ _) ?_ | refine WL.skip _ rfl rfl rfl ?_
      first | refine WL.pick rfl rfl rfl rfl ?_
      first | refine WL.assign rfl rfl rfl ?_
      refine WL.done ?_
      refine EW.on ?_
      refine EW.ret ?_
      exact EW.returns Try.results3 rfl ⟨rfl, sb30⟩
    · have u34 := (ver_no (c := List.set _ 1 (UInt8.ofNat (3 + rsD x 200))) (by rw [List.length_set]; exact Nat.le_trans (by omega) (Nat.le_of_eq hl26.symm)) (v := v0) hv).1
      have u35 := (ver_no (c := List.set _ 1 (UInt8.ofNat (3 + rsD x 200))) (by rw [List.length_set]; exact Nat.le_trans (by omega) (Nat.le_of_eq hl26.symm)) (v := v0) hv).2
      refine EW.region ?_
      first | refine WL.move rfl rfl rfl ?_
      refine WL.bin rfl rfl rfl rfl (eq5_f hv _ _ _) ?_
      refine WL.done ?_
      refine EW.on ?_
      refine EW.cond_f rfl ?_
      refine EW.skip ?_
      refine EW.on ?_
      refine EW.seq ?_
      refine EW.region ?_
      first | refine WL.move rfl rfl rfl ?_
      first | refine WL.move rfl rfl rfl ?_
      obtain ⟨ad26, w26, ix26, se26, oc26, bc26⟩ := oc25.setAt (by omega) (0) (by first | (simp only [List.length_set]; omega) | omega) (v0)
      refine WL.index rfl rfl rfl rfl (ix26 _) ?_
      refine WL.store rfl rfl rfl se26 ?_
      have bp26 := bp25.below bc26 (by omega)
      have sb26 := sb25.trans (bc26.mono (by omega))
      have sz26 := bc26.size
      refine WL.done ?_
      refine EW.on ?_
      refine EW.seq ?_
      refine EW.region ?_
      first | refine WL.move rfl rfl rfl ?_
      refine WL.call [vc] enter11 rfl rfl rfl (unpack_any vc _ w26 oc26.has (by first | (simp only [List.length_set]; omega) | omega)) ?_
      rintro _ w27 ⟨pu, rfl, hbad, _, be27⟩
      have hpu := hbad (by rw [u34]; decide)
      rw [u34, hpu]
      clear hpu hbad
      have bp27 := bp26.on be27
      have oc27 := oc26.below be27
      have sb27 := sb26.trans (be27.mono sb26.size)
      have sz27 := be27.size
      refine ⟨_, rfl, ?_⟩
      obtain ⟨wa27, w28, qu, ra28, rs28, bu28, bea28, hqu⟩ := new33 w27 Pk.z Pk.z_ok ⟨_, _, _, rfl⟩
      have bp28 := bp27.on bea28
      have oc28 := oc27.below bea28
      have sb28 := sb27.trans (bea28.mono sb27.size)
      have sz28 := bea28.size
      first | refine WL.move rfl rfl rfl ?_
      first | refine WL.extract rfl rfl rfl (ext_2 _ _ _).1 ?_
      first | refine WL.extract rfl rfl rfl (ext_2 _ _ _).2 ?_
      refine WL.new rfl rfl ra28 ?_
      refine WL.store rfl rfl rfl rs28 ?_
      first | refine WL.assign rfl rfl rfl ?_
      refine WL.done ?_
      refine EW.on ?_
      refine EW.seq ?_
      refine EW.region ?_
      first | refine WL.move rfl rfl rfl ?_
      refine WL.call [vc] enter12 rfl rfl rfl (roffer_any vc _ w28 oc28.has (by first | (simp only [List.length_set]; omega) | omega)) ?_
      rintro _ w29 ⟨rfl, be29⟩
      rw [u35]
      have bp29 := bp28.on be29
      have oc29 := oc28.below be29
      have sb29 := sb28.trans (be29.mono sb28.size)
      have sz29 := be29.size
      refine ⟨_, rfl, ?_⟩
      obtain ⟨wa29, w30, qv, ra30, rs30, bv30, bea30, hqv⟩ := new42 w29 (ofV _) (ofV_ok _)
      have bp30 := bp29.on bea30
      have oc30 := oc29.below bea30
      have sb30 := sb29.trans (bea30.mono sb29.size)
      have sz30 := bea30.size
      first | refine WL.move rfl rfl rfl ?_
      first | refine WL.extract rfl rfl rfl (ext_2 _ _ _).1 ?_
      first | refine WL.extract rfl rfl rfl (ext_2 _ _ _).2 ?_
      refine WL.new rfl rfl ra30 ?_
      refine WL.store rfl rfl rfl rs30 ?_
      first | refine WL.assign rfl rfl rfl ?_
      refine WL.done ?_
      refine EW.on ?_
      refine EW.seq ?_
      refine EW.region ?_
      first | refine WL.move rfl rfl rfl ?_
      first | refine WL.bin rfl rfl rfl rfl (int_eq_t rfl _ _ _) ?_ | refine WL.bin rfl rfl rfl rfl (int_eq_t ‹_› _ _ _) ?_ | refine WL.bin rfl rfl rfl rfl (int_eq_f ‹_› _ _ _) ?_ | refine WL.bin rfl rfl rfl rfl (int_eq_d _ _ _ _ _) ?_
      first | refine WL.move rfl rfl rfl ?_
      first | refine WL.move rfl rfl rfl ?_ | refine WL.skip _ rfl rfl rfl ?_
      first | refine WL.bin rfl rfl rfl rfl (int_eq_t rfl _ _ _) ?_ | refine WL.bin rfl rfl rfl rfl (int_eq_t ‹_› _ _ _) ?_ | refine WL.bin rfl rfl rfl rfl (int_eq_f ‹_› _ _ _) ?_ | refine WL.bin rfl rfl rfl rfl (int_eq_d _ _ _ _ _) ?_ | refine WL.skip _ rfl rfl rfl ?_
      first | refine WL.pick rfl rfl rfl rfl ?_
      first | refine WL.move rfl rfl rfl ?_
      first | refine WL.move rfl rfl rfl ?_ | refine WL.skip _ rfl rfl rfl ?_
      first | refine WL.bin rfl rfl rfl rfl (int_eq_t rfl _ _ _) ?_ | refine WL.bin rfl rfl rfl rfl (int_eq_t ‹_› _ _ _) ?_ | refine WL.bin rfl rfl rfl rfl (int_eq_f ‹_› _ _ _) ?_ | refine WL.bin rfl rfl rfl rfl (int_eq_d _ _ _ _ _) ?_ | refine WL.skip _ rfl rfl rfl ?_
      first | refine WL.pick rfl rfl rfl rfl ?_
      first | refine WL.assign rfl rfl rfl ?_
      refine WL.done ?_
      refine EW.on ?_
      refine EW.ret ?_
      exact EW.returns Try.results3 rfl ⟨rfl, sb30⟩
end Go.Proofs.Ytobfebpinkikdaa
