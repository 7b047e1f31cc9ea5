import Derived.Test.YtiefgmgjlhjjhaaDoorEd
set_option linter.unusedVariables false
set_option linter.unusedSimpArgs false
namespace Go.Proofs.YtiefgmgjlhjjhaaDoor
open Go.RowKit

attribute [local irreducible] sm sumOf cnt chk partB ptB lgL pM pI pN pA pS pC adI adW adE adL
theorem sp_length (id : Nat) (T : List UInt8) : (spP id T).length = cnt T := by unfold spP; rw [List.length_map, List.length_range]
theorem sp_of {id : Nat} {T : List UInt8} {j : Nat} {l : List UInt8} (h : (spP id T)[j]? = some l) : j < cnt T ∧ l = ptB id T j := by
  have hj : j < cnt T := by have := (List.getElem?_eq_some_iff.1 h).1; rwa [sp_length] at this
  rw [sp_at hj] at h
  exact ⟨hj, (Option.some.inj h).symm⟩
theorem br_make {wA w4 : World} {s2 gb : Nat} {vb : List Value} {id : Nat} {T : List UInt8} {mark : Int} (sb : Spl w4 s2 gb vb (spP id T)) (sbA : Spl wA s2 gb vb (spP id T)) : BR wA s2 w4.heap.size gb vb id T mark 0 0 (spP id T) wA :=
  ⟨sbA, Fx.refl _ _, sp_length id T, fun j l h => by rw [(sp_of h).2], fun j l t u _ _ h => by omega, fun j v q hv hq => by
    have hj : j < (spP id T).length := by rw [← sb.ln]; exact (List.getElem?_eq_some_iff.1 hv).1
    have ho := sb.ob j v _ hv (List.getElem?_eq_getElem hj)
    exact ⟨ho.base q hq, (ho.lt hq).1⟩⟩
theorem an_make {w w3 w4 w6 wA wB W : World} {b0 ga gb id : Nat} {va vb : List Value} {T : List UInt8} {mark : Int} {ls : List (List UInt8)} {yz ym : Nat × Value × List Value} (hK : Kst w) (L3 : Below w.heap.size w w3) (sa : Spl w3 b0 ga va (spP id T)) (l4 : Below w3.heap.size w3 w4) (l6 : Below w4.heap.size w4 w6) (hR : RsR w6 id T yz wA) (hyz : yz.1 = cnt T) (hB : BR wA w3.heap.size w4.heap.size gb vb id T mark (cnt T) 0 ls wB) (hC : CmR wA wB w3.heap.size w4.heap.size gb vb ls (byZ (IntKind.i64.wrap (mark + 50))) (cnt T) ym W) (hym : ym.1 = cnt T) :
    ∃ pa pb pz pm, An W (.slice (some ⟨ga, 0, none⟩) (cnt T) (cnt T)) (.slice (some ⟨gb, 0, none⟩) (cnt T) (cnt T)) yz.2.1 ym.2.1 pa pb pz pm ∧ Pu id T mark pa pb pz pm ∧ Below w.heap.size w W := by
  have z3 := L3.size
  have z4 := l4.size
  have z6 := l6.size
  have zA := hR.be.size
  have bA : Below w3.heap.size w3 wA := bt (bt l4 l6) hR.be
  have bW : Below w3.heap.size wA W := hC.fx.below (fun k hk e => by omega) bA.size
  have b3 : Below w3.heap.size w3 W := bA.trans bW
  have bw : Below w.heap.size w W := bt L3 b3
  have pA := (sa.on b3).parts
  rw [sp_length] at pA
  have zF : ∀ j, yz.2.1.ownBlock = some j → ¬ (w3.heap.size ≤ j ∧ j < w4.heap.size) := fun j hj e => by have := hR.ow.base j hj; omega
  have vzl : yz.2.2.length = (spP id T).length := by rw [hR.ln, hyz, sp_length]
  have pZ := (hR.ow.fx hC.fx zF).parts (ls := spP id T) vzl (fun i x l hx hl => by
    have hh := hR.hs i x hx
    rw [(sp_of hl).2]
    exact (hh.fx hC.fx (fun k e hk => by have := hh.base k hk; omega)).has)
  have vbl : vb.length = ls.length := hB.sp.ln
  have pB := blk_parts hC.bl vbl hC.hb
  rw [hB.ll] at pB
  have vml : ym.2.2.length = (ls.map (· ++ [byZ (IntKind.i64.wrap (mark + 50))])).length := by rw [List.length_map, hC.ln, hym, hB.ll]
  have pM := hC.ow.parts (ls := ls.map (· ++ [byZ (IntKind.i64.wrap (mark + 50))])) vml (fun i x l hx hl => by
    rw [List.getElem?_map, Option.map_eq_some_iff] at hl
    obtain ⟨l0, hl0, rfl⟩ := hl
    exact (hC.hs i x l0 hx hl0).1.has)
  refine ⟨_, _, _, _, ⟨hK.below bw hK.lt, pA, pB, pZ, pM⟩, ⟨?_, ?_, ?_, ?_, ?_, ?_, ?_, ?_, ?_⟩, bw⟩
  · rw [List.length_zip, sa.ln, Nat.min_self, sp_length]
  · intro i p hp
    exact (sp_of (List.getElem?_zip_eq_some.1 hp).2).2
  · rw [List.length_zip, vzl, Nat.min_self, sp_length]
  · intro i p hp
    exact (sp_of (List.getElem?_zip_eq_some.1 hp).2).2
  · rw [List.length_zip, vbl, Nat.min_self, hB.ll]
  · intro i p t u hp hu
    have hl := (List.getElem?_zip_eq_some.1 hp).2
    have hi : i < cnt T := by rw [← hB.ll]; exact (List.getElem?_eq_some_iff.1 hl).1
    exact hB.dn i _ t u hl hu (.inl hi)
  · intro i p hp
    have hl := (List.getElem?_zip_eq_some.1 hp).2
    rw [hB.ln i _ hl, pt_len]
    have := chk_le T i
    omega
  · rw [List.length_zip, vml, Nat.min_self, List.length_map, hB.ll]
  · intro i p q hp hq
    have hl := (List.getElem?_zip_eq_some.1 hp).2
    have hl2 := (List.getElem?_zip_eq_some.1 hq).2
    rw [List.getElem?_map, hl] at hl2
    exact (Option.some.inj hl2).symm
theorem cm_make {wA wB : World} {s2 s5 gb : Nat} {vb : List Value} {id : Nat} {T : List UInt8} {mark : Int} {k : Nat} {ls : List (List UInt8)} (hB : BR wA s2 s5 gb vb id T mark k 0 ls wB) (u5 : UInt8) (n : Nat) : CmR wA wB s2 s5 gb vb ls u5 n (0, .slice none 0 0, []) wB :=
  ⟨Nat.zero_le _, hB.sp.bl, fun j v l hv hl => (hB.sp.ob j v l hv hl).has, fun j v l _ hv hl => hB.sp.ob j v l hv hl, Lb.nil _ _ _ _, rfl, fun j x l hx => (by cases hx), hB.fx, Nat.le_refl _⟩
set_option maxRecDepth 100000 in
set_option maxHeartbeats 16000000 in
theorem hands_any (n mark : Int) (id : Nat) (w : World) (hn1 : -9223372036854775808 ≤ n) (hn2 : n ≤ 9223372036854775807) (hid : id < 4294967296) (hK : Kst w) : Calls Tryd.prog 5 #[.int .i64 n, .int .i64 mark, u32v id] w fun e w' => e = .returned (.bool true) ∧ Below w.heap.size w w' := by
  obtain ⟨r0, hr0⟩ := abs_i n hn1 hn2
  obtain ⟨N, hN⟩ : ∃ N, N = 498 + r0 % 900 := ⟨_, rfl⟩
  have hN1 : 498 ≤ N ∧ N ≤ 1397 := by omega
  have sN : IntKind.i64.wrap (498 + ((r0 % 900 : Nat) : Int)) = (N : Int) := by rw [IntKind.wrap_i64]; omega
  obtain ⟨T, hTe⟩ : ∃ T, T = lgL N 3 := ⟨_, rfl⟩
  have hTl : T.length = N := by rw [hTe, lgL_len]
  have hT : T.length ≤ 31808 := by omega
  have hc64 := cnt_le hT
  have hc2 : ¬ (cnt T : Int) < 2 := by unfold cnt; omega
  refine calls_of_args [.int .i64 n, .int .i64 mark, u32v id] Tryd.func5 rfl 366 Tryd.ntmps5 (by show 3 ≤ 366; decide) ?_
  refine EW.seq ?_
  refine EW.region ?_
  first | refine WL.assign rfl rfl rfl ?_
  refine WL.done ?_
  refine EW.on ?_
  refine EW.seq ?_
  refine EW.region ?_
  first | refine WL.move rfl rfl rfl ?_
  first | refine WL.move rfl rfl rfl ?_
  refine WL.bin rfl rfl rfl rfl (int_add rfl _ _ _) ?_
  refine WL.un rfl rfl rfl (neg_i _ rfl _) ?_
  refine WL.max rfl rfl rfl rfl (max_i _ _ _ _) ?_
  rw [hr0]
  refine WL.bin rfl rfl rfl rfl (rem_i _ _ (by decide) (mod_n r0 900) _ _ _) ?_
  refine WL.bin rfl rfl rfl rfl (int_add sN _ _ _) ?_
  first | refine WL.assign rfl rfl rfl ?_
  refine WL.done ?_
  refine EW.on ?_
  refine EW.seq ?_
  refine EW.region ?_
  first | refine WL.move rfl rfl rfl ?_
  refine WL.call [.int .i64 (N : Int), .int .i64 3] enter7 rfl rfl rfl (long_any N 3 (by omega) w) ?_
  rintro _ w1 ⟨tv0, rfl, oT, l1⟩
  refine ⟨_, rfl, ?_⟩
  rw [← hTe] at oT
  refine WL.bslN [(0, byt 9), (1, byt 9), (2, byt 9)] rfl rfl rfl (bsl24_3 9 9 9 w1) ?_
  have l1b := below_new w1 (.cells (([9, 9, 9] : List UInt8).map byt).toArray 5)
  have hs1 := has_news w1 [9, 9, 9]
  replace hs1 : Has (w1.alloc (.cells (([9, 9, 9] : List UInt8).map byt).toArray 5)) (.slice (some ⟨w1.heap.size, 0, none⟩) 3 3) [9, 9, 9] := hs1
  generalize w1.alloc (.cells (([9, 9, 9] : List UInt8).map byt).toArray 5) = w1b at l1b hs1 ⊢
  have z1 := l1.size
  have z1b := l1b.size
  obtain ⟨tv, w2, r2, o2, f2, _⟩ := (oT.below l1b).push (by omega) _ [9, 9, 9] hs1 (by simp; omega) 24
  refine WL.app rfl rfl rfl rfl r2 ?_
  have L2 : Below w.heap.size w w2 := (bt l1 l1b).trans ((oT.below l1b).blkB (Nat.le_refl _) (by omega) f2)
  obtain ⟨tao, tcp, hte, htc⟩ := o2.slice'
  have htl : (T ++ [9, 9, 9]).length = N + 3 := by simp [hTl]
  have hcut := o2.has.cut 0 N (Nat.zero_le _) (by omega)
  rw [List.drop_zero, Nat.sub_zero, List.take_left' hTl] at hcut
  first | refine WL.assign rfl rfl rfl ?_
  refine WL.done ?_
  refine EW.on ?_
  refine EW.seq ?_
  refine EW.region ?_
  first | refine WL.move rfl rfl rfl ?_
  first | refine WL.move rfl rfl rfl ?_
  first | refine WL.move rfl rfl rfl ?_
  rw [hte]
  refine WL.sliceH rfl rfl rfl rfl (c24H tao _ tcp N (by omega) htc _) ?_
  rw [← hte]
  refine WL.call [u32v id, cutV tv 0 N] enter8 rfl rfl rfl (split_ok id _ T w2 hcut hT (hK.below L2 hK.lt)) ?_
  rintro _ w3 ⟨ga, va, rfl, sa, l3⟩
  refine ⟨_, rfl, ?_⟩
  have L3 := bt L2 l3
  first | refine WL.move rfl rfl rfl ?_
  first | refine WL.extract rfl rfl rfl (ext_2 _ _ _).1 ?_
  first | refine WL.extract rfl rfl rfl (ext_2 _ _ _).2 ?_
  first | refine WL.assign rfl rfl rfl ?_
  first | refine WL.assign rfl rfl rfl ?_
  refine WL.done ?_
  refine EW.on ?_
  refine EW.seq ?_
  refine EW.region ?_
  first | refine WL.move rfl rfl rfl ?_
  first | refine WL.move rfl rfl rfl ?_
  first | refine WL.move rfl rfl rfl ?_
  rw [hte]
  refine WL.sliceH rfl rfl rfl rfl (c24H tao _ tcp N (by omega) htc _) ?_
  rw [← hte]
  refine WL.call [u32v id, cutV tv 0 N] enter8 rfl rfl rfl (split_ok id _ T w3 (hcut.below l3) hT (hK.below L3 hK.lt)) ?_
  rintro _ w4 ⟨gb, vb, rfl, sb, l4⟩
  refine ⟨_, rfl, ?_⟩
  have o4 := (o2.below l3).below l4
  have gb5 := sb.bl.lt
  first | refine WL.move rfl rfl rfl ?_
  first | refine WL.extract rfl rfl rfl (ext_2 _ _ _).1 ?_
  first | refine WL.extract rfl rfl rfl (ext_2 _ _ _).2 ?_
  first | refine WL.assign rfl rfl rfl ?_
  first | refine WL.assign rfl rfl rfl ?_
  refine WL.done ?_
  refine EW.on ?_
  refine EW.seq ?_
  refine EW.seq ?_
  refine EW.ordB [(0, 0, 0), (1, 0, 0), (2, 0, 0), (3, 0, 0), (4, 0, 0), (5, 0, 0), (6, 0, 0), (7, 0, 0), (8, 0, 0), (9, 0, 0), (10, 0, 0), (11, 0, 0), (12, 0, 0), (13, 0, 1), (14, 0, 0), (15, 1, 1), (16, 2, 0), (17, 0, 0), (18, 0, 0), (19, 0, 0)] (by kernel_rfl) rfl (by kernel_rfl) ?_
  simp only [opsZ, List.getD_cons_zero, List.getD_cons_succ]
  first | refine ZE.move rfl rfl rfl rfl sz0 ?_
  first | refine ZE.bin rfl rfl rfl rfl rfl sz0 (fun W => int_ne_f rfl W _ _) ?_ | refine ZE.bin rfl rfl rfl rfl rfl sz0 (fun W => int_ne_t ‹_› W _ _) ?_ | refine ZE.bin rfl rfl rfl rfl rfl sz0 (fun W => int_ne_f ‹_› W _ _) ?_ | refine ZE.bin rfl rfl rfl rfl rfl sz0 (fun W => int_ne_t (by decide) W _ _) ?_ | refine ZE.bin rfl rfl rfl rfl rfl sz0 (fun W => int_ne_d _ _ W _ _) ?_
  first | refine ZE.move rfl rfl rfl rfl sz0 ?_
  first | refine ZE.move rfl rfl rfl rfl sz0 ?_ | refine ZE.skip rfl rfl rfl sz0 ?_
  first | refine ZE.bin rfl rfl rfl rfl rfl sz0 (fun W => int_ne_f rfl W _ _) ?_ | refine ZE.bin rfl rfl rfl rfl rfl sz0 (fun W => int_ne_t ‹_› W _ _) ?_ | refine ZE.bin rfl rfl rfl rfl rfl sz0 (fun W => int_ne_f ‹_› W _ _) ?_ | refine ZE.bin rfl rfl rfl rfl rfl sz0 (fun W => int_ne_t (by decide) W _ _) ?_ | refine ZE.bin rfl rfl rfl rfl rfl sz0 (fun W => int_ne_d _ _ W _ _) ?_ | refine ZE.skip rfl rfl rfl sz0 ?_
  first | refine ZE.pick rfl rfl rfl rfl rfl sz0 ?_
  first | refine ZE.move rfl rfl rfl rfl sz0 ?_
  first | refine ZE.move rfl rfl rfl rfl sz0 ?_ | refine ZE.skip rfl rfl rfl sz0 ?_
  refine ZE.len rfl rfl rfl rfl sz0 (fun W => len26 _ _ _ W _) ?_
  first | refine ZE.bin rfl rfl rfl rfl rfl sz0 (fun W => int_lt_t ‹_› W _ _) ?_ | refine ZE.bin rfl rfl rfl rfl rfl sz0 (fun W => int_lt_f ‹_› W _ _) ?_ | refine ZE.bin rfl rfl rfl rfl rfl sz0 (fun W => int_lt_d _ _ W _ _) ?_ | refine ZE.skip rfl rfl rfl sz0 ?_
  first | refine ZE.pick rfl rfl rfl rfl rfl sz0 ?_
  first | refine ZE.move rfl rfl rfl rfl sz0 ?_
  first | refine ZE.move rfl rfl rfl rfl sz0 ?_ | refine ZE.skip rfl rfl rfl sz0 ?_
  refine ZE.conv rfl rfl rfl rfl sz1 (fun W hW => (o4.below (hW.resolve_left (by decide))).has.convert) ?_
  first | refine ZE.move rfl rfl rfl rfl sz0 ?_ | refine ZE.skip rfl rfl rfl sz0 ?_
  refine ZE.callR [.int .i64 (N : Int), .int .i64 3] (fun v W => Ob W w4.heap.size v T ∧ Below w4.heap.size w4 W) enter7 rfl rfl rfl (fun _ _ h => .inr h.2) (fun W hW => (long_any N 3 (by omega) W).mono fun e w' ⟨v, h1, h2, h3⟩ => ⟨v, h1, hTe ▸ h2.lower hW.size, bt hW h3⟩) ?_
  rintro v80 ⟨_, _, _⟩
  refine ZE.conv rfl rfl rfl rfl szC (fun W hW => (szc_of hW).1.has.convert) ?_
  refine ZE.bin rfl rfl rfl rfl rfl sz0 (fun W => str_cat T [9, 9, 9] (by rw [hTl]; simp; omega) W _ _) ?_
  refine ZE.bin rfl rfl rfl rfl rfl sz0 (fun W => str_ne_d _ _ W _ _) ?_
  rw [show decide (¬ T ++ [9, 9, 9] = T ++ [9, 9, 9]) = false by simp]
  first | refine ZE.pick rfl rfl rfl rfl rfl sz0 ?_
  rintro w6 ⟨_, l6⟩
  refine EW.on ?_
  refine EW.cond_f rfl ?_
  refine EW.skip ?_
  refine EW.on ?_
  refine EW.seq ?_
  refine EW.region ?_
  first | refine WL.assign rfl rfl rfl ?_
  refine WL.done ?_
  refine EW.on ?_
  refine EW.seq ?_
  refine EW.seq ?_
  refine EW.region ?_
  first | refine WL.assign rfl rfl rfl ?_
  refine WL.done ?_
  refine EW.on ?_
  refine EW.block ?_
  refine EW.loop (fun y : Nat × Value × List Value => [(0, .int .i64 (N : Int)), (1, .int .i64 mark), (2, u32v id), (8, .slice (some ⟨ga, 0, none⟩) (cnt T) (cnt T)), (10, .slice (some ⟨gb, 0, none⟩) (cnt T) (cnt T)), (12, y.2.1), (13, .int .i64 (y.1 : Int))]) (RsR w6 id T) (fun y => cnt T - y.1) (0, .slice none 0 0, []) [0, 1, 2, 8, 10, 12, 13] rfl ⟨Nat.zero_le _, Lb.nil _ _ _ _, rfl, fun i x h => (by cases h), Below.refl _ _⟩ ?_
  rintro y W hR
  show EW _ _ _ _ [(0, .int .i64 (N : Int)), (1, .int .i64 mark), (2, u32v id), (8, .slice (some ⟨ga, 0, none⟩) (cnt T) (cnt T)), (10, .slice (some ⟨gb, 0, none⟩) (cnt T) (cnt T)), (12, y.2.1), (13, .int .i64 (y.1 : Int))] _
  have hle := hR.le
  have s1 : IntKind.i64.wrap ((y.1 : Int) + 1) = ((y.1 + 1 : Nat) : Int) := by rw [IntKind.wrap_i64]; omega
  refine EW.seq ?_
  refine EW.seq ?_
  refine EW.region ?_
  first | refine WL.move rfl rfl rfl ?_
  first | refine WL.move rfl rfl rfl ?_
  refine WL.len rfl rfl rfl (len26 _ _ _ _ _) ?_
  refine WL.bin rfl rfl rfl rfl (int_lt_d _ _ _ _ _) ?_
  refine WL.done ?_
  refine EW.on ?_
  refine EW.cond_d rfl (fun h88 => ?_) (fun h88 => ?_)
  · have ht : y.1 < cnt T := by omega
    obtain ⟨pv, pv1, pv2, pv3⟩ := (((sa.on l4).on l6).on hR.be).get ht
    refine EW.skip ?_
    refine EW.on ?_
    refine EW.seq ?_
    refine EW.block ?_
    refine EW.region ?_
    first | refine WL.move rfl rfl rfl ?_
    refine WL.bslN [] rfl rfl rfl (bsl22n _) ?_
    have l11 := below_new W (.cells #[] 5)
    first | refine WL.move rfl rfl rfl ?_
    first | refine WL.move rfl rfl rfl ?_
    refine WL.index rfl rfl rfl rfl (x26g _ _ _ ht _) ?_
    refine WL.load rfl rfl rfl (ldC ((l11.cell (cell_lt pv2)).trans pv2)) ?_
    obtain ⟨p3, W4, ra3, o3, be3⟩ := copy_new pv3.has (by rw [pt_len]; have := chk_le T y.1; omega) 24
    refine WL.app rfl rfl rfl rfl ra3 ?_
    refine WL.bslN [(0, p3)] rfl rfl rfl (bsl74_1 _ o3.has.sl W4) ?_
    have l5 := below_new W4 (.cells [p3].toArray 24)
    have nw := new1 (e := 24) W4 p3
    replace nw : Ow 24 1 (W4.alloc (.cells [p3].toArray 24)) (.slice (some ⟨W4.heap.size, 0, none⟩) 1 1) [[p3]] := nw
    generalize W4.alloc (.cells [p3].toArray 24) = W5 at l5 nw ⊢
    have hW5 := bt be3 l5
    obtain ⟨v6, W6, ra6, o6, be6, f6, _⟩ := (hR.ow.on hW5).app el24 (by have := hR.be.size; have := hW5.size; omega) nw.li (fun x hx cc hc => by rw [List.mem_singleton.1 hx] at hc; rw [List.mem_singleton.1 hc]; exact o3.has.one) (by rw [vr_len, hR.ln, List.length_singleton]; omega) 26
    refine WL.app rfl rfl rfl rfl ra6 ?_
    first | refine WL.assign rfl rfl rfl ?_
    refine WL.done ?_
    refine pn_block ?_
    refine EW.on ?_
    refine EW.region ?_
    first | refine WL.move rfl rfl rfl ?_
    first | refine WL.bin rfl rfl rfl rfl (int_add ‹_› _ _ _) ?_
    first | refine WL.assign rfl rfl rfl ?_
    refine WL.done ?_
    refine EW.again (y.1 + 1, v6, y.2.2 ++ [p3]) [0, 1, 2, 8, 10, 12, 13] rfl ⟨by show y.1 + 1 ≤ cnt T; omega, by show Lb 24 1 W6 _ v6 (vr (y.2.2 ++ [p3])); rw [vr_app]; exact o6, by show (y.2.2 ++ [p3]).length = y.1 + 1; rw [List.length_append, hR.ln]; rfl, fun i x hx => ?_, (bt hR.be hW5).trans be6⟩ (by show cnt T - (y.1 + 1) < cnt T - y.1; omega)
    have hx' : (y.2.2 ++ [p3])[i]? = some x := hx
    rcases Nat.lt_or_ge i y.1 with hi | hi
    · rw [List.getElem?_append_left (by rw [hR.ln]; exact hi)] at hx'
      have o5 := (hR.hs i x hx').below hW5
      exact o5.fx f6 (fun k hk e => (hR.ow.on hW5).neO o5 (by decide) hk e)
    · rw [List.getElem?_append_right (by rw [hR.ln]; exact hi), hR.ln] at hx'
      have hi0 : i = y.1 := by
        have := (List.getElem?_eq_some_iff.1 hx').1
        simp at this; omega
      subst hi0
      rw [Nat.sub_self] at hx'
      cases hx'
      have o5' : Ob W5 w6.heap.size p3 (ptB id T y.1) := (o3.below l5).ob.lower hR.be.size
      exact o5'.fx f6 (fun k hk e => (hR.ow.on hW5).neO o5' (by decide) hk e)
  · skip
    refine EW.exit ?_
    refine px_then ?_
    refine px_then ?_
    refine px_block ?_
    refine EW.on ?_
    refine EW.seq ?_
    refine EW.seq ?_
    refine EW.region ?_
    first | refine WL.assign rfl rfl rfl ?_
    refine WL.done ?_
    refine EW.on ?_
    refine EW.block ?_
    refine EW.loop (fun d : Nat × List (List UInt8) => [(0, .int .i64 (N : Int)), (1, .int .i64 mark), (2, u32v id), (8, .slice (some ⟨ga, 0, none⟩) (cnt T) (cnt T)), (10, .slice (some ⟨gb, 0, none⟩) (cnt T) (cnt T)), (12, y.2.1), (14, .int .i64 (d.1 : Int))]) (fun d WB => d.1 ≤ cnt T ∧ BR W w3.heap.size w4.heap.size gb vb id T mark d.1 0 d.2 WB) (fun d => cnt T - d.1) (0, spP id T) [0, 1, 2, 8, 10, 12, 14] rfl ⟨Nat.zero_le _, br_make sb ((sb.on l6).on hR.be)⟩ ?_
    rintro d WB hB
    show EW _ _ _ _ [(0, .int .i64 (N : Int)), (1, .int .i64 mark), (2, u32v id), (8, .slice (some ⟨ga, 0, none⟩) (cnt T) (cnt T)), (10, .slice (some ⟨gb, 0, none⟩) (cnt T) (cnt T)), (12, y.2.1), (14, .int .i64 (d.1 : Int))] _
    have hBle := hB.1
    have sd : IntKind.i64.wrap ((d.1 : Int) + 1) = ((d.1 + 1 : Nat) : Int) := by rw [IntKind.wrap_i64]; omega
    refine EW.seq ?_
    refine EW.seq ?_
    refine EW.region ?_
    first | refine WL.move rfl rfl rfl ?_
    first | refine WL.move rfl rfl rfl ?_
    refine WL.len rfl rfl rfl (len26 _ _ _ _ _) ?_
    refine WL.bin rfl rfl rfl rfl (int_lt_d _ _ _ _ _) ?_
    refine WL.done ?_
    refine EW.on ?_
    refine EW.cond_d rfl (fun h103 => ?_) (fun h103 => ?_)
    · have hkB : d.1 < cnt T := by omega
      refine EW.skip ?_
      refine EW.on ?_
      refine EW.seq ?_
      refine EW.block ?_
      refine EW.seq ?_
      refine EW.region ?_
      first | refine WL.assign rfl rfl rfl ?_
      refine WL.done ?_
      refine EW.on ?_
      refine EW.block ?_
      refine EW.loop (fun i : Nat × List (List UInt8) => [(0, .int .i64 (N : Int)), (1, .int .i64 mark), (2, u32v id), (8, .slice (some ⟨ga, 0, none⟩) (cnt T) (cnt T)), (10, .slice (some ⟨gb, 0, none⟩) (cnt T) (cnt T)), (12, y.2.1), (14, .int .i64 (d.1 : Int)), (15, .int .i64 (i.1 : Int))]) (fun i WI => i.1 ≤ (ptB id T d.1).length ∧ BR W w3.heap.size w4.heap.size gb vb id T mark d.1 i.1 i.2 WI) (fun i => (ptB id T d.1).length - i.1) (0, d.2) [0, 1, 2, 8, 10, 12, 14, 15] rfl ⟨Nat.zero_le _, hB.2⟩ ?_
      rintro i WI hI
      show EW _ _ _ _ [(0, .int .i64 (N : Int)), (1, .int .i64 mark), (2, u32v id), (8, .slice (some ⟨ga, 0, none⟩) (cnt T) (cnt T)), (10, .slice (some ⟨gb, 0, none⟩) (cnt T) (cnt T)), (12, y.2.1), (14, .int .i64 (d.1 : Int)), (15, .int .i64 (i.1 : Int))] _
      have hIle := hI.1
      have hpl : (ptB id T d.1).length ≤ 512 := by rw [pt_len]; have := chk_le T d.1; omega
      have si : IntKind.i64.wrap ((i.1 : Int) + 1) = ((i.1 + 1 : Nat) : Int) := by rw [IntKind.wrap_i64]; omega
      obtain ⟨v, l, hv, hl, hcl, hob⟩ := hI.2.get hkB
      refine EW.seq ?_
      refine EW.seq ?_
      refine EW.region ?_
      first | refine WL.move rfl rfl rfl ?_
      first | refine WL.move rfl rfl rfl ?_
      first | refine WL.move rfl rfl rfl ?_
      refine WL.index rfl rfl rfl rfl (x26g _ _ _ hkB _) ?_
      refine WL.load rfl rfl rfl (ldC hcl) ?_
      refine WL.len rfl rfl rfl (hob.has.len _ _) ?_
      rw [hI.2.ln _ _ hl]
      refine WL.bin rfl rfl rfl rfl (int_lt_d _ _ _ _ _) ?_
      refine WL.done ?_
      refine EW.on ?_
      refine EW.cond_d rfl (fun h112 => ?_) (fun h112 => ?_)
      · obtain ⟨ad, W', ix, st, hI'⟩ := hI.2.step hv hl (by rw [hI.2.ln _ _ hl]; omega)
        refine EW.skip ?_
        refine EW.on ?_
        refine EW.seq ?_
        refine EW.block ?_
        refine EW.region ?_
        first | refine WL.move rfl rfl rfl ?_
        first | refine WL.move rfl rfl rfl ?_
        refine WL.index rfl rfl rfl rfl (x26g _ _ _ hkB _) ?_
        refine WL.load rfl rfl rfl (ldC hcl) ?_
        first | refine WL.move rfl rfl rfl ?_
        first | refine WL.move rfl rfl rfl ?_
        first | refine WL.move rfl rfl rfl ?_
        refine WL.bin rfl rfl rfl rfl (int_add rfl _ _ _) ?_
        refine WL.conv rfl rfl rfl (conv_z _ _) ?_
        refine WL.index rfl rfl rfl rfl (ix _) ?_
        refine WL.store rfl rfl rfl st ?_
        refine WL.done ?_
        refine pn_block ?_
        refine EW.on ?_
        refine EW.region ?_
        first | refine WL.move rfl rfl rfl ?_
        refine WL.bin rfl rfl rfl rfl (int_add si _ _ _) ?_
        first | refine WL.assign rfl rfl rfl ?_
        refine WL.done ?_
        exact EW.again (i.1 + 1, _) [0, 1, 2, 8, 10, 12, 14, 15] rfl ⟨by show i.1 + 1 ≤ (ptB id T d.1).length; omega, hI'⟩ (by show (ptB id T d.1).length - (i.1 + 1) < (ptB id T d.1).length - i.1; omega)
      · skip
        refine EW.exit ?_
        refine px_then ?_
        refine px_then ?_
        refine px_block ?_
        refine pn_block ?_
        refine EW.on ?_
        refine EW.region ?_
        first | refine WL.move rfl rfl rfl ?_
        refine WL.bin rfl rfl rfl rfl (int_add sd _ _ _) ?_
        first | refine WL.assign rfl rfl rfl ?_
        refine WL.done ?_
        exact EW.again (d.1 + 1, i.2) [0, 1, 2, 8, 10, 12, 14] rfl ⟨hkB, hI.2.next (by omega)⟩ (by show cnt T - (d.1 + 1) < cnt T - d.1; omega)
    · have hdk : d.1 = cnt T := by omega
      refine EW.exit ?_
      refine px_then ?_
      refine px_then ?_
      refine px_block ?_
      refine EW.on ?_
      refine EW.seq ?_
      refine EW.region ?_
      first | refine WL.assign rfl rfl rfl ?_
      refine WL.done ?_
      refine EW.on ?_
      refine EW.seq ?_
      refine EW.seq ?_
      refine EW.region ?_
      first | refine WL.assign rfl rfl rfl ?_
      refine WL.done ?_
      refine EW.on ?_
      refine EW.block ?_
      refine EW.loop (fun x : Nat × Value × List Value => [(0, .int .i64 (N : Int)), (1, .int .i64 mark), (2, u32v id), (8, .slice (some ⟨ga, 0, none⟩) (cnt T) (cnt T)), (10, .slice (some ⟨gb, 0, none⟩) (cnt T) (cnt T)), (12, y.2.1), (16, x.2.1), (17, .int .i64 (x.1 : Int))]) (CmR W WB w3.heap.size w4.heap.size gb vb d.2 (byZ (IntKind.i64.wrap (mark + 50))) (cnt T)) (fun x => cnt T - x.1) (0, .slice none 0 0, []) [0, 1, 2, 8, 10, 12, 16, 17] rfl (cm_make hB.2 _ _) ?_
      rintro x WC hC
      show EW _ _ _ _ [(0, .int .i64 (N : Int)), (1, .int .i64 mark), (2, u32v id), (8, .slice (some ⟨ga, 0, none⟩) (cnt T) (cnt T)), (10, .slice (some ⟨gb, 0, none⟩) (cnt T) (cnt T)), (12, y.2.1), (16, x.2.1), (17, .int .i64 (x.1 : Int))] _
      have hCle := hC.le
      have sc : IntKind.i64.wrap ((x.1 : Int) + 1) = ((x.1 + 1 : Nat) : Int) := by rw [IntKind.wrap_i64]; omega
      refine EW.seq ?_
      refine EW.seq ?_
      refine EW.region ?_
      first | refine WL.move rfl rfl rfl ?_
      first | refine WL.move rfl rfl rfl ?_
      refine WL.len rfl rfl rfl (len26 _ _ _ _ _) ?_
      refine WL.bin rfl rfl rfl rfl (int_lt_d _ _ _ _ _) ?_
      refine WL.done ?_
      refine EW.on ?_
      refine EW.cond_d rfl (fun h128 => ?_) (fun h128 => ?_)
      · have hkC : x.1 < cnt T := by omega
        obtain ⟨cv, cs1, cW1, cv2, cW2, cs3, cW3, cm2, cW4, cc, rc1, rc2, rc3, rc4, hC'⟩ := CmR.step (k := x.1) (mv := x.2.1) (mvs := x.2.2) hC hkC (by rw [hB.2.sp.ln, hB.2.ll]) hB.2.ll (by omega) (fun j l hl => by rw [hB.2.ln _ _ hl, pt_len]; have := chk_le T j; omega) hB.2.sp.ap hB.2.sp.ag hB.2.ub gb5 (by have := l6.size; have := hR.be.size; have := hB.2.fx.size; omega) l4.size hB.2.fx.size
        refine EW.skip ?_
        refine EW.on ?_
        refine EW.seq ?_
        refine EW.block ?_
        refine EW.region ?_
        first | refine WL.move rfl rfl rfl ?_
        first | refine WL.move rfl rfl rfl ?_
        first | refine WL.move rfl rfl rfl ?_
        refine WL.index rfl rfl rfl rfl (x26g _ _ _ hkC _) ?_
        refine WL.load rfl rfl rfl (ldC cc) ?_
        first | refine WL.move rfl rfl rfl ?_
        refine WL.bin rfl rfl rfl rfl (int_add rfl _ _ _) ?_
        refine WL.conv rfl rfl rfl (conv_z _ _) ?_
        refine WL.bslN [(0, byt (byZ (IntKind.i64.wrap (mark + 50))))] rfl rfl rfl rc1 ?_
        refine WL.app rfl rfl rfl rfl rc2 ?_
        refine WL.bslN [(0, cv2)] rfl rfl rfl rc3 ?_
        refine WL.app rfl rfl rfl rfl rc4 ?_
        first | refine WL.assign rfl rfl rfl ?_
        refine WL.done ?_
        refine pn_block ?_
        refine EW.on ?_
        refine EW.region ?_
        first | refine WL.move rfl rfl rfl ?_
        refine WL.bin rfl rfl rfl rfl (int_add sc _ _ _) ?_
        first | refine WL.assign rfl rfl rfl ?_
        refine WL.done ?_
        exact EW.again (x.1 + 1, cm2, x.2.2 ++ [cv2]) [0, 1, 2, 8, 10, 12, 16, 17] rfl hC' (by show cnt T - (x.1 + 1) < cnt T - x.1; omega)
      · skip
        refine EW.exit ?_
        refine px_then ?_
        refine px_then ?_
        refine px_block ?_
        refine EW.on ?_
        obtain ⟨pa, pb, pz, pm, an, pu, bw⟩ := an_make hK L3 sa l4 l6 hR (by omega) (show BR W w3.heap.size w4.heap.size gb vb id T mark (cnt T) 0 d.2 WB from hdk ▸ hB.2) hC (by omega)
        exact EW.keep [0, 1, 2, 8, 10, 12, 16] rfl (hands2 w WC id N mark _ _ _ _ pa pb pz pm T bw an pu hTe (by omega) (by omega) hid)
end Go.Proofs.YtiefgmgjlhjjhaaDoor
