import Derived.Test.YtiefgmgjlhjjhaaDoorEc
set_option linter.unusedVariables false
set_option linter.unusedSimpArgs false
namespace Go.Proofs.YtiefgmgjlhjjhaaDoor
open Go.RowKit

attribute [local irreducible] sm sumOf cnt chk partB ptB lgL pM pI pN pA pS pC adI adW adE adL
theorem c24H (ao : Option Addr) (n c k : Nat) (hk : k ≤ n) (hc : n ≤ c) (W : World) : (Instr.sliceAt 24 (.slice ao n c) none (some (.int .i64 (k : Int))) none).run Tryd.prog W = .ok (cutV (.slice ao n c) 0 k) W := by
  have h2 : (k : Int) ≤ (c : Int) := by omega
  unfold cutV
  go_simp
  try simp
theorem Pu.az {id : Nat} {T : List UInt8} {mark : Int} {pa pb pz pm : List (Value × List UInt8)} (h : Pu id T mark pa pb pz pm) : pa.map (·.2) = pz.map (·.2) := by
  apply List.ext_getElem?
  intro i
  rw [List.getElem?_map, List.getElem?_map]
  rcases Nat.lt_or_ge i (cnt T) with hi | hi
  · have h1 := List.getElem?_eq_getElem (show i < pa.length by rw [h.la]; exact hi)
    have h2 := List.getElem?_eq_getElem (show i < pz.length by rw [h.lz]; exact hi)
    rw [h1, h2, Option.map_some, Option.map_some, h.ea _ _ h1, h.ez _ _ h2]
  · rw [List.getElem?_eq_none (by rw [h.la]; exact hi), List.getElem?_eq_none (by rw [h.lz]; exact hi)]
structure Dd where
  k : Nat
  E : List Me
  c : Nat
structure DdR (Wm : World) (p r id : Nat) (T : List UInt8) (y : Dd) (W : World) : Prop where
  le : y.k ≤ cnt T
  tr : Tr W p r 2 y.E y.c
  lc : Lc y.E 2 xN id T (fK y.k)
  be : Below Wm.heap.size Wm W
structure WdR (Wm : World) (p r s : Nat) (E : List Me) (c : Nat) (v : Value) (n i : Nat) (W : World) : Prop where
  le : i ≤ n
  ob : ∃ bs, bs.length = n ∧ Ob W s v bs
  tr : Tr W p r 2 E c
  be : Below Wm.heap.size Wm W
  sz : s ≤ W.heap.size
structure M2R (W6 : World) (v : Value) (n i : Nat) (W : World) : Prop where
  le : i ≤ n
  ob : ∃ l, l.length = n ∧ Oi W W6.heap.size v l
  be : Below W6.heap.size W6 W
set_option maxRecDepth 100000 in
set_option maxHeartbeats 16000000 in
theorem hands2 (w Wm : World) (id N : Nat) (mark : Int) (av bv zv mv : Value) (pa pb pz pm : List (Value × List UInt8)) (T : List UInt8) (hw : Below w.heap.size w Wm) (an : An Wm av bv zv mv pa pb pz pm) (pu : Pu id T mark pa pb pz pm) (hTe : T = lgL N 3) (hN : N ≤ 1000000) (hN2 : N ≤ 31808) (hid : id < 4294967296) : EW Tryd.prog 366 (sndN 11 (Tryd.f5.body.getD .skip)) (bodyPost Tryd.prog Tryd.f5 (fun e w' => e = .returned (.bool true) ∧ Below w.heap.size w w')) [(0, .int .i64 (N : Int)), (1, .int .i64 mark), (2, u32v id), (8, av), (10, bv), (12, zv), (16, mv)] Wm := by
  have hTl : T.length = N := by rw [hTe, lgL_len]
  have hT : T.length ≤ 31808 := by omega
  have hc64 : cnt T ≤ 64 := cnt_le (by omega)
  have hc1 := cnt_pos T
  refine EW.seq ?_
  refine EW.seq ?_
  refine EW.region ?_
  first | refine WL.move rfl rfl rfl ?_
  first | refine WL.move rfl rfl rfl ?_
  refine WL.call [av, zv] enter15 rfl rfl rfl (same_any av zv pa pz Wm an.a an.z pu.az (by rw [pu.la]; omega)) ?_
  rintro _ Wx ⟨rfl, lx⟩
  refine ⟨_, rfl, ?_⟩
  first | refine WL.un rfl rfl rfl (not_t _ _) ?_
  refine WL.done ?_
  refine EW.on ?_
  refine EW.cond_f rfl ?_
  refine EW.skip ?_
  refine EW.on ?_
  refine EW.seq ?_
  refine EW.region ?_
  refine WL.call [.int .i64 2] enter9 rfl rfl rfl (tnew_ok 2 Wx (by decide) (by decide)) ?_
  rintro _ Wy ⟨p, r, rfl, try_, ly, _, hrw0⟩
  refine ⟨_, rfl, ?_⟩
  replace try_ : Tr Wy p r 2 [] 0 := try_
  have hr : Wm.heap.size ≤ r := by have := lx.size; omega
  have my := bt lx ly
  first | refine WL.move rfl rfl rfl ?_
  first | refine WL.extract rfl rfl rfl (ext_2 _ _ _).1 ?_
  first | refine WL.extract rfl rfl rfl (ext_2 _ _ _).2 ?_
  first | refine WL.assign rfl rfl rfl ?_
  first | refine WL.assign rfl rfl rfl ?_
  refine WL.done ?_
  refine EW.on ?_
  refine EW.seq ?_
  refine EW.seq ?_
  refine EW.region ?_
  first | refine WL.move rfl rfl rfl ?_
  first | refine WL.bin rfl rfl rfl rfl (int_ne_f rfl _ _ _) ?_ | refine WL.bin rfl rfl rfl rfl (int_ne_t ‹_› _ _ _) ?_ | refine WL.bin rfl rfl rfl rfl (int_ne_f ‹_› _ _ _) ?_ | refine WL.bin rfl rfl rfl rfl (int_ne_t (by decide) _ _ _) ?_ | refine WL.bin rfl rfl rfl rfl (int_ne_d _ _ _ _ _) ?_
  first | refine WL.move rfl rfl rfl ?_
  first | refine WL.move rfl rfl rfl ?_ | refine WL.skip _ rfl rfl rfl ?_
  first | refine WL.bin rfl rfl rfl rfl (ptr_nn _ _ _ _) ?_ | refine WL.skip _ rfl rfl rfl ?_
  first | refine WL.pick rfl rfl rfl rfl ?_
  refine WL.done ?_
  refine EW.on ?_
  refine EW.cond_f rfl ?_
  refine EW.skip ?_
  refine EW.on ?_
  refine EW.seq ?_
  refine EW.seq ?_
  refine EW.region ?_
  first | refine WL.assign rfl rfl rfl ?_
  refine WL.done ?_
  refine EW.on ?_
  refine EW.block ?_
  refine EW.loop (fun y : Dd => [(0, .int .i64 (N : Int)), (1, .int .i64 mark), (2, u32v id), (8, av), (10, bv), (12, zv), (16, mv), (18, .pointer (some ⟨p, 0, none⟩)), (20, .int .i64 (y.k : Int))]) (DdR Wm p r id T) (fun y => cnt T - y.k) ⟨0, [], 0⟩ [0, 1, 2, 8, 10, 12, 16, 18, 20] rfl ⟨Nat.zero_le _, try_, .inl ⟨rfl, by show 0 < 2; decide, fun i => by simp [fK]⟩, my⟩ ?_
  rintro y WD hD
  show EW _ _ _ _ [(0, .int .i64 (N : Int)), (1, .int .i64 mark), (2, u32v id), (8, av), (10, bv), (12, zv), (16, mv), (18, .pointer (some ⟨p, 0, none⟩)), (20, .int .i64 (y.k : Int))] _
  have hDle := hD.le
  have s1 : IntKind.i64.wrap ((y.k : Int) + 1) = ((y.k + 1 : Nat) : Int) := by rw [IntKind.wrap_i64]; omega
  refine EW.seq ?_
  refine EW.seq ?_
  refine EW.region ?_
  first | refine WL.move rfl rfl rfl ?_
  first | refine WL.move rfl rfl rfl ?_
  refine WL.len rfl rfl rfl (an.a.len _ _) ?_
  rw [pu.la]
  refine WL.bin rfl rfl rfl rfl (int_lt_d _ _ _ _ _) ?_
  refine WL.done ?_
  refine EW.on ?_
  refine EW.cond_d rfl (fun h160 => ?_) (fun h160 => ?_)
  · have hk : y.k < cnt T := by omega
    obtain ⟨a_p, a_h⟩ : ∃ q, pa[y.k]? = some q := ⟨_, List.getElem?_eq_getElem (show y.k < pa.length by rw [pu.la]; omega)⟩
    obtain ⟨a_d, a_x, a_l, a_s⟩ := an.a.get a_h
    obtain ⟨z_p, z_h⟩ : ∃ q, pz[y.k]? = some q := ⟨_, List.getElem?_eq_getElem (show y.k < pz.length by rw [pu.lz]; omega)⟩
    obtain ⟨z_d, z_x, z_l, z_s⟩ := an.z.get z_h
    rw [pu.ea _ _ a_h] at a_s
    rw [pu.ez _ _ z_h] at z_s
    have hpl : (ptB id T y.k).length ≤ 512 := by rw [pt_len]; have := chk_le T y.k; omega
    refine EW.skip ?_
    refine EW.on ?_
    refine EW.seq ?_
    refine EW.block ?_
    refine EW.seq ?_
    refine EW.region ?_
    refine WL.bslN [] rfl rfl rfl (bsl22n _) ?_
    have l32 := below_new WD (.cells #[] 5)
    first | refine WL.move rfl rfl rfl ?_
    first | refine WL.move rfl rfl rfl ?_
    refine WL.index rfl rfl rfl rfl (a_x _) ?_
    refine WL.load rfl rfl rfl (a_l _ (bt hD.be l32)) ?_
    obtain ⟨w1v, W1, r1, ow1, be1⟩ := copy_new (a_s.below hD.be) (by omega) 24
    refine WL.app rfl rfl rfl rfl r1 ?_
    refine WL.bslN [(0, byt 8), (1, byt 8)] rfl rfl rfl (bsl24_2 8 8 W1) ?_
    have l2a := below_new W1 (.cells (([8, 8] : List UInt8).map byt).toArray 5)
    have hs2 := has_news W1 [8, 8]
    replace hs2 : Has (W1.alloc (.cells (([8, 8] : List UInt8).map byt).toArray 5)) (.slice (some ⟨W1.heap.size, 0, none⟩) 2 2) [8, 8] := hs2
    generalize W1.alloc (.cells (([8, 8] : List UInt8).map byt).toArray 5) = W1b at l2a hs2 ⊢
    have z1 := be1.size
    have z2 := l2a.size
    obtain ⟨wv, W2, r2, o2, f2, _⟩ := (ow1.ob.below l2a).push (by omega) _ [8, 8] hs2 (by simp; omega) 24
    refine WL.app rfl rfl rfl rfl r2 ?_
    have be2 : Below WD.heap.size WD W2 := (be1.trans (l2a.mono z1)).trans ((ow1.ob.below l2a).blkB (Nat.le_refl _) (by omega) f2)
    have tr2 := hD.tr.on be2
    have m2 := bt hD.be be2
    have an2 := an.on m2
    obtain ⟨wao, wcp, hwe, hwc⟩ := o2.slice'
    have hwl : (ptB id T y.k ++ [8, 8]).length = (ptB id T y.k).length + 2 := by simp
    have hcut := o2.has.cut 0 (ptB id T y.k).length (Nat.zero_le _) (by omega)
    rw [List.drop_zero, Nat.sub_zero, List.take_left] at hcut
    first | refine WL.assign rfl rfl rfl ?_
    refine WL.done ?_
    refine EW.on ?_
    refine EW.seq ?_
    refine EW.region ?_
    first | refine WL.move rfl rfl rfl ?_
    first | refine WL.move rfl rfl rfl ?_
    first | refine WL.move rfl rfl rfl ?_
    first | refine WL.move rfl rfl rfl ?_
    refine WL.index rfl rfl rfl rfl (a_x _) ?_
    refine WL.load rfl rfl rfl (a_l _ m2) ?_
    refine WL.len rfl rfl rfl (a_s.len _ _) ?_
    rw [hwe]
    refine WL.sliceH rfl rfl rfl rfl (c24H wao _ wcp _ (by omega) hwc _) ?_
    rw [← hwe]
    refine WL.call [.pointer (some ⟨p, 0, none⟩), sv xN, cutV wv 0 (ptB id T y.k).length] enter10 rfl rfl rfl (add_any p r 2 y.E y.c xN _ (ptB id T y.k) W2 tr2 hcut (by omega) an2.ks) ?_
    rintro _ W3 ⟨u3, c3, rfl, tr3, fx3, tb3⟩
    refine ⟨_, rfl, ?_⟩
    obtain ⟨a1, _, _, a4⟩ := add_new hD.lc (show nmB xN = true from rfl) hid hT hk (by simp [fK])
    rw [a1]
    rw [a4] at tr3 tb3
    have lc3 := hD.lc.up hid hT hk (by simp [fK]) u3 y.c
    rw [fK_upd] at lc3
    obtain ⟨E3, hE3⟩ : ∃ E3, E3 = upE y.E xN id (adQ y.E 2 xN (ptB id T y.k) u3) y.c := ⟨_, rfl⟩
    rw [← hE3] at tr3 lc3 tb3
    have hO : ∀ q, wv.ownBlock = some q → TrB E3 q := fun q hq => tb3 q (o2.lt hq).1 (hD.tr.offNew (o2.base q hq))
    have o3 := o2.fx fx3 (fun q hq e => by have e' : q = r := hq; rw [e'] at e; exact o2.neM tr2.mp.hp e)
    have m3 := fxBe m2 fx3 hr
    first | refine WL.move rfl rfl rfl ?_
    refine WL.extract rfl rfl rfl (ext_3 _ _ _ _).1 ?_
    refine WL.extract rfl rfl rfl (ext_3 _ _ _ _).2.1 ?_
    refine WL.extract rfl rfl rfl (ext_3 _ _ _ _).2.2 ?_
    first | refine WL.assign rfl rfl rfl ?_
    first | refine WL.assign rfl rfl rfl ?_
    first | refine WL.assign rfl rfl rfl ?_
    refine WL.done ?_
    refine EW.on ?_
    refine EW.seq ?_
    refine EW.seq ?_
    refine EW.ordB [(0, 0, 0), (1, 0, 0), (2, 0, 0), (3, 0, 0), (4, 0, 1), (5, 0, 0), (6, 0, 0), (7, 0, 0), (8, 0, 1), (9, 0, 1), (10, 0, 0), (11, 0, 0), (12, 0, 0)] (by kernel_rfl) rfl (by kernel_rfl) ?_
    simp only [opsZ, List.getD_cons_zero, List.getD_cons_succ]
    first | refine ZE.move rfl rfl rfl rfl sz0 ?_
    first | refine ZE.bin rfl rfl rfl rfl rfl sz0 (fun W => int_ne_f rfl W _ _) ?_ | refine ZE.bin rfl rfl rfl rfl rfl sz0 (fun W => int_ne_t ‹_› W _ _) ?_ | refine ZE.bin rfl rfl rfl rfl rfl sz0 (fun W => int_ne_f ‹_› W _ _) ?_ | refine ZE.bin rfl rfl rfl rfl rfl sz0 (fun W => int_ne_t (by decide) W _ _) ?_ | refine ZE.bin rfl rfl rfl rfl rfl sz0 (fun W => int_ne_d _ _ W _ _) ?_
    first | refine ZE.move rfl rfl rfl rfl sz0 ?_
    first | refine ZE.move rfl rfl rfl rfl sz0 ?_ | refine ZE.skip rfl rfl rfl sz0 ?_
    refine ZE.conv rfl rfl rfl rfl sz1 (fun W hW => (o3.below (hW.resolve_left (by decide))).has.convert) ?_
    first | refine ZE.move rfl rfl rfl rfl sz0 ?_ | refine ZE.skip rfl rfl rfl sz0 ?_
    first | refine ZE.move rfl rfl rfl rfl sz0 ?_ | refine ZE.skip rfl rfl rfl sz0 ?_
    refine ZE.index rfl rfl rfl rfl rfl sz0 (fun W => z_x W) ?_
    refine ZE.load rfl rfl rfl rfl sz1 (fun W hW => z_l W (bt m3 (hW.resolve_left (by decide)))) ?_
    refine ZE.conv rfl rfl rfl rfl sz1 (fun W hW => (z_s.below (bt m3 (hW.resolve_left (by decide)))).convert) ?_
    refine ZE.bin rfl rfl rfl rfl rfl sz0 (fun W => str_cat (ptB id T y.k) [8, 8] (by simp; omega) W _ _) ?_
    refine ZE.bin rfl rfl rfl rfl rfl sz0 (fun W => str_ne_d _ _ W _ _) ?_
    rw [show decide (¬ ptB id T y.k ++ [8, 8] = ptB id T y.k ++ [8, 8]) = false by simp]
    first | refine ZE.pick rfl rfl rfl rfl rfl sz0 ?_
    rintro W4 l4
    refine EW.on ?_
    refine EW.cond_f rfl ?_
    refine EW.skip ?_
    refine EW.on ?_
    refine EW.seq ?_
    refine EW.seq ?_
    refine EW.region ?_
    first | refine WL.assign rfl rfl rfl ?_
    refine WL.done ?_
    refine EW.on ?_
    refine EW.block ?_
    refine EW.loop (fun i : Nat => [(0, .int .i64 (N : Int)), (1, .int .i64 mark), (2, u32v id), (8, av), (10, bv), (12, zv), (16, mv), (18, .pointer (some ⟨p, 0, none⟩)), (20, .int .i64 (y.k : Int)), (21, wv), (25, .int .i64 (i : Int))]) (WdR Wm p r WD.heap.size E3 c3 wv ((ptB id T y.k).length + 2)) (fun i => (ptB id T y.k).length + 2 - i) 0 [0, 1, 2, 8, 10, 12, 16, 18, 20, 21, 25] rfl ⟨Nat.zero_le _, ⟨_, hwl, o3.below l4⟩, tr3.on l4, bt m3 l4, by have := be2.size; have := fx3.size; have := l4.size; omega⟩ ?_
    rintro i Wi hI
    show EW _ _ _ _ [(0, .int .i64 (N : Int)), (1, .int .i64 mark), (2, u32v id), (8, av), (10, bv), (12, zv), (16, mv), (18, .pointer (some ⟨p, 0, none⟩)), (20, .int .i64 (y.k : Int)), (21, wv), (25, .int .i64 (i : Int))] _
    have hIle := hI.le
    have si : IntKind.i64.wrap ((i : Int) + 1) = ((i + 1 : Nat) : Int) := by rw [IntKind.wrap_i64]; omega
    obtain ⟨BB, hBB, oi⟩ := hI.ob
    refine EW.seq ?_
    refine EW.seq ?_
    refine EW.region ?_
    first | refine WL.move rfl rfl rfl ?_
    first | refine WL.move rfl rfl rfl ?_
    refine WL.len rfl rfl rfl (oi.has.len _ _) ?_
    rw [hBB]
    refine WL.bin rfl rfl rfl rfl (int_lt_d _ _ _ _ _) ?_
    refine WL.done ?_
    refine EW.on ?_
    refine EW.cond_d rfl (fun h200 => ?_) (fun h200 => ?_)
    · have ht : i < BB.length := by omega
      obtain ⟨ad, w', ix, st, oi', f'⟩ := oi.setAtF i ht (byZ mark)
      refine EW.skip ?_
      refine EW.on ?_
      refine EW.seq ?_
      refine EW.block ?_
      refine EW.region ?_
      first | refine WL.move rfl rfl rfl ?_
      first | refine WL.move rfl rfl rfl ?_
      first | refine WL.move rfl rfl rfl ?_
      refine WL.conv rfl rfl rfl (conv_z _ _) ?_
      refine WL.index rfl rfl rfl rfl (ix _) ?_
      refine WL.store rfl rfl rfl st ?_
      refine WL.done ?_
      refine pn_block ?_
      refine EW.on ?_
      refine EW.region ?_
      first | refine WL.move rfl rfl rfl ?_
      refine WL.bin rfl rfl rfl rfl (int_add si _ _ _) ?_
      first | refine WL.assign rfl rfl rfl ?_
      refine WL.done ?_
      exact EW.again (i + 1) [0, 1, 2, 8, 10, 12, 16, 18, 20, 21, 25] rfl ⟨by omega, ⟨_, by rw [List.length_set]; exact hBB, oi'⟩, hI.tr.fxO oi hO f', hI.be.trans (oi.blkB hD.be.size (Nat.le_trans hD.be.size hI.sz) f'), Nat.le_trans hI.sz f'.size⟩ (by omega)
    · skip
      refine EW.exit ?_
      refine px_then ?_
      refine px_then ?_
      refine px_block ?_
      refine EW.on ?_
      refine EW.seq ?_
      refine EW.region ?_
      first | refine WL.move rfl rfl rfl ?_
      first | refine WL.move rfl rfl rfl ?_
      obtain ⟨d1, d2⟩ := lc3.fd (show nmB xN = true from rfl) (x := y.k) (by simp [fK])
      obtain ⟨m, hcm⟩ : ∃ m, cnt T = y.k + 1 + m := ⟨cnt T - (y.k + 1), by omega⟩
      have hmis : ((List.range (cnt T)).filter fun i => !(fK (y.k + 1) i)) = (List.range m).map (y.k + 1 + ·) := by rw [hcm]; exact fK_mis _ _
      obtain ⟨M, hM⟩ : ∃ M, M = nI ((List.range m).map (y.k + 1 + ·)) := ⟨_, rfl⟩
      have hMl : M.length = m := by rw [hM, nI_len]; simp
      have hMi : ∀ i, i < m → M[i]? = some ((y.k + 1 + i : Nat) : Int) := fun i hi => by rw [hM]; exact nI_at (by rw [List.getElem?_map, List.getElem?_range hi]; rfl)
      refine WL.call [.pointer (some ⟨p, 0, none⟩), sv xN, u32v id] enter11 rfl rfl rfl (missing_any p r 2 E3 c3 xN id Wi hI.tr) ?_
      rintro _ W6 ⟨m1v, rfl, om1, _, l6⟩
      refine ⟨_, rfl, ?_⟩
      replace om1 := om1 d1
      rw [d1]
      rw [d2.mis hc64, hmis, ← hM] at om1
      have hi1 := om1.hi
      have tr6 := hI.tr.on l6
      have m6 := bt hI.be l6
      first | refine WL.move rfl rfl rfl ?_
      first | refine WL.extract rfl rfl rfl (ext_2 _ _ _).1 ?_
      first | refine WL.extract rfl rfl rfl (ext_2 _ _ _).2 ?_
      first | refine WL.assign rfl rfl rfl ?_
      first | refine WL.assign rfl rfl rfl ?_
      refine WL.done ?_
      refine EW.on ?_
      refine EW.seq ?_
      refine EW.region ?_
      first | refine WL.move rfl rfl rfl ?_
      first | refine WL.move rfl rfl rfl ?_
      refine WL.call [.pointer (some ⟨p, 0, none⟩), sv xN, u32v id] enter11 rfl rfl rfl (missing_any p r 2 E3 c3 xN id W6 tr6) ?_
      rintro _ W7 ⟨m2v, rfl, om2, _, l7⟩
      refine ⟨_, rfl, ?_⟩
      replace om2 := om2 d1
      rw [d1]
      rw [d2.mis hc64, hmis, ← hM] at om2
      have sM1 : IntKind.i64.wrap ((cnt T : Int) - 1) = ((cnt T - 1 : Nat) : Int) := by rw [IntKind.wrap_i64]; omega
      have sM2 : IntKind.i64.wrap (((cnt T - 1 : Nat) : Int) - (y.k : Int)) = (m : Int) := by rw [IntKind.wrap_i64]; omega
      first | refine WL.move rfl rfl rfl ?_
      first | refine WL.extract rfl rfl rfl (ext_2 _ _ _).1 ?_
      first | refine WL.extract rfl rfl rfl (ext_2 _ _ _).2 ?_
      first | refine WL.assign rfl rfl rfl ?_
      first | refine WL.assign rfl rfl rfl ?_
      refine WL.done ?_
      refine EW.on ?_
      refine EW.seq ?_
      refine EW.seq ?_
      refine EW.region ?_
      first | refine WL.move rfl rfl rfl ?_
      first | refine WL.bin rfl rfl rfl rfl (int_ne_f rfl _ _ _) ?_ | refine WL.bin rfl rfl rfl rfl (int_ne_t ‹_› _ _ _) ?_ | refine WL.bin rfl rfl rfl rfl (int_ne_f ‹_› _ _ _) ?_ | refine WL.bin rfl rfl rfl rfl (int_ne_t (by decide) _ _ _) ?_ | refine WL.bin rfl rfl rfl rfl (int_ne_d _ _ _ _ _) ?_
      first | refine WL.move rfl rfl rfl ?_
      first | refine WL.move rfl rfl rfl ?_ | refine WL.skip _ rfl rfl rfl ?_
      first | refine WL.bin rfl rfl rfl rfl (int_ne_f rfl _ _ _) ?_ | refine WL.bin rfl rfl rfl rfl (int_ne_t ‹_› _ _ _) ?_ | refine WL.bin rfl rfl rfl rfl (int_ne_f ‹_› _ _ _) ?_ | refine WL.bin rfl rfl rfl rfl (int_ne_t (by decide) _ _ _) ?_ | refine WL.bin rfl rfl rfl rfl (int_ne_d _ _ _ _ _) ?_ | refine WL.skip _ rfl rfl rfl ?_
      first | refine WL.pick rfl rfl rfl rfl ?_
      first | refine WL.move rfl rfl rfl ?_
      first | refine WL.move rfl rfl rfl ?_ | refine WL.skip _ rfl rfl rfl ?_
      first | refine WL.len rfl rfl rfl (hi1.len _ _) ?_ | refine WL.skip _ rfl rfl rfl ?_
      first | refine WL.move rfl rfl rfl ?_ | refine WL.skip _ rfl rfl rfl ?_
      first | refine WL.len rfl rfl rfl (an.a.len _ _) ?_ | refine WL.skip _ rfl rfl rfl ?_
      rw [pu.la]
      refine WL.bin rfl rfl rfl rfl (int_sub sM1 _ _ _) ?_
      first | refine WL.move rfl rfl rfl ?_ | refine WL.skip _ rfl rfl rfl ?_
      refine WL.bin rfl rfl rfl rfl (int_sub sM2 _ _ _) ?_
      refine WL.bin rfl rfl rfl rfl (int_ne_f (by rw [hMl]) _ _ _) ?_
      first | refine WL.pick rfl rfl rfl rfl ?_
      first | refine WL.move rfl rfl rfl ?_
      first | refine WL.move rfl rfl rfl ?_ | refine WL.skip _ rfl rfl rfl ?_
      first | refine WL.len rfl rfl rfl (om2.hi.len _ _) ?_ | refine WL.skip _ rfl rfl rfl ?_
      first | refine WL.move rfl rfl rfl ?_ | refine WL.skip _ rfl rfl rfl ?_
      first | refine WL.len rfl rfl rfl (hi1.len _ _) ?_ | refine WL.skip _ rfl rfl rfl ?_
      refine WL.bin rfl rfl rfl rfl (int_ne_f rfl _ _ _) ?_
      first | refine WL.pick rfl rfl rfl rfl ?_
      refine WL.done ?_
      refine EW.on ?_
      refine EW.cond_f rfl ?_
      refine EW.skip ?_
      refine EW.on ?_
      refine EW.seq ?_
      refine EW.seq ?_
      refine EW.region ?_
      first | refine WL.assign rfl rfl rfl ?_
      refine WL.done ?_
      refine EW.on ?_
      refine EW.block ?_
      refine EW.loop (fun j : Nat => [(0, .int .i64 (N : Int)), (1, .int .i64 mark), (2, u32v id), (8, av), (10, bv), (12, zv), (16, mv), (18, .pointer (some ⟨p, 0, none⟩)), (20, .int .i64 (y.k : Int)), (26, m1v), (28, m2v), (30, .int .i64 (j : Int))]) (M2R W6 m2v m) (fun j => m - j) 0 [0, 1, 2, 8, 10, 12, 16, 18, 20, 26, 28, 30] rfl ⟨Nat.zero_le _, ⟨M, hMl, om2⟩, l7⟩ ?_
      rintro j Wj hJ
      show EW _ _ _ _ [(0, .int .i64 (N : Int)), (1, .int .i64 mark), (2, u32v id), (8, av), (10, bv), (12, zv), (16, mv), (18, .pointer (some ⟨p, 0, none⟩)), (20, .int .i64 (y.k : Int)), (26, m1v), (28, m2v), (30, .int .i64 (j : Int))] _
      have hJle := hJ.le
      have sj : IntKind.i64.wrap ((j : Int) + 1) = ((j + 1 : Nat) : Int) := by rw [IntKind.wrap_i64]; omega
      obtain ⟨LL, hLL, oj⟩ := hJ.ob
      refine EW.seq ?_
      refine EW.seq ?_
      refine EW.region ?_
      first | refine WL.move rfl rfl rfl ?_
      first | refine WL.move rfl rfl rfl ?_
      refine WL.len rfl rfl rfl (oj.hi.len _ _) ?_
      rw [hLL]
      refine WL.bin rfl rfl rfl rfl (int_lt_d _ _ _ _ _) ?_
      refine WL.done ?_
      refine EW.on ?_
      refine EW.cond_d rfl (fun h246 => ?_) (fun h246 => ?_)
      · have ht : j < LL.length := by omega
        obtain ⟨adj, wj, jx, js, oj', fj⟩ := oj.set ht (IntKind.i64.wrap (-mark))
        refine EW.skip ?_
        refine EW.on ?_
        refine EW.seq ?_
        refine EW.block ?_
        refine EW.region ?_
        first | refine WL.move rfl rfl rfl ?_
        first | refine WL.move rfl rfl rfl ?_
        first | refine WL.move rfl rfl rfl ?_
        refine WL.un rfl rfl rfl (neg_i _ rfl _) ?_
        refine WL.index rfl rfl rfl rfl (jx _) ?_
        refine WL.store rfl rfl rfl js ?_
        refine WL.done ?_
        refine pn_block ?_
        refine EW.on ?_
        refine EW.region ?_
        first | refine WL.move rfl rfl rfl ?_
        refine WL.bin rfl rfl rfl rfl (int_add sj _ _ _) ?_
        first | refine WL.assign rfl rfl rfl ?_
        refine WL.done ?_
        exact EW.again (j + 1) [0, 1, 2, 8, 10, 12, 16, 18, 20, 26, 28, 30] rfl ⟨by omega, ⟨_, by rw [List.length_set]; exact hLL, oj'⟩, hJ.be.trans (oj.blkB (Nat.le_refl _) hJ.be.size fj)⟩ (by omega)
      · skip
        refine EW.exit ?_
        refine px_then ?_
        refine px_then ?_
        refine px_block ?_
        refine EW.on ?_
        refine EW.seq ?_
        refine EW.region ?_
        first | refine WL.move rfl rfl rfl ?_
        first | refine WL.move rfl rfl rfl ?_
        refine WL.un rfl rfl rfl (neg_i _ rfl _) ?_
        obtain ⟨s48, Wa, v48, Wb, ra, rb, _, be48, _, _⟩ := oj.push hJ.be.size (IntKind.i64.wrap (-mark)) (by omega) 23
        refine WL.bslN [(0, .int .i64 (IntKind.i64.wrap (-mark)))] rfl rfl rfl ra ?_
        refine WL.app rfl rfl rfl rfl rb ?_
        have m48 := hJ.be.trans be48
        first | refine WL.assign rfl rfl rfl ?_
        refine WL.done ?_
        refine EW.on ?_
        refine EW.seq ?_
        refine EW.region ?_
        first | refine WL.assign rfl rfl rfl ?_
        refine WL.done ?_
        refine EW.on ?_
        refine EW.block ?_
        refine EW.loop (fun q : Nat => [(0, .int .i64 (N : Int)), (1, .int .i64 mark), (2, u32v id), (8, av), (10, bv), (12, zv), (16, mv), (18, .pointer (some ⟨p, 0, none⟩)), (20, .int .i64 (y.k : Int)), (26, m1v), (31, .int .i64 (q : Int))]) (KdR W6 m) (fun q => m - q) 0 [0, 1, 2, 8, 10, 12, 16, 18, 20, 26, 31] rfl ⟨Nat.zero_le _, m48⟩ ?_
        rintro q Wq hQ
        show EW _ _ _ _ [(0, .int .i64 (N : Int)), (1, .int .i64 mark), (2, u32v id), (8, av), (10, bv), (12, zv), (16, mv), (18, .pointer (some ⟨p, 0, none⟩)), (20, .int .i64 (y.k : Int)), (26, m1v), (31, .int .i64 (q : Int))] _
        have hQle := hQ.le
        have sq : IntKind.i64.wrap ((q : Int) + 1) = ((q + 1 : Nat) : Int) := by rw [IntKind.wrap_i64]; omega
        refine EW.seq ?_
        refine EW.seq ?_
        refine EW.region ?_
        first | refine WL.move rfl rfl rfl ?_
        first | refine WL.move rfl rfl rfl ?_
        refine WL.len rfl rfl rfl (hi1.len _ _) ?_
        rw [hMl]
        refine WL.bin rfl rfl rfl rfl (int_lt_d _ _ _ _ _) ?_
        refine WL.done ?_
        refine EW.on ?_
        refine EW.cond_d rfl (fun h262 => ?_) (fun h262 => ?_)
        · have ht : q < m := by omega
          obtain ⟨adq, q_x, q_l⟩ := hi1.getB (hMi q ht)
          have s3 : IntKind.i64.wrap (((y.k + 1 : Nat) : Int) + (q : Int)) = ((y.k + 1 + q : Nat) : Int) := by rw [IntKind.wrap_i64]; omega
          refine EW.skip ?_
          refine EW.on ?_
          refine EW.seq ?_
          refine EW.block ?_
          refine EW.seq ?_
          refine EW.region ?_
          first | refine WL.move rfl rfl rfl ?_
          first | refine WL.move rfl rfl rfl ?_
          refine WL.index rfl rfl rfl rfl (q_x _) ?_
          refine WL.load rfl rfl rfl (q_l _ hQ.be) ?_
          first | refine WL.move rfl rfl rfl ?_
          refine WL.bin rfl rfl rfl rfl (int_add s1 _ _ _) ?_
          first | refine WL.move rfl rfl rfl ?_
          refine WL.bin rfl rfl rfl rfl (int_add s3 _ _ _) ?_
          refine WL.bin rfl rfl rfl rfl (int_ne_f rfl _ _ _) ?_
          refine WL.done ?_
          refine EW.on ?_
          refine EW.cond_f rfl ?_
          refine EW.skip ?_
          refine pn_block ?_
          refine EW.on ?_
          refine EW.region ?_
          first | refine WL.move rfl rfl rfl ?_
          refine WL.bin rfl rfl rfl rfl (int_add sq _ _ _) ?_
          first | refine WL.assign rfl rfl rfl ?_
          refine WL.done ?_
          exact EW.again (q + 1) [0, 1, 2, 8, 10, 12, 16, 18, 20, 26, 31] rfl ⟨by omega, hQ.be⟩ (by omega)
        · skip
          refine EW.exit ?_
          refine px_then ?_
          refine px_then ?_
          refine px_block ?_
          refine pn_block ?_
          refine EW.on ?_
          refine EW.region ?_
          first | refine WL.move rfl rfl rfl ?_
          refine WL.bin rfl rfl rfl rfl (int_add s1 _ _ _) ?_
          first | refine WL.assign rfl rfl rfl ?_
          refine WL.done ?_
          exact EW.again ⟨y.k + 1, E3, c3⟩ [0, 1, 2, 8, 10, 12, 16, 18, 20] rfl ⟨hk, tr6.on hQ.be, lc3, bt m6 hQ.be⟩ (by show cnt T - (y.k + 1) < cnt T - y.k; omega)
  · have hyk : y.k = cnt T := by omega
    refine EW.exit ?_
    refine px_then ?_
    refine px_then ?_
    refine px_block ?_
    refine EW.on ?_
    exact EW.keep [0, 1, 2, 8, 10, 12, 16, 18] rfl (hands3 w Wm WD id N mark av bv zv mv pa pb pz pm T p r y.E y.c hw hD.be an pu hTe hN hN2 hc1 hD.tr (hyk ▸ hD.lc) hr)
end Go.Proofs.YtiefgmgjlhjjhaaDoor
