import Derived.Test.YtiefgmgjlhjjhaaDoorEa
set_option linter.unusedVariables false
set_option linter.unusedSimpArgs false
namespace Go.Proofs.YtiefgmgjlhjjhaaDoor
open Go.RowKit

attribute [local irreducible] sm sumOf cnt chk partB ptB lgL pM pI pN pA pS pC
def sndC : Code → Code
  | .seq _ b => b
  | c => c
def sndN : Nat → Code → Code
  | 0, c => c
  | n + 1, c => sndN n (sndC c)
theorem EW.keep {P : Program} {n : Nat} {c : Code} {Q : Exit → Act → World → Prop} {e e' : List (Nat × Value)} {w : World} (l : List Nat) (he : keepE e l = e') (h : EW P n c Q e' w) : EW P n c Q e w := fun a ha => h a (he ▸ ha.less (keepE_sub e l))
theorem neBB (u : UInt8) (W : World) (x y : Operand) : (do eqGuard .neq 5 x y (byt u) (byt u); binOp .neq 5 (byt u) (byt u) : Sem Value).run Tryd.prog W = .ok (.bool false) W := by
  unfold byt
  go_simp
def xN : List UInt8 := [120]
/-- What is known of the lists. -/
structure Pu (id : Nat) (T : List UInt8) (mark : Int) (pa pb pz pm : List (Value × List UInt8)) : Prop where
  la : pa.length = cnt T
  ea : ∀ (i : Nat) p, pa[i]? = some p → p.2 = ptB id T i
  lz : pz.length = cnt T
  ez : ∀ (i : Nat) p, pz[i]? = some p → p.2 = ptB id T i
  lb : pb.length = cnt T
  eb : ∀ (i : Nat) p (t : Nat) u, pb[i]? = some p → p.2[t]? = some u → u = byZ (IntKind.i64.wrap (mark + (i : Int)))
  sb : ∀ (i : Nat) p, pb[i]? = some p → p.2.length ≤ 1000
  lm : pm.length = cnt T
  em : ∀ (i : Nat) p q, pb[i]? = some p → pm[i]? = some q → q.2 = p.2 ++ [byZ (IntKind.i64.wrap (mark + 50))]
theorem Ob.push1 {w : World} {b : Nat} {v : Value} {bs : List UInt8} (h : Ob w b v bs) (hbw : b ≤ w.heap.size) (u : UInt8) (hl : bs.length ≤ 1000000) : ∃ s w1 v' w2, (Instr.buildSlice 24 1 [(0, byt u)].toArray).run Tryd.prog w = .ok s w1 ∧ (Builtin.append_ #[24, 24] 24 #[v, s]).run Tryd.prog w1 = .ok v' w2 ∧ Ob w2 b v' (bs ++ [u]) ∧ Below b w w2 := by
  have l1 := below_new w (.cells (([u] : List UInt8).map byt).toArray 5)
  obtain ⟨v', w2, r2, o2, f2, _⟩ := (h.below l1).push (Nat.le_trans hbw l1.size) _ [u] (has_news w [u]) (by simp; omega) 24
  exact ⟨_, _, v', w2, bsl24_1 u w, r2, o2, (l1.mono hbw).trans ((h.below l1).blkB (Nat.le_refl _) (Nat.le_trans hbw l1.size) f2)⟩
structure GtR (Wm : World) (s : Nat) (v : Value) (n i : Nat) (W : World) : Prop where
  le : i ≤ n
  ob : ∃ bs, bs.length = n ∧ Ob W s v bs
  be : Below Wm.heap.size Wm W
  sz : s ≤ W.heap.size
structure KdR (Wm : World) (n k : Nat) (W : World) : Prop where
  le : k ≤ n
  be : Below Wm.heap.size Wm W
set_option maxRecDepth 100000 in
set_option maxHeartbeats 16000000 in
theorem hands3 (w Wm W : World) (id N : Nat) (mark : Int) (av bv zv mv : Value) (pa pb pz pm : List (Value × List UInt8)) (T : List UInt8) (p r : Nat) (E : List Me) (c : Nat) (hw : Below w.heap.size w Wm) (hm : Below Wm.heap.size Wm W) (an : An Wm av bv zv mv pa pb pz pm) (pu : Pu id T mark pa pb pz pm) (hTe : T = lgL N 3) (hN : N ≤ 1000000) (hN2 : N ≤ 31808) (hc1 : 1 ≤ cnt T) (tr : Tr W p r 2 E c) (lc : Lc E 2 xN id T (fK (cnt T))) (hr : Wm.heap.size ≤ r) : EW Tryd.prog 366 (sndN 15 (Tryd.f5.body.getD .skip)) (bodyPost Tryd.prog Tryd.f5 (fun e w' => e = .returned (.bool true) ∧ Below w.heap.size w w')) [(0, .int .i64 (N : Int)), (1, .int .i64 mark), (2, u32v id), (8, av), (10, bv), (12, zv), (16, mv), (18, .pointer (some ⟨p, 0, none⟩))] W := by
  have hTl : T.length = N := by rw [hTe, lgL_len]
  have hc64 : cnt T ≤ 64 := cnt_le (by omega)
  have hal : ∀ i, i < cnt T → fK (cnt T) i = true := fun i hi => decide_eq_true hi
  obtain ⟨d1, d2⟩ := lc.fd (show nmB xN = true from rfl) (hal 0 (by omega))
  have k7 : tkE E xN id = 0 := by unfold tkE; rw [if_pos d1, d2.all hc64, decide_eq_true hal]; rfl
  obtain ⟨s0, hs0⟩ : ∃ s0, s0 = W.heap.size := ⟨_, rfl⟩
  have hsW : Wm.heap.size ≤ s0 := by rw [hs0]; exact hm.size
  refine EW.seq ?_
  refine EW.region ?_
  first | refine WL.move rfl rfl rfl ?_
  first | refine WL.move rfl rfl rfl ?_
  refine WL.call [.pointer (some ⟨p, 0, none⟩), sv xN, u32v id] enter12 rfl rfl rfl (take_any' p r 2 E c xN id W tr) ?_
  rintro _ W1 ⟨v1, rfl, tr1, o1, fx1⟩
  refine ⟨_, rfl, ?_⟩
  unfold tkT at o1
  rw [if_pos k7] at o1
  rw [k7]
  rw [d2.txt hc64 hal] at o1
  have m1 := fxBe hm fx1 hr
  rw [← hs0] at o1
  first | refine WL.move rfl rfl rfl ?_
  first | refine WL.extract rfl rfl rfl (ext_2 _ _ _).1 ?_
  first | refine WL.extract rfl rfl rfl (ext_2 _ _ _).2 ?_
  first | refine WL.assign rfl rfl rfl ?_
  first | refine WL.assign rfl rfl rfl ?_
  refine WL.done ?_
  refine EW.on ?_
  refine EW.seq ?_
  refine EW.seq ?_
  refine EW.ordB [(0, 0, 0), (1, 0, 0), (2, 0, 0), (3, 0, 0), (4, 0, 1), (5, 0, 0), (6, 1, 1), (7, 2, 0), (8, 0, 0), (9, 0, 0)] (by kernel_rfl) rfl (by kernel_rfl) ?_
  simp only [opsZ, List.getD_cons_zero, List.getD_cons_succ]
  first | refine ZE.move rfl rfl rfl rfl sz0 ?_
  first | refine ZE.bin rfl rfl rfl rfl rfl sz0 (fun W => int_ne_f rfl W _ _) ?_ | refine ZE.bin rfl rfl rfl rfl rfl sz0 (fun W => int_ne_t ‹_› W _ _) ?_ | refine ZE.bin rfl rfl rfl rfl rfl sz0 (fun W => int_ne_f ‹_› W _ _) ?_ | refine ZE.bin rfl rfl rfl rfl rfl sz0 (fun W => int_ne_t (by decide) W _ _) ?_ | refine ZE.bin rfl rfl rfl rfl rfl sz0 (fun W => int_ne_d _ _ W _ _) ?_
  first | refine ZE.move rfl rfl rfl rfl sz0 ?_
  first | refine ZE.move rfl rfl rfl rfl sz0 ?_ | refine ZE.skip rfl rfl rfl sz0 ?_
  refine ZE.conv rfl rfl rfl rfl sz1 (fun W hW => (o1.below (hW.resolve_left (by decide))).has.convert) ?_
  first | refine ZE.move rfl rfl rfl rfl sz0 ?_ | refine ZE.skip rfl rfl rfl sz0 ?_
  refine ZE.callR [.int .i64 (N : Int), .int .i64 3] (fun v W => Ob W W1.heap.size v T ∧ Below W1.heap.size W1 W) enter7 rfl rfl rfl (fun _ _ h => .inr h.2) (fun W hW => (long_any N 3 hN W).mono fun e w' ⟨v, h1, h2, h3⟩ => ⟨v, h1, hTe ▸ h2.lower hW.size, bt hW h3⟩) ?_
  rintro v286 ⟨_, _, _⟩
  refine ZE.conv rfl rfl rfl rfl szC (fun W hW => (szc_of hW).1.has.convert) ?_
  refine ZE.bin rfl rfl rfl rfl rfl sz0 (fun W => str_ne_d _ _ W _ _) ?_
  rw [show decide (¬ T = T) = false by simp]
  first | refine ZE.pick rfl rfl rfl rfl rfl sz0 ?_
  rintro W2 ⟨_, l2⟩
  refine EW.on ?_
  refine EW.cond_f rfl ?_
  refine EW.skip ?_
  refine EW.on ?_
  refine EW.seq ?_
  refine EW.seq ?_
  refine EW.region ?_
  first | refine WL.assign rfl rfl rfl ?_
  refine WL.done ?_
  refine EW.on ?_
  refine EW.block ?_
  refine EW.loop (fun i : Nat => [(1, .int .i64 mark), (8, av), (10, bv), (12, zv), (16, mv), (32, v1), (34, .int .i64 (i : Int))]) (GtR Wm s0 v1 N) (fun i => N - i) 0 [1, 8, 10, 12, 16, 32, 34] rfl ⟨Nat.zero_le _, ⟨T, hTl, (o1.below l2)⟩, bt m1 l2, by have := fx1.size; have := l2.size; omega⟩ ?_
  rintro i W hR
  show EW _ _ _ _ [(1, .int .i64 mark), (8, av), (10, bv), (12, zv), (16, mv), (32, v1), (34, .int .i64 (i : Int))] _
  have hle := hR.le
  have s1 : IntKind.i64.wrap ((i : Int) + 1) = ((i + 1 : Nat) : Int) := by rw [IntKind.wrap_i64]; omega
  obtain ⟨BB, hBB, oi⟩ := hR.ob
  refine EW.seq ?_
  refine EW.seq ?_
  refine EW.region ?_
  first | refine WL.move rfl rfl rfl ?_
  first | refine WL.move rfl rfl rfl ?_
  refine WL.len rfl rfl rfl (oi.has.len _ _) ?_
  rw [hBB]
  refine WL.bin rfl rfl rfl rfl (int_lt_d _ _ _ _ _) ?_
  refine WL.done ?_
  refine EW.on ?_
  refine EW.cond_d rfl (fun h293 => ?_) (fun h293 => ?_)
  · have ht : i < BB.length := by omega
    obtain ⟨ad, w', ix, st, oi', f'⟩ := oi.setAtF i ht (byZ mark)
    refine EW.skip ?_
    refine EW.on ?_
    refine EW.seq ?_
    refine EW.block ?_
    refine EW.region ?_
    first | refine WL.move rfl rfl rfl ?_
    first | refine WL.move rfl rfl rfl ?_
    first | refine WL.move rfl rfl rfl ?_
    refine WL.conv rfl rfl rfl (conv_z _ _) ?_
    refine WL.index rfl rfl rfl rfl (ix _) ?_
    refine WL.store rfl rfl rfl st ?_
    refine WL.done ?_
    refine pn_block ?_
    refine EW.on ?_
    refine EW.region ?_
    first | refine WL.move rfl rfl rfl ?_
    first | refine WL.bin rfl rfl rfl rfl (int_add ‹_› _ _ _) ?_
    first | refine WL.assign rfl rfl rfl ?_
    refine WL.done ?_
    exact EW.again (i + 1) [1, 8, 10, 12, 16, 32, 34] rfl ⟨by omega, ⟨_, by rw [List.length_set]; exact hBB, oi'⟩, hR.be.trans (oi.blkB hsW (Nat.le_trans hsW hR.sz) f'), Nat.le_trans hR.sz f'.size⟩ (by omega)
  · skip
    refine EW.exit ?_
    refine px_then ?_
    refine px_then ?_
    refine px_block ?_
    refine EW.on ?_
    refine EW.seq ?_
    refine EW.region ?_
    first | refine WL.move rfl rfl rfl ?_
    first | refine WL.move rfl rfl rfl ?_
    refine WL.bin rfl rfl rfl rfl (int_add rfl _ _ _) ?_
    refine WL.conv rfl rfl rfl (conv_z _ _) ?_
    obtain ⟨s61, W61, v61, W62, ra, rb, _, be61⟩ := oi.push1 hR.sz (byZ (IntKind.i64.wrap (mark + 1))) (by omega)
    refine WL.bslN [(0, byt (byZ (IntKind.i64.wrap (mark + 1))))] rfl rfl rfl ra ?_
    refine WL.app rfl rfl rfl rfl rb ?_
    have m62 := hR.be.trans (be61.mono hsW)
    first | refine WL.assign rfl rfl rfl ?_
    refine WL.done ?_
    refine EW.on ?_
    refine EW.seq ?_
    refine EW.seq ?_
    refine EW.region ?_
    first | refine WL.assign rfl rfl rfl ?_
    refine WL.done ?_
    refine EW.on ?_
    refine EW.block ?_
    refine EW.loop (fun k : Nat => [(1, .int .i64 mark), (8, av), (10, bv), (12, zv), (16, mv), (35, .int .i64 (k : Int))]) (KdR Wm (cnt T)) (fun k => cnt T - k) 0 [1, 8, 10, 12, 16, 35] rfl ⟨Nat.zero_le _, m62⟩ ?_
    rintro k W hR
    show EW _ _ _ _ [(1, .int .i64 mark), (8, av), (10, bv), (12, zv), (16, mv), (35, .int .i64 (k : Int))] _
    have hle := hR.le
    have s1 : IntKind.i64.wrap ((k : Int) + 1) = ((k + 1 : Nat) : Int) := by rw [IntKind.wrap_i64]; omega
    refine EW.seq ?_
    refine EW.seq ?_
    refine EW.region ?_
    first | refine WL.move rfl rfl rfl ?_
    first | refine WL.move rfl rfl rfl ?_
    refine WL.len rfl rfl rfl (an.a.len _ _) ?_
    rw [pu.la]
    refine WL.bin rfl rfl rfl rfl (int_lt_d _ _ _ _ _) ?_
    refine WL.done ?_
    refine EW.on ?_
    refine EW.cond_d rfl (fun h310 => ?_) (fun h310 => ?_)
    · have hk : k < cnt T := by omega
      have anW := an.on hR.be
      obtain ⟨a_p, a_h⟩ : ∃ q, pa[k]? = some q := ⟨_, List.getElem?_eq_getElem (show k < pa.length by rw [pu.la]; omega)⟩
      obtain ⟨a_d, a_x, a_l, a_s⟩ := anW.a.get a_h
      obtain ⟨z_p, z_h⟩ : ∃ q, pz[k]? = some q := ⟨_, List.getElem?_eq_getElem (show k < pz.length by rw [pu.lz]; omega)⟩
      obtain ⟨z_d, z_x, z_l, z_s⟩ := anW.z.get z_h
      refine EW.skip ?_
      refine EW.on ?_
      refine EW.seq ?_
      refine EW.block ?_
      refine EW.seq ?_
      refine EW.ordB [(0, 0, 0), (1, 0, 0), (2, 0, 0), (3, 0, 1), (4, 0, 1), (5, 0, 0), (6, 0, 0), (7, 0, 0), (8, 0, 1), (9, 0, 1), (10, 0, 0)] (by kernel_rfl) rfl (by kernel_rfl) ?_
      simp only [opsZ, List.getD_cons_zero, List.getD_cons_succ]
      first | refine ZE.move rfl rfl rfl rfl sz0 ?_
      first | refine ZE.move rfl rfl rfl rfl sz0 ?_
      refine ZE.index rfl rfl rfl rfl rfl sz0 (fun W => a_x W) ?_
      refine ZE.load rfl rfl rfl rfl sz1 (fun W hW => a_l W (hW.resolve_left (by decide))) ?_
      refine ZE.conv rfl rfl rfl rfl sz1 (fun W hW => (a_s.below (hW.resolve_left (by decide))).convert) ?_
      first | refine ZE.move rfl rfl rfl rfl sz0 ?_
      first | refine ZE.move rfl rfl rfl rfl sz0 ?_
      refine ZE.index rfl rfl rfl rfl rfl sz0 (fun W => z_x W) ?_
      refine ZE.load rfl rfl rfl rfl sz1 (fun W hW => z_l W (hW.resolve_left (by decide))) ?_
      refine ZE.conv rfl rfl rfl rfl sz1 (fun W hW => (z_s.below (hW.resolve_left (by decide))).convert) ?_
      refine ZE.bin rfl rfl rfl rfl rfl sz0 (fun W => str_ne_d _ _ W _ _) ?_
      rw [show decide (¬ a_p.2 = z_p.2) = false by rw [decide_eq_false]; exact fun h => h ((pu.ea _ _ a_h).trans (pu.ez _ _ z_h).symm)]
      rintro W65 l65
      refine EW.on ?_
      refine EW.cond_f rfl ?_
      refine EW.skip ?_
      refine pn_block ?_
      refine EW.on ?_
      refine EW.region ?_
      first | refine WL.move rfl rfl rfl ?_
      first | refine WL.bin rfl rfl rfl rfl (int_add ‹_› _ _ _) ?_
      first | refine WL.assign rfl rfl rfl ?_
      refine WL.done ?_
      exact EW.again (k + 1) [1, 8, 10, 12, 16, 35] rfl ⟨by omega, bt hR.be l65⟩ (by omega)
    · skip
      refine EW.exit ?_
      refine px_then ?_
      refine px_then ?_
      refine px_block ?_
      refine EW.on ?_
      refine EW.seq ?_
      refine EW.seq ?_
      refine EW.region ?_
      first | refine WL.assign rfl rfl rfl ?_
      refine WL.done ?_
      refine EW.on ?_
      refine EW.block ?_
      refine EW.loop (fun k : Nat => [(1, .int .i64 mark), (10, bv), (16, mv), (36, .int .i64 (k : Int))]) (KdR Wm (cnt T)) (fun k => cnt T - k) 0 [1, 10, 16, 36] rfl ⟨Nat.zero_le _, hR.be⟩ ?_
      rintro k W hR
      show EW _ _ _ _ [(1, .int .i64 mark), (10, bv), (16, mv), (36, .int .i64 (k : Int))] _
      have hle := hR.le
      have s1 : IntKind.i64.wrap ((k : Int) + 1) = ((k + 1 : Nat) : Int) := by rw [IntKind.wrap_i64]; omega
      refine EW.seq ?_
      refine EW.seq ?_
      refine EW.region ?_
      first | refine WL.move rfl rfl rfl ?_
      first | refine WL.move rfl rfl rfl ?_
      refine WL.len rfl rfl rfl (an.b.len _ _) ?_
      rw [pu.lb]
      refine WL.bin rfl rfl rfl rfl (int_lt_d _ _ _ _ _) ?_
      refine WL.done ?_
      refine EW.on ?_
      refine EW.cond_d rfl (fun h327 => ?_) (fun h327 => ?_)
      · have hk : k < cnt T := by omega
        obtain ⟨b_p, b_h⟩ : ∃ q, pb[k]? = some q := ⟨_, List.getElem?_eq_getElem (show k < pb.length by rw [pu.lb]; omega)⟩
        obtain ⟨b_d, b_x, b_l, b_s⟩ := an.b.get b_h
        obtain ⟨m_p, m_h⟩ : ∃ q, pm[k]? = some q := ⟨_, List.getElem?_eq_getElem (show k < pm.length by rw [pu.lm]; omega)⟩
        obtain ⟨m_d, m_x, m_l, m_s⟩ := an.m.get m_h
        have hbl := pu.sb _ _ b_h
        have t_e := pu.em _ _ _ b_h m_h
        obtain ⟨t_d, t_x, t_l⟩ := m_s.itemB (i := b_p.2.length) (u := byZ (IntKind.i64.wrap (mark + 50))) (by rw [t_e]; simp)
        refine EW.skip ?_
        refine EW.on ?_
        refine EW.seq ?_
        refine EW.block ?_
        refine EW.seq ?_
        refine EW.seq ?_
        refine EW.region ?_
        first | refine WL.assign rfl rfl rfl ?_
        refine WL.done ?_
        refine EW.on ?_
        refine EW.block ?_
        refine EW.loop (fun i : Nat => [(1, .int .i64 mark), (10, bv), (16, mv), (36, .int .i64 (k : Int)), (37, .int .i64 (i : Int))]) (KdR Wm b_p.2.length) (fun i => b_p.2.length - i) 0 [1, 10, 16, 36, 37] rfl ⟨Nat.zero_le _, hR.be⟩ ?_
        rintro i W hR
        show EW _ _ _ _ [(1, .int .i64 mark), (10, bv), (16, mv), (36, .int .i64 (k : Int)), (37, .int .i64 (i : Int))] _
        have hle := hR.le
        have s1 : IntKind.i64.wrap ((i : Int) + 1) = ((i + 1 : Nat) : Int) := by rw [IntKind.wrap_i64]; omega
        refine EW.seq ?_
        refine EW.seq ?_
        refine EW.region ?_
        first | refine WL.move rfl rfl rfl ?_
        first | refine WL.move rfl rfl rfl ?_
        first | refine WL.move rfl rfl rfl ?_
        refine WL.index rfl rfl rfl rfl (b_x _) ?_
        refine WL.load rfl rfl rfl (b_l _ hR.be) ?_
        refine WL.len rfl rfl rfl (b_s.len _ _) ?_
        refine WL.bin rfl rfl rfl rfl (int_lt_d _ _ _ _ _) ?_
        refine WL.done ?_
        refine EW.on ?_
        refine EW.cond_d rfl (fun h336 => ?_) (fun h336 => ?_)
        · have hi : i < b_p.2.length := by omega
          obtain ⟨uu, hu⟩ : ∃ uu, b_p.2[i]? = some uu := ⟨_, List.getElem?_eq_getElem hi⟩
          obtain ⟨u_d, u_x, u_l⟩ := b_s.itemB hu
          have u_e := pu.eb _ _ _ _ b_h hu
          refine EW.skip ?_
          refine EW.on ?_
          refine EW.seq ?_
          refine EW.block ?_
          refine EW.seq ?_
          refine EW.region ?_
          first | refine WL.move rfl rfl rfl ?_
          first | refine WL.move rfl rfl rfl ?_
          refine WL.index rfl rfl rfl rfl (b_x _) ?_
          refine WL.load rfl rfl rfl (b_l _ hR.be) ?_
          first | refine WL.move rfl rfl rfl ?_
          refine WL.index rfl rfl rfl rfl (u_x _) ?_
          refine WL.load rfl rfl rfl (u_l _ hR.be) ?_
          first | refine WL.move rfl rfl rfl ?_
          first | refine WL.move rfl rfl rfl ?_
          refine WL.bin rfl rfl rfl rfl (int_add rfl _ _ _) ?_
          refine WL.conv rfl rfl rfl (conv_z _ _) ?_
          rw [u_e]
          refine WL.bin rfl rfl rfl rfl (neBB _ _ _ _) ?_
          refine WL.done ?_
          refine EW.on ?_
          refine EW.cond_f rfl ?_
          refine EW.skip ?_
          refine pn_block ?_
          refine EW.on ?_
          refine EW.region ?_
          first | refine WL.move rfl rfl rfl ?_
          first | refine WL.bin rfl rfl rfl rfl (int_add ‹_› _ _ _) ?_
          first | refine WL.assign rfl rfl rfl ?_
          refine WL.done ?_
          exact EW.again (i + 1) [1, 10, 16, 36, 37] rfl ⟨by omega, hR.be⟩ (by omega)
        · skip
          refine EW.exit ?_
          refine px_then ?_
          refine px_then ?_
          refine px_block ?_
          refine EW.on ?_
          refine EW.seq ?_
          refine EW.ordB [(0, 0, 0), (1, 0, 0), (2, 0, 0), (3, 0, 1), (4, 0, 0), (5, 0, 0), (6, 0, 0), (7, 0, 1), (8, 0, 0), (9, 0, 0), (10, 0, 1), (11, 0, 0), (12, 0, 0), (13, 0, 1), (14, 0, 0)] (by kernel_rfl) rfl (by kernel_rfl) ?_
          simp only [opsZ, List.getD_cons_zero, List.getD_cons_succ]
          first | refine ZE.move rfl rfl rfl rfl sz0 ?_
          first | refine ZE.move rfl rfl rfl rfl sz0 ?_
          refine ZE.index rfl rfl rfl rfl rfl sz0 (fun W => m_x W) ?_
          refine ZE.load rfl rfl rfl rfl sz1 (fun W hW => m_l W (bt hR.be (hW.resolve_left (by decide)))) ?_
          first | refine ZE.move rfl rfl rfl rfl sz0 ?_
          first | refine ZE.move rfl rfl rfl rfl sz0 ?_
          refine ZE.index rfl rfl rfl rfl rfl sz0 (fun W => b_x W) ?_
          refine ZE.load rfl rfl rfl rfl sz1 (fun W hW => b_l W (bt hR.be (hW.resolve_left (by decide)))) ?_
          refine ZE.len rfl rfl rfl rfl sz0 (fun W => b_s.len W _) ?_
          refine ZE.index rfl rfl rfl rfl rfl sz0 (fun W => t_x W) ?_
          refine ZE.load rfl rfl rfl rfl sz1 (fun W hW => t_l W (bt hR.be (hW.resolve_left (by decide)))) ?_
          first | refine ZE.move rfl rfl rfl rfl sz0 ?_
          refine ZE.bin rfl rfl rfl rfl rfl sz0 (fun W => int_add rfl W _ _) ?_
          refine ZE.conv rfl rfl rfl rfl sz1 (fun W hW => conv_z _ W) ?_
          refine ZE.bin rfl rfl rfl rfl rfl sz0 (fun W => neBB _ W _ _) ?_
          rintro W75 l75
          refine EW.on ?_
          refine EW.cond_f rfl ?_
          refine EW.skip ?_
          refine pn_block ?_
          refine EW.on ?_
          refine EW.region ?_
          first | refine WL.move rfl rfl rfl ?_
          first | refine WL.bin rfl rfl rfl rfl (int_add ‹_› _ _ _) ?_
          first | refine WL.assign rfl rfl rfl ?_
          refine WL.done ?_
          exact EW.again (k + 1) [1, 10, 16, 36] rfl ⟨by omega, bt hR.be l75⟩ (by omega)
      · skip
        refine EW.exit ?_
        refine px_then ?_
        refine px_then ?_
        refine px_block ?_
        refine EW.on ?_
        refine EW.seq ?_
        refine EW.region ?_
        first | refine WL.assign rfl rfl rfl ?_
        refine WL.done ?_
        refine EW.on ?_
        refine EW.ret ?_
        exact EW.returns Tryd.results5 rfl ⟨rfl, hw.trans (hR.be.mono hw.size)⟩
end Go.Proofs.YtiefgmgjlhjjhaaDoor
