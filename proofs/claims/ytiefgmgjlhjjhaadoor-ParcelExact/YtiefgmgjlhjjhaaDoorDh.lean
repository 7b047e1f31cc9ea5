import Derived.Test.YtiefgmgjlhjjhaaDoorDg
set_option linter.unusedVariables false
set_option linter.unusedSimpArgs false
namespace Go.Proofs.YtiefgmgjlhjjhaaDoor
open Go.RowKit

attribute [local irreducible] sm sumOf cnt chk partB ptB lgL
theorem Blk.neT {w : World} {q q' : Nat} {cs cs' : List Value} {t t' : TypeId} (h : Blk w q cs t) (h' : Blk w q' cs' t') (ht : t ≠ t') : q ≠ q' := fun e => by
  unfold Blk at h h'
  rw [e, h'] at h
  cases h; exact ht rfl
theorem Fx.weak {S S' : Nat → Prop} {w w' : World} (h : Fx S w w') (hs : ∀ k, S k → S' k) : Fx S' w w' := ⟨h.os, h.tape, h.output, h.size, fun i hi hn => h.block i hi (fun e => hn (hs i e))⟩
theorem i114' : (Tryd.prog.info? 114).map (·.size) = some 6 := by kernel_rfl
theorem rstore {w W : World} {q : Nat} {v : Value} {most : Nat} {L : List Rp} (hT : Rt W q v most L) {g2 cg2 : Nat} (hv2 : v = .slice (some ⟨g2, 0, none⟩) L.length cg2) {ki : Nat} (hki : ki < L.length) {Y : Rp} (hY : Y.hs W) {q12 q9 : Nat} {rq : Rq} (hP : Blk W q12 Y.cs 114) (hD : Blk W q9 rq.cs 109) (hB : Below w.heap.size w W) (h12 : w.heap.size ≤ q12) (ht : Rt w q v most L) : ∃ w', (Instr.storeAt 114 (.pointer (some ⟨g2, ki * 6, none⟩)) Y.val).run Tryd.prog W = .ok () w' ∧ (∃ v', Rt w' q v' most (L.set ki Y) ∧ (∀ b, v'.ownBlock = some b → v.ownBlock = some b ∨ w.heap.size ≤ b)) ∧ Blk w' q9 rq.cs 109 ∧ Blk w' q12 Y.cs 114 ∧ Y.hs w' ∧ Fx (fun k => k = q ∨ v.ownBlock = some k) w w' := by
  have how := hT.ow
  have hg : g2 < w.heap.size := ht.ow.lt (b := g2) (by rw [hv2]; rfl)
  have hown : v.ownBlock = some g2 := by rw [hv2]; rfl
  rw [hv2] at how
  obtain ⟨w', s1, s2, s3⟩ := how.set (i := ki) (by rw [List.length_map]; exact hki) (x := Y.cs) rfl (Rp.one hY) i114'
  rw [add_plain] at s1
  replace s3 : Fx (fun k => k = g2) W w' := s3
  have hpar : ∀ x : Rp, x.hs W → x.hs w' := fun x hx => hx.fx s3 (fun b hb e => by have e' : b = g2 := e; rw [e'] at hb; exact hT.ow.neL hx.bi (by decide) hown hb) (fun b hb e => by have e' : b = g2 := e; rw [e'] at hb; exact hT.ow.neL hx.pt (by decide) hown hb) (fun i u t hu ht' k hk => by
    have e' : k = g2 := hk
    rw [e']; exact (hx.hx i u t hu ht').neL hT.ow (by decide) hown)
  refine ⟨w', s1, ⟨v, ⟨hT.bl.fx s3 (fun e => hT.ow.neB hT.bl (by decide) g2 hown e.symm), ?_, fun x hx => ?_⟩, fun b hb => .inl hb⟩, hD.fx s3 (fun e => hT.ow.neB hD (by decide) g2 hown e.symm), hP.fx s3 (fun e => by omega), hpar Y hY, (Fx.of_below hB).and (s3.weak (fun k e => .inr (by have e' : k = g2 := e; rw [e']; exact hown)))⟩
  · rw [List.map_set, hv2]; exact s2
  · rcases List.mem_or_eq_of_mem_set hx with h | h
    · exact hpar x (hT.hs x h)
    · rw [h]; exact hpar Y hY
theorem rpush {w w18 W : World} {q : Nat} {v v22 : Value} {most : Nat} {L : List Rp} (hT : Rt w18 q v most L) {Y : Rp} (hW : Ow 114 6 W v22 (L.map Rp.cs ++ [Y.cs]) ∧ (∀ b, v22.ownBlock = some b → v.ownBlock = some b ∨ w.heap.size ≤ b) ∧ ∃ W0, Below w18.heap.size w18 W0 ∧ Fx (fun k => v.ownBlock = some k) W0 W) (hY : Y.hs w18) {q12 q9 : Nat} {rq : Rq} (hP : Blk w18 q12 Y.cs 114) (hD : Blk w18 q9 rq.cs 109) (hB : Below w.heap.size w w18) (h12 : w.heap.size ≤ q12) (ht : Rt w q v most L) : ∃ w', (Instr.storeAt 80 (.pointer (some ⟨q, 0, none⟩)) v22).run Tryd.prog W = .ok () w' ∧ (∃ v', Rt w' q v' most (L ++ [Y]) ∧ (∀ b, v'.ownBlock = some b → v.ownBlock = some b ∨ w.heap.size ≤ b)) ∧ Blk w' q9 rq.cs 109 ∧ Blk w' q12 Y.cs 114 ∧ Y.hs w' ∧ Fx (fun k => k = q ∨ v.ownBlock = some k) w w' := by
  obtain ⟨o22, nb, W0, l0, f0⟩ := hW
  have T0 := hT.on l0
  have Y0 := hY.on l0
  have P0 := hP.on l0
  have D0 := hD.on l0
  have hpar : ∀ x : Rp, x.hs W0 → x.hs W := fun x hx => hx.fx f0 (fun b hb e => T0.ow.neL hx.bi (by decide) e hb) (fun b hb e => T0.ow.neL hx.pt (by decide) e hb) (fun i u t hu ht' k hk => (hx.hx i u t hu ht').neL T0.ow (by decide) hk)
  have Tb : Blk W q [v, .int .i64 (most : Int)] 82 := T0.bl.fx f0 (fun e => T0.ow.neB T0.bl (by decide) q e rfl)
  have hvs : ∃ ao n c, v22 = Value.slice ao n c := by rcases o22.addr with ⟨h1, _⟩ | ⟨g, cap, h1⟩ <;> exact ⟨_, _, _, h1⟩
  obtain ⟨w', s1, s2, s3⟩ := st80 Tb hvs
  have hp12 : Blk W q12 Y.cs 114 := P0.fx f0 (fun e => by have := ht.ow.lt e; omega)
  have hd9 : Blk W q9 rq.cs 109 := D0.fx f0 (fun e => T0.ow.neB D0 (by decide) q9 e rfl)
  refine ⟨w', s1, ⟨v22, ⟨s2, ?_, fun x hx => ?_⟩, nb⟩, hd9.fx s3 (fun e => hd9.neT Tb (by decide) e), hp12.fx s3 (fun e => hp12.neT Tb (by decide) e), (hpar Y Y0).fx82 hT.sl Tb s3, ((Fx.of_below (bt hB l0)).and (f0.weak (fun k e => .inr e))).and (s3.weak (fun k e => .inl e))⟩
  · have := o22.fx s3 (fun b hb e => o22.neB Tb (by decide) b hb e)
    rw [List.map_append]; exact this
  · refine Rp.hs.fx82 ?_ hT.sl Tb s3
    rcases List.mem_append.1 hx with h | h
    · exact hpar x (T0.hs x h)
    · rw [List.mem_singleton.1 h]; exact hpar Y Y0
set_option maxRecDepth 100000 in
set_option maxHeartbeats 32000000 in
theorem radd_none (q : Nat) (v : Value) (most : Nat) (L : List Rp) (hL : L.length ≤ 1000) (a : List UInt8) (v0 : Value) (c : List UInt8) (w : World) (ht : Rt w q v most L) (hv : Has w v0 c) (hl : c.length ≤ 140737488355328) (hRs : Rst w) (hBs : Bst w) (hnm : nmB a = true) (hok : okP c = true) (hf : L.findIdx? (isK a (pI c)) = none) : Calls Tryd.prog 31 #[.pointer (some ⟨q, 0, none⟩), sv a, v0] w fun e w' => (most ≤ L.length ∧ e = .returned (.tuple #[u32v 0, .bool false, .int .i64 120]) ∧ Below w.heap.size w w') ∨ (¬ most ≤ L.length ∧ ∃ vi vt u, (∀ b, u.ownBlock = some b → w.heap.size ≤ b) ∧ ((rall ((Rp.x0 a c vi vt).put (pA c) u (pC c)).h = true ∧ ¬ sm ((Rp.x0 a c vi vt).put (pA c) u (pC c)).t.flatten = pS c ∧ e = .returned (.tuple #[u32v 0, .bool false, .int .i64 101]) ∧ Below w.heap.size w w') ∨ (¬ (rall ((Rp.x0 a c vi vt).put (pA c) u (pC c)).h = true ∧ ¬ sm ((Rp.x0 a c vi vt).put (pA c) u (pC c)).t.flatten = pS c) ∧ e = .returned (.tuple #[u32v (pI c), .bool (rall ((Rp.x0 a c vi vt).put (pA c) u (pC c)).h), .int .i64 0]) ∧ ∃ v', Rt w' q v' most (L ++ [(Rp.x0 a c vi vt).put (pA c) u (pC c)]) ∧ (∀ b, v'.ownBlock = some b → v.ownBlock = some b ∨ w.heap.size ≤ b) ∧ Fx (fun k => k = q ∨ v.ownBlock = some k) w w'))) := by
  have hL : L.length ≤ 1000000 := by omega
  obtain ⟨K1, K2, K3, K4, K5, K6, K7⟩ := ok_is hok
  have hfi := fi_n hf
  have hn0 : ¬ (0 : Int) ≤ -1 := by decide
  obtain ⟨aoL, cpL, hve⟩ := ht.slice
  refine calls_of_args [.pointer (some ⟨q, 0, none⟩), sv a, v0] Tryd.func31 rfl 125 Tryd.ntmps31 (by show 3 ≤ 125; decide) ?_
  refine EW.seq ?_
  refine EW.region ?_
  first | refine WL.assign rfl rfl rfl ?_
  first | refine WL.assign rfl rfl rfl ?_
  first | refine WL.assign rfl rfl rfl ?_
  refine WL.done ?_
  refine EW.on ?_
  refine EW.seq ?_
  refine EW.seq ?_
  refine EW.region ?_
  first | refine WL.move rfl rfl rfl ?_
  refine WL.call [sv a] enter49 rfl rfl rfl (rname_any a _) ?_
  rintro _ wN ⟨rfl, hwN⟩
  refine ⟨_, rfl, ?_⟩
  rw [hwN, hnm]
  first | refine WL.un rfl rfl rfl (not_t _ _) ?_
  refine WL.done ?_
  refine EW.on ?_
  refine EW.cond_f rfl ?_
  refine EW.skip ?_
  refine EW.on ?_
  refine EW.seq ?_
  refine EW.region ?_
  first | refine WL.move rfl rfl rfl ?_
  refine WL.call [v0] enter50 rfl rfl rfl (rread_ok hv hl hok) ?_
  rintro _ w1 ⟨u, rfl, ou1, l1⟩
  refine ⟨_, rfl, ?_⟩
  have husl := ou1.has.sl
  first | refine WL.move rfl rfl rfl ?_
  first | refine WL.extract rfl rfl rfl (ext_2 _ _ _).1 ?_
  first | refine WL.extract rfl rfl rfl (ext_2 _ _ _).2 ?_
  obtain ⟨w2, w3, q9, rn9, s9, b9, l3, hq9⟩ := ns109 w1 (p := (Rq.mk (pI c) (pN c) (pA c) (pS c) u)) husl
  refine WL.new rfl rfl rn9 ?_
  refine WL.store rfl rfl rfl s9 ?_
  have L3 := bt l1 l3
  first | refine WL.assign rfl rfl rfl ?_
  refine WL.done ?_
  refine EW.on ?_
  refine EW.seq ?_
  refine EW.seq ?_
  refine EW.region ?_
  first | refine WL.move rfl rfl rfl ?_
  first | refine WL.un rfl rfl rfl (not_t _ _) ?_
  refine WL.done ?_
  refine EW.on ?_
  refine EW.cond_f rfl ?_
  refine EW.skip ?_
  refine EW.on ?_
  refine EW.seq ?_
  refine EW.region ?_
  first | refine WL.move rfl rfl rfl ?_
  first | refine WL.move rfl rfl rfl ?_
  refine WL.field rfl rfl rfl (g109_0 _ _) ?_
  refine WL.load rfl rfl rfl (ldU2 b9 rfl) ?_
  refine WL.call [.pointer (some ⟨q, 0, none⟩), sv a, u32v (pI c)] enter51 rfl rfl rfl (rfind_any q v most L hL a (pI c) w3 (ht.on L3)) ?_
  rintro _ wF ⟨rfl, hwF⟩
  refine ⟨_, rfl, ?_⟩
  rw [hwF, hfi]
  first | refine WL.assign rfl rfl rfl ?_
  refine WL.done ?_
  refine EW.on ?_
  refine EW.join (fun y : Nat × Value × Value => [(0, .pointer (some ⟨q, 0, none⟩)), (1, sv a), (9, .pointer (some ⟨q9, 0, none⟩)), (11, .int .i64 (-1)), (12, .pointer (some ⟨y.1, 0, none⟩))]) (fun y W => Blk W y.1 (Rp.x0 a c y.2.1 y.2.2).cs 114 ∧ Lb 4 1 W w3.heap.size y.2.1 (br (List.replicate (pN c) false)) ∧ Lb 24 1 W w3.heap.size y.2.2 (vr (List.replicate (pN c) (.slice none 0 0))) ∧ Below w3.heap.size w3 W ∧ w3.heap.size ≤ y.1) ?_ ?_
  · refine EW.az (SQ (fun W => Below w3.heap.size w3 W)) (levZ [(2, 0, 1), (4, 0, 1), (6, 0, 1), (8, 0, 1), (11, 0, 1), (9, 1, 1), (12, 1, 1), (14, 1, 1), (15, 1, 1)]) (fun W => Below w3.heap.size w3 W) 16 (by kernel_rfl) rfl (below_drawn w3) ?_
    refine AZ.seg [(0, 0, 0), (1, 0, 0), (2, 0, 1), (3, 0, 0), (4, 0, 1), (5, 0, 0), (6, 0, 1), (7, 0, 0), (8, 0, 1), (10, 0, 0), (11, 0, 1)] 5 rfl (by kernel_rfl) (sq_anti _) (by kernel_rfl) ?_
    simp only [opsZ, List.getD_cons_zero, List.getD_cons_succ]
    first | refine ZE.move rfl rfl rfl rfl sq0 ?_
    refine ZE.field rfl rfl rfl rfl sq0 (fun W => g109_0 _ W) ?_
    refine ZE.load rfl rfl rfl rfl sq1 (fun W hW => ldU2 (b9.on (sq_of hW)) rfl) ?_
    refine ZE.field rfl rfl rfl rfl sq0 (fun W => g109_1 _ W) ?_
    refine ZE.load rfl rfl rfl rfl sq1 (fun W hW => ldI (b9.on (sq_of hW)) rfl) ?_
    refine ZE.field rfl rfl rfl rfl sq0 (fun W => g109_3 _ W) ?_
    refine ZE.load rfl rfl rfl rfl sq1 (fun W hW => ldTb (b9.on (sq_of hW)) rfl) ?_
    refine ZE.field rfl rfl rfl rfl sq0 (fun W => g109_1 _ W) ?_
    refine ZE.load rfl rfl rfl rfl sq1 (fun W hW => ldI (b9.on (sq_of hW)) rfl) ?_
    refine ZE.field rfl rfl rfl rfl sq0 (fun W => g109_1 _ W) ?_
    refine ZE.load rfl rfl rfl rfl sq1 (fun W hW => ldI (b9.on (sq_of hW)) rfl) ?_
    refine AZ.three 4 9 1 12 1 14 1 rfl (by kernel_rfl) ?_ ?_ ?_
    · simp only [List.getD_cons_zero, List.getD_cons_succ]
      refine ZE.mkSl (fun v W => Lb 4 1 W w3.heap.size v (br (List.replicate (pN c) false)) ∧ Below w3.heap.size w3 W) rfl rfl rfl rfl (fun _ _ h => .inr h.2) (fun W hW => ?_) ?_
      · have l := hW
        have l0 := below_new W (.cells (List.replicate (pN c) (Value.bool false)).toArray 4)
        have m0 := mkLb (e := 4) (x := Value.bool false) W (pN c) (by omega)
        rw [br_rep] at m0
        exact ⟨_, _, run_mk107 W (pN c) (by omega), ⟨m0.ow, fun j hj => Nat.le_trans l.size (m0.base j hj)⟩, bt l l0⟩
      rintro vi ⟨W_vi, o_vi, _⟩
      have sl_vi := o_vi.sl
      refine AZ.two 3 12 1 14 1 rfl (by kernel_rfl) ?_ ?_
      · simp only [List.getD_cons_zero, List.getD_cons_succ]
        refine ZE.mkSl (fun v W => Lb 24 1 W w3.heap.size v (vr (List.replicate (pN c) (.slice none 0 0))) ∧ Lb 4 1 W w3.heap.size vi (br (List.replicate (pN c) false)) ∧ Below w3.heap.size w3 W) rfl rfl rfl rfl (fun _ _ h => .inr h.2.2) (fun W hW => ?_) ?_
        · obtain ⟨o4, l⟩ := hW
          have l0 := below_new W (.cells (List.replicate (pN c) (Value.slice none 0 0)).toArray 24)
          have m0 := mkLb (e := 24) (x := Value.slice none 0 0) W (pN c) (by omega)
          rw [vr_rep] at m0
          exact ⟨_, _, run_mk26 W (pN c) (by omega), ⟨m0.ow, fun j hj => Nat.le_trans l.size (m0.base j hj)⟩, o4.on l0, bt l l0⟩
        rintro vt ⟨W_vt, o_vt, _⟩
        have sl_vt := o_vt.sl
        refine AZ.seg [(13, 0, 0), (14, 1, 1), (15, 1, 1)] 0 rfl (by kernel_rfl) (sq_anti _) (by kernel_rfl) ?_
        simp only [opsZ, List.getD_cons_zero, List.getD_cons_succ]
        refine ZE.buildN [(0, sv a), (1, u32v (pI c)), (2, .int .i64 (pN c : Int)), (3, sv (pS c)), (4, vi), (5, vt)] rfl rfl rfl rfl sq0 (fun W => bd114 a (pI c) (pN c) (pS c) vi vt sl_vi sl_vt W) ?_
        refine ZE.newR (fun v W => ∃ q8, v = .pointer (some ⟨q8, 0, none⟩) ∧ Blk W q8 z114 114 ∧ w3.heap.size ≤ q8 ∧ Lb 4 1 W w3.heap.size vi (br (List.replicate (pN c) false)) ∧ Lb 24 1 W w3.heap.size vt (vr (List.replicate (pN c) (.slice none 0 0))) ∧ Below w3.heap.size w3 W) rfl rfl (fun _ _ h => .inr (by obtain ⟨_, _, _, _, _, _, h⟩ := h; exact h)) (fun W hW => ?_) ?_
        · obtain ⟨o24, o4, l⟩ := hW
          obtain ⟨W2, q_, r_, b, l2, hq_⟩ := newB (cs := z114) zv114 W
          exact ⟨_, W2, r_, q_, rfl, b, by have := l.size; omega, o4.on l2, o24.on l2, bt l l2⟩
        rintro _ ⟨_, q12, rfl, _, hq12, _⟩
        refine ZE.store (fun W => Blk W q12 (Rp.x0 a c vi vt).cs 114 ∧ Lb 4 1 W w3.heap.size vi (br (List.replicate (pN c) false)) ∧ Lb 24 1 W w3.heap.size vt (vr (List.replicate (pN c) (.slice none 0 0))) ∧ Below w3.heap.size w3 W) rfl rfl rfl (fun _ h => .inr h.2.2.2) (fun W hW => ?_) ?_
        · obtain ⟨q_, e_, b, _, o4, o24, l⟩ := hW
          cases e_
          obtain ⟨W2, s1, s2, s3⟩ := st114 (Rp.x0 a c vi vt) (Rp.one' sl_vi sl_vt) rfl b
          exact ⟨W2, s1, s2, o4.fx s3 (fun j hj e => o4.ow.neB b (by decide) j hj e), o24.fx s3 (fun j hj e => o24.ow.neB b (by decide) j hj e), l.trans (s3.below (fun k hk e => by have e' : k = q12 := e; omega) l.size)⟩
        refine AZ.done (by kernel_rfl) ?_
        rintro w7 h7
        exact EW.met (q12, vi, vt) [0, 1, 9, 11, 12] rfl ⟨h7.1, h7.2.1, h7.2.2.1, h7.2.2.2, hq12⟩
      · simp only [List.getD_cons_zero, List.getD_cons_succ]
        refine ZE.newR (fun v W => ∃ q8, v = .pointer (some ⟨q8, 0, none⟩) ∧ Blk W q8 z114 114 ∧ w3.heap.size ≤ q8 ∧ Lb 4 1 W w3.heap.size vi (br (List.replicate (pN c) false)) ∧ Below w3.heap.size w3 W) rfl rfl (fun _ _ h => .inr (by obtain ⟨_, _, _, _, _, h⟩ := h; exact h)) (fun W hW => ?_) ?_
        · obtain ⟨o4, l⟩ := hW
          obtain ⟨W2, q_, r_, b, l2, hq_⟩ := newB (cs := z114) zv114 W
          exact ⟨_, W2, r_, q_, rfl, b, by have := l.size; omega, o4.on l2, bt l l2⟩
        rintro _ ⟨_, q12, rfl, _, hq12, _⟩
        refine AZ.seg [(12, 1, 1), (13, 0, 0), (15, 1, 1)] 0 rfl (by kernel_rfl) (sq_anti _) (by kernel_rfl) ?_
        simp only [opsZ, List.getD_cons_zero, List.getD_cons_succ]
        refine ZE.mkSl (fun v W => Lb 24 1 W w3.heap.size v (vr (List.replicate (pN c) (.slice none 0 0))) ∧ Lb 4 1 W w3.heap.size vi (br (List.replicate (pN c) false)) ∧ Blk W q12 z114 114 ∧ Below w3.heap.size w3 W) rfl rfl rfl rfl (fun _ _ h => .inr h.2.2.2) (fun W hW => ?_) ?_
        · obtain ⟨q_, e_, b, _, o4, l⟩ := hW
          cases e_
          have l0 := below_new W (.cells (List.replicate (pN c) (Value.slice none 0 0)).toArray 24)
          have m0 := mkLb (e := 24) (x := Value.slice none 0 0) W (pN c) (by omega)
          rw [vr_rep] at m0
          exact ⟨_, _, run_mk26 W (pN c) (by omega), ⟨m0.ow, fun j hj => Nat.le_trans l.size (m0.base j hj)⟩, o4.on l0, b.on l0, bt l l0⟩
        rintro vt ⟨W_vt, o_vt, _⟩
        have sl_vt := o_vt.sl
        refine ZE.buildN [(0, sv a), (1, u32v (pI c)), (2, .int .i64 (pN c : Int)), (3, sv (pS c)), (4, vi), (5, vt)] rfl rfl rfl rfl sq0 (fun W => bd114 a (pI c) (pN c) (pS c) vi vt sl_vi sl_vt W) ?_
        refine ZE.store (fun W => Blk W q12 (Rp.x0 a c vi vt).cs 114 ∧ Lb 4 1 W w3.heap.size vi (br (List.replicate (pN c) false)) ∧ Lb 24 1 W w3.heap.size vt (vr (List.replicate (pN c) (.slice none 0 0))) ∧ Below w3.heap.size w3 W) rfl rfl rfl (fun _ h => .inr h.2.2.2) (fun W hW => ?_) ?_
        · obtain ⟨o24, o4, b, l⟩ := hW
          obtain ⟨W2, s1, s2, s3⟩ := st114 (Rp.x0 a c vi vt) (Rp.one' sl_vi sl_vt) rfl b
          exact ⟨W2, s1, s2, o4.fx s3 (fun j hj e => o4.ow.neB b (by decide) j hj e), o24.fx s3 (fun j hj e => o24.ow.neB b (by decide) j hj e), l.trans (s3.below (fun k hk e => by have e' : k = q12 := e; omega) l.size)⟩
        refine AZ.done (by kernel_rfl) ?_
        rintro w7 h7
        exact EW.met (q12, vi, vt) [0, 1, 9, 11, 12] rfl ⟨h7.1, h7.2.1, h7.2.2.1, h7.2.2.2, hq12⟩
    · simp only [List.getD_cons_zero, List.getD_cons_succ]
      refine ZE.mkSl (fun v W => Lb 24 1 W w3.heap.size v (vr (List.replicate (pN c) (.slice none 0 0))) ∧ Below w3.heap.size w3 W) rfl rfl rfl rfl (fun _ _ h => .inr h.2) (fun W hW => ?_) ?_
      · have l := hW
        have l0 := below_new W (.cells (List.replicate (pN c) (Value.slice none 0 0)).toArray 24)
        have m0 := mkLb (e := 24) (x := Value.slice none 0 0) W (pN c) (by omega)
        rw [vr_rep] at m0
        exact ⟨_, _, run_mk26 W (pN c) (by omega), ⟨m0.ow, fun j hj => Nat.le_trans l.size (m0.base j hj)⟩, bt l l0⟩
      rintro vt ⟨W_vt, o_vt, _⟩
      have sl_vt := o_vt.sl
      refine AZ.two 3 9 1 14 1 rfl (by kernel_rfl) ?_ ?_
      · simp only [List.getD_cons_zero, List.getD_cons_succ]
        refine ZE.mkSl (fun v W => Lb 4 1 W w3.heap.size v (br (List.replicate (pN c) false)) ∧ Lb 24 1 W w3.heap.size vt (vr (List.replicate (pN c) (.slice none 0 0))) ∧ Below w3.heap.size w3 W) rfl rfl rfl rfl (fun _ _ h => .inr h.2.2) (fun W hW => ?_) ?_
        · obtain ⟨o24, l⟩ := hW
          have l0 := below_new W (.cells (List.replicate (pN c) (Value.bool false)).toArray 4)
          have m0 := mkLb (e := 4) (x := Value.bool false) W (pN c) (by omega)
          rw [br_rep] at m0
          exact ⟨_, _, run_mk107 W (pN c) (by omega), ⟨m0.ow, fun j hj => Nat.le_trans l.size (m0.base j hj)⟩, o24.on l0, bt l l0⟩
        rintro vi ⟨W_vi, o_vi, _⟩
        have sl_vi := o_vi.sl
        refine AZ.seg [(13, 0, 0), (14, 1, 1), (15, 1, 1)] 0 rfl (by kernel_rfl) (sq_anti _) (by kernel_rfl) ?_
        simp only [opsZ, List.getD_cons_zero, List.getD_cons_succ]
        refine ZE.buildN [(0, sv a), (1, u32v (pI c)), (2, .int .i64 (pN c : Int)), (3, sv (pS c)), (4, vi), (5, vt)] rfl rfl rfl rfl sq0 (fun W => bd114 a (pI c) (pN c) (pS c) vi vt sl_vi sl_vt W) ?_
        refine ZE.newR (fun v W => ∃ q8, v = .pointer (some ⟨q8, 0, none⟩) ∧ Blk W q8 z114 114 ∧ w3.heap.size ≤ q8 ∧ Lb 4 1 W w3.heap.size vi (br (List.replicate (pN c) false)) ∧ Lb 24 1 W w3.heap.size vt (vr (List.replicate (pN c) (.slice none 0 0))) ∧ Below w3.heap.size w3 W) rfl rfl (fun _ _ h => .inr (by obtain ⟨_, _, _, _, _, _, h⟩ := h; exact h)) (fun W hW => ?_) ?_
        · obtain ⟨o4, o24, l⟩ := hW
          obtain ⟨W2, q_, r_, b, l2, hq_⟩ := newB (cs := z114) zv114 W
          exact ⟨_, W2, r_, q_, rfl, b, by have := l.size; omega, o4.on l2, o24.on l2, bt l l2⟩
        rintro _ ⟨_, q12, rfl, _, hq12, _⟩
        refine ZE.store (fun W => Blk W q12 (Rp.x0 a c vi vt).cs 114 ∧ Lb 4 1 W w3.heap.size vi (br (List.replicate (pN c) false)) ∧ Lb 24 1 W w3.heap.size vt (vr (List.replicate (pN c) (.slice none 0 0))) ∧ Below w3.heap.size w3 W) rfl rfl rfl (fun _ h => .inr h.2.2.2) (fun W hW => ?_) ?_
        · obtain ⟨q_, e_, b, _, o4, o24, l⟩ := hW
          cases e_
          obtain ⟨W2, s1, s2, s3⟩ := st114 (Rp.x0 a c vi vt) (Rp.one' sl_vi sl_vt) rfl b
          exact ⟨W2, s1, s2, o4.fx s3 (fun j hj e => o4.ow.neB b (by decide) j hj e), o24.fx s3 (fun j hj e => o24.ow.neB b (by decide) j hj e), l.trans (s3.below (fun k hk e => by have e' : k = q12 := e; omega) l.size)⟩
        refine AZ.done (by kernel_rfl) ?_
        rintro w7 h7
        exact EW.met (q12, vi, vt) [0, 1, 9, 11, 12] rfl ⟨h7.1, h7.2.1, h7.2.2.1, h7.2.2.2, hq12⟩
      · simp only [List.getD_cons_zero, List.getD_cons_succ]
        refine ZE.newR (fun v W => ∃ q8, v = .pointer (some ⟨q8, 0, none⟩) ∧ Blk W q8 z114 114 ∧ w3.heap.size ≤ q8 ∧ Lb 24 1 W w3.heap.size vt (vr (List.replicate (pN c) (.slice none 0 0))) ∧ Below w3.heap.size w3 W) rfl rfl (fun _ _ h => .inr (by obtain ⟨_, _, _, _, _, h⟩ := h; exact h)) (fun W hW => ?_) ?_
        · obtain ⟨o24, l⟩ := hW
          obtain ⟨W2, q_, r_, b, l2, hq_⟩ := newB (cs := z114) zv114 W
          exact ⟨_, W2, r_, q_, rfl, b, by have := l.size; omega, o24.on l2, bt l l2⟩
        rintro _ ⟨_, q12, rfl, _, hq12, _⟩
        refine AZ.seg [(9, 1, 1), (13, 0, 0), (15, 1, 1)] 0 rfl (by kernel_rfl) (sq_anti _) (by kernel_rfl) ?_
        simp only [opsZ, List.getD_cons_zero, List.getD_cons_succ]
        refine ZE.mkSl (fun v W => Lb 4 1 W w3.heap.size v (br (List.replicate (pN c) false)) ∧ Lb 24 1 W w3.heap.size vt (vr (List.replicate (pN c) (.slice none 0 0))) ∧ Blk W q12 z114 114 ∧ Below w3.heap.size w3 W) rfl rfl rfl rfl (fun _ _ h => .inr h.2.2.2) (fun W hW => ?_) ?_
        · obtain ⟨q_, e_, b, _, o24, l⟩ := hW
          cases e_
          have l0 := below_new W (.cells (List.replicate (pN c) (Value.bool false)).toArray 4)
          have m0 := mkLb (e := 4) (x := Value.bool false) W (pN c) (by omega)
          rw [br_rep] at m0
          exact ⟨_, _, run_mk107 W (pN c) (by omega), ⟨m0.ow, fun j hj => Nat.le_trans l.size (m0.base j hj)⟩, o24.on l0, b.on l0, bt l l0⟩
        rintro vi ⟨W_vi, o_vi, _⟩
        have sl_vi := o_vi.sl
        refine ZE.buildN [(0, sv a), (1, u32v (pI c)), (2, .int .i64 (pN c : Int)), (3, sv (pS c)), (4, vi), (5, vt)] rfl rfl rfl rfl sq0 (fun W => bd114 a (pI c) (pN c) (pS c) vi vt sl_vi sl_vt W) ?_
        refine ZE.store (fun W => Blk W q12 (Rp.x0 a c vi vt).cs 114 ∧ Lb 4 1 W w3.heap.size vi (br (List.replicate (pN c) false)) ∧ Lb 24 1 W w3.heap.size vt (vr (List.replicate (pN c) (.slice none 0 0))) ∧ Below w3.heap.size w3 W) rfl rfl rfl (fun _ h => .inr h.2.2.2) (fun W hW => ?_) ?_
        · obtain ⟨o4, o24, b, l⟩ := hW
          obtain ⟨W2, s1, s2, s3⟩ := st114 (Rp.x0 a c vi vt) (Rp.one' sl_vi sl_vt) rfl b
          exact ⟨W2, s1, s2, o4.fx s3 (fun j hj e => o4.ow.neB b (by decide) j hj e), o24.fx s3 (fun j hj e => o24.ow.neB b (by decide) j hj e), l.trans (s3.below (fun k hk e => by have e' : k = q12 := e; omega) l.size)⟩
        refine AZ.done (by kernel_rfl) ?_
        rintro w7 h7
        exact EW.met (q12, vi, vt) [0, 1, 9, 11, 12] rfl ⟨h7.1, h7.2.1, h7.2.2.1, h7.2.2.2, hq12⟩
    · simp only [List.getD_cons_zero, List.getD_cons_succ]
      refine ZE.newR (fun v W => ∃ q8, v = .pointer (some ⟨q8, 0, none⟩) ∧ Blk W q8 z114 114 ∧ w3.heap.size ≤ q8 ∧ Below w3.heap.size w3 W) rfl rfl (fun _ _ h => .inr (by obtain ⟨_, _, _, _, h⟩ := h; exact h)) (fun W hW => ?_) ?_
      · have l := hW
        obtain ⟨W2, q_, r_, b, l2, hq_⟩ := newB (cs := z114) zv114 W
        exact ⟨_, W2, r_, q_, rfl, b, by have := l.size; omega, bt l l2⟩
      rintro _ ⟨_, q12, rfl, _, hq12, _⟩
      refine AZ.two 3 9 1 12 1 rfl (by kernel_rfl) ?_ ?_
      · simp only [List.getD_cons_zero, List.getD_cons_succ]
        refine ZE.mkSl (fun v W => Lb 4 1 W w3.heap.size v (br (List.replicate (pN c) false)) ∧ Blk W q12 z114 114 ∧ Below w3.heap.size w3 W) rfl rfl rfl rfl (fun _ _ h => .inr h.2.2) (fun W hW => ?_) ?_
        · obtain ⟨q_, e_, b, _, l⟩ := hW
          cases e_
          have l0 := below_new W (.cells (List.replicate (pN c) (Value.bool false)).toArray 4)
          have m0 := mkLb (e := 4) (x := Value.bool false) W (pN c) (by omega)
          rw [br_rep] at m0
          exact ⟨_, _, run_mk107 W (pN c) (by omega), ⟨m0.ow, fun j hj => Nat.le_trans l.size (m0.base j hj)⟩, b.on l0, bt l l0⟩
        rintro vi ⟨W_vi, o_vi, _⟩
        have sl_vi := o_vi.sl
        refine AZ.seg [(12, 1, 1), (13, 0, 0), (15, 1, 1)] 0 rfl (by kernel_rfl) (sq_anti _) (by kernel_rfl) ?_
        simp only [opsZ, List.getD_cons_zero, List.getD_cons_succ]
        refine ZE.mkSl (fun v W => Lb 24 1 W w3.heap.size v (vr (List.replicate (pN c) (.slice none 0 0))) ∧ Lb 4 1 W w3.heap.size vi (br (List.replicate (pN c) false)) ∧ Blk W q12 z114 114 ∧ Below w3.heap.size w3 W) rfl rfl rfl rfl (fun _ _ h => .inr h.2.2.2) (fun W hW => ?_) ?_
        · obtain ⟨o4, b, l⟩ := hW
          have l0 := below_new W (.cells (List.replicate (pN c) (Value.slice none 0 0)).toArray 24)
          have m0 := mkLb (e := 24) (x := Value.slice none 0 0) W (pN c) (by omega)
          rw [vr_rep] at m0
          exact ⟨_, _, run_mk26 W (pN c) (by omega), ⟨m0.ow, fun j hj => Nat.le_trans l.size (m0.base j hj)⟩, o4.on l0, b.on l0, bt l l0⟩
        rintro vt ⟨W_vt, o_vt, _⟩
        have sl_vt := o_vt.sl
        refine ZE.buildN [(0, sv a), (1, u32v (pI c)), (2, .int .i64 (pN c : Int)), (3, sv (pS c)), (4, vi), (5, vt)] rfl rfl rfl rfl sq0 (fun W => bd114 a (pI c) (pN c) (pS c) vi vt sl_vi sl_vt W) ?_
        refine ZE.store (fun W => Blk W q12 (Rp.x0 a c vi vt).cs 114 ∧ Lb 4 1 W w3.heap.size vi (br (List.replicate (pN c) false)) ∧ Lb 24 1 W w3.heap.size vt (vr (List.replicate (pN c) (.slice none 0 0))) ∧ Below w3.heap.size w3 W) rfl rfl rfl (fun _ h => .inr h.2.2.2) (fun W hW => ?_) ?_
        · obtain ⟨o24, o4, b, l⟩ := hW
          obtain ⟨W2, s1, s2, s3⟩ := st114 (Rp.x0 a c vi vt) (Rp.one' sl_vi sl_vt) rfl b
          exact ⟨W2, s1, s2, o4.fx s3 (fun j hj e => o4.ow.neB b (by decide) j hj e), o24.fx s3 (fun j hj e => o24.ow.neB b (by decide) j hj e), l.trans (s3.below (fun k hk e => by have e' : k = q12 := e; omega) l.size)⟩
        refine AZ.done (by kernel_rfl) ?_
        rintro w7 h7
        exact EW.met (q12, vi, vt) [0, 1, 9, 11, 12] rfl ⟨h7.1, h7.2.1, h7.2.2.1, h7.2.2.2, hq12⟩
      · simp only [List.getD_cons_zero, List.getD_cons_succ]
        refine ZE.mkSl (fun v W => Lb 24 1 W w3.heap.size v (vr (List.replicate (pN c) (.slice none 0 0))) ∧ Blk W q12 z114 114 ∧ Below w3.heap.size w3 W) rfl rfl rfl rfl (fun _ _ h => .inr h.2.2) (fun W hW => ?_) ?_
        · obtain ⟨q_, e_, b, _, l⟩ := hW
          cases e_
          have l0 := below_new W (.cells (List.replicate (pN c) (Value.slice none 0 0)).toArray 24)
          have m0 := mkLb (e := 24) (x := Value.slice none 0 0) W (pN c) (by omega)
          rw [vr_rep] at m0
          exact ⟨_, _, run_mk26 W (pN c) (by omega), ⟨m0.ow, fun j hj => Nat.le_trans l.size (m0.base j hj)⟩, b.on l0, bt l l0⟩
        rintro vt ⟨W_vt, o_vt, _⟩
        have sl_vt := o_vt.sl
        refine AZ.seg [(9, 1, 1), (13, 0, 0), (15, 1, 1)] 0 rfl (by kernel_rfl) (sq_anti _) (by kernel_rfl) ?_
        simp only [opsZ, List.getD_cons_zero, List.getD_cons_succ]
        refine ZE.mkSl (fun v W => Lb 4 1 W w3.heap.size v (br (List.replicate (pN c) false)) ∧ Lb 24 1 W w3.heap.size vt (vr (List.replicate (pN c) (.slice none 0 0))) ∧ Blk W q12 z114 114 ∧ Below w3.heap.size w3 W) rfl rfl rfl rfl (fun _ _ h => .inr h.2.2.2) (fun W hW => ?_) ?_
        · obtain ⟨o24, b, l⟩ := hW
          have l0 := below_new W (.cells (List.replicate (pN c) (Value.bool false)).toArray 4)
          have m0 := mkLb (e := 4) (x := Value.bool false) W (pN c) (by omega)
          rw [br_rep] at m0
          exact ⟨_, _, run_mk107 W (pN c) (by omega), ⟨m0.ow, fun j hj => Nat.le_trans l.size (m0.base j hj)⟩, o24.on l0, b.on l0, bt l l0⟩
        rintro vi ⟨W_vi, o_vi, _⟩
        have sl_vi := o_vi.sl
        refine ZE.buildN [(0, sv a), (1, u32v (pI c)), (2, .int .i64 (pN c : Int)), (3, sv (pS c)), (4, vi), (5, vt)] rfl rfl rfl rfl sq0 (fun W => bd114 a (pI c) (pN c) (pS c) vi vt sl_vi sl_vt W) ?_
        refine ZE.store (fun W => Blk W q12 (Rp.x0 a c vi vt).cs 114 ∧ Lb 4 1 W w3.heap.size vi (br (List.replicate (pN c) false)) ∧ Lb 24 1 W w3.heap.size vt (vr (List.replicate (pN c) (.slice none 0 0))) ∧ Below w3.heap.size w3 W) rfl rfl rfl (fun _ h => .inr h.2.2.2) (fun W hW => ?_) ?_
        · obtain ⟨o4, o24, b, l⟩ := hW
          obtain ⟨W2, s1, s2, s3⟩ := st114 (Rp.x0 a c vi vt) (Rp.one' sl_vi sl_vt) rfl b
          exact ⟨W2, s1, s2, o4.fx s3 (fun j hj e => o4.ow.neB b (by decide) j hj e), o24.fx s3 (fun j hj e => o24.ow.neB b (by decide) j hj e), l.trans (s3.below (fun k hk e => by have e' : k = q12 := e; omega) l.size)⟩
        refine AZ.done (by kernel_rfl) ?_
        rintro w7 h7
        exact EW.met (q12, vi, vt) [0, 1, 9, 11, 12] rfl ⟨h7.1, h7.2.1, h7.2.2.1, h7.2.2.2, hq12⟩
  · rintro ⟨q12, vi, vt⟩ w7 ⟨B12, o4, o24, l7, hq12⟩
    have L7 := bt L3 l7
    have T7 := ht.on L7
    have nq : q9 ≠ q12 := by have := b9.lt; omega
    show EW _ _ _ _ [(0, .pointer (some ⟨q, 0, none⟩)), (1, sv a), (9, .pointer (some ⟨q9, 0, none⟩)), (11, .int .i64 (-1)), (12, .pointer (some ⟨q12, 0, none⟩))] _
    refine EW.seq ?_
    refine EW.seq ?_
    refine EW.region ?_
    first | refine WL.move rfl rfl rfl ?_
    first | refine WL.bin rfl rfl rfl rfl (int_ge_t ‹_› _ _ _) ?_ | refine WL.bin rfl rfl rfl rfl (int_ge_f ‹_› _ _ _) ?_ | refine WL.bin rfl rfl rfl rfl (int_ge_d _ _ _ _ _) ?_
    refine WL.done ?_
    refine EW.on ?_
    refine EW.cond_f rfl ?_
    refine EW.seq ?_
    refine EW.ordB [(0, 0, 0), (1, 0, 0), (2, 0, 0), (3, 0, 1), (4, 0, 0), (5, 0, 0), (6, 0, 0), (7, 0, 0), (8, 0, 1), (9, 0, 0)] (by kernel_rfl) rfl (by kernel_rfl) ?_
    simp only [opsZ, List.getD_cons_zero, List.getD_cons_succ]
    first | refine ZE.move rfl rfl rfl rfl sz0 ?_
    first | refine ZE.nilc rfl rfl rfl rfl sz0 ?_
    refine ZE.field rfl rfl rfl rfl sz0 (fun W => g82_0 _ W) ?_
    refine ZE.load rfl rfl rfl rfl sz1 (fun W hW => ld80 (T7.on (hW.resolve_left (by decide))).bl rfl) ?_
    rw [hve]
    refine ZE.len rfl rfl rfl rfl sz0 (fun W => len80 _ _ _ W _) ?_
    rw [← hve]
    first | refine ZE.move rfl rfl rfl rfl sz0 ?_
    first | refine ZE.nilc rfl rfl rfl rfl sz0 ?_
    refine ZE.field rfl rfl rfl rfl sz0 (fun W => g82_1 _ W) ?_
    refine ZE.load rfl rfl rfl rfl sz1 (fun W hW => ldI (T7.on (hW.resolve_left (by decide))).bl rfl) ?_
    refine ZE.bin rfl rfl rfl rfl rfl sz0 (fun W => int_ge_d _ _ W _ _) ?_
    rintro w14 l14
    have BE : Below w.heap.size w w14 := bt L7 l14
    have D9 := (b9.on l7).on l14
    have OC := ((ou1.below l3).below l7).below l14
    obtain ⟨X, hX⟩ : ∃ X, X = Rp.x0 a c vi vt := ⟨_, rfl⟩
    have PB : Blk w14 q12 X.cs 114 := by rw [hX]; exact B12.on l14
    have LI : Lb 4 1 w14 w3.heap.size X.iv (br X.h) := by rw [hX]; exact o4.on l14
    have LT : Lb 24 1 w14 w3.heap.size X.tv (vr X.ts) := by rw [hX]; exact o24.on l14
    have xn : X.n = pN c := by rw [hX]; rfl
    have XL : X.h.length = pN c ∧ X.t.length = pN c ∧ X.ts.length = pN c := by rw [hX]; exact ⟨List.length_replicate, List.length_replicate, List.length_replicate⟩
    have HX : ∀ (i : Nat) z b, X.ts[i]? = some z → X.t[i]? = some b → Ob w 0 z b := fun i z b hz hb => by
      rw [hX] at hz hb
      rw [List.eq_of_mem_replicate (show z ∈ List.replicate (pN c) (Value.slice none 0 0) from List.mem_of_getElem? hz), List.eq_of_mem_replicate (show b ∈ List.replicate (pN c) [] from List.mem_of_getElem? hb)]
      exact Ob.nil _ _
    have XE : ∀ b ∈ X.t, b.length ≤ 497 := fun b hb => by
      rw [hX] at hb
      rw [List.eq_of_mem_replicate (show b ∈ List.replicate (pN c) [] from hb)]; simp
    have hsz3 := L3.size
    refine EW.on ?_
    refine EW.cond_d rfl (fun h79 => ?_) (fun h79 => ?_)
    · have hfull : most ≤ L.length := by omega
      refine EW.seq ?_
      refine EW.region ?_
      first | refine WL.assign rfl rfl rfl ?_
      first | refine WL.assign rfl rfl rfl ?_
      first | refine WL.assign rfl rfl rfl ?_
      refine WL.done ?_
      refine EW.on ?_
      refine EW.ret ?_
      refine pr_then ?_
      exact EW.returns3 Tryd.results31 rfl rfl rfl (.inl ⟨hfull, rfl, bt L7 l14⟩)
    · have hfull : ¬ most ≤ L.length := by omega
      refine EW.skip ?_
      refine EW.on ?_
      refine EW.seq ?_
      refine EW.region ?_
      refine WL.field rfl rfl rfl (g114_4 _ _) ?_
      refine WL.load rfl rfl rfl (ld107 PB (show X.cs[4]? = some X.iv from rfl)) ?_
      refine WL.field rfl rfl rfl (g109_2 _ _) ?_
      refine WL.load rfl rfl rfl (ldI D9 rfl) ?_
      obtain ⟨ad4, w16, k4, y1, y2, y3, y4, y5⟩ := LI.set4 (i := pA c) (by omega)
      refine WL.index rfl rfl rfl rfl (y1 _) ?_
      refine WL.store rfl rfl rfl y2 ?_
      have hk4 := LI.base k4 y5
      replace PB := PB.fx y4 (fun e => LI.ow.neB PB (by decide) k4 y5 e.symm)
      replace D9 := D9.fx y4 (fun e => LI.ow.neB D9 (by decide) k4 y5 e.symm)
      replace LT := LT.fx y4 (fun j hj e => by have e' : j = k4 := e; rw [e'] at hj; exact LI.neT LT (by decide) y5 hj)
      replace OC := OC.fx y4 (fun k hk e => by have e' : k = k4 := hk; rw [e'] at e; exact LI.neO OC (by decide) y5 e)
      replace BE := BE.trans (y4.below (fun k hk e => by have e' : k = k4 := e; omega) BE.size)
      refine WL.done ?_
      refine EW.on ?_
      refine EW.seq ?_
      refine EW.region ?_
      refine WL.field rfl rfl rfl (g114_5 _ _) ?_
      refine WL.load rfl rfl rfl (ld26 PB (show X.cs[5]? = some X.tv from rfl)) ?_
      refine WL.field rfl rfl rfl (g109_2 _ _) ?_
      refine WL.load rfl rfl rfl (ldI D9 rfl) ?_
      refine WL.field rfl rfl rfl (g109_4 _ _) ?_
      refine WL.load rfl rfl rfl (ldS D9 rfl) ?_
      obtain ⟨ad24, w17, k24, z1, z2, z3, z4, z5⟩ := LT.set24 (i := pA c) (by omega) husl
      refine WL.index rfl rfl rfl rfl (z1 _) ?_
      refine WL.store rfl rfl rfl z2 ?_
      have hk24 := LT.base k24 z5
      replace PB := PB.fx z4 (fun e => LT.ow.neB PB (by decide) k24 z5 e.symm)
      replace D9 := D9.fx z4 (fun e => LT.ow.neB D9 (by decide) k24 z5 e.symm)
      replace y3 := y3.fx z4 (fun j hj e => by have e' : j = k24 := e; rw [e'] at hj; exact LT.neT y3 (by decide) z5 hj)
      replace OC := OC.fx z4 (fun k hk e => by have e' : k = k24 := hk; rw [e'] at e; exact LT.neO OC (by decide) z5 e)
      replace BE := BE.trans (z4.below (fun k hk e => by have e' : k = k24 := e; omega) BE.size)
      obtain ⟨Y, hY⟩ : ∃ Y, Y = X.put (pA c) u (pC c) := ⟨_, rfl⟩
      have Yhs : Y.hs w17 := by
        rw [hY]
        refine ⟨y3.ow, z3.ow, fun j z b hz hb => ?_, by show (X.h.set _ _).length = X.n; rw [List.length_set]; omega, by show (X.t.set _ _).length = X.n; rw [List.length_set]; omega, by show (X.ts.set _ _).length = X.n; rw [List.length_set]; omega, fun b hb => ?_, by show X.n ≤ 64; omega⟩
        · have hz' : (X.ts.set (pA c) u)[j]? = some z := hz
          have hb' : (X.t.set (pA c) (pC c))[j]? = some b := hb
          rw [List.getElem?_set] at hz' hb'
          by_cases ej : pA c = j
          · rw [if_pos ej, if_pos (by omega)] at hz' hb'
            cases hz'; cases hb'; exact OC.lower (Nat.zero_le _)
          · rw [if_neg ej] at hz' hb'
            exact (HX j z b hz' hb').below BE
        · rcases List.mem_or_eq_of_mem_set (show b ∈ X.t.set (pA c) (pC c) from hb) with h' | h'
          · exact XE b h'
          · rw [h']; exact K7
      replace PB : Blk w17 q12 Y.cs 114 := by rw [hY]; exact PB
      have T17 := ht.on BE
      have hRs17 := hRs.below BE hRs.lt
      have hBs17 := hBs.below BE hBs.lt
      refine WL.done ?_
      refine EW.on ?_
      refine EW.seq ?_
      refine EW.seq ?_
      rcases Bool.eq_false_or_eq_true (rall Y.h) with hal | hal
      · refine EW.ordB [(0, 0, 1), (1, 1, 1), (2, 0, 0), (3, 0, 1), (6, 0, 0), (7, 0, 1), (4, 1, 1), (5, 1, 1), (8, 0, 0), (9, 0, 0)] (by kernel_rfl) rfl (by kernel_rfl) ?_
        simp only [opsZ, List.getD_cons_zero, List.getD_cons_succ]
        first | refine ZE.load rfl rfl rfl rfl (fun W h => sz1 W h) (fun W hW => ld114 (PB.on (hW.resolve_left (by decide)))) ?_ | refine ZE.skip rfl rfl rfl sz1 ?_
        refine ZE.callV [Y.val] (.bool (rall Y.h)) (fun W => Below w17.heap.size w17 W) enter53 rfl rfl rfl (fun _ h => .inr h) (fun W hW => (rwhole_any Y W (Yhs.on hW)).mono fun e w' ⟨h1, h2⟩ => ⟨h1, bt hW h2⟩) ?_
        rw [hal]
        first | refine ZE.move rfl rfl rfl rfl sz0 ?_
        first | refine ZE.load rfl rfl rfl rfl (fun W h => sz1 W h) (fun W hW => ld114 (PB.on (hW.resolve_left (by decide)))) ?_ | refine ZE.skip rfl rfl rfl sz1 ?_
        first | refine ZE.field rfl rfl rfl rfl sz0 (fun W => g114_3 _ W) ?_ | refine ZE.skip rfl rfl rfl sz0 ?_
        first | refine ZE.load rfl rfl rfl rfl (fun W h => sz1 W h) (fun W hW => ldTb (PB.on (hW.resolve_left (by decide))) (show Y.cs[3]? = some (sv Y.s) from rfl)) ?_ | refine ZE.skip rfl rfl rfl sz1 ?_
        refine ZE.callR [Y.val] (fun v W => Ob W w17.heap.size v Y.t.flatten ∧ Below w17.heap.size w17 W) enter55 rfl rfl rfl (fun _ _ h => .inr h.2) (fun W hW => (rtext_any Y W (Yhs.on hW)).mono fun e w' ⟨v, h1, h2, h3⟩ => ⟨v, h1, h2.lower hW.size, bt hW h3⟩) ?_
        rintro v55 ⟨_, _, _⟩
        refine ZE.callV [v55] (sv (sm Y.t.flatten)) (fun W => Below w17.heap.size w17 W) enter54 rfl rfl rfl (fun _ h => .inr h) (fun W hW => (rsum_any v55 _ W hW.1.has (by have := Yhs.tlen; omega) (hRs17.below hW.2 hRs17.lt) (hBs17.below hW.2 hBs17.lt)).mono fun e w' ⟨h1, h2⟩ => ⟨h1, bt hW.2 h2⟩) ?_
        first | refine ZE.bin rfl rfl rfl rfl rfl sz0 (fun W => str_ne_d _ _ W _ _) ?_ | refine ZE.skip rfl rfl rfl sz0 ?_
        first | refine ZE.pick rfl rfl rfl rfl rfl sz0 ?_
        rintro w18 l18
        have T18 := T17.on l18
        have PB18 := PB.on l18
        have D18 := D9.on l18
        have Yhs18 := Yhs.on l18
        have BE18 := bt BE l18
        refine EW.on ?_
        refine EW.cond_d rfl (fun h101 => ?_) (fun h101 => ?_)
        · skip
          refine EW.seq ?_
          refine EW.region ?_
          first | refine WL.assign rfl rfl rfl ?_
          first | refine WL.assign rfl rfl rfl ?_
          first | refine WL.assign rfl rfl rfl ?_
          refine WL.done ?_
          refine EW.on ?_
          refine EW.ret ?_
          refine pr_then ?_
          exact EW.returns3 Tryd.results31 rfl rfl rfl (.inr ⟨hfull, vi, vt, u, ou1.base, .inl ⟨by rw [← hX, ← hY]; exact hal, by have := h101; rw [hY, hX] at this; exact this, rfl, BE18⟩⟩)
        · skip
          refine EW.skip ?_
          refine EW.on ?_
          refine EW.seq ?_
          refine EW.seq ?_
          refine EW.region ?_
          first | refine WL.move rfl rfl rfl ?_
          first | refine WL.bin rfl rfl rfl rfl (int_ge_t ‹_› _ _ _) ?_ | refine WL.bin rfl rfl rfl rfl (int_ge_f ‹_› _ _ _) ?_ | refine WL.bin rfl rfl rfl rfl (int_ge_d _ _ _ _ _) ?_
          refine WL.done ?_
          refine EW.on ?_
          refine EW.cond_f rfl ?_
          refine EW.ordB [(0, 0, 0), (1, 0, 0), (2, 0, 0), (3, 0, 0), (4, 0, 1), (5, 0, 1), (6, 1, 1), (7, 1, 0), (8, 0, 0), (9, 0, 0), (10, 1, 0)] (by kernel_rfl) rfl (by kernel_rfl) ?_
          simp only [opsZ, List.getD_cons_zero, List.getD_cons_succ]
          first | refine ZE.move rfl rfl rfl rfl sz0 ?_
          first | refine ZE.move rfl rfl rfl rfl sz0 ?_
          first | refine ZE.nilc rfl rfl rfl rfl sz0 ?_
          refine ZE.field rfl rfl rfl rfl sz0 (fun W => g82_0 _ W) ?_
          refine ZE.load rfl rfl rfl rfl sz1 (fun W hW => ld80 (T18.on (hW.resolve_left (by decide))).bl rfl) ?_
          refine ZE.load rfl rfl rfl rfl sz1 (fun W hW => ld114 (PB18.on (hW.resolve_left (by decide)))) ?_
          refine ZE.bsl [(0, Y.val)] (fun s W => Ow 114 6 W s [Y.cs] ∧ Below w18.heap.size w18 W) rfl rfl rfl (fun _ _ h => .inr h.2) (fun W hW => ⟨_, _, run_bsN el80 W [Y.cs] (by intro x hx; rw [List.mem_singleton.1 hx]; rfl) (by show 0 < 1; decide) (by show 1 * 6 ≤ _; decide), Ow.new (k := 6) W [Y.cs] (by intro x hx; rw [List.mem_singleton.1 hx]; rfl) (by show 1 ≤ _; unfold maxLen; decide), hW.trans ((below_new W _).mono hW.size)⟩) ?_
          rintro s22 _
          refine ZE.app (fun v' W => Ow 114 6 W v' (L.map Rp.cs ++ [Y.cs]) ∧ (∀ b, v'.ownBlock = some b → v.ownBlock = some b ∨ w.heap.size ≤ b) ∧ ∃ W0, Below w18.heap.size w18 W0 ∧ Fx (fun k => v.ownBlock = some k) W0 W) rfl rfl rfl rfl (fun _ _ _ => .inl rfl) (fun W hW => ?_) ?_
          · obtain ⟨v', w', p1, p2, p3, p4⟩ := ((T18.on hW.2).ow).app el80 hW.1.li (fun r hr c hc => by rw [List.mem_singleton.1 hr] at hc; exact cs_one (L := [Y]) (w := w18) (by intro x hx; rw [List.mem_singleton.1 hx]; exact Yhs18) _ (by simp) c hc) (by rw [List.length_map]; show (L.length + 1) * 96 ≤ _; omega) 80
            refine ⟨v', w', p1, p2, fun b hb => ?_, W, hW.2, p3⟩
            rcases p4 b hb with e | e
            · exact .inl e
            · right; have := (bt BE18 hW.2).size; omega
          rintro v22 ⟨W22, o22, nb22, _⟩
          first | refine ZE.nilc rfl rfl rfl rfl sz0 ?_
          refine ZE.field rfl rfl rfl rfl sz0 (fun W => g82_0 _ W) ?_
          refine ZE.store (fun W => (∃ v', Rt W q v' most (L ++ [Y]) ∧ (∀ b, v'.ownBlock = some b → v.ownBlock = some b ∨ w.heap.size ≤ b)) ∧ Blk W q9 (Rq.mk (pI c) (pN c) (pA c) (pS c) u).cs 109 ∧ Blk W q12 Y.cs 114 ∧ Y.hs W ∧ Fx (fun k => k = q ∨ v.ownBlock = some k) w W) rfl rfl rfl (fun _ _ => .inl rfl) (fun W hW => ?_) ?_
          · exact rpush T18 hW Yhs18 PB18 D18 BE18 (by have := L3.size; omega) ht
          rintro w23 ⟨⟨v9, rt9, nb9⟩, D23, PB23, Yhs23, fx9⟩
          refine EW.on ?_
          refine EW.seq ?_
          refine EW.ordB [(0, 0, 0), (1, 0, 1), (2, 0, 1), (3, 1, 1), (4, 0, 0), (5, 0, 0), (6, 0, 0)] (by kernel_rfl) rfl (by kernel_rfl) ?_
          simp only [opsZ, List.getD_cons_zero, List.getD_cons_succ]
          refine ZE.field rfl rfl rfl rfl sz0 (fun W => g109_0 _ W) ?_
          refine ZE.load rfl rfl rfl rfl sz1 (fun W hW => ldU2 (D23.on (hW.resolve_left (by decide))) rfl) ?_
          refine ZE.load rfl rfl rfl rfl sz1 (fun W hW => ld114 (PB23.on (hW.resolve_left (by decide)))) ?_
          refine ZE.callV [Y.val] (.bool (rall Y.h)) (fun W => Below w23.heap.size w23 W) enter53 rfl rfl rfl (fun _ h => .inr h) (fun W hW => (rwhole_any Y W (Yhs23.on hW)).mono fun e w' ⟨h1, h2⟩ => ⟨h1, bt hW h2⟩) ?_
          first | refine ZE.assign rfl rfl rfl rfl sz0 ?_
          first | refine ZE.assign rfl rfl rfl rfl sz0 ?_
          first | refine ZE.assign rfl rfl rfl rfl sz0 ?_
          rintro w24 l24
          refine EW.on ?_
          refine EW.ret ?_
          exact EW.returns3 Tryd.results31 rfl rfl rfl (.inr ⟨hfull, vi, vt, u, ou1.base, .inr ⟨(fun h => h.2 (by have := Decidable.of_not_not h101; rw [hY, hX] at this; exact this)), by rw [← hX, ← hY], v9, by rw [← hX, ← hY]; exact rt9.on l24, nb9, fx9.then_below l24⟩⟩)
      · refine EW.ordB [(0, 0, 1), (1, 1, 1), (2, 0, 0), (3, 0, 1), (4, 0, 0), (5, 0, 0), (6, 0, 0), (7, 0, 1), (8, 0, 0), (9, 0, 0)] (by kernel_rfl) rfl (by kernel_rfl) ?_
        simp only [opsZ, List.getD_cons_zero, List.getD_cons_succ]
        first | refine ZE.load rfl rfl rfl rfl (fun W h => sz1 W h) (fun W hW => ld114 (PB.on (hW.resolve_left (by decide)))) ?_ | refine ZE.skip rfl rfl rfl sz1 ?_
        refine ZE.callV [Y.val] (.bool (rall Y.h)) (fun W => Below w17.heap.size w17 W) enter53 rfl rfl rfl (fun _ h => .inr h) (fun W hW => (rwhole_any Y W (Yhs.on hW)).mono fun e w' ⟨h1, h2⟩ => ⟨h1, bt hW h2⟩) ?_
        rw [hal]
        first | refine ZE.move rfl rfl rfl rfl sz0 ?_
        first | refine ZE.load rfl rfl rfl rfl (fun W h => sz1 W h) (fun W hW => ld114 (PB.on (hW.resolve_left (by decide)))) ?_ | refine ZE.skip rfl rfl rfl sz1 ?_
        refine ZE.skip rfl rfl rfl sz0 ?_
        refine ZE.skip rfl rfl rfl sz0 ?_
        first | refine ZE.field rfl rfl rfl rfl sz0 (fun W => g114_3 _ W) ?_ | refine ZE.skip rfl rfl rfl sz0 ?_
        first | refine ZE.load rfl rfl rfl rfl (fun W h => sz1 W h) (fun W hW => ldTb (PB.on (hW.resolve_left (by decide))) (show Y.cs[3]? = some (sv Y.s) from rfl)) ?_ | refine ZE.skip rfl rfl rfl sz1 ?_
        first | refine ZE.bin rfl rfl rfl rfl rfl sz0 (fun W => str_ne_d _ _ W _ _) ?_ | refine ZE.skip rfl rfl rfl sz0 ?_
        first | refine ZE.pick rfl rfl rfl rfl rfl sz0 ?_
        rintro w18 l18
        have T18 := T17.on l18
        have PB18 := PB.on l18
        have D18 := D9.on l18
        have Yhs18 := Yhs.on l18
        have BE18 := bt BE l18
        refine EW.on ?_
        refine EW.cond_f rfl ?_
        refine EW.skip ?_
        refine EW.on ?_
        refine EW.seq ?_
        refine EW.seq ?_
        refine EW.region ?_
        first | refine WL.move rfl rfl rfl ?_
        first | refine WL.bin rfl rfl rfl rfl (int_ge_t ‹_› _ _ _) ?_ | refine WL.bin rfl rfl rfl rfl (int_ge_f ‹_› _ _ _) ?_ | refine WL.bin rfl rfl rfl rfl (int_ge_d _ _ _ _ _) ?_
        refine WL.done ?_
        refine EW.on ?_
        refine EW.cond_f rfl ?_
        refine EW.ordB [(0, 0, 0), (1, 0, 0), (2, 0, 0), (3, 0, 0), (4, 0, 1), (5, 0, 1), (6, 1, 1), (7, 1, 0), (8, 0, 0), (9, 0, 0), (10, 1, 0)] (by kernel_rfl) rfl (by kernel_rfl) ?_
        simp only [opsZ, List.getD_cons_zero, List.getD_cons_succ]
        first | refine ZE.move rfl rfl rfl rfl sz0 ?_
        first | refine ZE.move rfl rfl rfl rfl sz0 ?_
        first | refine ZE.nilc rfl rfl rfl rfl sz0 ?_
        refine ZE.field rfl rfl rfl rfl sz0 (fun W => g82_0 _ W) ?_
        refine ZE.load rfl rfl rfl rfl sz1 (fun W hW => ld80 (T18.on (hW.resolve_left (by decide))).bl rfl) ?_
        refine ZE.load rfl rfl rfl rfl sz1 (fun W hW => ld114 (PB18.on (hW.resolve_left (by decide)))) ?_
        refine ZE.bsl [(0, Y.val)] (fun s W => Ow 114 6 W s [Y.cs] ∧ Below w18.heap.size w18 W) rfl rfl rfl (fun _ _ h => .inr h.2) (fun W hW => ⟨_, _, run_bsN el80 W [Y.cs] (by intro x hx; rw [List.mem_singleton.1 hx]; rfl) (by show 0 < 1; decide) (by show 1 * 6 ≤ _; decide), Ow.new (k := 6) W [Y.cs] (by intro x hx; rw [List.mem_singleton.1 hx]; rfl) (by show 1 ≤ _; unfold maxLen; decide), hW.trans ((below_new W _).mono hW.size)⟩) ?_
        rintro s22 _
        refine ZE.app (fun v' W => Ow 114 6 W v' (L.map Rp.cs ++ [Y.cs]) ∧ (∀ b, v'.ownBlock = some b → v.ownBlock = some b ∨ w.heap.size ≤ b) ∧ ∃ W0, Below w18.heap.size w18 W0 ∧ Fx (fun k => v.ownBlock = some k) W0 W) rfl rfl rfl rfl (fun _ _ _ => .inl rfl) (fun W hW => ?_) ?_
        · obtain ⟨v', w', p1, p2, p3, p4⟩ := ((T18.on hW.2).ow).app el80 hW.1.li (fun r hr c hc => by rw [List.mem_singleton.1 hr] at hc; exact cs_one (L := [Y]) (w := w18) (by intro x hx; rw [List.mem_singleton.1 hx]; exact Yhs18) _ (by simp) c hc) (by rw [List.length_map]; show (L.length + 1) * 96 ≤ _; omega) 80
          refine ⟨v', w', p1, p2, fun b hb => ?_, W, hW.2, p3⟩
          rcases p4 b hb with e | e
          · exact .inl e
          · right; have := (bt BE18 hW.2).size; omega
        rintro v22 ⟨W22, o22, nb22, _⟩
        first | refine ZE.nilc rfl rfl rfl rfl sz0 ?_
        refine ZE.field rfl rfl rfl rfl sz0 (fun W => g82_0 _ W) ?_
        refine ZE.store (fun W => (∃ v', Rt W q v' most (L ++ [Y]) ∧ (∀ b, v'.ownBlock = some b → v.ownBlock = some b ∨ w.heap.size ≤ b)) ∧ Blk W q9 (Rq.mk (pI c) (pN c) (pA c) (pS c) u).cs 109 ∧ Blk W q12 Y.cs 114 ∧ Y.hs W ∧ Fx (fun k => k = q ∨ v.ownBlock = some k) w W) rfl rfl rfl (fun _ _ => .inl rfl) (fun W hW => ?_) ?_
        · exact rpush T18 hW Yhs18 PB18 D18 BE18 (by have := L3.size; omega) ht
        rintro w23 ⟨⟨v9, rt9, nb9⟩, D23, PB23, Yhs23, fx9⟩
        refine EW.on ?_
        refine EW.seq ?_
        refine EW.ordB [(0, 0, 0), (1, 0, 1), (2, 0, 1), (3, 1, 1), (4, 0, 0), (5, 0, 0), (6, 0, 0)] (by kernel_rfl) rfl (by kernel_rfl) ?_
        simp only [opsZ, List.getD_cons_zero, List.getD_cons_succ]
        refine ZE.field rfl rfl rfl rfl sz0 (fun W => g109_0 _ W) ?_
        refine ZE.load rfl rfl rfl rfl sz1 (fun W hW => ldU2 (D23.on (hW.resolve_left (by decide))) rfl) ?_
        refine ZE.load rfl rfl rfl rfl sz1 (fun W hW => ld114 (PB23.on (hW.resolve_left (by decide)))) ?_
        refine ZE.callV [Y.val] (.bool (rall Y.h)) (fun W => Below w23.heap.size w23 W) enter53 rfl rfl rfl (fun _ h => .inr h) (fun W hW => (rwhole_any Y W (Yhs23.on hW)).mono fun e w' ⟨h1, h2⟩ => ⟨h1, bt hW h2⟩) ?_
        first | refine ZE.assign rfl rfl rfl rfl sz0 ?_
        first | refine ZE.assign rfl rfl rfl rfl sz0 ?_
        first | refine ZE.assign rfl rfl rfl rfl sz0 ?_
        rintro w24 l24
        refine EW.on ?_
        refine EW.ret ?_
        exact EW.returns3 Tryd.results31 rfl rfl rfl (.inr ⟨hfull, vi, vt, u, ou1.base, .inr ⟨(fun h => by rw [← hX, ← hY, hal] at h; cases h.1), by rw [← hX, ← hY], v9, by rw [← hX, ← hY]; exact rt9.on l24, nb9, fx9.then_below l24⟩⟩)
set_option maxRecDepth 100000 in
set_option maxHeartbeats 32000000 in
theorem radd_some (q : Nat) (v : Value) (most : Nat) (L : List Rp) (hL : L.length ≤ 1000) (a : List UInt8) (v0 : Value) (c : List UInt8) (w : World) (ht : Rt w q v most L) (hv : Has w v0 c) (hl : c.length ≤ 140737488355328) (hRs : Rst w) (hBs : Bst w) (hnm : nmB a = true) (hok : okP c = true) (ki : Nat) (y : Rp) (hf : L.findIdx? (isK a (pI c)) = some ki) (hy : L[ki]? = some y) : Calls Tryd.prog 31 #[.pointer (some ⟨q, 0, none⟩), sv a, v0] w fun e w' => ((¬ (y.n = pN c ∧ y.s = pS c)) ∧ e = .returned (.tuple #[u32v 0, .bool false, .int .i64 260]) ∧ Below w.heap.size w w') ∨ (y.n = pN c ∧ y.s = pS c ∧ y.h[pA c]? = some true ∧ e = .returned (.tuple #[u32v 0, .bool false, .int .i64 151]) ∧ Below w.heap.size w w') ∨ (y.n = pN c ∧ y.s = pS c ∧ y.h[pA c]? = some false ∧ ∃ vi2 vt2 u, (∀ b, u.ownBlock = some b → w.heap.size ≤ b) ∧ ((rall ((y.new vi2 vt2).put (pA c) u (pC c)).h = true ∧ ¬ sm ((y.new vi2 vt2).put (pA c) u (pC c)).t.flatten = pS c ∧ e = .returned (.tuple #[u32v 0, .bool false, .int .i64 101]) ∧ Below w.heap.size w w') ∨ (¬ (rall ((y.new vi2 vt2).put (pA c) u (pC c)).h = true ∧ ¬ sm ((y.new vi2 vt2).put (pA c) u (pC c)).t.flatten = pS c) ∧ e = .returned (.tuple #[u32v (pI c), .bool (rall ((y.new vi2 vt2).put (pA c) u (pC c)).h), .int .i64 0]) ∧ ∃ v', Rt w' q v' most (L.set ki ((y.new vi2 vt2).put (pA c) u (pC c))) ∧ (∀ b, v'.ownBlock = some b → v.ownBlock = some b ∨ w.heap.size ≤ b) ∧ Fx (fun k => k = q ∨ v.ownBlock = some k) w w'))) := by
  have hL : L.length ≤ 1000000 := by omega
  obtain ⟨K1, K2, K3, K4, K5, K6, K7⟩ := ok_is hok
  have hfi := fi_s hf
  have hki : ki < L.length := (List.getElem?_eq_some_iff.1 hy).1
  have hym := List.mem_of_getElem? hy
  have hn0 : (0 : Int) ≤ (ki : Int) := by omega
  have yn2 := (ht.hs y hym).n2
  refine calls_of_args [.pointer (some ⟨q, 0, none⟩), sv a, v0] Tryd.func31 rfl 125 Tryd.ntmps31 (by show 3 ≤ 125; decide) ?_
  refine EW.seq ?_
  refine EW.region ?_
  first | refine WL.assign rfl rfl rfl ?_
  first | refine WL.assign rfl rfl rfl ?_
  first | refine WL.assign rfl rfl rfl ?_
  refine WL.done ?_
  refine EW.on ?_
  refine EW.seq ?_
  refine EW.seq ?_
  refine EW.region ?_
  first | refine WL.move rfl rfl rfl ?_
  refine WL.call [sv a] enter49 rfl rfl rfl (rname_any a _) ?_
  rintro _ wN ⟨rfl, hwN⟩
  refine ⟨_, rfl, ?_⟩
  rw [hwN, hnm]
  first | refine WL.un rfl rfl rfl (not_t _ _) ?_
  refine WL.done ?_
  refine EW.on ?_
  refine EW.cond_f rfl ?_
  refine EW.skip ?_
  refine EW.on ?_
  refine EW.seq ?_
  refine EW.region ?_
  first | refine WL.move rfl rfl rfl ?_
  refine WL.call [v0] enter50 rfl rfl rfl (rread_ok hv hl hok) ?_
  rintro _ w1 ⟨u, rfl, ou1, l1⟩
  refine ⟨_, rfl, ?_⟩
  have husl := ou1.has.sl
  first | refine WL.move rfl rfl rfl ?_
  first | refine WL.extract rfl rfl rfl (ext_2 _ _ _).1 ?_
  first | refine WL.extract rfl rfl rfl (ext_2 _ _ _).2 ?_
  obtain ⟨w2, w3, q9, rn9, s9, b9, l3, hq9⟩ := ns109 w1 (p := (Rq.mk (pI c) (pN c) (pA c) (pS c) u)) husl
  refine WL.new rfl rfl rn9 ?_
  refine WL.store rfl rfl rfl s9 ?_
  have L3 := bt l1 l3
  first | refine WL.assign rfl rfl rfl ?_
  refine WL.done ?_
  refine EW.on ?_
  refine EW.seq ?_
  refine EW.seq ?_
  refine EW.region ?_
  first | refine WL.move rfl rfl rfl ?_
  first | refine WL.un rfl rfl rfl (not_t _ _) ?_
  refine WL.done ?_
  refine EW.on ?_
  refine EW.cond_f rfl ?_
  refine EW.skip ?_
  refine EW.on ?_
  refine EW.seq ?_
  refine EW.region ?_
  first | refine WL.move rfl rfl rfl ?_
  first | refine WL.move rfl rfl rfl ?_
  refine WL.field rfl rfl rfl (g109_0 _ _) ?_
  refine WL.load rfl rfl rfl (ldU2 b9 rfl) ?_
  refine WL.call [.pointer (some ⟨q, 0, none⟩), sv a, u32v (pI c)] enter51 rfl rfl rfl (rfind_any q v most L hL a (pI c) w3 (ht.on L3)) ?_
  rintro _ wF ⟨rfl, hwF⟩
  refine ⟨_, rfl, ?_⟩
  rw [hwF, hfi]
  first | refine WL.assign rfl rfl rfl ?_
  refine WL.done ?_
  refine EW.on ?_
  refine EW.join (fun y : Nat × Value × Value => [(0, .pointer (some ⟨q, 0, none⟩)), (1, sv a), (9, .pointer (some ⟨q9, 0, none⟩)), (11, .int .i64 (ki : Int)), (12, .pointer (some ⟨y.1, 0, none⟩))]) (fun y W => Blk W y.1 (Rp.x0 a c y.2.1 y.2.2).cs 114 ∧ Lb 4 1 W w3.heap.size y.2.1 (br (List.replicate (pN c) false)) ∧ Lb 24 1 W w3.heap.size y.2.2 (vr (List.replicate (pN c) (.slice none 0 0))) ∧ Below w3.heap.size w3 W ∧ w3.heap.size ≤ y.1) ?_ ?_
  · refine EW.az (SQ (fun W => Below w3.heap.size w3 W)) (levZ [(2, 0, 1), (4, 0, 1), (6, 0, 1), (8, 0, 1), (11, 0, 1), (9, 1, 1), (12, 1, 1), (14, 1, 1), (15, 1, 1)]) (fun W => Below w3.heap.size w3 W) 16 (by kernel_rfl) rfl (below_drawn w3) ?_
    refine AZ.seg [(0, 0, 0), (1, 0, 0), (2, 0, 1), (3, 0, 0), (4, 0, 1), (5, 0, 0), (6, 0, 1), (7, 0, 0), (8, 0, 1), (10, 0, 0), (11, 0, 1)] 5 rfl (by kernel_rfl) (sq_anti _) (by kernel_rfl) ?_
    simp only [opsZ, List.getD_cons_zero, List.getD_cons_succ]
    first | refine ZE.move rfl rfl rfl rfl sq0 ?_
    refine ZE.field rfl rfl rfl rfl sq0 (fun W => g109_0 _ W) ?_
    refine ZE.load rfl rfl rfl rfl sq1 (fun W hW => ldU2 (b9.on (sq_of hW)) rfl) ?_
    refine ZE.field rfl rfl rfl rfl sq0 (fun W => g109_1 _ W) ?_
    refine ZE.load rfl rfl rfl rfl sq1 (fun W hW => ldI (b9.on (sq_of hW)) rfl) ?_
    refine ZE.field rfl rfl rfl rfl sq0 (fun W => g109_3 _ W) ?_
    refine ZE.load rfl rfl rfl rfl sq1 (fun W hW => ldTb (b9.on (sq_of hW)) rfl) ?_
    refine ZE.field rfl rfl rfl rfl sq0 (fun W => g109_1 _ W) ?_
    refine ZE.load rfl rfl rfl rfl sq1 (fun W hW => ldI (b9.on (sq_of hW)) rfl) ?_
    refine ZE.field rfl rfl rfl rfl sq0 (fun W => g109_1 _ W) ?_
    refine ZE.load rfl rfl rfl rfl sq1 (fun W hW => ldI (b9.on (sq_of hW)) rfl) ?_
    refine AZ.three 4 9 1 12 1 14 1 rfl (by kernel_rfl) ?_ ?_ ?_
    · simp only [List.getD_cons_zero, List.getD_cons_succ]
      refine ZE.mkSl (fun v W => Lb 4 1 W w3.heap.size v (br (List.replicate (pN c) false)) ∧ Below w3.heap.size w3 W) rfl rfl rfl rfl (fun _ _ h => .inr h.2) (fun W hW => ?_) ?_
      · have l := hW
        have l0 := below_new W (.cells (List.replicate (pN c) (Value.bool false)).toArray 4)
        have m0 := mkLb (e := 4) (x := Value.bool false) W (pN c) (by omega)
        rw [br_rep] at m0
        exact ⟨_, _, run_mk107 W (pN c) (by omega), ⟨m0.ow, fun j hj => Nat.le_trans l.size (m0.base j hj)⟩, bt l l0⟩
      rintro vi ⟨W_vi, o_vi, _⟩
      have sl_vi := o_vi.sl
      refine AZ.two 3 12 1 14 1 rfl (by kernel_rfl) ?_ ?_
      · simp only [List.getD_cons_zero, List.getD_cons_succ]
        refine ZE.mkSl (fun v W => Lb 24 1 W w3.heap.size v (vr (List.replicate (pN c) (.slice none 0 0))) ∧ Lb 4 1 W w3.heap.size vi (br (List.replicate (pN c) false)) ∧ Below w3.heap.size w3 W) rfl rfl rfl rfl (fun _ _ h => .inr h.2.2) (fun W hW => ?_) ?_
        · obtain ⟨o4, l⟩ := hW
          have l0 := below_new W (.cells (List.replicate (pN c) (Value.slice none 0 0)).toArray 24)
          have m0 := mkLb (e := 24) (x := Value.slice none 0 0) W (pN c) (by omega)
          rw [vr_rep] at m0
          exact ⟨_, _, run_mk26 W (pN c) (by omega), ⟨m0.ow, fun j hj => Nat.le_trans l.size (m0.base j hj)⟩, o4.on l0, bt l l0⟩
        rintro vt ⟨W_vt, o_vt, _⟩
        have sl_vt := o_vt.sl
        refine AZ.seg [(13, 0, 0), (14, 1, 1), (15, 1, 1)] 0 rfl (by kernel_rfl) (sq_anti _) (by kernel_rfl) ?_
        simp only [opsZ, List.getD_cons_zero, List.getD_cons_succ]
        refine ZE.buildN [(0, sv a), (1, u32v (pI c)), (2, .int .i64 (pN c : Int)), (3, sv (pS c)), (4, vi), (5, vt)] rfl rfl rfl rfl sq0 (fun W => bd114 a (pI c) (pN c) (pS c) vi vt sl_vi sl_vt W) ?_
        refine ZE.newR (fun v W => ∃ q8, v = .pointer (some ⟨q8, 0, none⟩) ∧ Blk W q8 z114 114 ∧ w3.heap.size ≤ q8 ∧ Lb 4 1 W w3.heap.size vi (br (List.replicate (pN c) false)) ∧ Lb 24 1 W w3.heap.size vt (vr (List.replicate (pN c) (.slice none 0 0))) ∧ Below w3.heap.size w3 W) rfl rfl (fun _ _ h => .inr (by obtain ⟨_, _, _, _, _, _, h⟩ := h; exact h)) (fun W hW => ?_) ?_
        · obtain ⟨o24, o4, l⟩ := hW
          obtain ⟨W2, q_, r_, b, l2, hq_⟩ := newB (cs := z114) zv114 W
          exact ⟨_, W2, r_, q_, rfl, b, by have := l.size; omega, o4.on l2, o24.on l2, bt l l2⟩
        rintro _ ⟨_, q12, rfl, _, hq12, _⟩
        refine ZE.store (fun W => Blk W q12 (Rp.x0 a c vi vt).cs 114 ∧ Lb 4 1 W w3.heap.size vi (br (List.replicate (pN c) false)) ∧ Lb 24 1 W w3.heap.size vt (vr (List.replicate (pN c) (.slice none 0 0))) ∧ Below w3.heap.size w3 W) rfl rfl rfl (fun _ h => .inr h.2.2.2) (fun W hW => ?_) ?_
        · obtain ⟨q_, e_, b, _, o4, o24, l⟩ := hW
          cases e_
          obtain ⟨W2, s1, s2, s3⟩ := st114 (Rp.x0 a c vi vt) (Rp.one' sl_vi sl_vt) rfl b
          exact ⟨W2, s1, s2, o4.fx s3 (fun j hj e => o4.ow.neB b (by decide) j hj e), o24.fx s3 (fun j hj e => o24.ow.neB b (by decide) j hj e), l.trans (s3.below (fun k hk e => by have e' : k = q12 := e; omega) l.size)⟩
        refine AZ.done (by kernel_rfl) ?_
        rintro w7 h7
        exact EW.met (q12, vi, vt) [0, 1, 9, 11, 12] rfl ⟨h7.1, h7.2.1, h7.2.2.1, h7.2.2.2, hq12⟩
      · simp only [List.getD_cons_zero, List.getD_cons_succ]
        refine ZE.newR (fun v W => ∃ q8, v = .pointer (some ⟨q8, 0, none⟩) ∧ Blk W q8 z114 114 ∧ w3.heap.size ≤ q8 ∧ Lb 4 1 W w3.heap.size vi (br (List.replicate (pN c) false)) ∧ Below w3.heap.size w3 W) rfl rfl (fun _ _ h => .inr (by obtain ⟨_, _, _, _, _, h⟩ := h; exact h)) (fun W hW => ?_) ?_
        · obtain ⟨o4, l⟩ := hW
          obtain ⟨W2, q_, r_, b, l2, hq_⟩ := newB (cs := z114) zv114 W
          exact ⟨_, W2, r_, q_, rfl, b, by have := l.size; omega, o4.on l2, bt l l2⟩
        rintro _ ⟨_, q12, rfl, _, hq12, _⟩
        refine AZ.seg [(12, 1, 1), (13, 0, 0), (15, 1, 1)] 0 rfl (by kernel_rfl) (sq_anti _) (by kernel_rfl) ?_
        simp only [opsZ, List.getD_cons_zero, List.getD_cons_succ]
        refine ZE.mkSl (fun v W => Lb 24 1 W w3.heap.size v (vr (List.replicate (pN c) (.slice none 0 0))) ∧ Lb 4 1 W w3.heap.size vi (br (List.replicate (pN c) false)) ∧ Blk W q12 z114 114 ∧ Below w3.heap.size w3 W) rfl rfl rfl rfl (fun _ _ h => .inr h.2.2.2) (fun W hW => ?_) ?_
        · obtain ⟨q_, e_, b, _, o4, l⟩ := hW
          cases e_
          have l0 := below_new W (.cells (List.replicate (pN c) (Value.slice none 0 0)).toArray 24)
          have m0 := mkLb (e := 24) (x := Value.slice none 0 0) W (pN c) (by omega)
          rw [vr_rep] at m0
          exact ⟨_, _, run_mk26 W (pN c) (by omega), ⟨m0.ow, fun j hj => Nat.le_trans l.size (m0.base j hj)⟩, o4.on l0, b.on l0, bt l l0⟩
        rintro vt ⟨W_vt, o_vt, _⟩
        have sl_vt := o_vt.sl
        refine ZE.buildN [(0, sv a), (1, u32v (pI c)), (2, .int .i64 (pN c : Int)), (3, sv (pS c)), (4, vi), (5, vt)] rfl rfl rfl rfl sq0 (fun W => bd114 a (pI c) (pN c) (pS c) vi vt sl_vi sl_vt W) ?_
        refine ZE.store (fun W => Blk W q12 (Rp.x0 a c vi vt).cs 114 ∧ Lb 4 1 W w3.heap.size vi (br (List.replicate (pN c) false)) ∧ Lb 24 1 W w3.heap.size vt (vr (List.replicate (pN c) (.slice none 0 0))) ∧ Below w3.heap.size w3 W) rfl rfl rfl (fun _ h => .inr h.2.2.2) (fun W hW => ?_) ?_
        · obtain ⟨o24, o4, b, l⟩ := hW
          obtain ⟨W2, s1, s2, s3⟩ := st114 (Rp.x0 a c vi vt) (Rp.one' sl_vi sl_vt) rfl b
          exact ⟨W2, s1, s2, o4.fx s3 (fun j hj e => o4.ow.neB b (by decide) j hj e), o24.fx s3 (fun j hj e => o24.ow.neB b (by decide) j hj e), l.trans (s3.below (fun k hk e => by have e' : k = q12 := e; omega) l.size)⟩
        refine AZ.done (by kernel_rfl) ?_
        rintro w7 h7
        exact EW.met (q12, vi, vt) [0, 1, 9, 11, 12] rfl ⟨h7.1, h7.2.1, h7.2.2.1, h7.2.2.2, hq12⟩
    · simp only [List.getD_cons_zero, List.getD_cons_succ]
      refine ZE.mkSl (fun v W => Lb 24 1 W w3.heap.size v (vr (List.replicate (pN c) (.slice none 0 0))) ∧ Below w3.heap.size w3 W) rfl rfl rfl rfl (fun _ _ h => .inr h.2) (fun W hW => ?_) ?_
      · have l := hW
        have l0 := below_new W (.cells (List.replicate (pN c) (Value.slice none 0 0)).toArray 24)
        have m0 := mkLb (e := 24) (x := Value.slice none 0 0) W (pN c) (by omega)
        rw [vr_rep] at m0
        exact ⟨_, _, run_mk26 W (pN c) (by omega), ⟨m0.ow, fun j hj => Nat.le_trans l.size (m0.base j hj)⟩, bt l l0⟩
      rintro vt ⟨W_vt, o_vt, _⟩
      have sl_vt := o_vt.sl
      refine AZ.two 3 9 1 14 1 rfl (by kernel_rfl) ?_ ?_
      · simp only [List.getD_cons_zero, List.getD_cons_succ]
        refine ZE.mkSl (fun v W => Lb 4 1 W w3.heap.size v (br (List.replicate (pN c) false)) ∧ Lb 24 1 W w3.heap.size vt (vr (List.replicate (pN c) (.slice none 0 0))) ∧ Below w3.heap.size w3 W) rfl rfl rfl rfl (fun _ _ h => .inr h.2.2) (fun W hW => ?_) ?_
        · obtain ⟨o24, l⟩ := hW
          have l0 := below_new W (.cells (List.replicate (pN c) (Value.bool false)).toArray 4)
          have m0 := mkLb (e := 4) (x := Value.bool false) W (pN c) (by omega)
          rw [br_rep] at m0
          exact ⟨_, _, run_mk107 W (pN c) (by omega), ⟨m0.ow, fun j hj => Nat.le_trans l.size (m0.base j hj)⟩, o24.on l0, bt l l0⟩
        rintro vi ⟨W_vi, o_vi, _⟩
        have sl_vi := o_vi.sl
        refine AZ.seg [(13, 0, 0), (14, 1, 1), (15, 1, 1)] 0 rfl (by kernel_rfl) (sq_anti _) (by kernel_rfl) ?_
        simp only [opsZ, List.getD_cons_zero, List.getD_cons_succ]
        refine ZE.buildN [(0, sv a), (1, u32v (pI c)), (2, .int .i64 (pN c : Int)), (3, sv (pS c)), (4, vi), (5, vt)] rfl rfl rfl rfl sq0 (fun W => bd114 a (pI c) (pN c) (pS c) vi vt sl_vi sl_vt W) ?_
        refine ZE.newR (fun v W => ∃ q8, v = .pointer (some ⟨q8, 0, none⟩) ∧ Blk W q8 z114 114 ∧ w3.heap.size ≤ q8 ∧ Lb 4 1 W w3.heap.size vi (br (List.replicate (pN c) false)) ∧ Lb 24 1 W w3.heap.size vt (vr (List.replicate (pN c) (.slice none 0 0))) ∧ Below w3.heap.size w3 W) rfl rfl (fun _ _ h => .inr (by obtain ⟨_, _, _, _, _, _, h⟩ := h; exact h)) (fun W hW => ?_) ?_
        · obtain ⟨o4, o24, l⟩ := hW
          obtain ⟨W2, q_, r_, b, l2, hq_⟩ := newB (cs := z114) zv114 W
          exact ⟨_, W2, r_, q_, rfl, b, by have := l.size; omega, o4.on l2, o24.on l2, bt l l2⟩
        rintro _ ⟨_, q12, rfl, _, hq12, _⟩
        refine ZE.store (fun W => Blk W q12 (Rp.x0 a c vi vt).cs 114 ∧ Lb 4 1 W w3.heap.size vi (br (List.replicate (pN c) false)) ∧ Lb 24 1 W w3.heap.size vt (vr (List.replicate (pN c) (.slice none 0 0))) ∧ Below w3.heap.size w3 W) rfl rfl rfl (fun _ h => .inr h.2.2.2) (fun W hW => ?_) ?_
        · obtain ⟨q_, e_, b, _, o4, o24, l⟩ := hW
          cases e_
          obtain ⟨W2, s1, s2, s3⟩ := st114 (Rp.x0 a c vi vt) (Rp.one' sl_vi sl_vt) rfl b
          exact ⟨W2, s1, s2, o4.fx s3 (fun j hj e => o4.ow.neB b (by decide) j hj e), o24.fx s3 (fun j hj e => o24.ow.neB b (by decide) j hj e), l.trans (s3.below (fun k hk e => by have e' : k = q12 := e; omega) l.size)⟩
        refine AZ.done (by kernel_rfl) ?_
        rintro w7 h7
        exact EW.met (q12, vi, vt) [0, 1, 9, 11, 12] rfl ⟨h7.1, h7.2.1, h7.2.2.1, h7.2.2.2, hq12⟩
      · simp only [List.getD_cons_zero, List.getD_cons_succ]
        refine ZE.newR (fun v W => ∃ q8, v = .pointer (some ⟨q8, 0, none⟩) ∧ Blk W q8 z114 114 ∧ w3.heap.size ≤ q8 ∧ Lb 24 1 W w3.heap.size vt (vr (List.replicate (pN c) (.slice none 0 0))) ∧ Below w3.heap.size w3 W) rfl rfl (fun _ _ h => .inr (by obtain ⟨_, _, _, _, _, h⟩ := h; exact h)) (fun W hW => ?_) ?_
        · obtain ⟨o24, l⟩ := hW
          obtain ⟨W2, q_, r_, b, l2, hq_⟩ := newB (cs := z114) zv114 W
          exact ⟨_, W2, r_, q_, rfl, b, by have := l.size; omega, o24.on l2, bt l l2⟩
        rintro _ ⟨_, q12, rfl, _, hq12, _⟩
        refine AZ.seg [(9, 1, 1), (13, 0, 0), (15, 1, 1)] 0 rfl (by kernel_rfl) (sq_anti _) (by kernel_rfl) ?_
        simp only [opsZ, List.getD_cons_zero, List.getD_cons_succ]
        refine ZE.mkSl (fun v W => Lb 4 1 W w3.heap.size v (br (List.replicate (pN c) false)) ∧ Lb 24 1 W w3.heap.size vt (vr (List.replicate (pN c) (.slice none 0 0))) ∧ Blk W q12 z114 114 ∧ Below w3.heap.size w3 W) rfl rfl rfl rfl (fun _ _ h => .inr h.2.2.2) (fun W hW => ?_) ?_
        · obtain ⟨q_, e_, b, _, o24, l⟩ := hW
          cases e_
          have l0 := below_new W (.cells (List.replicate (pN c) (Value.bool false)).toArray 4)
          have m0 := mkLb (e := 4) (x := Value.bool false) W (pN c) (by omega)
          rw [br_rep] at m0
          exact ⟨_, _, run_mk107 W (pN c) (by omega), ⟨m0.ow, fun j hj => Nat.le_trans l.size (m0.base j hj)⟩, o24.on l0, b.on l0, bt l l0⟩
        rintro vi ⟨W_vi, o_vi, _⟩
        have sl_vi := o_vi.sl
        refine ZE.buildN [(0, sv a), (1, u32v (pI c)), (2, .int .i64 (pN c : Int)), (3, sv (pS c)), (4, vi), (5, vt)] rfl rfl rfl rfl sq0 (fun W => bd114 a (pI c) (pN c) (pS c) vi vt sl_vi sl_vt W) ?_
        refine ZE.store (fun W => Blk W q12 (Rp.x0 a c vi vt).cs 114 ∧ Lb 4 1 W w3.heap.size vi (br (List.replicate (pN c) false)) ∧ Lb 24 1 W w3.heap.size vt (vr (List.replicate (pN c) (.slice none 0 0))) ∧ Below w3.heap.size w3 W) rfl rfl rfl (fun _ h => .inr h.2.2.2) (fun W hW => ?_) ?_
        · obtain ⟨o4, o24, b, l⟩ := hW
          obtain ⟨W2, s1, s2, s3⟩ := st114 (Rp.x0 a c vi vt) (Rp.one' sl_vi sl_vt) rfl b
          exact ⟨W2, s1, s2, o4.fx s3 (fun j hj e => o4.ow.neB b (by decide) j hj e), o24.fx s3 (fun j hj e => o24.ow.neB b (by decide) j hj e), l.trans (s3.below (fun k hk e => by have e' : k = q12 := e; omega) l.size)⟩
        refine AZ.done (by kernel_rfl) ?_
        rintro w7 h7
        exact EW.met (q12, vi, vt) [0, 1, 9, 11, 12] rfl ⟨h7.1, h7.2.1, h7.2.2.1, h7.2.2.2, hq12⟩
    · simp only [List.getD_cons_zero, List.getD_cons_succ]
      refine ZE.newR (fun v W => ∃ q8, v = .pointer (some ⟨q8, 0, none⟩) ∧ Blk W q8 z114 114 ∧ w3.heap.size ≤ q8 ∧ Below w3.heap.size w3 W) rfl rfl (fun _ _ h => .inr (by obtain ⟨_, _, _, _, h⟩ := h; exact h)) (fun W hW => ?_) ?_
      · have l := hW
        obtain ⟨W2, q_, r_, b, l2, hq_⟩ := newB (cs := z114) zv114 W
        exact ⟨_, W2, r_, q_, rfl, b, by have := l.size; omega, bt l l2⟩
      rintro _ ⟨_, q12, rfl, _, hq12, _⟩
      refine AZ.two 3 9 1 12 1 rfl (by kernel_rfl) ?_ ?_
      · simp only [List.getD_cons_zero, List.getD_cons_succ]
        refine ZE.mkSl (fun v W => Lb 4 1 W w3.heap.size v (br (List.replicate (pN c) false)) ∧ Blk W q12 z114 114 ∧ Below w3.heap.size w3 W) rfl rfl rfl rfl (fun _ _ h => .inr h.2.2) (fun W hW => ?_) ?_
        · obtain ⟨q_, e_, b, _, l⟩ := hW
          cases e_
          have l0 := below_new W (.cells (List.replicate (pN c) (Value.bool false)).toArray 4)
          have m0 := mkLb (e := 4) (x := Value.bool false) W (pN c) (by omega)
          rw [br_rep] at m0
          exact ⟨_, _, run_mk107 W (pN c) (by omega), ⟨m0.ow, fun j hj => Nat.le_trans l.size (m0.base j hj)⟩, b.on l0, bt l l0⟩
        rintro vi ⟨W_vi, o_vi, _⟩
        have sl_vi := o_vi.sl
        refine AZ.seg [(12, 1, 1), (13, 0, 0), (15, 1, 1)] 0 rfl (by kernel_rfl) (sq_anti _) (by kernel_rfl) ?_
        simp only [opsZ, List.getD_cons_zero, List.getD_cons_succ]
        refine ZE.mkSl (fun v W => Lb 24 1 W w3.heap.size v (vr (List.replicate (pN c) (.slice none 0 0))) ∧ Lb 4 1 W w3.heap.size vi (br (List.replicate (pN c) false)) ∧ Blk W q12 z114 114 ∧ Below w3.heap.size w3 W) rfl rfl rfl rfl (fun _ _ h => .inr h.2.2.2) (fun W hW => ?_) ?_
        · obtain ⟨o4, b, l⟩ := hW
          have l0 := below_new W (.cells (List.replicate (pN c) (Value.slice none 0 0)).toArray 24)
          have m0 := mkLb (e := 24) (x := Value.slice none 0 0) W (pN c) (by omega)
          rw [vr_rep] at m0
          exact ⟨_, _, run_mk26 W (pN c) (by omega), ⟨m0.ow, fun j hj => Nat.le_trans l.size (m0.base j hj)⟩, o4.on l0, b.on l0, bt l l0⟩
        rintro vt ⟨W_vt, o_vt, _⟩
        have sl_vt := o_vt.sl
        refine ZE.buildN [(0, sv a), (1, u32v (pI c)), (2, .int .i64 (pN c : Int)), (3, sv (pS c)), (4, vi), (5, vt)] rfl rfl rfl rfl sq0 (fun W => bd114 a (pI c) (pN c) (pS c) vi vt sl_vi sl_vt W) ?_
        refine ZE.store (fun W => Blk W q12 (Rp.x0 a c vi vt).cs 114 ∧ Lb 4 1 W w3.heap.size vi (br (List.replicate (pN c) false)) ∧ Lb 24 1 W w3.heap.size vt (vr (List.replicate (pN c) (.slice none 0 0))) ∧ Below w3.heap.size w3 W) rfl rfl rfl (fun _ h => .inr h.2.2.2) (fun W hW => ?_) ?_
        · obtain ⟨o24, o4, b, l⟩ := hW
          obtain ⟨W2, s1, s2, s3⟩ := st114 (Rp.x0 a c vi vt) (Rp.one' sl_vi sl_vt) rfl b
          exact ⟨W2, s1, s2, o4.fx s3 (fun j hj e => o4.ow.neB b (by decide) j hj e), o24.fx s3 (fun j hj e => o24.ow.neB b (by decide) j hj e), l.trans (s3.below (fun k hk e => by have e' : k = q12 := e; omega) l.size)⟩
        refine AZ.done (by kernel_rfl) ?_
        rintro w7 h7
        exact EW.met (q12, vi, vt) [0, 1, 9, 11, 12] rfl ⟨h7.1, h7.2.1, h7.2.2.1, h7.2.2.2, hq12⟩
      · simp only [List.getD_cons_zero, List.getD_cons_succ]
        refine ZE.mkSl (fun v W => Lb 24 1 W w3.heap.size v (vr (List.replicate (pN c) (.slice none 0 0))) ∧ Blk W q12 z114 114 ∧ Below w3.heap.size w3 W) rfl rfl rfl rfl (fun _ _ h => .inr h.2.2) (fun W hW => ?_) ?_
        · obtain ⟨q_, e_, b, _, l⟩ := hW
          cases e_
          have l0 := below_new W (.cells (List.replicate (pN c) (Value.slice none 0 0)).toArray 24)
          have m0 := mkLb (e := 24) (x := Value.slice none 0 0) W (pN c) (by omega)
          rw [vr_rep] at m0
          exact ⟨_, _, run_mk26 W (pN c) (by omega), ⟨m0.ow, fun j hj => Nat.le_trans l.size (m0.base j hj)⟩, b.on l0, bt l l0⟩
        rintro vt ⟨W_vt, o_vt, _⟩
        have sl_vt := o_vt.sl
        refine AZ.seg [(9, 1, 1), (13, 0, 0), (15, 1, 1)] 0 rfl (by kernel_rfl) (sq_anti _) (by kernel_rfl) ?_
        simp only [opsZ, List.getD_cons_zero, List.getD_cons_succ]
        refine ZE.mkSl (fun v W => Lb 4 1 W w3.heap.size v (br (List.replicate (pN c) false)) ∧ Lb 24 1 W w3.heap.size vt (vr (List.replicate (pN c) (.slice none 0 0))) ∧ Blk W q12 z114 114 ∧ Below w3.heap.size w3 W) rfl rfl rfl rfl (fun _ _ h => .inr h.2.2.2) (fun W hW => ?_) ?_
        · obtain ⟨o24, b, l⟩ := hW
          have l0 := below_new W (.cells (List.replicate (pN c) (Value.bool false)).toArray 4)
          have m0 := mkLb (e := 4) (x := Value.bool false) W (pN c) (by omega)
          rw [br_rep] at m0
          exact ⟨_, _, run_mk107 W (pN c) (by omega), ⟨m0.ow, fun j hj => Nat.le_trans l.size (m0.base j hj)⟩, o24.on l0, b.on l0, bt l l0⟩
        rintro vi ⟨W_vi, o_vi, _⟩
        have sl_vi := o_vi.sl
        refine ZE.buildN [(0, sv a), (1, u32v (pI c)), (2, .int .i64 (pN c : Int)), (3, sv (pS c)), (4, vi), (5, vt)] rfl rfl rfl rfl sq0 (fun W => bd114 a (pI c) (pN c) (pS c) vi vt sl_vi sl_vt W) ?_
        refine ZE.store (fun W => Blk W q12 (Rp.x0 a c vi vt).cs 114 ∧ Lb 4 1 W w3.heap.size vi (br (List.replicate (pN c) false)) ∧ Lb 24 1 W w3.heap.size vt (vr (List.replicate (pN c) (.slice none 0 0))) ∧ Below w3.heap.size w3 W) rfl rfl rfl (fun _ h => .inr h.2.2.2) (fun W hW => ?_) ?_
        · obtain ⟨o4, o24, b, l⟩ := hW
          obtain ⟨W2, s1, s2, s3⟩ := st114 (Rp.x0 a c vi vt) (Rp.one' sl_vi sl_vt) rfl b
          exact ⟨W2, s1, s2, o4.fx s3 (fun j hj e => o4.ow.neB b (by decide) j hj e), o24.fx s3 (fun j hj e => o24.ow.neB b (by decide) j hj e), l.trans (s3.below (fun k hk e => by have e' : k = q12 := e; omega) l.size)⟩
        refine AZ.done (by kernel_rfl) ?_
        rintro w7 h7
        exact EW.met (q12, vi, vt) [0, 1, 9, 11, 12] rfl ⟨h7.1, h7.2.1, h7.2.2.1, h7.2.2.2, hq12⟩
  · rintro ⟨q12, vi, vt⟩ w7 ⟨B12, o4, o24, l7, hq12⟩
    have L7 := bt L3 l7
    have T7 := ht.on L7
    have nq : q9 ≠ q12 := by have := b9.lt; omega
    show EW _ _ _ _ [(0, .pointer (some ⟨q, 0, none⟩)), (1, sv a), (9, .pointer (some ⟨q9, 0, none⟩)), (11, .int .i64 (ki : Int)), (12, .pointer (some ⟨q12, 0, none⟩))] _
    refine EW.seq ?_
    refine EW.seq ?_
    refine EW.region ?_
    first | refine WL.move rfl rfl rfl ?_
    first | refine WL.bin rfl rfl rfl rfl (int_ge_t ‹_› _ _ _) ?_ | refine WL.bin rfl rfl rfl rfl (int_ge_f ‹_› _ _ _) ?_ | refine WL.bin rfl rfl rfl rfl (int_ge_d _ _ _ _ _) ?_
    refine WL.done ?_
    refine EW.on ?_
    refine EW.cond_t rfl ?_
    refine EW.seq ?_
    refine EW.region ?_
    first | refine WL.move rfl rfl rfl ?_
    first | refine WL.nilc rfl rfl rfl ?_
    refine WL.field rfl rfl rfl (g82_0 _ _) ?_
    refine WL.load rfl rfl rfl (ld80 T7.bl rfl) ?_
    obtain ⟨g, cg, _, xi, xc, xl⟩ := T7.get hy
    first | refine WL.move rfl rfl rfl ?_
    refine WL.index rfl rfl rfl rfl (xi _) ?_
    refine WL.load rfl rfl rfl xl ?_
    refine WL.call [y.val] enter52 rfl rfl rfl (rtwin_any y w7 (T7.hs y hym)) ?_
    rintro _ w8 ⟨vi2, vt2, rfl, li2, lt2, _, l8⟩
    refine ⟨_, rfl, ?_⟩
    obtain ⟨w9', s9', PB, f9'⟩ := st114 (y.new vi2 vt2) (Rp.one' li2.sl lt2.sl) rfl (B12.on l8)
    refine WL.store rfl rfl rfl s9' ?_
    have BE : Below w.heap.size w w9' := (bt L7 l8).trans (f9'.below (fun k hk e => by have e' : k = q12 := e; have := L3.size; omega) (bt L7 l8).size)
    have D9 := ((b9.on l7).on l8).fx f9' (fun e => nq e)
    have OC := (((ou1.below l3).below l7).below l8).fx f9' (fun k hk e => by have e' : k = q12 := hk; rw [e'] at e; exact (((ou1.below l3).below l7).below l8).own.neB (B12.on l8) (by decide) e)
    have LI := li2.fx f9' (fun j hj e => li2.ow.neB (B12.on l8) (by decide) j hj e)
    have LT := lt2.fx f9' (fun j hj e => lt2.ow.neB (B12.on l8) (by decide) j hj e)
    obtain ⟨X, hX⟩ : ∃ X, X = y.new vi2 vt2 := ⟨_, rfl⟩
    rw [← hX] at PB
    obtain ⟨Wp, hWp⟩ : ∃ Wp, Wp = w9' := ⟨_, rfl⟩
    replace LI : Lb 4 1 w9' w7.heap.size X.iv (br X.h) := by rw [hX]; exact LI
    replace LT : Lb 24 1 w9' w7.heap.size X.tv (vr X.ts) := by rw [hX]; exact LT
    have xn : X.n = y.n := by rw [hX]; rfl
    have xs : X.s = y.s := by rw [hX]; rfl
    have xh : X.h = y.h := by rw [hX]; rfl
    have yhs := ht.hs y hym
    have XL : X.h.length = y.n ∧ X.t.length = y.n ∧ X.ts.length = y.n := by rw [hX]; exact ⟨yhs.lh, yhs.lt, yhs.ls⟩
    have HX : ∀ (i : Nat) z b, X.ts[i]? = some z → X.t[i]? = some b → Ob w 0 z b := by rw [hX]; exact yhs.hx
    have XE : ∀ b ∈ X.t, b.length ≤ 497 := by rw [hX]; exact yhs.le
    have hsz7 : w.heap.size ≤ w7.heap.size := L7.size
    have nqX := PB.lt
    refine WL.done ?_
    refine EW.on ?_
    refine EW.seq ?_
    refine EW.seq ?_
    by_cases hA : X.n = pN c
    · have xa : (X.n : Int) = (pN c : Int) := by omega
      refine EW.region ?_
      first | refine WL.field rfl rfl rfl (g114_2 _ _) ?_ | refine WL.skip _ rfl rfl rfl ?_
      first | refine WL.load rfl rfl rfl (ldI PB (show X.cs[2]? = _ from rfl)) ?_ | refine WL.skip _ rfl rfl rfl ?_
      first | refine WL.field rfl rfl rfl (g109_1 _ _) ?_ | refine WL.skip _ rfl rfl rfl ?_
      first | refine WL.load rfl rfl rfl (ldI D9 rfl) ?_ | refine WL.skip _ rfl rfl rfl ?_
      first | refine WL.bin rfl rfl rfl rfl (int_ne_f rfl _ _ _) ?_ | refine WL.bin rfl rfl rfl rfl (int_ne_t ‹_› _ _ _) ?_ | refine WL.bin rfl rfl rfl rfl (int_ne_f ‹_› _ _ _) ?_ | refine WL.bin rfl rfl rfl rfl (int_ne_t (by decide) _ _ _) ?_ | refine WL.bin rfl rfl rfl rfl (int_ne_d _ _ _ _ _) ?_
      first | refine WL.move rfl rfl rfl ?_
      first | refine WL.field rfl rfl rfl (g114_3 _ _) ?_ | refine WL.skip _ rfl rfl rfl ?_
      first | refine WL.load rfl rfl rfl (ldTb PB (show X.cs[3]? = _ from rfl)) ?_ | refine WL.skip _ rfl rfl rfl ?_
      first | refine WL.field rfl rfl rfl (g109_3 _ _) ?_ | refine WL.skip _ rfl rfl rfl ?_
      first | refine WL.load rfl rfl rfl (ldTb D9 rfl) ?_ | refine WL.skip _ rfl rfl rfl ?_
      first | refine WL.bin rfl rfl rfl rfl (str_ne_d _ _ _ _ _) ?_ | refine WL.skip _ rfl rfl rfl ?_
      first | refine WL.pick rfl rfl rfl rfl ?_
      refine WL.done ?_
      refine EW.on ?_
      refine EW.cond_d rfl (fun h63 => ?_) (fun h63 => ?_)
      · skip
        refine EW.seq ?_
        refine EW.region ?_
        first | refine WL.assign rfl rfl rfl ?_
        first | refine WL.assign rfl rfl rfl ?_
        first | refine WL.assign rfl rfl rfl ?_
        refine WL.done ?_
        refine EW.on ?_
        refine EW.ret ?_
        refine pr_then ?_
        refine pr_then ?_
        exact EW.returns3 Tryd.results31 rfl rfl rfl (.inl ⟨fun h => h63 (xs.trans h.2), rfl, BE⟩)
      · have hB : X.s = pS c := Decidable.of_not_not h63
        obtain ⟨hb, hh⟩ : ∃ hb, X.h[pA c]? = some hb := ⟨_, List.getElem?_eq_getElem (by omega)⟩
        obtain ⟨iad, icap, ie1, iat⟩ := LI.ow.li.at_ (pA c) [.bool hb] (by unfold br; rw [List.getElem?_map, hh]; rfl)
        have icell := iat 0 _ rfl
        rw [Nat.mul_one, addr_add, Nat.add_zero] at icell
        rw [br_len] at ie1
        refine EW.skip ?_
        refine EW.on ?_
        refine EW.seq ?_
        refine EW.region ?_
        refine WL.field rfl rfl rfl (g114_4 _ _) ?_
        refine WL.load rfl rfl rfl (ld107 PB (show X.cs[4]? = some X.iv from rfl)) ?_
        refine WL.field rfl rfl rfl (g109_2 _ _) ?_
        refine WL.load rfl rfl rfl (ldI D9 rfl) ?_
        rw [ie1]
        refine WL.index rfl rfl rfl rfl (x107g _ _ _ (pA c) (by omega) _) ?_
        rw [← ie1]
        refine WL.load rfl rfl rfl (ldBa icell) ?_
        refine WL.done ?_
        refine EW.on ?_
        refine EW.cond_b rfl (fun h69 => ?_) (fun h69 => ?_)
        · skip
          refine EW.seq ?_
          refine EW.region ?_
          first | refine WL.assign rfl rfl rfl ?_
          first | refine WL.assign rfl rfl rfl ?_
          first | refine WL.assign rfl rfl rfl ?_
          refine WL.done ?_
          refine EW.on ?_
          refine EW.ret ?_
          refine pr_then ?_
          exact EW.returns3 Tryd.results31 rfl rfl rfl (.inr (.inl ⟨xn.symm.trans hA, xs.symm.trans hB, by rw [← xh, hh, h69], rfl, BE⟩))
        · skip
          refine EW.skip ?_
          refine EW.on ?_
          refine EW.seq ?_
          refine EW.region ?_
          refine WL.field rfl rfl rfl (g114_4 _ _) ?_
          refine WL.load rfl rfl rfl (ld107 PB (show X.cs[4]? = some X.iv from rfl)) ?_
          refine WL.field rfl rfl rfl (g109_2 _ _) ?_
          refine WL.load rfl rfl rfl (ldI D9 rfl) ?_
          obtain ⟨ad4, w16, k4, y1, y2, y3, y4, y5⟩ := LI.set4 (i := pA c) (by omega)
          refine WL.index rfl rfl rfl rfl (y1 _) ?_
          refine WL.store rfl rfl rfl y2 ?_
          have hk4 := LI.base k4 y5
          replace PB := PB.fx y4 (fun e => LI.ow.neB PB (by decide) k4 y5 e.symm)
          replace D9 := D9.fx y4 (fun e => LI.ow.neB D9 (by decide) k4 y5 e.symm)
          replace LT := LT.fx y4 (fun j hj e => by have e' : j = k4 := e; rw [e'] at hj; exact LI.neT LT (by decide) y5 hj)
          replace OC := OC.fx y4 (fun k hk e => by have e' : k = k4 := hk; rw [e'] at e; exact LI.neO OC (by decide) y5 e)
          replace BE := BE.trans (y4.below (fun k hk e => by have e' : k = k4 := e; omega) BE.size)
          refine WL.done ?_
          refine EW.on ?_
          refine EW.seq ?_
          refine EW.region ?_
          refine WL.field rfl rfl rfl (g114_5 _ _) ?_
          refine WL.load rfl rfl rfl (ld26 PB (show X.cs[5]? = some X.tv from rfl)) ?_
          refine WL.field rfl rfl rfl (g109_2 _ _) ?_
          refine WL.load rfl rfl rfl (ldI D9 rfl) ?_
          refine WL.field rfl rfl rfl (g109_4 _ _) ?_
          refine WL.load rfl rfl rfl (ldS D9 rfl) ?_
          obtain ⟨ad24, w17, k24, z1, z2, z3, z4, z5⟩ := LT.set24 (i := pA c) (by omega) husl
          refine WL.index rfl rfl rfl rfl (z1 _) ?_
          refine WL.store rfl rfl rfl z2 ?_
          have hk24 := LT.base k24 z5
          replace PB := PB.fx z4 (fun e => LT.ow.neB PB (by decide) k24 z5 e.symm)
          replace D9 := D9.fx z4 (fun e => LT.ow.neB D9 (by decide) k24 z5 e.symm)
          replace y3 := y3.fx z4 (fun j hj e => by have e' : j = k24 := e; rw [e'] at hj; exact LT.neT y3 (by decide) z5 hj)
          replace OC := OC.fx z4 (fun k hk e => by have e' : k = k24 := hk; rw [e'] at e; exact LT.neO OC (by decide) z5 e)
          replace BE := BE.trans (z4.below (fun k hk e => by have e' : k = k24 := e; omega) BE.size)
          obtain ⟨Y, hY⟩ : ∃ Y, Y = X.put (pA c) u (pC c) := ⟨_, rfl⟩
          have Yhs : Y.hs w17 := by
            rw [hY]
            refine ⟨y3.ow, z3.ow, fun j z b hz hb => ?_, by show (X.h.set _ _).length = X.n; rw [List.length_set]; omega, by show (X.t.set _ _).length = X.n; rw [List.length_set]; omega, by show (X.ts.set _ _).length = X.n; rw [List.length_set]; omega, fun b hb => ?_, by show X.n ≤ 64; omega⟩
            · have hz' : (X.ts.set (pA c) u)[j]? = some z := hz
              have hb' : (X.t.set (pA c) (pC c))[j]? = some b := hb
              rw [List.getElem?_set] at hz' hb'
              by_cases ej : pA c = j
              · rw [if_pos ej, if_pos (by omega)] at hz' hb'
                cases hz'; cases hb'; exact OC.lower (Nat.zero_le _)
              · rw [if_neg ej] at hz' hb'
                exact (HX j z b hz' hb').below BE
            · rcases List.mem_or_eq_of_mem_set (show b ∈ X.t.set (pA c) (pC c) from hb) with h' | h'
              · exact XE b h'
              · rw [h']; exact K7
          replace PB : Blk w17 q12 Y.cs 114 := by rw [hY]; exact PB
          have T17 := ht.on BE
          have hRs17 := hRs.below BE hRs.lt
          have hBs17 := hBs.below BE hBs.lt
          refine WL.done ?_
          refine EW.on ?_
          refine EW.seq ?_
          refine EW.seq ?_
          rcases Bool.eq_false_or_eq_true (rall Y.h) with hal | hal
          · refine EW.ordB [(0, 0, 1), (1, 1, 1), (2, 0, 0), (3, 0, 1), (6, 0, 0), (7, 0, 1), (4, 1, 1), (5, 1, 1), (8, 0, 0), (9, 0, 0)] (by kernel_rfl) rfl (by kernel_rfl) ?_
            simp only [opsZ, List.getD_cons_zero, List.getD_cons_succ]
            first | refine ZE.load rfl rfl rfl rfl (fun W h => sz1 W h) (fun W hW => ld114 (PB.on (hW.resolve_left (by decide)))) ?_ | refine ZE.skip rfl rfl rfl sz1 ?_
            refine ZE.callV [Y.val] (.bool (rall Y.h)) (fun W => Below w17.heap.size w17 W) enter53 rfl rfl rfl (fun _ h => .inr h) (fun W hW => (rwhole_any Y W (Yhs.on hW)).mono fun e w' ⟨h1, h2⟩ => ⟨h1, bt hW h2⟩) ?_
            rw [hal]
            first | refine ZE.move rfl rfl rfl rfl sz0 ?_
            first | refine ZE.load rfl rfl rfl rfl (fun W h => sz1 W h) (fun W hW => ld114 (PB.on (hW.resolve_left (by decide)))) ?_ | refine ZE.skip rfl rfl rfl sz1 ?_
            first | refine ZE.field rfl rfl rfl rfl sz0 (fun W => g114_3 _ W) ?_ | refine ZE.skip rfl rfl rfl sz0 ?_
            first | refine ZE.load rfl rfl rfl rfl (fun W h => sz1 W h) (fun W hW => ldTb (PB.on (hW.resolve_left (by decide))) (show Y.cs[3]? = some (sv Y.s) from rfl)) ?_ | refine ZE.skip rfl rfl rfl sz1 ?_
            refine ZE.callR [Y.val] (fun v W => Ob W w17.heap.size v Y.t.flatten ∧ Below w17.heap.size w17 W) enter55 rfl rfl rfl (fun _ _ h => .inr h.2) (fun W hW => (rtext_any Y W (Yhs.on hW)).mono fun e w' ⟨v, h1, h2, h3⟩ => ⟨v, h1, h2.lower hW.size, bt hW h3⟩) ?_
            rintro v55 ⟨_, _, _⟩
            refine ZE.callV [v55] (sv (sm Y.t.flatten)) (fun W => Below w17.heap.size w17 W) enter54 rfl rfl rfl (fun _ h => .inr h) (fun W hW => (rsum_any v55 _ W hW.1.has (by have := Yhs.tlen; omega) (hRs17.below hW.2 hRs17.lt) (hBs17.below hW.2 hBs17.lt)).mono fun e w' ⟨h1, h2⟩ => ⟨h1, bt hW.2 h2⟩) ?_
            first | refine ZE.bin rfl rfl rfl rfl rfl sz0 (fun W => str_ne_d _ _ W _ _) ?_ | refine ZE.skip rfl rfl rfl sz0 ?_
            first | refine ZE.pick rfl rfl rfl rfl rfl sz0 ?_
            rintro w18 l18
            have T18 := T17.on l18
            have PB18 := PB.on l18
            have D18 := D9.on l18
            have Yhs18 := Yhs.on l18
            have BE18 := bt BE l18
            refine EW.on ?_
            refine EW.cond_d rfl (fun h101 => ?_) (fun h101 => ?_)
            · skip
              refine EW.seq ?_
              refine EW.region ?_
              first | refine WL.assign rfl rfl rfl ?_
              first | refine WL.assign rfl rfl rfl ?_
              first | refine WL.assign rfl rfl rfl ?_
              refine WL.done ?_
              refine EW.on ?_
              refine EW.ret ?_
              refine pr_then ?_
              exact EW.returns3 Tryd.results31 rfl rfl rfl (.inr (.inr ⟨xn.symm.trans hA, xs.symm.trans hB, by rw [← xh, hh, h69], vi2, vt2, u, ou1.base, .inl ⟨by rw [← hX, ← hY]; exact hal, by have := h101; rw [hY, hX] at this; rw [← xs.symm.trans hB]; exact this, rfl, BE18⟩⟩))
            · skip
              refine EW.skip ?_
              refine EW.on ?_
              refine EW.seq ?_
              refine EW.seq ?_
              refine EW.region ?_
              first | refine WL.move rfl rfl rfl ?_
              first | refine WL.bin rfl rfl rfl rfl (int_ge_t ‹_› _ _ _) ?_ | refine WL.bin rfl rfl rfl rfl (int_ge_f ‹_› _ _ _) ?_ | refine WL.bin rfl rfl rfl rfl (int_ge_d _ _ _ _ _) ?_
              refine WL.done ?_
              refine EW.on ?_
              refine EW.cond_t rfl ?_
              refine EW.ordB [(0, 0, 0), (1, 0, 0), (2, 0, 0), (3, 0, 1), (4, 0, 0), (5, 0, 1), (6, 0, 0), (7, 1, 0)] (by kernel_rfl) rfl (by kernel_rfl) ?_
              simp only [opsZ, List.getD_cons_zero, List.getD_cons_succ]
              first | refine ZE.move rfl rfl rfl rfl sz0 ?_
              first | refine ZE.nilc rfl rfl rfl rfl sz0 ?_
              refine ZE.field rfl rfl rfl rfl sz0 (fun W => g82_0 _ W) ?_
              refine ZE.load rfl rfl rfl rfl sz1 (fun W hW => ld80 (T18.on (hW.resolve_left (by decide))).bl rfl) ?_
              obtain ⟨g2, cg2, hv2, xi2, _, _⟩ := T18.get hy
              first | refine ZE.move rfl rfl rfl rfl sz0 ?_
              refine ZE.load rfl rfl rfl rfl sz1 (fun W hW => ld114 (PB18.on (hW.resolve_left (by decide)))) ?_
              refine ZE.index rfl rfl rfl rfl rfl sz0 (fun W => xi2 W) ?_
              refine ZE.store (fun W => (∃ v', Rt W q v' most (L.set ki Y) ∧ (∀ b, v'.ownBlock = some b → v.ownBlock = some b ∨ w.heap.size ≤ b)) ∧ Blk W q9 (Rq.mk (pI c) (pN c) (pA c) (pS c) u).cs 109 ∧ Blk W q12 Y.cs 114 ∧ Y.hs W ∧ Fx (fun k => k = q ∨ v.ownBlock = some k) w W) rfl rfl rfl (fun _ _ => .inl rfl) (fun W hW => ?_) ?_
              · exact rstore (T18.on hW) hv2 hki (Yhs18.on hW) (PB18.on hW) (D18.on hW) (bt BE18 hW) (by have := L3.size; omega) ht
              rintro w23 ⟨⟨v9, rt9, nb9⟩, D23, PB23, Yhs23, fx9⟩
              refine EW.on ?_
              refine EW.seq ?_
              refine EW.ordB [(0, 0, 0), (1, 0, 1), (2, 0, 1), (3, 1, 1), (4, 0, 0), (5, 0, 0), (6, 0, 0)] (by kernel_rfl) rfl (by kernel_rfl) ?_
              simp only [opsZ, List.getD_cons_zero, List.getD_cons_succ]
              refine ZE.field rfl rfl rfl rfl sz0 (fun W => g109_0 _ W) ?_
              refine ZE.load rfl rfl rfl rfl sz1 (fun W hW => ldU2 (D23.on (hW.resolve_left (by decide))) rfl) ?_
              refine ZE.load rfl rfl rfl rfl sz1 (fun W hW => ld114 (PB23.on (hW.resolve_left (by decide)))) ?_
              refine ZE.callV [Y.val] (.bool (rall Y.h)) (fun W => Below w23.heap.size w23 W) enter53 rfl rfl rfl (fun _ h => .inr h) (fun W hW => (rwhole_any Y W (Yhs23.on hW)).mono fun e w' ⟨h1, h2⟩ => ⟨h1, bt hW h2⟩) ?_
              first | refine ZE.assign rfl rfl rfl rfl sz0 ?_
              first | refine ZE.assign rfl rfl rfl rfl sz0 ?_
              first | refine ZE.assign rfl rfl rfl rfl sz0 ?_
              rintro w24 l24
              refine EW.on ?_
              refine EW.ret ?_
              exact EW.returns3 Tryd.results31 rfl rfl rfl (.inr (.inr ⟨xn.symm.trans hA, xs.symm.trans hB, by rw [← xh, hh, h69], vi2, vt2, u, ou1.base, .inr ⟨(fun h => h.2 (by have := Decidable.of_not_not h101; rw [hY, hX] at this; rw [← xs.symm.trans hB]; exact this)), by rw [← hX, ← hY], v9, by rw [← hX, ← hY]; exact rt9.on l24, nb9, fx9.then_below l24⟩⟩))
          · refine EW.ordB [(0, 0, 1), (1, 1, 1), (2, 0, 0), (3, 0, 1), (4, 0, 0), (5, 0, 0), (6, 0, 0), (7, 0, 1), (8, 0, 0), (9, 0, 0)] (by kernel_rfl) rfl (by kernel_rfl) ?_
            simp only [opsZ, List.getD_cons_zero, List.getD_cons_succ]
            first | refine ZE.load rfl rfl rfl rfl (fun W h => sz1 W h) (fun W hW => ld114 (PB.on (hW.resolve_left (by decide)))) ?_ | refine ZE.skip rfl rfl rfl sz1 ?_
            refine ZE.callV [Y.val] (.bool (rall Y.h)) (fun W => Below w17.heap.size w17 W) enter53 rfl rfl rfl (fun _ h => .inr h) (fun W hW => (rwhole_any Y W (Yhs.on hW)).mono fun e w' ⟨h1, h2⟩ => ⟨h1, bt hW h2⟩) ?_
            rw [hal]
            first | refine ZE.move rfl rfl rfl rfl sz0 ?_
            first | refine ZE.load rfl rfl rfl rfl (fun W h => sz1 W h) (fun W hW => ld114 (PB.on (hW.resolve_left (by decide)))) ?_ | refine ZE.skip rfl rfl rfl sz1 ?_
            refine ZE.skip rfl rfl rfl sz0 ?_
            refine ZE.skip rfl rfl rfl sz0 ?_
            first | refine ZE.field rfl rfl rfl rfl sz0 (fun W => g114_3 _ W) ?_ | refine ZE.skip rfl rfl rfl sz0 ?_
            first | refine ZE.load rfl rfl rfl rfl (fun W h => sz1 W h) (fun W hW => ldTb (PB.on (hW.resolve_left (by decide))) (show Y.cs[3]? = some (sv Y.s) from rfl)) ?_ | refine ZE.skip rfl rfl rfl sz1 ?_
            first | refine ZE.bin rfl rfl rfl rfl rfl sz0 (fun W => str_ne_d _ _ W _ _) ?_ | refine ZE.skip rfl rfl rfl sz0 ?_
            first | refine ZE.pick rfl rfl rfl rfl rfl sz0 ?_
            rintro w18 l18
            have T18 := T17.on l18
            have PB18 := PB.on l18
            have D18 := D9.on l18
            have Yhs18 := Yhs.on l18
            have BE18 := bt BE l18
            refine EW.on ?_
            refine EW.cond_f rfl ?_
            refine EW.skip ?_
            refine EW.on ?_
            refine EW.seq ?_
            refine EW.seq ?_
            refine EW.region ?_
            first | refine WL.move rfl rfl rfl ?_
            first | refine WL.bin rfl rfl rfl rfl (int_ge_t ‹_› _ _ _) ?_ | refine WL.bin rfl rfl rfl rfl (int_ge_f ‹_› _ _ _) ?_ | refine WL.bin rfl rfl rfl rfl (int_ge_d _ _ _ _ _) ?_
            refine WL.done ?_
            refine EW.on ?_
            refine EW.cond_t rfl ?_
            refine EW.ordB [(0, 0, 0), (1, 0, 0), (2, 0, 0), (3, 0, 1), (4, 0, 0), (5, 0, 1), (6, 0, 0), (7, 1, 0)] (by kernel_rfl) rfl (by kernel_rfl) ?_
            simp only [opsZ, List.getD_cons_zero, List.getD_cons_succ]
            first | refine ZE.move rfl rfl rfl rfl sz0 ?_
            first | refine ZE.nilc rfl rfl rfl rfl sz0 ?_
            refine ZE.field rfl rfl rfl rfl sz0 (fun W => g82_0 _ W) ?_
            refine ZE.load rfl rfl rfl rfl sz1 (fun W hW => ld80 (T18.on (hW.resolve_left (by decide))).bl rfl) ?_
            obtain ⟨g2, cg2, hv2, xi2, _, _⟩ := T18.get hy
            first | refine ZE.move rfl rfl rfl rfl sz0 ?_
            refine ZE.load rfl rfl rfl rfl sz1 (fun W hW => ld114 (PB18.on (hW.resolve_left (by decide)))) ?_
            refine ZE.index rfl rfl rfl rfl rfl sz0 (fun W => xi2 W) ?_
            refine ZE.store (fun W => (∃ v', Rt W q v' most (L.set ki Y) ∧ (∀ b, v'.ownBlock = some b → v.ownBlock = some b ∨ w.heap.size ≤ b)) ∧ Blk W q9 (Rq.mk (pI c) (pN c) (pA c) (pS c) u).cs 109 ∧ Blk W q12 Y.cs 114 ∧ Y.hs W ∧ Fx (fun k => k = q ∨ v.ownBlock = some k) w W) rfl rfl rfl (fun _ _ => .inl rfl) (fun W hW => ?_) ?_
            · exact rstore (T18.on hW) hv2 hki (Yhs18.on hW) (PB18.on hW) (D18.on hW) (bt BE18 hW) (by have := L3.size; omega) ht
            rintro w23 ⟨⟨v9, rt9, nb9⟩, D23, PB23, Yhs23, fx9⟩
            refine EW.on ?_
            refine EW.seq ?_
            refine EW.ordB [(0, 0, 0), (1, 0, 1), (2, 0, 1), (3, 1, 1), (4, 0, 0), (5, 0, 0), (6, 0, 0)] (by kernel_rfl) rfl (by kernel_rfl) ?_
            simp only [opsZ, List.getD_cons_zero, List.getD_cons_succ]
            refine ZE.field rfl rfl rfl rfl sz0 (fun W => g109_0 _ W) ?_
            refine ZE.load rfl rfl rfl rfl sz1 (fun W hW => ldU2 (D23.on (hW.resolve_left (by decide))) rfl) ?_
            refine ZE.load rfl rfl rfl rfl sz1 (fun W hW => ld114 (PB23.on (hW.resolve_left (by decide)))) ?_
            refine ZE.callV [Y.val] (.bool (rall Y.h)) (fun W => Below w23.heap.size w23 W) enter53 rfl rfl rfl (fun _ h => .inr h) (fun W hW => (rwhole_any Y W (Yhs23.on hW)).mono fun e w' ⟨h1, h2⟩ => ⟨h1, bt hW h2⟩) ?_
            first | refine ZE.assign rfl rfl rfl rfl sz0 ?_
            first | refine ZE.assign rfl rfl rfl rfl sz0 ?_
            first | refine ZE.assign rfl rfl rfl rfl sz0 ?_
            rintro w24 l24
            refine EW.on ?_
            refine EW.ret ?_
            exact EW.returns3 Tryd.results31 rfl rfl rfl (.inr (.inr ⟨xn.symm.trans hA, xs.symm.trans hB, by rw [← xh, hh, h69], vi2, vt2, u, ou1.base, .inr ⟨(fun h => by rw [← hX, ← hY, hal] at h; cases h.1), by rw [← hX, ← hY], v9, by rw [← hX, ← hY]; exact rt9.on l24, nb9, fx9.then_below l24⟩⟩))
    · have xa : ¬ (X.n : Int) = (pN c : Int) := by omega
      refine EW.region ?_
      first | refine WL.field rfl rfl rfl (g114_2 _ _) ?_ | refine WL.skip _ rfl rfl rfl ?_
      first | refine WL.load rfl rfl rfl (ldI PB (show X.cs[2]? = _ from rfl)) ?_ | refine WL.skip _ rfl rfl rfl ?_
      first | refine WL.field rfl rfl rfl (g109_1 _ _) ?_ | refine WL.skip _ rfl rfl rfl ?_
      first | refine WL.load rfl rfl rfl (ldI D9 rfl) ?_ | refine WL.skip _ rfl rfl rfl ?_
      first | refine WL.bin rfl rfl rfl rfl (int_ne_f rfl _ _ _) ?_ | refine WL.bin rfl rfl rfl rfl (int_ne_t ‹_› _ _ _) ?_ | refine WL.bin rfl rfl rfl rfl (int_ne_f ‹_› _ _ _) ?_ | refine WL.bin rfl rfl rfl rfl (int_ne_t (by decide) _ _ _) ?_ | refine WL.bin rfl rfl rfl rfl (int_ne_d _ _ _ _ _) ?_
      first | refine WL.move rfl rfl rfl ?_
      first | refine WL.field rfl rfl rfl (g114_3 _ _) ?_ | refine WL.skip _ rfl rfl rfl ?_
      first | refine WL.load rfl rfl rfl (ldTb PB (show X.cs[3]? = _ from rfl)) ?_ | refine WL.skip _ rfl rfl rfl ?_
      first | refine WL.field rfl rfl rfl (g109_3 _ _) ?_ | refine WL.skip _ rfl rfl rfl ?_
      first | refine WL.load rfl rfl rfl (ldTb D9 rfl) ?_ | refine WL.skip _ rfl rfl rfl ?_
      first | refine WL.bin rfl rfl rfl rfl (str_ne_d _ _ _ _ _) ?_ | refine WL.skip _ rfl rfl rfl ?_
      first | refine WL.pick rfl rfl rfl rfl ?_
      refine WL.done ?_
      refine EW.on ?_
      refine EW.cond_t rfl ?_
      refine EW.seq ?_
      refine EW.region ?_
      first | refine WL.assign rfl rfl rfl ?_
      first | refine WL.assign rfl rfl rfl ?_
      first | refine WL.assign rfl rfl rfl ?_
      refine WL.done ?_
      refine EW.on ?_
      refine EW.ret ?_
      refine pr_then ?_
      refine pr_then ?_
      exact EW.returns3 Tryd.results31 rfl rfl rfl (.inl ⟨fun h => hA (xn.trans h.1), rfl, BE⟩)
set_option maxRecDepth 100000 in
set_option maxHeartbeats 1000000 in
theorem radd_nm (q : Nat) (a : List UInt8) (v0 : Value) (c : List UInt8) (w : World) (hv : Has w v0 c) (hl : c.length ≤ 140737488355328) (hnm : nmB a = false) : Calls Tryd.prog 31 #[.pointer (some ⟨q, 0, none⟩), sv a, v0] w fun e w' => e = .returned (.tuple #[u32v 0, .bool false, .int .i64 212]) ∧ w' = w := by
  refine calls_of_args [.pointer (some ⟨q, 0, none⟩), sv a, v0] Tryd.func31 rfl 125 Tryd.ntmps31 (by show 3 ≤ 125; decide) ?_
  refine EW.seq ?_
  refine EW.region ?_
  first | refine WL.assign rfl rfl rfl ?_
  first | refine WL.assign rfl rfl rfl ?_
  first | refine WL.assign rfl rfl rfl ?_
  refine WL.done ?_
  refine EW.on ?_
  refine EW.seq ?_
  refine EW.seq ?_
  refine EW.region ?_
  first | refine WL.move rfl rfl rfl ?_
  refine WL.call [sv a] enter49 rfl rfl rfl (rname_any a _) ?_
  rintro _ wN ⟨rfl, hwN⟩
  refine ⟨_, rfl, ?_⟩
  rw [hwN, hnm]
  first | refine WL.un rfl rfl rfl (not_t _ _) ?_
  refine WL.done ?_
  refine EW.on ?_
  refine EW.cond_t rfl ?_
  refine EW.seq ?_
  refine EW.region ?_
  first | refine WL.assign rfl rfl rfl ?_
  first | refine WL.assign rfl rfl rfl ?_
  first | refine WL.assign rfl rfl rfl ?_
  refine WL.done ?_
  refine EW.on ?_
  refine EW.ret ?_
  refine pr_then ?_
  exact EW.returns3 Tryd.results31 rfl rfl rfl ⟨rfl, rfl⟩
set_option maxRecDepth 100000 in
set_option maxHeartbeats 1000000 in
theorem radd_bad (q : Nat) (a : List UInt8) (v0 : Value) (c : List UInt8) (w : World) (hv : Has w v0 c) (hl : c.length ≤ 140737488355328) (hnm : nmB a = true) (hok : okP c = false) : Calls Tryd.prog 31 #[.pointer (some ⟨q, 0, none⟩), sv a, v0] w fun e w' => e = .returned (.tuple #[u32v 0, .bool false, .int .i64 260]) ∧ Below w.heap.size w w' := by
  refine calls_of_args [.pointer (some ⟨q, 0, none⟩), sv a, v0] Tryd.func31 rfl 125 Tryd.ntmps31 (by show 3 ≤ 125; decide) ?_
  refine EW.seq ?_
  refine EW.region ?_
  first | refine WL.assign rfl rfl rfl ?_
  first | refine WL.assign rfl rfl rfl ?_
  first | refine WL.assign rfl rfl rfl ?_
  refine WL.done ?_
  refine EW.on ?_
  refine EW.seq ?_
  refine EW.seq ?_
  refine EW.region ?_
  first | refine WL.move rfl rfl rfl ?_
  refine WL.call [sv a] enter49 rfl rfl rfl (rname_any a _) ?_
  rintro _ wN ⟨rfl, hwN⟩
  refine ⟨_, rfl, ?_⟩
  rw [hwN, hnm]
  first | refine WL.un rfl rfl rfl (not_t _ _) ?_
  refine WL.done ?_
  refine EW.on ?_
  refine EW.cond_f rfl ?_
  refine EW.skip ?_
  refine EW.on ?_
  refine EW.seq ?_
  refine EW.region ?_
  first | refine WL.move rfl rfl rfl ?_
  refine WL.call [v0] enter50 rfl rfl rfl (rread_no hv hl hok) ?_
  rintro _ w1 ⟨rfl, l1⟩
  refine ⟨_, rfl, ?_⟩
  first | refine WL.move rfl rfl rfl ?_
  first | refine WL.extract rfl rfl rfl (ext_2 _ _ _).1 ?_
  first | refine WL.extract rfl rfl rfl (ext_2 _ _ _).2 ?_
  obtain ⟨w2, w3, q9, rn9, s9, b9, l3, hq9⟩ := ns109 w1 Rq.zv
  refine WL.new rfl rfl rn9 ?_
  refine WL.store rfl rfl rfl s9 ?_
  first | refine WL.assign rfl rfl rfl ?_
  refine WL.done ?_
  refine EW.on ?_
  refine EW.seq ?_
  refine EW.seq ?_
  refine EW.region ?_
  first | refine WL.move rfl rfl rfl ?_
  first | refine WL.un rfl rfl rfl (not_t _ _) ?_
  refine WL.done ?_
  refine EW.on ?_
  refine EW.cond_t rfl ?_
  refine EW.seq ?_
  refine EW.region ?_
  first | refine WL.assign rfl rfl rfl ?_
  first | refine WL.assign rfl rfl rfl ?_
  first | refine WL.assign rfl rfl rfl ?_
  refine WL.done ?_
  refine EW.on ?_
  refine EW.ret ?_
  refine pr_then ?_
  exact EW.returns3 Tryd.results31 rfl rfl rfl ⟨rfl, bt l1 l3⟩
end Go.Proofs.YtiefgmgjlhjjhaaDoor
