import Derived.Test.YthfcabhelldokaaBh
import Derived.Test.YthfcabhelldokaaScG
set_option linter.unusedVariables false
set_option linter.unusedSimpArgs false
namespace Go.Proofs.Ythfcabhelldokaa
open Go.RowKit

structure Dgo (D D' : Dv) : Prop where
  n : D'.n = D.n
  cal : D'.calls ≤ D.calls + 1
  pen : D'.pen.length ≤ D.pen.length + 1
  left : D'.left < 9223372036854775808
theorem go_changed (D : Dv) (h : D.left < 9223372036854775808) : Dgo D (changedD D) := by
  unfold changedD
  split
  · exact ⟨rfl, Nat.le_refl _, by simp [crashD], by simp [crashD]⟩
  · exact ⟨rfl, Nat.le_refl _, Nat.le_succ _, by show D.left - 1 < _; omega⟩
theorem go_same (D : Dv) (h : D.left < 9223372036854775808) : Dgo D D := ⟨rfl, Nat.le_succ _, Nat.le_succ _, h⟩
theorem go_wr (D : Dv) (i : Int) (b : List UInt8) (h : D.left < 9223372036854775808) : Dgo D (wrD D i b) := by
  unfold wrD
  split
  · exact go_same D h
  · unfold changedD
    split
    · exact ⟨rfl, Nat.le_refl _, by simp [crashD], by simp [crashD]⟩
    · exact ⟨rfl, Nat.le_refl _, by show (D.pen ++ [_]).length ≤ _; simp, by show D.left - 1 < _; omega⟩
theorem go_arm (D : Dv) (step : Int) (ks : List (BitVec 64)) (torn off : Int) (h : D.left < 9223372036854775808) (hs : step ≤ 9223372036854775807) : Dgo D (armX D step ks torn off) := by
  unfold armX
  split
  · exact go_same D h
  · split
    · exact ⟨rfl, Nat.le_succ _, Nat.le_succ _, by show 0 < _; decide⟩
    · exact ⟨rfl, Nat.le_succ _, Nat.le_succ _, by show step.toNat < _; omega⟩
theorem go_cr (D : Dv) (ks : List (BitVec 64)) (torn off : Int) (h : D.left < 9223372036854775808) : Dgo D (crX D ks torn off) := by
  unfold crX
  split
  · exact go_same D h
  · exact ⟨rfl, Nat.le_succ _, by simp [crashD], by simp [crashD]⟩
theorem go_up (D : Dv) : Dgo D (upD D) := ⟨rfl, Nat.le_succ _, Nat.le_succ _, by show 0 < _; decide⟩
theorem cv53 (u : UInt8) (W : World) : (Go.convert 5 3 (.int .u8 (u.toNat : Int))).run Try.prog W = .ok (.int .i64 (u.toNat : Int)) W := by
  have h1 : (u.toNat : Int) < 256 := by have := u.toNat_lt; omega
  have h0 : (0 : Int) ≤ (u.toNat : Int) := by omega
  obtain ⟨N, hN⟩ : ∃ N : Int, (u.toNat : Int) = N := ⟨_, rfl⟩
  rw [hN] at h1 h0 ⊢
  clear hN
  go_simp
  try (rw [IntKind.wrap_i64]; omega)
theorem f53_3 (g : Nat) (W : World) : (Instr.fieldAt 53 (.pointer (some ⟨g, 0, none⟩)) 3).run Try.prog W = .ok (.pointer (some ⟨g, 3, none⟩)) W := by go_simp
theorem f53_4 (g : Nat) (W : World) : (Instr.fieldAt 53 (.pointer (some ⟨g, 0, none⟩)) 4).run Try.prog W = .ok (.pointer (some ⟨g, 4, none⟩)) W := by go_simp
theorem f53_5 (g : Nat) (W : World) : (Instr.fieldAt 53 (.pointer (some ⟨g, 0, none⟩)) 5).run Try.prog W = .ok (.pointer (some ⟨g, 5, none⟩)) W := by go_simp
theorem lossAt {W : World} {g : Nat} {s : Stp} (h : Blk W g (stC s) 53) : (Instr.loadAt 38 (.pointer (some ⟨g, 5, none⟩))).run Try.prog W = .ok (.agg (lossC s.vk s.torn s.off).toArray) W := run_loadA (fun j v hj => by
  rw [add_off, h.cell, ← hj]
  have hj3 : j < 3 := by have := (List.getElem?_eq_some_iff.1 hj).1; simpa [lossC] using this
  match j, hj3 with
  | 0, _ => rfl
  | 1, _ => rfl
  | 2, _ => rfl) Try.underlying38 rfl (info38 _ _ _)
set_option maxRecDepth 100000 in
set_option maxHeartbeats 1000000 in
theorem fails_arm {W : World} {L : Lay} {R : Rl} {D : Dv} (h : Two W L R D) (s : Stp) (hs : s.ok W) (hkl : s.ks.length ≤ 100000000) (hsn : ∀ k, s.ks ≠ [] → s.vk.ownBlock = some k → ¬ (L.F k ∨ R.F k)) (hleft : D.left < 9223372036854775808) (n5 : s.kind = 5) :
    Calls Try.prog 51 #[.pointer (some ⟨L.p, 0, none⟩), .pointer (some ⟨R.p, 0, none⟩), .agg (stC s).toArray] W fun e w' => e = .returned (.bool true) ∧ ∃ L' R' D', Two w' L' R' D' ∧ St2 W w' L L' R R' ∧ Dgo D D' := by
  obtain ⟨g0, hg0⟩ : ∃ g, W.heap.size = g := ⟨_, rfl⟩
  have hbox := run_boxR (P := Try.prog) 53 (stC s) W g0 hg0
  have b0 : Blk (W.alloc (.cells (stC s).toArray 53)) g0 (stC s) 53 := Blk.newAt hg0
  have be0 : Below W.heap.size W (W.alloc (.cells (stC s).toArray 53)) := below_new W _
  have sz0 : (W.alloc (.cells (stC s).toArray 53)).heap.size = g0 + 1 := by simp [hg0]
  obtain ⟨w0, hw0⟩ : ∃ w0, W.alloc (.cells (stC s).toArray 53) = w0 := ⟨_, rfl⟩
  rw [hw0] at hbox b0 be0 sz0
  have htw := twin_blk s.vk s.ks s.torn s.off hs.kl w0 (hs.hk.below be0)
  obtain ⟨gk, hgk⟩ : ∃ gk, w0.heap.size + 2 = gk := ⟨_, rfl⟩
  rw [hgk] at htw
  refine calls_of_args [.pointer (some ⟨L.p, 0, none⟩), .pointer (some ⟨R.p, 0, none⟩), .agg (stC s).toArray] Try.func51 rfl 73 Try.ntmps51 (by show 3 ≤ 73; decide) ?_
  refine EW.seq ?_
  refine EW.region ?_
  refine WL.box rfl rfl rfl hbox ?_
  first | refine WL.assign rfl rfl rfl ?_
  refine WL.done ?_
  refine EW.on ?_
  refine EW.seq ?_
  refine EW.region ?_
  refine WL.field rfl rfl rfl (f53_5 _ _) ?_
  refine WL.load rfl rfl rfl (lossAt b0) ?_
  refine WL.call [.agg (lossC s.vk s.torn s.off).toArray] enter20 rfl rfl rfl htw ?_
  rintro x w1 ⟨rfl, be1, bk⟩
  refine ⟨_, rfl, ?_⟩
  have b1 := b0.on be1
  obtain ⟨g2, hg2⟩ : ∃ g, w1.heap.size = g := ⟨_, rfl⟩
  have hnew2 := run_newR (P := Try.prog) 38 (lossC (.slice none 0 0) 0 0) zero38 w1 g2 hg2
  have bz : Blk (w1.alloc (.cells (lossC (.slice none 0 0) 0 0).toArray 38)) g2 (lossC (.slice none 0 0) 0 0) 38 := Blk.newAt hg2
  have bez : Below w1.heap.size w1 (w1.alloc (.cells (lossC (.slice none 0 0) 0 0).toArray 38)) := below_new w1 _
  obtain ⟨wz, hwz⟩ : ∃ wz, w1.alloc (.cells (lossC (.slice none 0 0) 0 0).toArray 38) = wz := ⟨_, rfl⟩
  rw [hwz] at hnew2 bz bez
  have hst := run_storeR (P := Try.prog) (ty := 38) bz (info38 (.slice (some ⟨gk, 0, none⟩) s.ks.length (s.ks.length + 2)) s.torn s.off) rfl (lossC_oneB _ _ _ _ _)
  have bt := bz.setRow (lossC (.slice (some ⟨gk, 0, none⟩) s.ks.length (s.ks.length + 2)) s.torn s.off)
  have fz : Fx (fun k => k = g2) wz (wz.setRow g2 (lossC (.slice (some ⟨gk, 0, none⟩) s.ks.length (s.ks.length + 2)) s.torn s.off).toArray) := Fx.setRow wz g2 _ rfl
  have bk2 := (bk.on bez).fx fz (fun e => by have := bk.lt; omega)
  have b2 := (b1.on bez).fx fz (fun e => by have := b1.lt; omega)
  obtain ⟨w2, hw2⟩ : ∃ w2, wz.setRow g2 (lossC (.slice (some ⟨gk, 0, none⟩) s.ks.length (s.ks.length + 2)) s.torn s.off).toArray = w2 := ⟨_, rfl⟩
  rw [hw2] at hst bt fz bk2 b2
  have be12 : Below w1.heap.size w1 w2 := bez.trans (fz.below (fun k hk e => by omega) bez.size)
  have be : Below W.heap.size W w2 := be0.trans ((be1.trans (be12.mono be1.size)).mono be0.size)
  have h2 := h.below be
  have hk2 : Has64 w2 (.slice (some ⟨gk, 0, none⟩) s.ks.length (s.ks.length + 2)) s.ks := tw_has s.ks w2 gk bk2
  have hnew : ∀ k, W.heap.size ≤ k → ¬ (L.F k ∨ R.F k) := fun k hk hF => by have := h.lt k hF; omega
  have hg0n : W.heap.size ≤ g0 := by omega
  have hgkn : W.heap.size ≤ gk := by have := be0.size; omega
  have hg2n : W.heap.size ≤ g2 := by have := be0.size; have := be1.size; omega
  have htn : ∀ k, Value.ownBlock (.slice (some ⟨gk, 0, none⟩) s.ks.length (s.ks.length + 2)) = some k → ¬ (L.F k ∨ R.F k) := fun k hk => by
    have hk : gk = k := by simpa [Value.ownBlock] using hk
    subst hk
    exact hnew gk hgkn
  have hsk2 := hs.hk.below be
  have p0 := (b2.cell 0).trans (show _ = some (.int .i64 s.kind) from rfl)
  refine WL.new rfl rfl hnew2 ?_
  refine WL.store rfl rfl rfl hst ?_
  refine WL.done ?_
  refine EW.on ?_
  refine EW.seq ?_
  refine EW.region ?_
  first | refine WL.assign rfl rfl rfl ?_
  refine WL.done ?_
  refine EW.on ?_
  refine EW.seq ?_
  refine EW.region ?_
  first | refine WL.assign rfl rfl rfl ?_
  refine WL.done ?_
  refine EW.on ?_
  refine EW.seq ?_
  refine EW.seq ?_
  refine EW.region ?_
  first | refine WL.field rfl rfl rfl (fld53_0 _ _) ?_
  refine WL.load rfl rfl rfl (ld3 p0) ?_
  refine WL.done ?_
  refine EW.on ?_
  refine EW.block ?_
  refine EW.seq ?_
  refine EW.region ?_
  refine WL.bin rfl rfl rfl rfl (int_eq_t n5 _ _ _) ?_
  first | refine WL.assign rfl rfl rfl ?_
  refine WL.done ?_
  refine EW.on ?_
  refine EW.cond_t rfl ?_
  refine EW.seq ?_
  have q2 := (b2.cell 3).trans (show _ = some (.int .u8 (s.fill.toNat : Int)) from rfl)
  have hda := dev_arm h2.dev ((s.fill.toNat : Int)) (.slice (some ⟨gk, 0, none⟩) s.ks.length (s.ks.length + 2)) s.ks s.torn s.off hk2 (fun k hk e => htn k hk (.inl e)) (by omega)
  refine EW.region ?_
  first | refine WL.move rfl rfl rfl ?_
  refine WL.field rfl rfl rfl (f53_3 _ _) ?_
  refine WL.load rfl rfl rfl (ld5 q2) ?_
  refine WL.conv rfl rfl rfl (cv53 _ _) ?_
  refine WL.load rfl rfl rfl (run_loadR bt Try.underlying38 rfl (info38 _ _ _)) ?_
  refine WL.call [.pointer (some ⟨L.p, 0, none⟩), .int .i64 ((s.fill.toNat : Int)), .agg (lossC (.slice (some ⟨gk, 0, none⟩) s.ks.length (s.ks.length + 2)) s.torn s.off).toArray] enter19 rfl rfl rfl hda ?_
  rintro x w3 ⟨rfl, L3, ht3, hd3⟩
  refine ⟨_, rfl, ?_⟩
  first | refine WL.assign rfl rfl rfl ?_
  refine WL.done ?_
  have b3 := b2.fx ht3.fx (fun e => hnew g0 hg0n (.inl e))
  have hr3 := h2.mid ht3
  have hsk3 := hsk2.fx' ht3.fx (fun k hn hk e => hsn k hn hk (.inl e))
  have q3 := (b3.cell 3).trans (show _ = some (.int .u8 (s.fill.toNat : Int)) from rfl)
  have hra := ref_arm hr3 ((s.fill.toNat : Int)) s.vk s.ks s.torn s.off hsk3 (fun k hn hk e => hsn k hn hk (.inr e)) hkl
  refine EW.on ?_
  refine EW.region ?_
  first | refine WL.move rfl rfl rfl ?_
  refine WL.field rfl rfl rfl (f53_3 _ _) ?_
  refine WL.load rfl rfl rfl (ld5 q3) ?_
  refine WL.conv rfl rfl rfl (cv53 _ _) ?_
  refine WL.field rfl rfl rfl (f53_5 _ _) ?_
  refine WL.load rfl rfl rfl (lossAt b3) ?_
  refine WL.call [.pointer (some ⟨R.p, 0, none⟩), .int .i64 ((s.fill.toNat : Int)), .agg (lossC s.vk s.torn s.off).toArray] enter67 rfl rfl rfl hra ?_
  rintro x w4 ⟨rfl, R4, ht4, hr4⟩
  refine ⟨_, rfl, ?_⟩
  first | refine WL.assign rfl rfl rfl ?_
  refine WL.done ?_
  obtain ⟨k4, st4⟩ := h2.step ht3 hd3 ht4 hr4
  have b4 := b2.fx st4.fx (hnew g0 hg0n)
  have bt4 := bt.fx st4.fx (hnew g2 hg2n)
  have bk4 := bk2.fx st4.fx (hnew gk hgkn)
  have hka := tw_has s.ks w4 gk bk4
  have hkb := hsk2.fx' st4.fx (fun k hn hk => hsn k hn hk)
  have hsame := sameKeep_law (.slice (some ⟨gk, 0, none⟩) s.ks.length (s.ks.length + 2)) s.vk s.torn s.off s.torn s.off s.ks hka hkb (by omega)
  refine pn_block ?_
  refine EW.on ?_
  refine EW.seq ?_
  refine EW.region ?_
  refine WL.load rfl rfl rfl (run_loadR bt4 Try.underlying38 rfl (info38 _ _ _)) ?_
  refine WL.field rfl rfl rfl (f53_5 _ _) ?_
  refine WL.load rfl rfl rfl (lossAt b4) ?_
  refine WL.call [.agg (lossC (.slice (some ⟨gk, 0, none⟩) s.ks.length (s.ks.length + 2)) s.torn s.off).toArray, .agg (lossC s.vk s.torn s.off).toArray] enter70 rfl rfl rfl hsame ?_
  rintro x w5 ⟨rfl, be5⟩
  refine ⟨_, rfl, ?_⟩
  have bt5 := bt4.on be5
  have bk5 := bk4.on be5
  have hspo := spoil_law gk s.ks s.torn s.off bk5 (by omega)
  first | refine WL.assign rfl rfl rfl ?_
  refine WL.done ?_
  refine EW.on ?_
  refine EW.seq ?_
  refine EW.region ?_
  refine WL.load rfl rfl rfl (run_loadR bt5 Try.underlying38 rfl (info38 _ _ _)) ?_
  refine WL.call [.agg (lossC (.slice (some ⟨gk, 0, none⟩) s.ks.length (s.ks.length + 2)) s.torn s.off).toArray] enter71 rfl rfl rfl hspo ?_
  rintro x w6 ⟨rfl, hf6⟩
  refine ⟨_, rfl, ?_⟩
  first | refine WL.assign rfl rfl rfl ?_
  refine WL.done ?_
  have hgk4 : ∀ k, L3.F k ∨ R4.F k → ¬ k = gk := fun k hk e => by
    subst e
    rcases hk with hk | hk
    · rcases st4.ol k hk with e | e
      · exact hnew k hgkn (.inl e)
      · have := bk2.lt; omega
    · rcases st4.or k hk with e | e
      · exact hnew k hgkn (.inr e)
      · have := bk2.lt; omega
  have k6 := (k4.below be5).fx hf6 hgk4
  have stW := (St2.below be).trans (st4.trans (St2.below be5))
  have st6 : St2 W w6 L L3 R R4 := ⟨stW.fx.trans hf6 (fun k hk e => by omega), stW.ol, stW.or, stW.pl, stW.pr⟩
  refine EW.on ?_
  refine EW.seq ?_
  refine EW.region ?_
  first | refine WL.move rfl rfl rfl ?_
  first | refine WL.move rfl rfl rfl ?_
  refine WL.bin rfl rfl rfl rfl (int_eq_t rfl _ _ _) ?_
  first | refine WL.move rfl rfl rfl ?_
  first | refine WL.move rfl rfl rfl ?_ | refine WL.skip _ rfl rfl rfl ?_
  first | refine WL.pick rfl rfl rfl rfl ?_
  first | refine WL.move rfl rfl rfl ?_
  first | refine WL.move rfl rfl rfl ?_ | refine WL.skip _ rfl rfl rfl ?_
  first | refine WL.pick rfl rfl rfl rfl ?_
  first | refine WL.assign rfl rfl rfl ?_
  refine WL.done ?_
  refine EW.on ?_
  refine EW.ret ?_
  repeat (first | refine pr_then ?_ | refine pr_block ?_)
  exact EW.returns Try.results51 rfl ⟨rfl, L3, R4, _, k6, st6, go_arm D ((s.fill.toNat : Int)) s.ks s.torn s.off hleft (by have := s.fill.toNat_lt; omega)⟩
set_option maxRecDepth 100000 in
set_option maxHeartbeats 1000000 in
theorem fails_armed {W : World} {L : Lay} {R : Rl} {D : Dv} (h : Two W L R D) (s : Stp) (hs : s.ok W) (hkl : s.ks.length ≤ 100000000) (hsn : ∀ k, s.ks ≠ [] → s.vk.ownBlock = some k → ¬ (L.F k ∨ R.F k)) (hleft : D.left < 9223372036854775808) (n5 : ¬ s.kind = 5) (n6 : s.kind = 6) :
    Calls Try.prog 51 #[.pointer (some ⟨L.p, 0, none⟩), .pointer (some ⟨R.p, 0, none⟩), .agg (stC s).toArray] W fun e w' => e = .returned (.bool true) ∧ ∃ L' R' D', Two w' L' R' D' ∧ St2 W w' L L' R R' ∧ Dgo D D' := by
  obtain ⟨g0, hg0⟩ : ∃ g, W.heap.size = g := ⟨_, rfl⟩
  have hbox := run_boxR (P := Try.prog) 53 (stC s) W g0 hg0
  have b0 : Blk (W.alloc (.cells (stC s).toArray 53)) g0 (stC s) 53 := Blk.newAt hg0
  have be0 : Below W.heap.size W (W.alloc (.cells (stC s).toArray 53)) := below_new W _
  have sz0 : (W.alloc (.cells (stC s).toArray 53)).heap.size = g0 + 1 := by simp [hg0]
  obtain ⟨w0, hw0⟩ : ∃ w0, W.alloc (.cells (stC s).toArray 53) = w0 := ⟨_, rfl⟩
  rw [hw0] at hbox b0 be0 sz0
  have htw := twin_blk s.vk s.ks s.torn s.off hs.kl w0 (hs.hk.below be0)
  obtain ⟨gk, hgk⟩ : ∃ gk, w0.heap.size + 2 = gk := ⟨_, rfl⟩
  rw [hgk] at htw
  refine calls_of_args [.pointer (some ⟨L.p, 0, none⟩), .pointer (some ⟨R.p, 0, none⟩), .agg (stC s).toArray] Try.func51 rfl 73 Try.ntmps51 (by show 3 ≤ 73; decide) ?_
  refine EW.seq ?_
  refine EW.region ?_
  refine WL.box rfl rfl rfl hbox ?_
  first | refine WL.assign rfl rfl rfl ?_
  refine WL.done ?_
  refine EW.on ?_
  refine EW.seq ?_
  refine EW.region ?_
  refine WL.field rfl rfl rfl (f53_5 _ _) ?_
  refine WL.load rfl rfl rfl (lossAt b0) ?_
  refine WL.call [.agg (lossC s.vk s.torn s.off).toArray] enter20 rfl rfl rfl htw ?_
  rintro x w1 ⟨rfl, be1, bk⟩
  refine ⟨_, rfl, ?_⟩
  have b1 := b0.on be1
  obtain ⟨g2, hg2⟩ : ∃ g, w1.heap.size = g := ⟨_, rfl⟩
  have hnew2 := run_newR (P := Try.prog) 38 (lossC (.slice none 0 0) 0 0) zero38 w1 g2 hg2
  have bz : Blk (w1.alloc (.cells (lossC (.slice none 0 0) 0 0).toArray 38)) g2 (lossC (.slice none 0 0) 0 0) 38 := Blk.newAt hg2
  have bez : Below w1.heap.size w1 (w1.alloc (.cells (lossC (.slice none 0 0) 0 0).toArray 38)) := below_new w1 _
  obtain ⟨wz, hwz⟩ : ∃ wz, w1.alloc (.cells (lossC (.slice none 0 0) 0 0).toArray 38) = wz := ⟨_, rfl⟩
  rw [hwz] at hnew2 bz bez
  have hst := run_storeR (P := Try.prog) (ty := 38) bz (info38 (.slice (some ⟨gk, 0, none⟩) s.ks.length (s.ks.length + 2)) s.torn s.off) rfl (lossC_oneB _ _ _ _ _)
  have bt := bz.setRow (lossC (.slice (some ⟨gk, 0, none⟩) s.ks.length (s.ks.length + 2)) s.torn s.off)
  have fz : Fx (fun k => k = g2) wz (wz.setRow g2 (lossC (.slice (some ⟨gk, 0, none⟩) s.ks.length (s.ks.length + 2)) s.torn s.off).toArray) := Fx.setRow wz g2 _ rfl
  have bk2 := (bk.on bez).fx fz (fun e => by have := bk.lt; omega)
  have b2 := (b1.on bez).fx fz (fun e => by have := b1.lt; omega)
  obtain ⟨w2, hw2⟩ : ∃ w2, wz.setRow g2 (lossC (.slice (some ⟨gk, 0, none⟩) s.ks.length (s.ks.length + 2)) s.torn s.off).toArray = w2 := ⟨_, rfl⟩
  rw [hw2] at hst bt fz bk2 b2
  have be12 : Below w1.heap.size w1 w2 := bez.trans (fz.below (fun k hk e => by omega) bez.size)
  have be : Below W.heap.size W w2 := be0.trans ((be1.trans (be12.mono be1.size)).mono be0.size)
  have h2 := h.below be
  have hk2 : Has64 w2 (.slice (some ⟨gk, 0, none⟩) s.ks.length (s.ks.length + 2)) s.ks := tw_has s.ks w2 gk bk2
  have hnew : ∀ k, W.heap.size ≤ k → ¬ (L.F k ∨ R.F k) := fun k hk hF => by have := h.lt k hF; omega
  have hg0n : W.heap.size ≤ g0 := by omega
  have hgkn : W.heap.size ≤ gk := by have := be0.size; omega
  have hg2n : W.heap.size ≤ g2 := by have := be0.size; have := be1.size; omega
  have htn : ∀ k, Value.ownBlock (.slice (some ⟨gk, 0, none⟩) s.ks.length (s.ks.length + 2)) = some k → ¬ (L.F k ∨ R.F k) := fun k hk => by
    have hk : gk = k := by simpa [Value.ownBlock] using hk
    subst hk
    exact hnew gk hgkn
  have hsk2 := hs.hk.below be
  have p0 := (b2.cell 0).trans (show _ = some (.int .i64 s.kind) from rfl)
  refine WL.new rfl rfl hnew2 ?_
  refine WL.store rfl rfl rfl hst ?_
  refine WL.done ?_
  refine EW.on ?_
  refine EW.seq ?_
  refine EW.region ?_
  first | refine WL.assign rfl rfl rfl ?_
  refine WL.done ?_
  refine EW.on ?_
  refine EW.seq ?_
  refine EW.region ?_
  first | refine WL.assign rfl rfl rfl ?_
  refine WL.done ?_
  refine EW.on ?_
  refine EW.seq ?_
  refine EW.seq ?_
  refine EW.region ?_
  first | refine WL.field rfl rfl rfl (fld53_0 _ _) ?_
  refine WL.load rfl rfl rfl (ld3 p0) ?_
  refine WL.done ?_
  refine EW.on ?_
  refine EW.block ?_
  refine EW.seq ?_
  refine EW.region ?_
  refine WL.bin rfl rfl rfl rfl (int_eq_f n5 _ _ _) ?_
  first | refine WL.assign rfl rfl rfl ?_
  refine WL.done ?_
  refine EW.on ?_
  refine EW.cond_f rfl ?_
  refine EW.seq ?_
  refine EW.region ?_
  refine WL.bin rfl rfl rfl rfl (int_eq_t n6 _ _ _) ?_
  first | refine WL.assign rfl rfl rfl ?_
  refine WL.done ?_
  refine EW.on ?_
  refine EW.cond_t rfl ?_
  refine EW.seq ?_
  have q2 := (b2.cell 2).trans (show _ = some (.int .i64 s.i) from rfl)
  have hda := dev_arm h2.dev (s.i) (.slice (some ⟨gk, 0, none⟩) s.ks.length (s.ks.length + 2)) s.ks s.torn s.off hk2 (fun k hk e => htn k hk (.inl e)) (by omega)
  refine EW.region ?_
  first | refine WL.move rfl rfl rfl ?_
  refine WL.field rfl rfl rfl (fld53_2 _ _) ?_
  refine WL.load rfl rfl rfl (ld3 q2) ?_
  refine WL.load rfl rfl rfl (run_loadR bt Try.underlying38 rfl (info38 _ _ _)) ?_
  refine WL.call [.pointer (some ⟨L.p, 0, none⟩), .int .i64 (s.i), .agg (lossC (.slice (some ⟨gk, 0, none⟩) s.ks.length (s.ks.length + 2)) s.torn s.off).toArray] enter19 rfl rfl rfl hda ?_
  rintro x w3 ⟨rfl, L3, ht3, hd3⟩
  refine ⟨_, rfl, ?_⟩
  first | refine WL.assign rfl rfl rfl ?_
  refine WL.done ?_
  have b3 := b2.fx ht3.fx (fun e => hnew g0 hg0n (.inl e))
  have hr3 := h2.mid ht3
  have hsk3 := hsk2.fx' ht3.fx (fun k hn hk e => hsn k hn hk (.inl e))
  have q3 := (b3.cell 2).trans (show _ = some (.int .i64 s.i) from rfl)
  have hra := ref_arm hr3 (s.i) s.vk s.ks s.torn s.off hsk3 (fun k hn hk e => hsn k hn hk (.inr e)) hkl
  refine EW.on ?_
  refine EW.region ?_
  first | refine WL.move rfl rfl rfl ?_
  refine WL.field rfl rfl rfl (fld53_2 _ _) ?_
  refine WL.load rfl rfl rfl (ld3 q3) ?_
  refine WL.field rfl rfl rfl (f53_5 _ _) ?_
  refine WL.load rfl rfl rfl (lossAt b3) ?_
  refine WL.call [.pointer (some ⟨R.p, 0, none⟩), .int .i64 (s.i), .agg (lossC s.vk s.torn s.off).toArray] enter67 rfl rfl rfl hra ?_
  rintro x w4 ⟨rfl, R4, ht4, hr4⟩
  refine ⟨_, rfl, ?_⟩
  first | refine WL.assign rfl rfl rfl ?_
  refine WL.done ?_
  obtain ⟨k4, st4⟩ := h2.step ht3 hd3 ht4 hr4
  have b4 := b2.fx st4.fx (hnew g0 hg0n)
  have bt4 := bt.fx st4.fx (hnew g2 hg2n)
  have bk4 := bk2.fx st4.fx (hnew gk hgkn)
  have hka := tw_has s.ks w4 gk bk4
  have hkb := hsk2.fx' st4.fx (fun k hn hk => hsn k hn hk)
  have hsame := sameKeep_law (.slice (some ⟨gk, 0, none⟩) s.ks.length (s.ks.length + 2)) s.vk s.torn s.off s.torn s.off s.ks hka hkb (by omega)
  refine pn_block ?_
  refine EW.on ?_
  refine EW.seq ?_
  refine EW.region ?_
  refine WL.load rfl rfl rfl (run_loadR bt4 Try.underlying38 rfl (info38 _ _ _)) ?_
  refine WL.field rfl rfl rfl (f53_5 _ _) ?_
  refine WL.load rfl rfl rfl (lossAt b4) ?_
  refine WL.call [.agg (lossC (.slice (some ⟨gk, 0, none⟩) s.ks.length (s.ks.length + 2)) s.torn s.off).toArray, .agg (lossC s.vk s.torn s.off).toArray] enter70 rfl rfl rfl hsame ?_
  rintro x w5 ⟨rfl, be5⟩
  refine ⟨_, rfl, ?_⟩
  have bt5 := bt4.on be5
  have bk5 := bk4.on be5
  have hspo := spoil_law gk s.ks s.torn s.off bk5 (by omega)
  first | refine WL.assign rfl rfl rfl ?_
  refine WL.done ?_
  refine EW.on ?_
  refine EW.seq ?_
  refine EW.region ?_
  refine WL.load rfl rfl rfl (run_loadR bt5 Try.underlying38 rfl (info38 _ _ _)) ?_
  refine WL.call [.agg (lossC (.slice (some ⟨gk, 0, none⟩) s.ks.length (s.ks.length + 2)) s.torn s.off).toArray] enter71 rfl rfl rfl hspo ?_
  rintro x w6 ⟨rfl, hf6⟩
  refine ⟨_, rfl, ?_⟩
  first | refine WL.assign rfl rfl rfl ?_
  refine WL.done ?_
  have hgk4 : ∀ k, L3.F k ∨ R4.F k → ¬ k = gk := fun k hk e => by
    subst e
    rcases hk with hk | hk
    · rcases st4.ol k hk with e | e
      · exact hnew k hgkn (.inl e)
      · have := bk2.lt; omega
    · rcases st4.or k hk with e | e
      · exact hnew k hgkn (.inr e)
      · have := bk2.lt; omega
  have k6 := (k4.below be5).fx hf6 hgk4
  have stW := (St2.below be).trans (st4.trans (St2.below be5))
  have st6 : St2 W w6 L L3 R R4 := ⟨stW.fx.trans hf6 (fun k hk e => by omega), stW.ol, stW.or, stW.pl, stW.pr⟩
  refine EW.on ?_
  refine EW.seq ?_
  refine EW.region ?_
  first | refine WL.move rfl rfl rfl ?_
  first | refine WL.move rfl rfl rfl ?_
  refine WL.bin rfl rfl rfl rfl (int_eq_t rfl _ _ _) ?_
  first | refine WL.move rfl rfl rfl ?_
  first | refine WL.move rfl rfl rfl ?_ | refine WL.skip _ rfl rfl rfl ?_
  first | refine WL.pick rfl rfl rfl rfl ?_
  first | refine WL.move rfl rfl rfl ?_
  first | refine WL.move rfl rfl rfl ?_ | refine WL.skip _ rfl rfl rfl ?_
  first | refine WL.pick rfl rfl rfl rfl ?_
  first | refine WL.assign rfl rfl rfl ?_
  refine WL.done ?_
  refine EW.on ?_
  refine EW.ret ?_
  repeat (first | refine pr_then ?_ | refine pr_block ?_)
  exact EW.returns Try.results51 rfl ⟨rfl, L3, R4, _, k6, st6, go_arm D (s.i) s.ks s.torn s.off hleft (hs.ii.2)⟩
set_option maxRecDepth 100000 in
set_option maxHeartbeats 1000000 in
theorem fails_crash {W : World} {L : Lay} {R : Rl} {D : Dv} (h : Two W L R D) (s : Stp) (hs : s.ok W) (hkl : s.ks.length ≤ 100000000) (hsn : ∀ k, s.ks ≠ [] → s.vk.ownBlock = some k → ¬ (L.F k ∨ R.F k)) (hleft : D.left < 9223372036854775808) (n5 : ¬ s.kind = 5) (n6 : ¬ s.kind = 6) (n7 : s.kind = 7) :
    Calls Try.prog 51 #[.pointer (some ⟨L.p, 0, none⟩), .pointer (some ⟨R.p, 0, none⟩), .agg (stC s).toArray] W fun e w' => e = .returned (.bool true) ∧ ∃ L' R' D', Two w' L' R' D' ∧ St2 W w' L L' R R' ∧ Dgo D D' := by
  obtain ⟨g0, hg0⟩ : ∃ g, W.heap.size = g := ⟨_, rfl⟩
  have hbox := run_boxR (P := Try.prog) 53 (stC s) W g0 hg0
  have b0 : Blk (W.alloc (.cells (stC s).toArray 53)) g0 (stC s) 53 := Blk.newAt hg0
  have be0 : Below W.heap.size W (W.alloc (.cells (stC s).toArray 53)) := below_new W _
  have sz0 : (W.alloc (.cells (stC s).toArray 53)).heap.size = g0 + 1 := by simp [hg0]
  obtain ⟨w0, hw0⟩ : ∃ w0, W.alloc (.cells (stC s).toArray 53) = w0 := ⟨_, rfl⟩
  rw [hw0] at hbox b0 be0 sz0
  have htw := twin_blk s.vk s.ks s.torn s.off hs.kl w0 (hs.hk.below be0)
  obtain ⟨gk, hgk⟩ : ∃ gk, w0.heap.size + 2 = gk := ⟨_, rfl⟩
  rw [hgk] at htw
  refine calls_of_args [.pointer (some ⟨L.p, 0, none⟩), .pointer (some ⟨R.p, 0, none⟩), .agg (stC s).toArray] Try.func51 rfl 73 Try.ntmps51 (by show 3 ≤ 73; decide) ?_
  refine EW.seq ?_
  refine EW.region ?_
  refine WL.box rfl rfl rfl hbox ?_
  first | refine WL.assign rfl rfl rfl ?_
  refine WL.done ?_
  refine EW.on ?_
  refine EW.seq ?_
  refine EW.region ?_
  refine WL.field rfl rfl rfl (f53_5 _ _) ?_
  refine WL.load rfl rfl rfl (lossAt b0) ?_
  refine WL.call [.agg (lossC s.vk s.torn s.off).toArray] enter20 rfl rfl rfl htw ?_
  rintro x w1 ⟨rfl, be1, bk⟩
  refine ⟨_, rfl, ?_⟩
  have b1 := b0.on be1
  obtain ⟨g2, hg2⟩ : ∃ g, w1.heap.size = g := ⟨_, rfl⟩
  have hnew2 := run_newR (P := Try.prog) 38 (lossC (.slice none 0 0) 0 0) zero38 w1 g2 hg2
  have bz : Blk (w1.alloc (.cells (lossC (.slice none 0 0) 0 0).toArray 38)) g2 (lossC (.slice none 0 0) 0 0) 38 := Blk.newAt hg2
  have bez : Below w1.heap.size w1 (w1.alloc (.cells (lossC (.slice none 0 0) 0 0).toArray 38)) := below_new w1 _
  obtain ⟨wz, hwz⟩ : ∃ wz, w1.alloc (.cells (lossC (.slice none 0 0) 0 0).toArray 38) = wz := ⟨_, rfl⟩
  rw [hwz] at hnew2 bz bez
  have hst := run_storeR (P := Try.prog) (ty := 38) bz (info38 (.slice (some ⟨gk, 0, none⟩) s.ks.length (s.ks.length + 2)) s.torn s.off) rfl (lossC_oneB _ _ _ _ _)
  have bt := bz.setRow (lossC (.slice (some ⟨gk, 0, none⟩) s.ks.length (s.ks.length + 2)) s.torn s.off)
  have fz : Fx (fun k => k = g2) wz (wz.setRow g2 (lossC (.slice (some ⟨gk, 0, none⟩) s.ks.length (s.ks.length + 2)) s.torn s.off).toArray) := Fx.setRow wz g2 _ rfl
  have bk2 := (bk.on bez).fx fz (fun e => by have := bk.lt; omega)
  have b2 := (b1.on bez).fx fz (fun e => by have := b1.lt; omega)
  obtain ⟨w2, hw2⟩ : ∃ w2, wz.setRow g2 (lossC (.slice (some ⟨gk, 0, none⟩) s.ks.length (s.ks.length + 2)) s.torn s.off).toArray = w2 := ⟨_, rfl⟩
  rw [hw2] at hst bt fz bk2 b2
  have be12 : Below w1.heap.size w1 w2 := bez.trans (fz.below (fun k hk e => by omega) bez.size)
  have be : Below W.heap.size W w2 := be0.trans ((be1.trans (be12.mono be1.size)).mono be0.size)
  have h2 := h.below be
  have hk2 : Has64 w2 (.slice (some ⟨gk, 0, none⟩) s.ks.length (s.ks.length + 2)) s.ks := tw_has s.ks w2 gk bk2
  have hnew : ∀ k, W.heap.size ≤ k → ¬ (L.F k ∨ R.F k) := fun k hk hF => by have := h.lt k hF; omega
  have hg0n : W.heap.size ≤ g0 := by omega
  have hgkn : W.heap.size ≤ gk := by have := be0.size; omega
  have hg2n : W.heap.size ≤ g2 := by have := be0.size; have := be1.size; omega
  have htn : ∀ k, Value.ownBlock (.slice (some ⟨gk, 0, none⟩) s.ks.length (s.ks.length + 2)) = some k → ¬ (L.F k ∨ R.F k) := fun k hk => by
    have hk : gk = k := by simpa [Value.ownBlock] using hk
    subst hk
    exact hnew gk hgkn
  have hsk2 := hs.hk.below be
  have p0 := (b2.cell 0).trans (show _ = some (.int .i64 s.kind) from rfl)
  refine WL.new rfl rfl hnew2 ?_
  refine WL.store rfl rfl rfl hst ?_
  refine WL.done ?_
  refine EW.on ?_
  refine EW.seq ?_
  refine EW.region ?_
  first | refine WL.assign rfl rfl rfl ?_
  refine WL.done ?_
  refine EW.on ?_
  refine EW.seq ?_
  refine EW.region ?_
  first | refine WL.assign rfl rfl rfl ?_
  refine WL.done ?_
  refine EW.on ?_
  refine EW.seq ?_
  refine EW.seq ?_
  refine EW.region ?_
  first | refine WL.field rfl rfl rfl (fld53_0 _ _) ?_
  refine WL.load rfl rfl rfl (ld3 p0) ?_
  refine WL.done ?_
  refine EW.on ?_
  refine EW.block ?_
  refine EW.seq ?_
  refine EW.region ?_
  refine WL.bin rfl rfl rfl rfl (int_eq_f n5 _ _ _) ?_
  first | refine WL.assign rfl rfl rfl ?_
  refine WL.done ?_
  refine EW.on ?_
  refine EW.cond_f rfl ?_
  refine EW.seq ?_
  refine EW.region ?_
  refine WL.bin rfl rfl rfl rfl (int_eq_f n6 _ _ _) ?_
  first | refine WL.assign rfl rfl rfl ?_
  refine WL.done ?_
  refine EW.on ?_
  refine EW.cond_f rfl ?_
  refine EW.seq ?_
  refine EW.region ?_
  refine WL.bin rfl rfl rfl rfl (int_eq_t n7 _ _ _) ?_
  first | refine WL.assign rfl rfl rfl ?_
  refine WL.done ?_
  refine EW.on ?_
  refine EW.cond_t rfl ?_
  refine EW.seq ?_
  have hda := dev_crash h2.dev (.slice (some ⟨gk, 0, none⟩) s.ks.length (s.ks.length + 2)) s.ks s.torn s.off hk2 (fun k hk e => htn k hk (.inl e))
  refine EW.region ?_
  first | refine WL.move rfl rfl rfl ?_
  refine WL.load rfl rfl rfl (run_loadR bt Try.underlying38 rfl (info38 _ _ _)) ?_
  refine WL.call [.pointer (some ⟨L.p, 0, none⟩), .agg (lossC (.slice (some ⟨gk, 0, none⟩) s.ks.length (s.ks.length + 2)) s.torn s.off).toArray] enter15 rfl rfl rfl hda ?_
  rintro x w3 ⟨rfl, L3, ht3, hd3⟩
  refine ⟨_, rfl, ?_⟩
  first | refine WL.assign rfl rfl rfl ?_
  refine WL.done ?_
  have b3 := b2.fx ht3.fx (fun e => hnew g0 hg0n (.inl e))
  have hr3 := h2.mid ht3
  have hsk3 := hsk2.fx' ht3.fx (fun k hn hk e => hsn k hn hk (.inl e))
  have hra := ref_crash hr3 s.vk s.ks s.torn s.off hsk3 (fun k hn hk e => hsn k hn hk (.inr e))
  refine EW.on ?_
  refine EW.region ?_
  first | refine WL.move rfl rfl rfl ?_
  refine WL.field rfl rfl rfl (f53_5 _ _) ?_
  refine WL.load rfl rfl rfl (lossAt b3) ?_
  refine WL.call [.pointer (some ⟨R.p, 0, none⟩), .agg (lossC s.vk s.torn s.off).toArray] enter68 rfl rfl rfl hra ?_
  rintro x w4 ⟨rfl, R4, ht4, hr4⟩
  refine ⟨_, rfl, ?_⟩
  first | refine WL.assign rfl rfl rfl ?_
  refine WL.done ?_
  obtain ⟨k4, st4⟩ := h2.step ht3 hd3 ht4 hr4
  have b4 := b2.fx st4.fx (hnew g0 hg0n)
  have bt4 := bt.fx st4.fx (hnew g2 hg2n)
  have bk4 := bk2.fx st4.fx (hnew gk hgkn)
  have hka := tw_has s.ks w4 gk bk4
  have hkb := hsk2.fx' st4.fx (fun k hn hk => hsn k hn hk)
  have hsame := sameKeep_law (.slice (some ⟨gk, 0, none⟩) s.ks.length (s.ks.length + 2)) s.vk s.torn s.off s.torn s.off s.ks hka hkb (by omega)
  refine pn_block ?_
  refine EW.on ?_
  refine EW.seq ?_
  refine EW.region ?_
  refine WL.load rfl rfl rfl (run_loadR bt4 Try.underlying38 rfl (info38 _ _ _)) ?_
  refine WL.field rfl rfl rfl (f53_5 _ _) ?_
  refine WL.load rfl rfl rfl (lossAt b4) ?_
  refine WL.call [.agg (lossC (.slice (some ⟨gk, 0, none⟩) s.ks.length (s.ks.length + 2)) s.torn s.off).toArray, .agg (lossC s.vk s.torn s.off).toArray] enter70 rfl rfl rfl hsame ?_
  rintro x w5 ⟨rfl, be5⟩
  refine ⟨_, rfl, ?_⟩
  have bt5 := bt4.on be5
  have bk5 := bk4.on be5
  have hspo := spoil_law gk s.ks s.torn s.off bk5 (by omega)
  first | refine WL.assign rfl rfl rfl ?_
  refine WL.done ?_
  refine EW.on ?_
  refine EW.seq ?_
  refine EW.region ?_
  refine WL.load rfl rfl rfl (run_loadR bt5 Try.underlying38 rfl (info38 _ _ _)) ?_
  refine WL.call [.agg (lossC (.slice (some ⟨gk, 0, none⟩) s.ks.length (s.ks.length + 2)) s.torn s.off).toArray] enter71 rfl rfl rfl hspo ?_
  rintro x w6 ⟨rfl, hf6⟩
  refine ⟨_, rfl, ?_⟩
  first | refine WL.assign rfl rfl rfl ?_
  refine WL.done ?_
  have hgk4 : ∀ k, L3.F k ∨ R4.F k → ¬ k = gk := fun k hk e => by
    subst e
    rcases hk with hk | hk
    · rcases st4.ol k hk with e | e
      · exact hnew k hgkn (.inl e)
      · have := bk2.lt; omega
    · rcases st4.or k hk with e | e
      · exact hnew k hgkn (.inr e)
      · have := bk2.lt; omega
  have k6 := (k4.below be5).fx hf6 hgk4
  have stW := (St2.below be).trans (st4.trans (St2.below be5))
  have st6 : St2 W w6 L L3 R R4 := ⟨stW.fx.trans hf6 (fun k hk e => by omega), stW.ol, stW.or, stW.pl, stW.pr⟩
  refine EW.on ?_
  refine EW.seq ?_
  refine EW.region ?_
  first | refine WL.move rfl rfl rfl ?_
  first | refine WL.move rfl rfl rfl ?_
  refine WL.bin rfl rfl rfl rfl (int_eq_t rfl _ _ _) ?_
  first | refine WL.move rfl rfl rfl ?_
  first | refine WL.move rfl rfl rfl ?_ | refine WL.skip _ rfl rfl rfl ?_
  first | refine WL.pick rfl rfl rfl rfl ?_
  first | refine WL.move rfl rfl rfl ?_
  first | refine WL.move rfl rfl rfl ?_ | refine WL.skip _ rfl rfl rfl ?_
  first | refine WL.pick rfl rfl rfl rfl ?_
  first | refine WL.assign rfl rfl rfl ?_
  refine WL.done ?_
  refine EW.on ?_
  refine EW.ret ?_
  repeat (first | refine pr_then ?_ | refine pr_block ?_)
  exact EW.returns Try.results51 rfl ⟨rfl, L3, R4, _, k6, st6, go_cr D s.ks s.torn s.off hleft⟩
set_option maxRecDepth 100000 in
set_option maxHeartbeats 1000000 in
theorem fails_up {W : World} {L : Lay} {R : Rl} {D : Dv} (h : Two W L R D) (s : Stp) (hs : s.ok W) (hkl : s.ks.length ≤ 100000000) (hsn : ∀ k, s.ks ≠ [] → s.vk.ownBlock = some k → ¬ (L.F k ∨ R.F k)) (hleft : D.left < 9223372036854775808) (n5 : ¬ s.kind = 5) (n6 : ¬ s.kind = 6) (n7 : ¬ s.kind = 7) :
    Calls Try.prog 51 #[.pointer (some ⟨L.p, 0, none⟩), .pointer (some ⟨R.p, 0, none⟩), .agg (stC s).toArray] W fun e w' => e = .returned (.bool true) ∧ ∃ L' R' D', Two w' L' R' D' ∧ St2 W w' L L' R R' ∧ Dgo D D' := by
  obtain ⟨g0, hg0⟩ : ∃ g, W.heap.size = g := ⟨_, rfl⟩
  have hbox := run_boxR (P := Try.prog) 53 (stC s) W g0 hg0
  have b0 : Blk (W.alloc (.cells (stC s).toArray 53)) g0 (stC s) 53 := Blk.newAt hg0
  have be0 : Below W.heap.size W (W.alloc (.cells (stC s).toArray 53)) := below_new W _
  have sz0 : (W.alloc (.cells (stC s).toArray 53)).heap.size = g0 + 1 := by simp [hg0]
  obtain ⟨w0, hw0⟩ : ∃ w0, W.alloc (.cells (stC s).toArray 53) = w0 := ⟨_, rfl⟩
  rw [hw0] at hbox b0 be0 sz0
  have htw := twin_blk s.vk s.ks s.torn s.off hs.kl w0 (hs.hk.below be0)
  obtain ⟨gk, hgk⟩ : ∃ gk, w0.heap.size + 2 = gk := ⟨_, rfl⟩
  rw [hgk] at htw
  refine calls_of_args [.pointer (some ⟨L.p, 0, none⟩), .pointer (some ⟨R.p, 0, none⟩), .agg (stC s).toArray] Try.func51 rfl 73 Try.ntmps51 (by show 3 ≤ 73; decide) ?_
  refine EW.seq ?_
  refine EW.region ?_
  refine WL.box rfl rfl rfl hbox ?_
  first | refine WL.assign rfl rfl rfl ?_
  refine WL.done ?_
  refine EW.on ?_
  refine EW.seq ?_
  refine EW.region ?_
  refine WL.field rfl rfl rfl (f53_5 _ _) ?_
  refine WL.load rfl rfl rfl (lossAt b0) ?_
  refine WL.call [.agg (lossC s.vk s.torn s.off).toArray] enter20 rfl rfl rfl htw ?_
  rintro x w1 ⟨rfl, be1, bk⟩
  refine ⟨_, rfl, ?_⟩
  have b1 := b0.on be1
  obtain ⟨g2, hg2⟩ : ∃ g, w1.heap.size = g := ⟨_, rfl⟩
  have hnew2 := run_newR (P := Try.prog) 38 (lossC (.slice none 0 0) 0 0) zero38 w1 g2 hg2
  have bz : Blk (w1.alloc (.cells (lossC (.slice none 0 0) 0 0).toArray 38)) g2 (lossC (.slice none 0 0) 0 0) 38 := Blk.newAt hg2
  have bez : Below w1.heap.size w1 (w1.alloc (.cells (lossC (.slice none 0 0) 0 0).toArray 38)) := below_new w1 _
  obtain ⟨wz, hwz⟩ : ∃ wz, w1.alloc (.cells (lossC (.slice none 0 0) 0 0).toArray 38) = wz := ⟨_, rfl⟩
  rw [hwz] at hnew2 bz bez
  have hst := run_storeR (P := Try.prog) (ty := 38) bz (info38 (.slice (some ⟨gk, 0, none⟩) s.ks.length (s.ks.length + 2)) s.torn s.off) rfl (lossC_oneB _ _ _ _ _)
  have bt := bz.setRow (lossC (.slice (some ⟨gk, 0, none⟩) s.ks.length (s.ks.length + 2)) s.torn s.off)
  have fz : Fx (fun k => k = g2) wz (wz.setRow g2 (lossC (.slice (some ⟨gk, 0, none⟩) s.ks.length (s.ks.length + 2)) s.torn s.off).toArray) := Fx.setRow wz g2 _ rfl
  have bk2 := (bk.on bez).fx fz (fun e => by have := bk.lt; omega)
  have b2 := (b1.on bez).fx fz (fun e => by have := b1.lt; omega)
  obtain ⟨w2, hw2⟩ : ∃ w2, wz.setRow g2 (lossC (.slice (some ⟨gk, 0, none⟩) s.ks.length (s.ks.length + 2)) s.torn s.off).toArray = w2 := ⟨_, rfl⟩
  rw [hw2] at hst bt fz bk2 b2
  have be12 : Below w1.heap.size w1 w2 := bez.trans (fz.below (fun k hk e => by omega) bez.size)
  have be : Below W.heap.size W w2 := be0.trans ((be1.trans (be12.mono be1.size)).mono be0.size)
  have h2 := h.below be
  have hk2 : Has64 w2 (.slice (some ⟨gk, 0, none⟩) s.ks.length (s.ks.length + 2)) s.ks := tw_has s.ks w2 gk bk2
  have hnew : ∀ k, W.heap.size ≤ k → ¬ (L.F k ∨ R.F k) := fun k hk hF => by have := h.lt k hF; omega
  have hg0n : W.heap.size ≤ g0 := by omega
  have hgkn : W.heap.size ≤ gk := by have := be0.size; omega
  have hg2n : W.heap.size ≤ g2 := by have := be0.size; have := be1.size; omega
  have htn : ∀ k, Value.ownBlock (.slice (some ⟨gk, 0, none⟩) s.ks.length (s.ks.length + 2)) = some k → ¬ (L.F k ∨ R.F k) := fun k hk => by
    have hk : gk = k := by simpa [Value.ownBlock] using hk
    subst hk
    exact hnew gk hgkn
  have hsk2 := hs.hk.below be
  have p0 := (b2.cell 0).trans (show _ = some (.int .i64 s.kind) from rfl)
  refine WL.new rfl rfl hnew2 ?_
  refine WL.store rfl rfl rfl hst ?_
  refine WL.done ?_
  refine EW.on ?_
  refine EW.seq ?_
  refine EW.region ?_
  first | refine WL.assign rfl rfl rfl ?_
  refine WL.done ?_
  refine EW.on ?_
  refine EW.seq ?_
  refine EW.region ?_
  first | refine WL.assign rfl rfl rfl ?_
  refine WL.done ?_
  refine EW.on ?_
  refine EW.seq ?_
  refine EW.seq ?_
  refine EW.region ?_
  first | refine WL.field rfl rfl rfl (fld53_0 _ _) ?_
  refine WL.load rfl rfl rfl (ld3 p0) ?_
  refine WL.done ?_
  refine EW.on ?_
  refine EW.block ?_
  refine EW.seq ?_
  refine EW.region ?_
  refine WL.bin rfl rfl rfl rfl (int_eq_f n5 _ _ _) ?_
  first | refine WL.assign rfl rfl rfl ?_
  refine WL.done ?_
  refine EW.on ?_
  refine EW.cond_f rfl ?_
  refine EW.seq ?_
  refine EW.region ?_
  refine WL.bin rfl rfl rfl rfl (int_eq_f n6 _ _ _) ?_
  first | refine WL.assign rfl rfl rfl ?_
  refine WL.done ?_
  refine EW.on ?_
  refine EW.cond_f rfl ?_
  refine EW.seq ?_
  refine EW.region ?_
  refine WL.bin rfl rfl rfl rfl (int_eq_f n7 _ _ _) ?_
  first | refine WL.assign rfl rfl rfl ?_
  refine WL.done ?_
  refine EW.on ?_
  refine EW.cond_f rfl ?_
  refine EW.seq ?_
  have hda := up_any h2.dev
  refine EW.region ?_
  first | refine WL.move rfl rfl rfl ?_
  refine WL.call [.pointer (some ⟨L.p, 0, none⟩)] enter25 rfl rfl rfl hda ?_
  rintro x w3 ⟨rfl, ht3, hd3⟩
  obtain ⟨L3, hL3⟩ : ∃ L3, unkL L = L3 := ⟨_, rfl⟩
  rw [hL3] at ht3 hd3
  refine ⟨_, rfl, ?_⟩
  first | refine WL.assign rfl rfl rfl ?_
  refine WL.done ?_
  have b3 := b2.fx ht3.fx (fun e => hnew g0 hg0n (.inl e))
  have hr3 := h2.mid ht3
  have hsk3 := hsk2.fx' ht3.fx (fun k hn hk e => hsn k hn hk (.inl e))
  have hra := ref_up hr3
  refine EW.on ?_
  refine EW.region ?_
  first | refine WL.move rfl rfl rfl ?_
  refine WL.call [.pointer (some ⟨R.p, 0, none⟩)] enter69 rfl rfl rfl hra ?_
  rintro x w4 ⟨rfl, ht4, hr4⟩
  obtain ⟨R4, hR4⟩ : ∃ R4, R = R4 := ⟨_, rfl⟩
  have ht4 : RT w3 w4 R R4 := by rw [← hR4]; exact ht4
  have hr4 : RDev w4 R4 (upD D) := by rw [← hR4]; exact hr4
  refine ⟨_, rfl, ?_⟩
  first | refine WL.assign rfl rfl rfl ?_
  refine WL.done ?_
  obtain ⟨k4, st4⟩ := h2.step ht3 hd3 ht4 hr4
  have b4 := b2.fx st4.fx (hnew g0 hg0n)
  have bt4 := bt.fx st4.fx (hnew g2 hg2n)
  have bk4 := bk2.fx st4.fx (hnew gk hgkn)
  have hka := tw_has s.ks w4 gk bk4
  have hkb := hsk2.fx' st4.fx (fun k hn hk => hsn k hn hk)
  have hsame := sameKeep_law (.slice (some ⟨gk, 0, none⟩) s.ks.length (s.ks.length + 2)) s.vk s.torn s.off s.torn s.off s.ks hka hkb (by omega)
  refine pn_block ?_
  refine EW.on ?_
  refine EW.seq ?_
  refine EW.region ?_
  refine WL.load rfl rfl rfl (run_loadR bt4 Try.underlying38 rfl (info38 _ _ _)) ?_
  refine WL.field rfl rfl rfl (f53_5 _ _) ?_
  refine WL.load rfl rfl rfl (lossAt b4) ?_
  refine WL.call [.agg (lossC (.slice (some ⟨gk, 0, none⟩) s.ks.length (s.ks.length + 2)) s.torn s.off).toArray, .agg (lossC s.vk s.torn s.off).toArray] enter70 rfl rfl rfl hsame ?_
  rintro x w5 ⟨rfl, be5⟩
  refine ⟨_, rfl, ?_⟩
  have bt5 := bt4.on be5
  have bk5 := bk4.on be5
  have hspo := spoil_law gk s.ks s.torn s.off bk5 (by omega)
  first | refine WL.assign rfl rfl rfl ?_
  refine WL.done ?_
  refine EW.on ?_
  refine EW.seq ?_
  refine EW.region ?_
  refine WL.load rfl rfl rfl (run_loadR bt5 Try.underlying38 rfl (info38 _ _ _)) ?_
  refine WL.call [.agg (lossC (.slice (some ⟨gk, 0, none⟩) s.ks.length (s.ks.length + 2)) s.torn s.off).toArray] enter71 rfl rfl rfl hspo ?_
  rintro x w6 ⟨rfl, hf6⟩
  refine ⟨_, rfl, ?_⟩
  first | refine WL.assign rfl rfl rfl ?_
  refine WL.done ?_
  have hgk4 : ∀ k, L3.F k ∨ R4.F k → ¬ k = gk := fun k hk e => by
    subst e
    rcases hk with hk | hk
    · rcases st4.ol k hk with e | e
      · exact hnew k hgkn (.inl e)
      · have := bk2.lt; omega
    · rcases st4.or k hk with e | e
      · exact hnew k hgkn (.inr e)
      · have := bk2.lt; omega
  have k6 := (k4.below be5).fx hf6 hgk4
  have stW := (St2.below be).trans (st4.trans (St2.below be5))
  have st6 : St2 W w6 L L3 R R4 := ⟨stW.fx.trans hf6 (fun k hk e => by omega), stW.ol, stW.or, stW.pl, stW.pr⟩
  refine EW.on ?_
  refine EW.seq ?_
  refine EW.region ?_
  first | refine WL.move rfl rfl rfl ?_
  first | refine WL.move rfl rfl rfl ?_
  refine WL.bin rfl rfl rfl rfl (int_eq_t rfl _ _ _) ?_
  first | refine WL.move rfl rfl rfl ?_
  first | refine WL.move rfl rfl rfl ?_ | refine WL.skip _ rfl rfl rfl ?_
  first | refine WL.pick rfl rfl rfl rfl ?_
  first | refine WL.move rfl rfl rfl ?_
  first | refine WL.move rfl rfl rfl ?_ | refine WL.skip _ rfl rfl rfl ?_
  first | refine WL.pick rfl rfl rfl rfl ?_
  first | refine WL.assign rfl rfl rfl ?_
  refine WL.done ?_
  refine EW.on ?_
  refine EW.ret ?_
  repeat (first | refine pr_then ?_ | refine pr_block ?_)
  exact EW.returns Try.results51 rfl ⟨rfl, L3, R4, _, k6, st6, go_up D⟩
end Go.Proofs.Ythfcabhelldokaa
