import Derived.Test.YthfcabhelldokaaCm
set_option linter.unusedVariables false
set_option linter.unusedSimpArgs false
namespace Go.Proofs.Ythfcabhelldokaa
open Go.RowKit

set_option maxRecDepth 100000 in
set_option maxHeartbeats 2000000 in
theorem call_arm6 {W0 W : World} {L : Lay} {D : Dv} (h : Mine W0 W L D) (s : Stp) (hs : s.ok W0) (hk : s.kind = 6) (hd : D.down = false) (h1 : s.fill.toNat % 8 ≠ 0) :
    Calls Try.prog 21 #[.pointer (some ⟨L.p, 0, none⟩), .agg (stC s).toArray] W fun e w' => e = .returned (.tuple #[.int .i64 (0), .string ⟨([] : List UInt8).toArray⟩]) ∧ ∃ L', Turn W w' L L' ∧ Dev w' L' (armD D (s.fill.toNat % 8) s.ks s.torn s.off) := by
  obtain ⟨g0, hg0⟩ : ∃ g, W.heap.size = g := ⟨_, rfl⟩
  have be0 : Below W.heap.size W (W.alloc (.cells (stC s).toArray 53)) := below_new W _
  have b0 : Blk (W.alloc (.cells (stC s).toArray 53)) g0 (stC s) 53 := Blk.newAt hg0
  have h0 := h.below be0
  have hs0 := hs.below h.be
  have T0 : Turn W (W.alloc (.cells (stC s).toArray 53)) L L := ⟨Fx.of_below be0, fun k h => .inl h, rfl⟩
  have hFg : ∀ k, L.F k → k < g0 := fun k hk => by have := h.dev.lt k hk; omega
  replace hs0 := hs0.below be0
  obtain ⟨w0, hw0⟩ : ∃ w0, W.alloc (.cells (stC s).toArray 53) = w0 := ⟨_, rfl⟩
  rw [hw0] at be0 b0 h0 T0 hs0
  have c0 := (b0.cell 0).trans (show _ = some (.int .i64 s.kind) from rfl)
  have c2 := (b0.cell 2).trans (show _ = some (.int .i64 s.i) from rfl)
  have c3 := (b0.cell 3).trans (show _ = some (.int .u8 (s.fill.toNat : Int)) from rfl)
  have c4 := (b0.cell 4).trans (show _ = some s.vb from rfl)
  have hpk := hide (pick_any s.i 5 (by decide) (by decide) hs.ii w0)
  have hplt := pick_lt s.i 5 (by decide)
  have R5 : Hid (w0.rangeAt g0 5 (lossC s.vk s.torn s.off)) := hide (fun j v hj => by
    rw [b0.cell, ← hj]
    have hj3 : j < 3 := by have := (List.getElem?_eq_some_iff.1 hj).1; simpa [lossC] using this
    match j, hj3 with
    | 0, _ => rfl
    | 1, _ => rfl
    | 2, _ => rfl)
  obtain ⟨I, hI⟩ : ∃ I, pickN s.i 5 = I := ⟨_, rfl⟩
  rw [hI] at hpk hplt
  try rw [hI]
  have bd : Below w0.heap.size w0 { w0 with drawn := w0.drawn + 1 } := below_drawn w0
  have dd := h0.dev.below bd
  have sd := hs0.below bd
  have bb := b0.on bd
  have td : Turn W { w0 with drawn := w0.drawn + 1 } L L := T0.trans ⟨Fx.of_below bd, fun k h => .inl h, rfl⟩
  obtain ⟨wd, hwd⟩ : ∃ wd, { w0 with drawn := w0.drawn + 1 } = wd := ⟨_, rfl⟩
  rw [hwd] at dd td sd bb
  have htw := hide (twin_any s.vk s.ks s.torn s.off sd.kl wd sd.hk)
  obtain ⟨g2, hg2⟩ : ∃ g2, wd.heap.size + 2 = g2 := ⟨_, rfl⟩
  rw [hg2] at htw
  have hFg2 : ∀ k, L.F k → k < g2 := fun k hk => by have := dd.lt k hk; omega
  clear hg2
  obtain ⟨TV, hTV⟩ : ∃ TV, (Value.slice (some ⟨g2, 0, none⟩) s.ks.length (s.ks.length + 2)) = TV := ⟨_, rfl⟩
  have hTo : ∀ k, TV.ownBlock = some k → k = g2 := fun k hk => by rw [← hTV] at hk; simpa [Value.ownBlock] using hk.symm
  rw [hTV] at htw
  have KL := hide sd.kl
  have DD := hide dd
  have TD := hide td
  have BB := hide bb
  clear dd td sd bb bd
  have M1 : ((s.fill.toNat : Int)) % 8 = ((s.fill.toNat % 8 : Nat) : Int) := by omega
  have M2 : Hid ((s.fill.toNat % 8 : Nat) < 8) := hide (Nat.mod_lt _ (by decide))
  obtain ⟨F, hF⟩ : ∃ F, s.fill.toNat % 8 = F := ⟨_, rfl⟩
  rw [hF] at M1 M2
  have E1 : Hid (((s.fill.toNat : Int)).tmod 8 = (F : Int)) := hide (by rw [Int.tmod_eq_emod_of_nonneg (by omega)]; exact M1)
  have E2 : Hid (IntKind.u8.wrap (F : Int) = (F : Int)) := hide (wrap8 F M2.out)
  have E3 : Hid (IntKind.i64.wrap (F : Int) = (F : Int)) := hide (by rw [IntKind.wrap_i64]; have := M2.out; omega)
  have HF := hide hF
  rw [hF] at h1
  clear hF M1
  rw [hk] at c0
  have HT0 := hide T0
  have H0 := hide h0
  have HS0 := hide hs0
  have HB0 := hide b0
  clear T0 h0 hs0 b0 h hs be0 hI hplt
  go_enter Try.func21, Try.ntmps21
  go_upto_region 16 with (first
    | (refine wpList_boxAt rfl 53 (.tmp 1) rfl (stC s) rfl g0 hg0 ?_; rw [hw0])
    | (go_at_call 9; refine hpk.out.mono ?_; rintro e w3 ⟨rfl, hz⟩; rw [hz]; clear hz w3)
    | fail)
  refine reg_ord [(0, false), (1, false), (2, false), (3, false), (4, false), (5, false), (6, false), (7, true), (8, true), (9, false), (10, false)] (fun W => Blk W g0 (stC s) 53) (by kernel_rfl) rfl (by kernel_rfl) ((by rw [hwd]; exact BB.out)) ?_
  simp only [ordOps, List.getD_cons_zero, List.getD_cons_succ]
  rw [hwd]
  refine wpOrd_val (.pointer (some ⟨L.p, 0, none⟩)) (uvV (by rfl) (Op.move (Operand.tmp 0)) rfl (.pointer (some ⟨L.p, 0, none⟩)) (fun o' ho W hW => by go_simp)) (by simp only [Act.put, List.setIfInBounds_toArray, List.set_cons_zero, List.set_cons_succ]; rfl) ?_
  refine wpOrd_val (.pointer (some ⟨g0, 3, none⟩)) (uvV (by rfl) (Op.fieldAddr 53 (Operand.tmp 3) 3) rfl (.pointer (some ⟨g0, 3, none⟩)) (fun o' ho W hW => by go_simp)) (by simp only [Act.put, List.setIfInBounds_toArray, List.set_cons_zero, List.set_cons_succ]; rfl) ?_
  refine wpOrd_val (.int .u8 (s.fill.toNat : Int)) (uvV (by rfl) (Op.load 5 (Operand.tmp 49)) rfl (.int .u8 (s.fill.toNat : Int)) (fun o' ho W hW => by have hc := (Blk.cell hW 3).trans (show _ = some (.int .u8 (s.fill.toNat : Int)) from rfl); go_simp)) (by simp only [Act.put, List.setIfInBounds_toArray, List.set_cons_zero, List.set_cons_succ]; rfl) ?_
  refine wpOrd_val (.int .u8 (F : Int)) (uvV (by rfl) (Op.binOp BinOp.rem 5 (Operand.tmp 50) (Operand.const (Value.int IntKind.u8 8)) 5) rfl (.int .u8 (F : Int)) (fun o' ho W hW => by first | (go_simp; done) | (go_simp; exact E2.out) | (go_simp; rw [E1.out]; done) | (go_simp; rw [E1.out]; exact E2.out))) (by simp only [Act.put, List.setIfInBounds_toArray, List.set_cons_zero, List.set_cons_succ]; rfl) ?_
  refine wpOrd_val (.int .i64 (F : Int)) (uvV (by rfl) (Op.convert 5 3 (Operand.tmp 51)) rfl (.int .i64 (F : Int)) (fun o' ho W hW => by first | (go_simp; done) | (go_simp; exact E3.out))) (by simp only [Act.put, List.setIfInBounds_toArray, List.set_cons_zero, List.set_cons_succ]; rfl) ?_
  refine wpOrd_val (.pointer (some ⟨g0, 5, none⟩)) (uvV (by rfl) (Op.fieldAddr 53 (Operand.tmp 3) 5) rfl (.pointer (some ⟨g0, 5, none⟩)) (fun o' ho W hW => by go_simp)) (by simp only [Act.put, List.setIfInBounds_toArray, List.set_cons_zero, List.set_cons_succ]; rfl) ?_
  refine wpOrd_val (.agg (lossC s.vk s.torn s.off).toArray) (uvV (by rfl) (Op.load 38 (Operand.tmp 53)) rfl (.agg (lossC s.vk s.torn s.off).toArray) (fun o' ho W hW => by exact run_load_mid 38 (.tmp 53) ho g0 5 rfl (lossC s.vk s.torn s.off) _ (st_range hW) Try.underlying38 rfl (info38 _ _ _))) (by simp only [Act.put, List.setIfInBounds_toArray, List.set_cons_zero, List.set_cons_succ]; rfl) ?_
  refine wpOrd_any (by rfl) (.agg (lossC TV s.torn s.off).toArray) (fun W => Blk W g0 (stC s) 53) (fun W => Below wd.heap.size wd W ∧ Has64 W TV s.ks) (fun W hW => BB.out.on hW.1) (fun _ h => h) (fun W hW => by rw [hW]; exact OpTo.call 20 [Operand.tmp 54] #[38] rfl [.agg (lossC s.vk s.torn s.off).toArray] (.agg (lossC TV s.torn s.off).toArray) rfl enter20 htw.out) (by simp only [Act.put, List.setIfInBounds_toArray, List.set_cons_zero, List.set_cons_succ]; rfl) ?_
  refine wpOrd_any (by rfl) (.int .i64 (0)) (fun W => Blk W g0 (stC s) 53) (fun W => Blk W g0 (stC s) 53 ∧ ∃ W1 L', Below wd.heap.size wd W1 ∧ Turn W1 W L L' ∧ Dev W L' (armD D (s.fill.toNat % 8) s.ks s.torn s.off)) (fun W hW => hW.1) (fun _ h => h) (fun W1 hW1 => OpTo.call 19 [Operand.tmp 48, Operand.tmp 52, Operand.tmp 55] #[28, 3, 38] rfl [.pointer (some ⟨L.p, 0, none⟩), .int .i64 (F : Int), .agg (lossC TV s.torn s.off).toArray] (.int .i64 (0)) rfl enter19 ((arm_ok (DD.out.below hW1.1) hd F (by omega) TV s.ks s.torn s.off hW1.2 (fun k hk e => by have h1 := hTo k hk; have h2 := hFg2 L.p (.inl rfl); omega) (by have := KL.out; omega)).mono (fun e W2 ⟨he, L2, ht, hd2⟩ => ⟨he, (BB.out.on hW1.1).fx ht.fx (fun hF => by have := hFg g0 hF; omega), W1, L2, hW1.1, ht, by rw [HF.out]; exact hd2⟩))) (by simp only [Act.put, List.setIfInBounds_toArray, List.set_cons_zero, List.set_cons_succ]; rfl) ?_
  refine wpOrd_val (.int .i64 (0)) (uvV (by rfl) (Op.assign (Operand.tmp 56)) rfl (.int .i64 (0)) (fun o' ho W hW => by go_simp)) (by simp only [Act.put, List.setIfInBounds_toArray, List.set_cons_zero, List.set_cons_succ]; rfl) ?_
  refine wpOrd_val (.string ⟨([] : List UInt8).toArray⟩) (uvV (by rfl) (Op.assign (Operand.const (Value.string { data := #[] }))) rfl (.string ⟨([] : List UInt8).toArray⟩) (fun o' ho W hW => by go_simp)) (by simp only [Act.put, List.setIfInBounds_toArray, List.set_cons_zero, List.set_cons_succ]; rfl) ?_
  intro Wz hW
  obtain ⟨_, W1, L2, hb1, ht1, hd1⟩ := hW
  have HTZ := hide ((TD.out.trans ⟨Fx.of_below hb1, fun k h => .inl h, rfl⟩ : Turn W W1 L L).trans ht1)
  have HDZ := hide hd1
  clear hb1 ht1 hd1
  go_wp2
  go_ret2
  exact ⟨rfl, L2, HTZ.out, HDZ.out⟩
set_option maxRecDepth 100000 in
set_option maxHeartbeats 2000000 in
theorem call_arm6_zero {W0 W : World} {L : Lay} {D : Dv} (h : Mine W0 W L D) (s : Stp) (hs : s.ok W0) (hk : s.kind = 6) (hd : D.down = false) (hz : s.fill.toNat % 8 = 0) :
    Calls Try.prog 21 #[.pointer (some ⟨L.p, 0, none⟩), .agg (stC s).toArray] W fun e w' => e = .returned (.tuple #[.int .i64 (0), .string ⟨([] : List UInt8).toArray⟩]) ∧ ∃ L', Turn W w' L L' ∧ Dev w' L' (armD D 0 [] 0 0) := by
  obtain ⟨g0, hg0⟩ : ∃ g, W.heap.size = g := ⟨_, rfl⟩
  have be0 : Below W.heap.size W (W.alloc (.cells (stC s).toArray 53)) := below_new W _
  have b0 : Blk (W.alloc (.cells (stC s).toArray 53)) g0 (stC s) 53 := Blk.newAt hg0
  have h0 := h.below be0
  have hs0 := hs.below h.be
  have T0 : Turn W (W.alloc (.cells (stC s).toArray 53)) L L := ⟨Fx.of_below be0, fun k h => .inl h, rfl⟩
  have hFg : ∀ k, L.F k → k < g0 := fun k hk => by have := h.dev.lt k hk; omega
  replace hs0 := hs0.below be0
  obtain ⟨w0, hw0⟩ : ∃ w0, W.alloc (.cells (stC s).toArray 53) = w0 := ⟨_, rfl⟩
  rw [hw0] at be0 b0 h0 T0 hs0
  have c0 := (b0.cell 0).trans (show _ = some (.int .i64 s.kind) from rfl)
  have c2 := (b0.cell 2).trans (show _ = some (.int .i64 s.i) from rfl)
  have c3 := (b0.cell 3).trans (show _ = some (.int .u8 (s.fill.toNat : Int)) from rfl)
  have c4 := (b0.cell 4).trans (show _ = some s.vb from rfl)
  have hpk := hide (pick_any s.i 5 (by decide) (by decide) hs.ii w0)
  have hplt := pick_lt s.i 5 (by decide)
  have R5 : Hid (w0.rangeAt g0 5 (lossC s.vk s.torn s.off)) := hide (fun j v hj => by
    rw [b0.cell, ← hj]
    have hj3 : j < 3 := by have := (List.getElem?_eq_some_iff.1 hj).1; simpa [lossC] using this
    match j, hj3 with
    | 0, _ => rfl
    | 1, _ => rfl
    | 2, _ => rfl)
  obtain ⟨I, hI⟩ : ∃ I, pickN s.i 5 = I := ⟨_, rfl⟩
  rw [hI] at hpk hplt
  try rw [hI]
  have bd : Below w0.heap.size w0 { w0 with drawn := w0.drawn + 1 } := below_drawn w0
  have dd := h0.dev.below bd
  have sd := hs0.below bd
  have bb := b0.on bd
  have td : Turn W { w0 with drawn := w0.drawn + 1 } L L := T0.trans ⟨Fx.of_below bd, fun k h => .inl h, rfl⟩
  obtain ⟨wd, hwd⟩ : ∃ wd, { w0 with drawn := w0.drawn + 1 } = wd := ⟨_, rfl⟩
  rw [hwd] at dd td sd bb
  have htw := hide (twin_any s.vk s.ks s.torn s.off sd.kl wd sd.hk)
  obtain ⟨g2, hg2⟩ : ∃ g2, wd.heap.size + 2 = g2 := ⟨_, rfl⟩
  rw [hg2] at htw
  have hFg2 : ∀ k, L.F k → k < g2 := fun k hk => by have := dd.lt k hk; omega
  clear hg2
  obtain ⟨TV, hTV⟩ : ∃ TV, (Value.slice (some ⟨g2, 0, none⟩) s.ks.length (s.ks.length + 2)) = TV := ⟨_, rfl⟩
  have hTo : ∀ k, TV.ownBlock = some k → k = g2 := fun k hk => by rw [← hTV] at hk; simpa [Value.ownBlock] using hk.symm
  rw [hTV] at htw
  have KL := hide sd.kl
  have DD := hide dd
  have TD := hide td
  have BB := hide bb
  clear dd td sd bb bd
  have M1 : ((s.fill.toNat : Int)) % 8 = ((s.fill.toNat % 8 : Nat) : Int) := by omega
  have M2 : Hid ((s.fill.toNat % 8 : Nat) < 8) := hide (Nat.mod_lt _ (by decide))
  obtain ⟨F, hF⟩ : ∃ F, s.fill.toNat % 8 = F := ⟨_, rfl⟩
  rw [hF] at M1 M2
  have E1 : Hid (((s.fill.toNat : Int)).tmod 8 = (F : Int)) := hide (by rw [Int.tmod_eq_emod_of_nonneg (by omega)]; exact M1)
  have E2 : Hid (IntKind.u8.wrap (F : Int) = (F : Int)) := hide (wrap8 F M2.out)
  have E3 : Hid (IntKind.i64.wrap (F : Int) = (F : Int)) := hide (by rw [IntKind.wrap_i64]; have := M2.out; omega)
  have HF := hide hF
  rw [hF] at hz
  have HZ := hide (show (F : Int) = 0 by omega)
  clear hz hF M1
  rw [hk] at c0
  have HT0 := hide T0
  have H0 := hide h0
  have HS0 := hide hs0
  have HB0 := hide b0
  clear T0 h0 hs0 b0 h hs be0 hI hplt
  go_enter Try.func21, Try.ntmps21
  go_upto_region 16 with (first
    | (refine wpList_boxAt rfl 53 (.tmp 1) rfl (stC s) rfl g0 hg0 ?_; rw [hw0])
    | (go_at_call 9; refine hpk.out.mono ?_; rintro e w3 ⟨rfl, hz⟩; rw [hz]; clear hz w3)
    | fail)
  refine reg_ord [(0, false), (1, false), (2, false), (3, false), (4, false), (5, false), (6, false), (7, true), (8, true), (9, false), (10, false)] (fun W => Blk W g0 (stC s) 53) (by kernel_rfl) rfl (by kernel_rfl) ((by rw [hwd]; exact BB.out)) ?_
  simp only [ordOps, List.getD_cons_zero, List.getD_cons_succ]
  rw [hwd]
  refine wpOrd_val (.pointer (some ⟨L.p, 0, none⟩)) (uvV (by rfl) (Op.move (Operand.tmp 0)) rfl (.pointer (some ⟨L.p, 0, none⟩)) (fun o' ho W hW => by go_simp)) (by simp only [Act.put, List.setIfInBounds_toArray, List.set_cons_zero, List.set_cons_succ]; rfl) ?_
  refine wpOrd_val (.pointer (some ⟨g0, 3, none⟩)) (uvV (by rfl) (Op.fieldAddr 53 (Operand.tmp 3) 3) rfl (.pointer (some ⟨g0, 3, none⟩)) (fun o' ho W hW => by go_simp)) (by simp only [Act.put, List.setIfInBounds_toArray, List.set_cons_zero, List.set_cons_succ]; rfl) ?_
  refine wpOrd_val (.int .u8 (s.fill.toNat : Int)) (uvV (by rfl) (Op.load 5 (Operand.tmp 49)) rfl (.int .u8 (s.fill.toNat : Int)) (fun o' ho W hW => by have hc := (Blk.cell hW 3).trans (show _ = some (.int .u8 (s.fill.toNat : Int)) from rfl); go_simp)) (by simp only [Act.put, List.setIfInBounds_toArray, List.set_cons_zero, List.set_cons_succ]; rfl) ?_
  refine wpOrd_val (.int .u8 (F : Int)) (uvV (by rfl) (Op.binOp BinOp.rem 5 (Operand.tmp 50) (Operand.const (Value.int IntKind.u8 8)) 5) rfl (.int .u8 (F : Int)) (fun o' ho W hW => by first | (go_simp; done) | (go_simp; exact E2.out) | (go_simp; rw [E1.out]; done) | (go_simp; rw [E1.out]; exact E2.out))) (by simp only [Act.put, List.setIfInBounds_toArray, List.set_cons_zero, List.set_cons_succ]; rfl) ?_
  refine wpOrd_val (.int .i64 (F : Int)) (uvV (by rfl) (Op.convert 5 3 (Operand.tmp 51)) rfl (.int .i64 (F : Int)) (fun o' ho W hW => by first | (go_simp; done) | (go_simp; exact E3.out))) (by simp only [Act.put, List.setIfInBounds_toArray, List.set_cons_zero, List.set_cons_succ]; rfl) ?_
  refine wpOrd_val (.pointer (some ⟨g0, 5, none⟩)) (uvV (by rfl) (Op.fieldAddr 53 (Operand.tmp 3) 5) rfl (.pointer (some ⟨g0, 5, none⟩)) (fun o' ho W hW => by go_simp)) (by simp only [Act.put, List.setIfInBounds_toArray, List.set_cons_zero, List.set_cons_succ]; rfl) ?_
  refine wpOrd_val (.agg (lossC s.vk s.torn s.off).toArray) (uvV (by rfl) (Op.load 38 (Operand.tmp 53)) rfl (.agg (lossC s.vk s.torn s.off).toArray) (fun o' ho W hW => by exact run_load_mid 38 (.tmp 53) ho g0 5 rfl (lossC s.vk s.torn s.off) _ (st_range hW) Try.underlying38 rfl (info38 _ _ _))) (by simp only [Act.put, List.setIfInBounds_toArray, List.set_cons_zero, List.set_cons_succ]; rfl) ?_
  refine wpOrd_any (by rfl) (.agg (lossC TV s.torn s.off).toArray) (fun W => Blk W g0 (stC s) 53) (fun W => Below wd.heap.size wd W ∧ Has64 W TV s.ks) (fun W hW => BB.out.on hW.1) (fun _ h => h) (fun W hW => by rw [hW]; exact OpTo.call 20 [Operand.tmp 54] #[38] rfl [.agg (lossC s.vk s.torn s.off).toArray] (.agg (lossC TV s.torn s.off).toArray) rfl enter20 htw.out) (by simp only [Act.put, List.setIfInBounds_toArray, List.set_cons_zero, List.set_cons_succ]; rfl) ?_
  refine wpOrd_any (by rfl) (.int .i64 (0)) (fun W => Blk W g0 (stC s) 53) (fun W => Blk W g0 (stC s) 53 ∧ ∃ W1 L', Below wd.heap.size wd W1 ∧ Turn W1 W L L' ∧ Dev W L' (armD D 0 [] 0 0)) (fun W hW => hW.1) (fun _ h => h) (fun W1 hW1 => OpTo.call 19 [Operand.tmp 48, Operand.tmp 52, Operand.tmp 55] #[28, 3, 38] rfl [.pointer (some ⟨L.p, 0, none⟩), .int .i64 (F : Int), .agg (lossC TV s.torn s.off).toArray] (.int .i64 (0)) rfl enter19 ((show Calls Try.prog 19 #[.pointer (some ⟨L.p, 0, none⟩), .int .i64 (F : Int), .agg (lossC TV s.torn s.off).toArray] W1 _ from by rw [HZ.out]; exact (arm_zero (DD.out.below hW1.1) hd TV s.torn s.off).mono (fun e W2 ⟨he, L2, ht, hd2⟩ => ⟨he, (BB.out.on hW1.1).fx ht.fx (fun hF => by have := hFg g0 hF; omega), W1, L2, hW1.1, ht, hd2⟩)))) (by simp only [Act.put, List.setIfInBounds_toArray, List.set_cons_zero, List.set_cons_succ]; rfl) ?_
  refine wpOrd_val (.int .i64 (0)) (uvV (by rfl) (Op.assign (Operand.tmp 56)) rfl (.int .i64 (0)) (fun o' ho W hW => by go_simp)) (by simp only [Act.put, List.setIfInBounds_toArray, List.set_cons_zero, List.set_cons_succ]; rfl) ?_
  refine wpOrd_val (.string ⟨([] : List UInt8).toArray⟩) (uvV (by rfl) (Op.assign (Operand.const (Value.string { data := #[] }))) rfl (.string ⟨([] : List UInt8).toArray⟩) (fun o' ho W hW => by go_simp)) (by simp only [Act.put, List.setIfInBounds_toArray, List.set_cons_zero, List.set_cons_succ]; rfl) ?_
  intro Wz hW
  obtain ⟨_, W1, L2, hb1, ht1, hd1⟩ := hW
  have HTZ := hide ((TD.out.trans ⟨Fx.of_below hb1, fun k h => .inl h, rfl⟩ : Turn W W1 L L).trans ht1)
  have HDZ := hide hd1
  clear hb1 ht1 hd1
  go_wp2
  go_ret2
  exact ⟨rfl, L2, HTZ.out, HDZ.out⟩
set_option maxRecDepth 100000 in
set_option maxHeartbeats 2000000 in
theorem call_arm6_no {W0 W : World} {L : Lay} {D : Dv} (h : Mine W0 W L D) (s : Stp) (hs : s.ok W0) (hk : s.kind = 6) (hd : D.down = true) :
    Calls Try.prog 21 #[.pointer (some ⟨L.p, 0, none⟩), .agg (stC s).toArray] W fun e w' => e = .returned (.tuple #[.int .i64 (80), .string ⟨([] : List UInt8).toArray⟩]) ∧ ∃ L', Turn W w' L L' ∧ Dev w' L' (D) := by
  obtain ⟨g0, hg0⟩ : ∃ g, W.heap.size = g := ⟨_, rfl⟩
  have be0 : Below W.heap.size W (W.alloc (.cells (stC s).toArray 53)) := below_new W _
  have b0 : Blk (W.alloc (.cells (stC s).toArray 53)) g0 (stC s) 53 := Blk.newAt hg0
  have h0 := h.below be0
  have hs0 := hs.below h.be
  have T0 : Turn W (W.alloc (.cells (stC s).toArray 53)) L L := ⟨Fx.of_below be0, fun k h => .inl h, rfl⟩
  have hFg : ∀ k, L.F k → k < g0 := fun k hk => by have := h.dev.lt k hk; omega
  replace hs0 := hs0.below be0
  obtain ⟨w0, hw0⟩ : ∃ w0, W.alloc (.cells (stC s).toArray 53) = w0 := ⟨_, rfl⟩
  rw [hw0] at be0 b0 h0 T0 hs0
  have c0 := (b0.cell 0).trans (show _ = some (.int .i64 s.kind) from rfl)
  have c2 := (b0.cell 2).trans (show _ = some (.int .i64 s.i) from rfl)
  have c3 := (b0.cell 3).trans (show _ = some (.int .u8 (s.fill.toNat : Int)) from rfl)
  have c4 := (b0.cell 4).trans (show _ = some s.vb from rfl)
  have hpk := hide (pick_any s.i 5 (by decide) (by decide) hs.ii w0)
  have hplt := pick_lt s.i 5 (by decide)
  have R5 : Hid (w0.rangeAt g0 5 (lossC s.vk s.torn s.off)) := hide (fun j v hj => by
    rw [b0.cell, ← hj]
    have hj3 : j < 3 := by have := (List.getElem?_eq_some_iff.1 hj).1; simpa [lossC] using this
    match j, hj3 with
    | 0, _ => rfl
    | 1, _ => rfl
    | 2, _ => rfl)
  obtain ⟨I, hI⟩ : ∃ I, pickN s.i 5 = I := ⟨_, rfl⟩
  rw [hI] at hpk hplt
  try rw [hI]
  have bd : Below w0.heap.size w0 { w0 with drawn := w0.drawn + 1 } := below_drawn w0
  have dd := h0.dev.below bd
  have sd := hs0.below bd
  have bb := b0.on bd
  have td : Turn W { w0 with drawn := w0.drawn + 1 } L L := T0.trans ⟨Fx.of_below bd, fun k h => .inl h, rfl⟩
  obtain ⟨wd, hwd⟩ : ∃ wd, { w0 with drawn := w0.drawn + 1 } = wd := ⟨_, rfl⟩
  rw [hwd] at dd td sd bb
  have htw := hide (twin_any s.vk s.ks s.torn s.off sd.kl wd sd.hk)
  obtain ⟨g2, hg2⟩ : ∃ g2, wd.heap.size + 2 = g2 := ⟨_, rfl⟩
  rw [hg2] at htw
  have hFg2 : ∀ k, L.F k → k < g2 := fun k hk => by have := dd.lt k hk; omega
  clear hg2
  obtain ⟨TV, hTV⟩ : ∃ TV, (Value.slice (some ⟨g2, 0, none⟩) s.ks.length (s.ks.length + 2)) = TV := ⟨_, rfl⟩
  have hTo : ∀ k, TV.ownBlock = some k → k = g2 := fun k hk => by rw [← hTV] at hk; simpa [Value.ownBlock] using hk.symm
  rw [hTV] at htw
  have KL := hide sd.kl
  have DD := hide dd
  have TD := hide td
  have BB := hide bb
  clear dd td sd bb bd
  have M1 : ((s.fill.toNat : Int)) % 8 = ((s.fill.toNat % 8 : Nat) : Int) := by omega
  have M2 : Hid ((s.fill.toNat % 8 : Nat) < 8) := hide (Nat.mod_lt _ (by decide))
  obtain ⟨F, hF⟩ : ∃ F, s.fill.toNat % 8 = F := ⟨_, rfl⟩
  rw [hF] at M1 M2
  have E1 : Hid (((s.fill.toNat : Int)).tmod 8 = (F : Int)) := hide (by rw [Int.tmod_eq_emod_of_nonneg (by omega)]; exact M1)
  have E2 : Hid (IntKind.u8.wrap (F : Int) = (F : Int)) := hide (wrap8 F M2.out)
  have E3 : Hid (IntKind.i64.wrap (F : Int) = (F : Int)) := hide (by rw [IntKind.wrap_i64]; have := M2.out; omega)
  have HF := hide hF
  clear hF M1
  rw [hk] at c0
  have HT0 := hide T0
  have H0 := hide h0
  have HS0 := hide hs0
  have HB0 := hide b0
  clear T0 h0 hs0 b0 h hs be0 hI hplt
  go_enter Try.func21, Try.ntmps21
  go_upto_region 16 with (first
    | (refine wpList_boxAt rfl 53 (.tmp 1) rfl (stC s) rfl g0 hg0 ?_; rw [hw0])
    | (go_at_call 9; refine hpk.out.mono ?_; rintro e w3 ⟨rfl, hz⟩; rw [hz]; clear hz w3)
    | fail)
  refine reg_ord [(0, false), (1, false), (2, false), (3, false), (4, false), (5, false), (6, false), (7, true), (8, true), (9, false), (10, false)] (fun W => Blk W g0 (stC s) 53) (by kernel_rfl) rfl (by kernel_rfl) ((by rw [hwd]; exact BB.out)) ?_
  simp only [ordOps, List.getD_cons_zero, List.getD_cons_succ]
  rw [hwd]
  refine wpOrd_val (.pointer (some ⟨L.p, 0, none⟩)) (uvV (by rfl) (Op.move (Operand.tmp 0)) rfl (.pointer (some ⟨L.p, 0, none⟩)) (fun o' ho W hW => by go_simp)) (by simp only [Act.put, List.setIfInBounds_toArray, List.set_cons_zero, List.set_cons_succ]; rfl) ?_
  refine wpOrd_val (.pointer (some ⟨g0, 3, none⟩)) (uvV (by rfl) (Op.fieldAddr 53 (Operand.tmp 3) 3) rfl (.pointer (some ⟨g0, 3, none⟩)) (fun o' ho W hW => by go_simp)) (by simp only [Act.put, List.setIfInBounds_toArray, List.set_cons_zero, List.set_cons_succ]; rfl) ?_
  refine wpOrd_val (.int .u8 (s.fill.toNat : Int)) (uvV (by rfl) (Op.load 5 (Operand.tmp 49)) rfl (.int .u8 (s.fill.toNat : Int)) (fun o' ho W hW => by have hc := (Blk.cell hW 3).trans (show _ = some (.int .u8 (s.fill.toNat : Int)) from rfl); go_simp)) (by simp only [Act.put, List.setIfInBounds_toArray, List.set_cons_zero, List.set_cons_succ]; rfl) ?_
  refine wpOrd_val (.int .u8 (F : Int)) (uvV (by rfl) (Op.binOp BinOp.rem 5 (Operand.tmp 50) (Operand.const (Value.int IntKind.u8 8)) 5) rfl (.int .u8 (F : Int)) (fun o' ho W hW => by first | (go_simp; done) | (go_simp; exact E2.out) | (go_simp; rw [E1.out]; done) | (go_simp; rw [E1.out]; exact E2.out))) (by simp only [Act.put, List.setIfInBounds_toArray, List.set_cons_zero, List.set_cons_succ]; rfl) ?_
  refine wpOrd_val (.int .i64 (F : Int)) (uvV (by rfl) (Op.convert 5 3 (Operand.tmp 51)) rfl (.int .i64 (F : Int)) (fun o' ho W hW => by first | (go_simp; done) | (go_simp; exact E3.out))) (by simp only [Act.put, List.setIfInBounds_toArray, List.set_cons_zero, List.set_cons_succ]; rfl) ?_
  refine wpOrd_val (.pointer (some ⟨g0, 5, none⟩)) (uvV (by rfl) (Op.fieldAddr 53 (Operand.tmp 3) 5) rfl (.pointer (some ⟨g0, 5, none⟩)) (fun o' ho W hW => by go_simp)) (by simp only [Act.put, List.setIfInBounds_toArray, List.set_cons_zero, List.set_cons_succ]; rfl) ?_
  refine wpOrd_val (.agg (lossC s.vk s.torn s.off).toArray) (uvV (by rfl) (Op.load 38 (Operand.tmp 53)) rfl (.agg (lossC s.vk s.torn s.off).toArray) (fun o' ho W hW => by exact run_load_mid 38 (.tmp 53) ho g0 5 rfl (lossC s.vk s.torn s.off) _ (st_range hW) Try.underlying38 rfl (info38 _ _ _))) (by simp only [Act.put, List.setIfInBounds_toArray, List.set_cons_zero, List.set_cons_succ]; rfl) ?_
  refine wpOrd_any (by rfl) (.agg (lossC TV s.torn s.off).toArray) (fun W => Blk W g0 (stC s) 53) (fun W => Below wd.heap.size wd W ∧ Has64 W TV s.ks) (fun W hW => BB.out.on hW.1) (fun _ h => h) (fun W hW => by rw [hW]; exact OpTo.call 20 [Operand.tmp 54] #[38] rfl [.agg (lossC s.vk s.torn s.off).toArray] (.agg (lossC TV s.torn s.off).toArray) rfl enter20 htw.out) (by simp only [Act.put, List.setIfInBounds_toArray, List.set_cons_zero, List.set_cons_succ]; rfl) ?_
  refine wpOrd_any (by rfl) (.int .i64 (80)) (fun W => Blk W g0 (stC s) 53) (fun W => Blk W g0 (stC s) 53 ∧ ∃ W1 L', Below wd.heap.size wd W1 ∧ Turn W1 W L L' ∧ Dev W L' (D)) (fun W hW => hW.1) (fun _ h => h) (fun W1 hW1 => OpTo.call 19 [Operand.tmp 48, Operand.tmp 52, Operand.tmp 55] #[28, 3, 38] rfl [.pointer (some ⟨L.p, 0, none⟩), .int .i64 (F : Int), .agg (lossC TV s.torn s.off).toArray] (.int .i64 (80)) rfl enter19 ((arm_no (DD.out.below hW1.1) hd (F : Int) TV s.torn s.off).mono (fun e W2 ⟨he, ht, hd2⟩ => ⟨he, (BB.out.on hW1.1).fx ht.fx (fun hF => by have := hFg g0 hF; omega), W1, L, hW1.1, ht, hd2⟩))) (by simp only [Act.put, List.setIfInBounds_toArray, List.set_cons_zero, List.set_cons_succ]; rfl) ?_
  refine wpOrd_val (.int .i64 (80)) (uvV (by rfl) (Op.assign (Operand.tmp 56)) rfl (.int .i64 (80)) (fun o' ho W hW => by go_simp)) (by simp only [Act.put, List.setIfInBounds_toArray, List.set_cons_zero, List.set_cons_succ]; rfl) ?_
  refine wpOrd_val (.string ⟨([] : List UInt8).toArray⟩) (uvV (by rfl) (Op.assign (Operand.const (Value.string { data := #[] }))) rfl (.string ⟨([] : List UInt8).toArray⟩) (fun o' ho W hW => by go_simp)) (by simp only [Act.put, List.setIfInBounds_toArray, List.set_cons_zero, List.set_cons_succ]; rfl) ?_
  intro Wz hW
  obtain ⟨_, W1, L2, hb1, ht1, hd1⟩ := hW
  have HTZ := hide ((TD.out.trans ⟨Fx.of_below hb1, fun k h => .inl h, rfl⟩ : Turn W W1 L L).trans ht1)
  have HDZ := hide hd1
  clear hb1 ht1 hd1
  go_wp2
  go_ret2
  exact ⟨rfl, L2, HTZ.out, HDZ.out⟩
end Go.Proofs.Ythfcabhelldokaa
