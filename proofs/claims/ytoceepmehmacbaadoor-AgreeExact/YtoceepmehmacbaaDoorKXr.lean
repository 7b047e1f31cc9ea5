import Derived.Test.YtoceepmehmacbaaDoorKXqG
set_option linter.unusedVariables false
set_option linter.unusedSimpArgs false
namespace Go.Proofs.YtoceepmehmacbaaDoor.Cv
open Go.RowKit

set_option maxRecDepth 100000 in
set_option maxHeartbeats 16000000 in
theorem reftimes_any (k u : List UInt8) (lk : k.length = 32) (lu : u.length = 32) (w : World) : Calls Tryd.prog 65 #[.agg (k.map byt).toArray, .agg (u.map byt).toArray] w fun e w' => e = .returned (.agg ((timesL k u).map byt).toArray) ∧ Below w.heap.size w w' := by
  obtain ⟨one, zer, cc, af, sf, mf, O⟩ := opn
  obtain ⟨dX, _⟩ := rd_dg u
  have HRL := hide (fun j hj => (rlad_is O (clampL k) dX j hj).1)
  have HRT := hide (rtimes_is O k u)
  have HO := hide O
  have c23 := fun W => refclamp_any k lk W
  have c36 := fun W => refread_any u lu W
  have lkc : (clampL k).length = 32 := by rw [clamp_length]; exact lk
  have l1 := O.d1.len
  have l0 := O.d0.len
  have cOne := O.c1
  have cZer := O.c0
  obtain ⟨x1, hx1⟩ : ∃ x1, rdL u 255 = x1 := ⟨_, rfl⟩
  rw [hx1] at dX HRL HRT c36
  obtain ⟨kc, hkc⟩ : ∃ kc, clampL k = kc := ⟨_, rfl⟩
  rw [hkc] at HRL HRT c23 lkc
  have HDX := hide dX
  have lX := dX.len
  clear O hx1 hkc dX
  go_enter Tryd.func65, Tryd.ntmps65
  go_upto_region 1 with (first | (refine wpList_boxAt rfl 23 (.tmp 0) rfl (k.map byt) rfl (w.heap.size) rfl ?_) | (refine wpList_boxAt rfl 23 (.tmp 1) rfl (u.map byt) rfl (w.heap.size + 1) (size1 _ _) ?_) | (refine wpList_newAt rfl 23 rfl (z32.map byt) zero23 (w.heap.size + 1 + 1) (size2 _ _ _) ?_))
  have h0 : Blk (((w.alloc (.cells (k.map byt).toArray 23)).alloc (.cells (u.map byt).toArray 23)).alloc (.cells (z32.map byt).toArray 23)) w.heap.size (k.map byt) 23 ∧ Blk (((w.alloc (.cells (k.map byt).toArray 23)).alloc (.cells (u.map byt).toArray 23)).alloc (.cells (z32.map byt).toArray 23)) (w.heap.size + 1) (u.map byt) 23 ∧ Blk (((w.alloc (.cells (k.map byt).toArray 23)).alloc (.cells (u.map byt).toArray 23)).alloc (.cells (z32.map byt).toArray 23)) (w.heap.size + 1 + 1) (z32.map byt) 23 ∧ Below w.heap.size w (((w.alloc (.cells (k.map byt).toArray 23)).alloc (.cells (u.map byt).toArray 23)).alloc (.cells (z32.map byt).toArray 23)) := by
    refine ⟨((Blk.new _ _ _).alloc _).alloc _, ?_, ?_, by go_grown⟩
    · have := (Blk.new (w.alloc (.cells (k.map byt).toArray 23)) (u.map byt) 23).alloc (.cells (z32.map byt).toArray 23)
      simpa using this
    · have := Blk.new ((w.alloc (.cells (k.map byt).toArray 23)).alloc (.cells (u.map byt).toArray 23)) (z32.map byt) 23
      simpa using this
  generalize ((w.alloc (.cells (k.map byt).toArray 23)).alloc (.cells (u.map byt).toArray 23)).alloc (.cells (z32.map byt).toArray 23) = w1 at h0 ⊢
  obtain ⟨n, hn⟩ : ∃ n, w.heap.size = n := ⟨_, rfl⟩
  rw [hn] at h0 ⊢
  obtain ⟨bk, bu, br, be⟩ := h0
  refine lst_newT 2 rfl rfl rfl rfl 5 rfl 23 rfl (z32.map byt) zero23 rfl rfl (.tmp 25) rfl ?_
  simp only [List.take_succ_cons, List.take_zero]
  refine wpLex_cons2 _ (uni_row rfl 23 (.tmp 2) rfl n (k.map byt) 23 rfl (fun W hW => (bk).on hW) Tryd.underlying23 rfl (key_info lk)) (by simp only [Act.put, List.setIfInBounds_toArray, List.set_cons_zero, List.set_cons_succ]; rfl) ?_; refine wpLex_cons2 _ (uni_callF (by rfl) 76 [Operand.tmp 24] #[23] rfl [.agg (k.map byt).toArray] (.agg (kc.map byt).toArray) rfl enter76 (fun W hW => c23 W)) (by simp only [Act.put, List.setIfInBounds_toArray, List.set_cons_zero, List.set_cons_succ]; rfl) ?_; refine ⟨kc.map byt, rfl, by simp, by simp, key_info lkc, by rw [List.length_map, List.length_map, lkc]; rfl, byts_one _, fun g5 w2 hg5 hb2 bk5 => ?_⟩
  replace be := be.trans (hb2.mono (by have := br.lt; omega))
  have q5 : n + 2 < g5 := by have := br.lt; omega
  replace bu := bu.on hb2
  replace br := br.on hb2
  clear hb2 bk c23 hg5 w1
  simp only [Act.put, List.setIfInBounds_toArray, List.set_cons_zero, List.set_cons_succ]
  go_upto_region 2 with fail
  refine lst_newT 2 rfl rfl rfl rfl 6 rfl 134 rfl (z10n.map dg) zero75 rfl rfl (.tmp 27) rfl ?_
  simp only [List.take_succ_cons, List.take_zero]
  refine wpLex_cons2 _ (uni_row rfl 23 (.tmp 3) rfl (n + 1) (u.map byt) 23 rfl (fun W hW => (bu).on hW) Tryd.underlying23 rfl (key_info lu)) (by simp only [Act.put, List.setIfInBounds_toArray, List.set_cons_zero, List.set_cons_succ]; rfl) ?_; refine wpLex_cons2 _ (uni_callF (by rfl) 77 [Operand.tmp 26] #[23] rfl [.agg (u.map byt).toArray] (num x1) rfl enter77 (fun W hW => c36 W)) (by simp only [Act.put, List.setIfInBounds_toArray, List.set_cons_zero, List.set_cons_succ]; rfl) ?_; refine ⟨x1.map dg, rfl, by simp, by simp, nm_info lX, nm_len lX, dgs_one _, fun g6 w3 hg6 hb3 bx => ?_⟩
  replace be := be.trans (hb3.mono (by have := br.lt; omega))
  have q6 : g5 < g6 := by have := bk5.lt; omega
  replace br := br.on hb3
  replace bk5 := bk5.on hb3
  clear hb3 bu c36 hg6 w2
  simp only [Act.put, List.setIfInBounds_toArray, List.set_cons_zero, List.set_cons_succ]
  go_upto_region 3 with fail
  refine reg_news (by kernel_rfl) 4 4 rfl (fun i => i + 3) (fun i => .tmp (i + 24)) (by kernel_rfl) (by kernel_rfl) #[true, true, true, true, true, true, true, true, false, false, false, false] (by kernel_rfl) (by kernel_rfl) 134 (z10n.map dg) zero75 (by kernel_rfl) (fun i h1 h2 => ?_) (fun i h1 h2 => ?_) (fun i j hij => by omega) (fun i j h1 h2 h3 h4 e => by have e' : i + 24 = j + 3 := (by injection e); omega) ?_
  · have hi : i = 4 ∨ i = 5 ∨ i = 6 ∨ i = 7 := by omega
    rcases hi with rfl | rfl | rfl | rfl <;> exact ⟨_, rfl, rfl, rfl, rfl⟩
  · have hi : i = 4 ∨ i = 5 ∨ i = 6 ∨ i = 7 := by omega
    rcases hi with rfl | rfl | rfl | rfl <;> exact ⟨_, rfl, rfl, rfl, rfl⟩
  simp only [List.take_succ_cons, List.take_zero]
  refine wpLex_cons2 _ (uni_callF (by rfl) 78 [Operand.const (Value.int IntKind.i64 1)] #[3] rfl [.int .i64 1] (num one) rfl enter78 (fun W hW => cOne W)) (by simp only [Act.put, List.setIfInBounds_toArray, List.set_cons_zero, List.set_cons_succ]; rfl) ?_; refine wpLex_cons2 _ (uni_callF (by rfl) 78 [Operand.const (Value.int IntKind.i64 0)] #[3] rfl [.int .i64 0] (num zer) rfl enter78 (fun W hW => cZer W)) (by simp only [Act.put, List.setIfInBounds_toArray, List.set_cons_zero, List.set_cons_succ]; rfl) ?_; refine wpLex_cons2 _ (uni_row rfl 134 (.tmp 6) rfl g6 (x1.map dg) 134 rfl (fun W hW => (bx).on hW) Tryd.underlying134 rfl (nm_info lX)) (by simp only [Act.put, List.setIfInBounds_toArray, List.set_cons_zero, List.set_cons_succ]; rfl) ?_; refine wpLex_cons2 _ (uni_callF (by rfl) 78 [Operand.const (Value.int IntKind.i64 1)] #[3] rfl [.int .i64 1] (num one) rfl enter78 (fun W hW => cOne W)) (by simp only [Act.put, List.setIfInBounds_toArray, List.set_cons_zero, List.set_cons_succ]; rfl) ?_; refine ⟨fun i => if i = 4 then one.map dg else if i = 5 then zer.map dg else if i = 6 then x1.map dg else one.map dg, fun i h1 h2 => ?_, fun G w4 lo ne hb4 blk => ?_⟩
  · have hi : i = 4 ∨ i = 5 ∨ i = 6 ∨ i = 7 := by omega
    rcases hi with rfl | rfl | rfl | rfl
    · exact ⟨rfl, nm_len l1, dgs_one _, by simp⟩
    · exact ⟨rfl, nm_len l0, dgs_one _, by simp⟩
    · exact ⟨rfl, nm_len lX, dgs_one _, by simp⟩
    · exact ⟨rfl, nm_len l1, dgs_one _, by simp⟩
  have b7 : Blk w4 (G 4) (one.map dg) 134 := blk 4 (by omega) (by omega)
  have lo0 := lo 4 (by omega) (by omega)
  have b8 : Blk w4 (G 5) (zer.map dg) 134 := blk 5 (by omega) (by omega)
  have lo1 := lo 5 (by omega) (by omega)
  have b9 : Blk w4 (G 6) (x1.map dg) 134 := blk 6 (by omega) (by omega)
  have lo2 := lo 6 (by omega) (by omega)
  have b10 : Blk w4 (G 7) (one.map dg) 134 := blk 7 (by omega) (by omega)
  have lo3 := lo 7 (by omega) (by omega)
  have ne01 := ne 4 5 (by omega) (by omega) (by omega) (by omega) (by omega)
  have ne02 := ne 4 6 (by omega) (by omega) (by omega) (by omega) (by omega)
  have ne03 := ne 4 7 (by omega) (by omega) (by omega) (by omega) (by omega)
  have ne12 := ne 5 6 (by omega) (by omega) (by omega) (by omega) (by omega)
  have ne13 := ne 5 7 (by omega) (by omega) (by omega) (by omega) (by omega)
  have ne23 := ne 6 7 (by omega) (by omega) (by omega) (by omega) (by omega)
  rw [show List.range' 4 4 = [4, 5, 6, 7] from rfl]
  simp only [putAll, Nat.reduceAdd, Act.put, List.setIfInBounds_toArray, List.set_cons_zero, List.set_cons_succ]
  clear blk lo ne
  generalize G 4 = p7 at *
  generalize G 5 = p8 at *
  generalize G 6 = p9 at *
  generalize G 7 = p10 at *
  have h4 : Hid (Rst4 ⟨n, g5, g6, p7, p8, p9, p10⟩ w kc x1 (rlad one zer cc af sf mf kc x1 0) w4) := by
    have := bx.lt
    exact ⟨br.on hb4, bk5.on hb4, bx.on hb4, b7, b8, b9, b10, ⟨q5, q6, by show g6 < p7; omega, by show g6 < p8; omega, by show g6 < p9; omega, by show g6 < p10; omega, ne01, ne02, ne03, ne12, ne13, ne23⟩, be.trans (hb4.mono (by have := br.lt; omega))⟩
  clear br bk5 bx b7 b8 b9 b10 hb4 be lo0 lo1 lo2 lo3 ne01 ne02 ne03 ne12 ne13 ne23 q5 q6 w3 cOne cZer l1 l0
  go_wp2
  go_loopw [11] (fun i wr => ∃ j : Nat, j ≤ 255 ∧ i = .int .i64 (254 - (j : Int)) ∧ Hid (Rst4 ⟨n, g5, g6, p7, p8, p9, p10⟩ w kc x1 (rlad one zer cc af sf mf kc x1 j) wr)) (fun i _ => ((intOf i) + 1).toNat)
  case atStart => exact ⟨0, by omega, rfl, h4⟩
  case round =>
    obtain ⟨j, hj, rfl, hs⟩ := hrel
    have hq := HRL.out j hj
    have hnx : Hid (rlad one zer cc af sf mf kc x1 (j + 1) = if kb kc (254 - j) = 1 then (stp cc af sf mf x1 (rlad one zer cc af sf mf kc x1 j).swap).swap else stp cc af sf mf x1 (rlad one zer cc af sf mf kc x1 j)) := by rw [rlad]; exact hide rfl
    obtain ⟨q, hQ⟩ : ∃ q, rlad one zer cc af sf mf kc x1 j = q := ⟨_, rfl⟩
    have HQQ := hide hQ
    rw [hQ] at hs hq hnx
    clear hQ h4
    by_cases hlt : j < 255
    · obtain ⟨b, hb⟩ : ∃ b, b = 254 - j := ⟨_, rfl⟩
      have hbi : (254 : Int) - (j : Int) = (b : Int) := by omega
      rw [hbi]
      rw [← hb] at hnx
      have hge : (0 : Int) ≤ (b : Int) := by omega
      have hbl : b ≤ 254 := by omega
      have cbit := fun W => bit_any kc lkc b (by omega) W
      have hkb := kb_lt kc b
      have HBB := hide hb
      clear hb hbi
      by_cases hbit : kb kc b = 1
      · rw [hbit] at cbit
        go_upto_region 9 with (first | (refine wpList_load_row rfl 23 (.tmp 5) rfl g5 rfl 23 (kc.map byt).toArray (0, 0) _ hs.out.ke Tryd.underlying23 rfl (key_infoA lkc) ?_) | (go_at_call 79; refine (cbit _).mono ?_; rintro e w5 ⟨rfl, hb5⟩; have B5 := hide hb5; clear hb5))
        replace hs := hide (hs.out.on B5.out)
        refine reg_swap (by kernel_rfl) 41 (by omega) (by simp) rfl hq hs.out rfl rfl rfl rfl rfl rfl rfl rfl ⟨rfl, rfl, rfl⟩ ⟨rfl, rfl, rfl⟩ ⟨rfl, rfl, rfl⟩ ⟨rfl, rfl, rfl⟩ ⟨rfl, rfl, rfl⟩ ⟨rfl, rfl, rfl⟩ ⟨rfl, rfl, rfl⟩ ⟨rfl, rfl, rfl⟩ (by kernel_rfl) (by kernel_rfl) (by kernel_rfl) (by kernel_rfl) (by kernel_rfl) (by kernel_rfl) rfl rfl rfl rfl (fun w6 hsw => ?_)
        simp only [Act.put, List.setIfInBounds_toArray, List.set_cons_zero, List.set_cons_succ]
        obtain ⟨q0, hq00⟩ : ∃ q0, q.swap = q0 := ⟨_, rfl⟩
        have hq0 : Hid q0.Ok := by rw [← hq00]; exact hide hq.swap
        rw [hq00] at hsw hnx
        have HQ0 := hide hq00
        clear hs
        have hs := hide hsw
        rw [if_pos hbit] at hnx
        clear hsw B5 hq00 cbit hkb hq hbit
        obtain ⟨va, vb, vc, vd, vda, vcb, vs, vt, vtt, vaa, vbb, vf, vcf, vac, hR⟩ := rnd_ok HO.out HDX.out hq0.out
        obtain ⟨r, hr⟩ : ∃ r, stp cc af sf mf x1 q0 = r := ⟨_, rfl⟩
        rw [hr] at hR
        have HR := hide hR
        have HRR := hide hr
        have ccc := HO.out.ccc
        clear hR hr
        go_upto_region 10 with fail
        refine reg_news (by kernel_rfl) 12 4 rfl (fun i => i + 1) (fun i => .tmp (47 + 3 * (i - 12))) (by kernel_rfl) (by kernel_rfl) #[true, true, true, true, true, true, true, true, true, true, true, true, true, true, true, true, false, false, false, false] (by kernel_rfl) (by kernel_rfl) 134 (z10n.map dg) zero75 (by kernel_rfl) (fun i h1 h2 => ?_) (fun i h1 h2 => ?_) (fun i j hij => by omega) (fun i j h1 h2 h3 h4 e => by have e' : 47 + 3 * (i - 12) = j + 1 := (by injection e); omega) ?_
        · have hi : i = 12 ∨ i = 13 ∨ i = 14 ∨ i = 15 := by omega
          rcases hi with rfl | rfl | rfl | rfl <;> exact ⟨_, rfl, rfl, rfl, rfl⟩
        · have hi : i = 12 ∨ i = 13 ∨ i = 14 ∨ i = 15 := by omega
          rcases hi with rfl | rfl | rfl | rfl <;> exact ⟨_, rfl, rfl, rfl, rfl⟩
        simp only [List.take_succ_cons, List.take_zero]
        refine wpLex_cons2 _ (uni_row rfl 134 (.tmp 7) rfl p7 (q0.x2.map dg) 134 rfl (fun W hW => (hs.out.b7).on hW) Tryd.underlying134 rfl (nm_info hq0.out.x2.len)) (by simp only [Act.put, List.setIfInBounds_toArray, List.set_cons_zero, List.set_cons_succ]; rfl) ?_; refine wpLex_cons2 _ (uni_row rfl 134 (.tmp 8) rfl p8 (q0.z2.map dg) 134 rfl (fun W hW => (hs.out.b8).on hW) Tryd.underlying134 rfl (nm_info hq0.out.z2.len)) (by simp only [Act.put, List.setIfInBounds_toArray, List.set_cons_zero, List.set_cons_succ]; rfl) ?_; refine wpLex_cons2 _ (uni_callF (by rfl) 80 [Operand.tmp 45, Operand.tmp 46] #[134, 134] rfl [num q0.x2, num q0.z2] (num va) rfl enter80 (fun W hW => HR.out.c_a W)) (by simp only [Act.put, List.setIfInBounds_toArray, List.set_cons_zero, List.set_cons_succ]; rfl) ?_; refine wpLex_cons2 _ (uni_row rfl 134 (.tmp 7) rfl p7 (q0.x2.map dg) 134 rfl (fun W hW => (hs.out.b7).on hW) Tryd.underlying134 rfl (nm_info hq0.out.x2.len)) (by simp only [Act.put, List.setIfInBounds_toArray, List.set_cons_zero, List.set_cons_succ]; rfl) ?_; refine wpLex_cons2 _ (uni_row rfl 134 (.tmp 8) rfl p8 (q0.z2.map dg) 134 rfl (fun W hW => (hs.out.b8).on hW) Tryd.underlying134 rfl (nm_info hq0.out.z2.len)) (by simp only [Act.put, List.setIfInBounds_toArray, List.set_cons_zero, List.set_cons_succ]; rfl) ?_; refine wpLex_cons2 _ (uni_callF (by rfl) 81 [Operand.tmp 48, Operand.tmp 49] #[134, 134] rfl [num q0.x2, num q0.z2] (num vb) rfl enter81 (fun W hW => HR.out.c_b W)) (by simp only [Act.put, List.setIfInBounds_toArray, List.set_cons_zero, List.set_cons_succ]; rfl) ?_; refine wpLex_cons2 _ (uni_row rfl 134 (.tmp 9) rfl p9 (q0.x3.map dg) 134 rfl (fun W hW => (hs.out.b9).on hW) Tryd.underlying134 rfl (nm_info hq0.out.x3.len)) (by simp only [Act.put, List.setIfInBounds_toArray, List.set_cons_zero, List.set_cons_succ]; rfl) ?_; refine wpLex_cons2 _ (uni_row rfl 134 (.tmp 10) rfl p10 (q0.z3.map dg) 134 rfl (fun W hW => (hs.out.b10).on hW) Tryd.underlying134 rfl (nm_info hq0.out.z3.len)) (by simp only [Act.put, List.setIfInBounds_toArray, List.set_cons_zero, List.set_cons_succ]; rfl) ?_; refine wpLex_cons2 _ (uni_callF (by rfl) 80 [Operand.tmp 51, Operand.tmp 52] #[134, 134] rfl [num q0.x3, num q0.z3] (num vc) rfl enter80 (fun W hW => HR.out.c_c W)) (by simp only [Act.put, List.setIfInBounds_toArray, List.set_cons_zero, List.set_cons_succ]; rfl) ?_; refine wpLex_cons2 _ (uni_row rfl 134 (.tmp 9) rfl p9 (q0.x3.map dg) 134 rfl (fun W hW => (hs.out.b9).on hW) Tryd.underlying134 rfl (nm_info hq0.out.x3.len)) (by simp only [Act.put, List.setIfInBounds_toArray, List.set_cons_zero, List.set_cons_succ]; rfl) ?_; refine wpLex_cons2 _ (uni_row rfl 134 (.tmp 10) rfl p10 (q0.z3.map dg) 134 rfl (fun W hW => (hs.out.b10).on hW) Tryd.underlying134 rfl (nm_info hq0.out.z3.len)) (by simp only [Act.put, List.setIfInBounds_toArray, List.set_cons_zero, List.set_cons_succ]; rfl) ?_; refine wpLex_cons2 _ (uni_callF (by rfl) 81 [Operand.tmp 54, Operand.tmp 55] #[134, 134] rfl [num q0.x3, num q0.z3] (num vd) rfl enter81 (fun W hW => HR.out.c_d W)) (by simp only [Act.put, List.setIfInBounds_toArray, List.set_cons_zero, List.set_cons_succ]; rfl) ?_; refine ⟨fun i => if i = 12 then va.map dg else if i = 13 then vb.map dg else if i = 14 then vc.map dg else vd.map dg, fun i h1 h2 => ?_, fun G wa lo ne hba blk => ?_⟩
        · have hi : i = 12 ∨ i = 13 ∨ i = 14 ∨ i = 15 := by omega
          rcases hi with rfl | rfl | rfl | rfl
          · exact ⟨rfl, nm_len HR.out.l_a, dgs_one _, by simp⟩
          · exact ⟨rfl, nm_len HR.out.l_b, dgs_one _, by simp⟩
          · exact ⟨rfl, nm_len HR.out.l_c, dgs_one _, by simp⟩
          · exact ⟨rfl, nm_len HR.out.l_d, dgs_one _, by simp⟩
        have ba : Blk wa (G 12) (va.map dg) 134 := blk 12 (by omega) (by omega)
        have lo0 := lo 12 (by omega) (by omega)
        have bb : Blk wa (G 13) (vb.map dg) 134 := blk 13 (by omega) (by omega)
        have lo1 := lo 13 (by omega) (by omega)
        have bc : Blk wa (G 14) (vc.map dg) 134 := blk 14 (by omega) (by omega)
        have lo2 := lo 14 (by omega) (by omega)
        have bd : Blk wa (G 15) (vd.map dg) 134 := blk 15 (by omega) (by omega)
        have lo3 := lo 15 (by omega) (by omega)
        have ne01 := ne 12 13 (by omega) (by omega) (by omega) (by omega) (by omega)
        have ne02 := ne 12 14 (by omega) (by omega) (by omega) (by omega) (by omega)
        have ne03 := ne 12 15 (by omega) (by omega) (by omega) (by omega) (by omega)
        have ne12 := ne 13 14 (by omega) (by omega) (by omega) (by omega) (by omega)
        have ne13 := ne 13 15 (by omega) (by omega) (by omega) (by omega) (by omega)
        have ne23 := ne 14 15 (by omega) (by omega) (by omega) (by omega) (by omega)
        rw [show List.range' 12 4 = [12, 13, 14, 15] from rfl]
        simp only [putAll, Nat.reduceAdd, Act.put, List.setIfInBounds_toArray, List.set_cons_zero, List.set_cons_succ]
        clear blk lo ne
        generalize G 12 = ga at *
        generalize G 13 = gb at *
        generalize G 14 = gc at *
        generalize G 15 = gd at *
        have xa : Hid (ga ≠ p9 ∧ ga ≠ p10 ∧ gb ≠ p9 ∧ gb ≠ p10) := by have := hs.out.b9.lt; have := hs.out.b10.lt; have e9 : p9 < _ := hs.out.b9.lt; have e10 : p10 < _ := hs.out.b10.lt; exact ⟨by omega, by omega, by omega, by omega⟩
        replace ba := hide ba
        replace bb := hide bb
        replace bc := hide bc
        replace bd := hide bd
        replace hs := hide (hs.out.on hba)
        clear hba lo0 lo1 lo2 lo3 ne01 ne02 ne03 ne12 ne13 ne23
        go_upto_region 11 with fail
        refine reg_news (by kernel_rfl) 6 2 rfl (fun i => i + 11) (fun i => .tmp (59 + 3 * (i - 6))) (by kernel_rfl) (by kernel_rfl) #[true, true, true, true, true, true, true, true, false, false] (by kernel_rfl) (by kernel_rfl) 134 (z10n.map dg) zero75 (by kernel_rfl) (fun i h1 h2 => ?_) (fun i h1 h2 => ?_) (fun i j hij => by omega) (fun i j h1 h2 h3 h4 e => by have e' : 59 + 3 * (i - 6) = j + 11 := (by injection e); omega) ?_
        · have hi : i = 6 ∨ i = 7 := by omega
          rcases hi with rfl | rfl <;> exact ⟨_, rfl, rfl, rfl, rfl⟩
        · have hi : i = 6 ∨ i = 7 := by omega
          rcases hi with rfl | rfl <;> exact ⟨_, rfl, rfl, rfl, rfl⟩
        simp only [List.take_succ_cons, List.take_zero]
        refine wpLex_cons2 _ (uni_row rfl 134 (.tmp 16) rfl gd (vd.map dg) 134 rfl (fun W hW => (bd.out).on hW) Tryd.underlying134 rfl (nm_info HR.out.l_d)) (by simp only [Act.put, List.setIfInBounds_toArray, List.set_cons_zero, List.set_cons_succ]; rfl) ?_; refine wpLex_cons2 _ (uni_row rfl 134 (.tmp 13) rfl ga (va.map dg) 134 rfl (fun W hW => (ba.out).on hW) Tryd.underlying134 rfl (nm_info HR.out.l_a)) (by simp only [Act.put, List.setIfInBounds_toArray, List.set_cons_zero, List.set_cons_succ]; rfl) ?_; refine wpLex_cons2 _ (uni_callF (by rfl) 82 [Operand.tmp 57, Operand.tmp 58] #[134, 134] rfl [num vd, num va] (num vda) rfl enter82 (fun W hW => HR.out.c_da W)) (by simp only [Act.put, List.setIfInBounds_toArray, List.set_cons_zero, List.set_cons_succ]; rfl) ?_; refine wpLex_cons2 _ (uni_row rfl 134 (.tmp 15) rfl gc (vc.map dg) 134 rfl (fun W hW => (bc.out).on hW) Tryd.underlying134 rfl (nm_info HR.out.l_c)) (by simp only [Act.put, List.setIfInBounds_toArray, List.set_cons_zero, List.set_cons_succ]; rfl) ?_; refine wpLex_cons2 _ (uni_row rfl 134 (.tmp 14) rfl gb (vb.map dg) 134 rfl (fun W hW => (bb.out).on hW) Tryd.underlying134 rfl (nm_info HR.out.l_b)) (by simp only [Act.put, List.setIfInBounds_toArray, List.set_cons_zero, List.set_cons_succ]; rfl) ?_; refine wpLex_cons2 _ (uni_callF (by rfl) 82 [Operand.tmp 60, Operand.tmp 61] #[134, 134] rfl [num vc, num vb] (num vcb) rfl enter82 (fun W hW => HR.out.c_cb W)) (by simp only [Act.put, List.setIfInBounds_toArray, List.set_cons_zero, List.set_cons_succ]; rfl) ?_; refine ⟨fun i => if i = 6 then vda.map dg else vcb.map dg, fun i h1 h2 => ?_, fun G wb lo ne hbb blk => ?_⟩
        · have hi : i = 6 ∨ i = 7 := by omega
          rcases hi with rfl | rfl
          · exact ⟨rfl, nm_len HR.out.l_da, dgs_one _, by simp⟩
          · exact ⟨rfl, nm_len HR.out.l_cb, dgs_one _, by simp⟩
        have bda : Blk wb (G 6) (vda.map dg) 134 := blk 6 (by omega) (by omega)
        have lo0 := lo 6 (by omega) (by omega)
        have bcb : Blk wb (G 7) (vcb.map dg) 134 := blk 7 (by omega) (by omega)
        have lo1 := lo 7 (by omega) (by omega)
        have ne01 := ne 6 7 (by omega) (by omega) (by omega) (by omega) (by omega)
        rw [show List.range' 6 2 = [6, 7] from rfl]
        simp only [putAll, Nat.reduceAdd, Act.put, List.setIfInBounds_toArray, List.set_cons_zero, List.set_cons_succ]
        clear blk lo ne
        generalize G 6 = gda at *
        generalize G 7 = gcb at *
        replace bda := hide bda
        replace bcb := hide bcb
        replace ba := hide (ba.out.on hbb)
        replace bb := hide (bb.out.on hbb)
        replace hs := hide (hs.out.on hbb)
        clear hbb lo0 lo1 ne01 bc bd
        go_upto_region 12 with fail
        refine reg_news (by kernel_rfl) 6 2 rfl (fun i => i + 13) (fun i => .tmp (65 + 3 * (i - 6))) (by kernel_rfl) (by kernel_rfl) #[true, true, true, true, true, true, true, true, false, false] (by kernel_rfl) (by kernel_rfl) 134 (z10n.map dg) zero75 (by kernel_rfl) (fun i h1 h2 => ?_) (fun i h1 h2 => ?_) (fun i j hij => by omega) (fun i j h1 h2 h3 h4 e => by have e' : 65 + 3 * (i - 6) = j + 13 := (by injection e); omega) ?_
        · have hi : i = 6 ∨ i = 7 := by omega
          rcases hi with rfl | rfl <;> exact ⟨_, rfl, rfl, rfl, rfl⟩
        · have hi : i = 6 ∨ i = 7 := by omega
          rcases hi with rfl | rfl <;> exact ⟨_, rfl, rfl, rfl, rfl⟩
        simp only [List.take_succ_cons, List.take_zero]
        refine wpLex_cons2 _ (uni_row rfl 134 (.tmp 17) rfl gda (vda.map dg) 134 rfl (fun W hW => (bda.out).on hW) Tryd.underlying134 rfl (nm_info HR.out.l_da)) (by simp only [Act.put, List.setIfInBounds_toArray, List.set_cons_zero, List.set_cons_succ]; rfl) ?_; refine wpLex_cons2 _ (uni_row rfl 134 (.tmp 18) rfl gcb (vcb.map dg) 134 rfl (fun W hW => (bcb.out).on hW) Tryd.underlying134 rfl (nm_info HR.out.l_cb)) (by simp only [Act.put, List.setIfInBounds_toArray, List.set_cons_zero, List.set_cons_succ]; rfl) ?_; refine wpLex_cons2 _ (uni_callF (by rfl) 80 [Operand.tmp 63, Operand.tmp 64] #[134, 134] rfl [num vda, num vcb] (num vs) rfl enter80 (fun W hW => HR.out.c_s W)) (by simp only [Act.put, List.setIfInBounds_toArray, List.set_cons_zero, List.set_cons_succ]; rfl) ?_; refine wpLex_cons2 _ (uni_row rfl 134 (.tmp 17) rfl gda (vda.map dg) 134 rfl (fun W hW => (bda.out).on hW) Tryd.underlying134 rfl (nm_info HR.out.l_da)) (by simp only [Act.put, List.setIfInBounds_toArray, List.set_cons_zero, List.set_cons_succ]; rfl) ?_; refine wpLex_cons2 _ (uni_row rfl 134 (.tmp 18) rfl gcb (vcb.map dg) 134 rfl (fun W hW => (bcb.out).on hW) Tryd.underlying134 rfl (nm_info HR.out.l_cb)) (by simp only [Act.put, List.setIfInBounds_toArray, List.set_cons_zero, List.set_cons_succ]; rfl) ?_; refine wpLex_cons2 _ (uni_callF (by rfl) 81 [Operand.tmp 66, Operand.tmp 67] #[134, 134] rfl [num vda, num vcb] (num vt) rfl enter81 (fun W hW => HR.out.c_t W)) (by simp only [Act.put, List.setIfInBounds_toArray, List.set_cons_zero, List.set_cons_succ]; rfl) ?_; refine ⟨fun i => if i = 6 then vs.map dg else vt.map dg, fun i h1 h2 => ?_, fun G wc2 lo ne hbc blk => ?_⟩
        · have hi : i = 6 ∨ i = 7 := by omega
          rcases hi with rfl | rfl
          · exact ⟨rfl, nm_len HR.out.l_s, dgs_one _, by simp⟩
          · exact ⟨rfl, nm_len HR.out.l_t, dgs_one _, by simp⟩
        have bs : Blk wc2 (G 6) (vs.map dg) 134 := blk 6 (by omega) (by omega)
        have lo0 := lo 6 (by omega) (by omega)
        have bt : Blk wc2 (G 7) (vt.map dg) 134 := blk 7 (by omega) (by omega)
        have lo1 := lo 7 (by omega) (by omega)
        have ne01 := ne 6 7 (by omega) (by omega) (by omega) (by omega) (by omega)
        rw [show List.range' 6 2 = [6, 7] from rfl]
        simp only [putAll, Nat.reduceAdd, Act.put, List.setIfInBounds_toArray, List.set_cons_zero, List.set_cons_succ]
        clear blk lo ne
        generalize G 6 = gs at *
        generalize G 7 = gt at *
        have xt : Hid (gt ≠ p9) := by have e9 : p9 < _ := hs.out.b9.lt; show gt ≠ p9; omega
        replace bs := hide bs
        replace bt := hide bt
        replace ba := hide (ba.out.on hbc)
        replace bb := hide (bb.out.on hbc)
        replace hs := hide (hs.out.on hbc)
        clear hbc lo0 lo1 ne01 bda bcb
        go_upto_region 13 with fail
        refine lst_putT 3 rfl rfl rfl rfl 134 (.tmp 9) (.tmp 71) rfl ?_
        simp only [List.take_succ_cons, List.take_zero]
        refine wpLex_cons2 _ (uni_row rfl 134 (.tmp 19) rfl gs (vs.map dg) 134 rfl (fun W hW => (bs.out).on hW) Tryd.underlying134 rfl (nm_info HR.out.l_s)) (by simp only [Act.put, List.setIfInBounds_toArray, List.set_cons_zero, List.set_cons_succ]; rfl) ?_; refine wpLex_cons2 _ (uni_row rfl 134 (.tmp 19) rfl gs (vs.map dg) 134 rfl (fun W hW => (bs.out).on hW) Tryd.underlying134 rfl (nm_info HR.out.l_s)) (by simp only [Act.put, List.setIfInBounds_toArray, List.set_cons_zero, List.set_cons_succ]; rfl) ?_; refine wpLex_cons2 _ (uni_callF (by rfl) 82 [Operand.tmp 69, Operand.tmp 70] #[134, 134] rfl [num vs, num vs] (num r.x3) rfl enter82 (fun W hW => HR.out.c_r_x3 W)) (by simp only [Act.put, List.setIfInBounds_toArray, List.set_cons_zero, List.set_cons_succ]; rfl) ?_; refine ⟨p9, r.x3.map dg, q0.x3.map dg, 134, rfl, rfl, hs.out.b9, nm_info HR.out.l_r_x3, by rw [List.length_map, List.length_map, HR.out.l_r_x3, hq0.out.x3.len], dgs_one _, fun W hW => ?_⟩
        have hs' := hide ((hs.out.on hW).put9 r.x3)
        replace ba := hide ((ba.out.on hW).setRowOther p9 (r.x3.map dg).toArray (xa.out.1))
        replace bb := hide ((bb.out.on hW).setRowOther p9 (r.x3.map dg).toArray (xa.out.2.2.1))
        replace bt := hide ((bt.out.on hW).setRowOther p9 (r.x3.map dg).toArray (xt.out))
        clear hs
        have hs := hs'
        clear hs' hW
        dsimp only at hs ⊢
        generalize W.setRow p9 (r.x3.map dg).toArray = wd at *
        clear bs
        go_upto_region 14 with fail
        refine reg_putT (by kernel_rfl) 5 rfl rfl (by kernel_rfl) rfl rfl 134 (.tmp 10) (.tmp 76) rfl ?_
        simp only [List.take_succ_cons, List.take_zero]
        refine wpLex_cons2 _ (uni_row rfl 134 (.tmp 6) rfl g6 (x1.map dg) 134 rfl (fun W hW => (hs.out.xx).on hW) Tryd.underlying134 rfl (nm_info lX)) (by simp only [Act.put, List.setIfInBounds_toArray, List.set_cons_zero, List.set_cons_succ]; rfl) ?_; refine wpLex_cons2 _ (uni_row rfl 134 (.tmp 20) rfl gt (vt.map dg) 134 rfl (fun W hW => (bt.out).on hW) Tryd.underlying134 rfl (nm_info HR.out.l_t)) (by simp only [Act.put, List.setIfInBounds_toArray, List.set_cons_zero, List.set_cons_succ]; rfl) ?_; refine wpLex_cons2 _ (uni_row rfl 134 (.tmp 20) rfl gt (vt.map dg) 134 rfl (fun W hW => (bt.out).on hW) Tryd.underlying134 rfl (nm_info HR.out.l_t)) (by simp only [Act.put, List.setIfInBounds_toArray, List.set_cons_zero, List.set_cons_succ]; rfl) ?_; refine wpLex_cons2 _ (uni_callF (by rfl) 82 [Operand.tmp 73, Operand.tmp 74] #[134, 134] rfl [num vt, num vt] (num vtt) rfl enter82 (fun W hW => HR.out.c_tt W)) (by simp only [Act.put, List.setIfInBounds_toArray, List.set_cons_zero, List.set_cons_succ]; rfl) ?_; refine wpLex_cons2 _ (uni_callF (by rfl) 82 [Operand.tmp 72, Operand.tmp 75] #[134, 134] rfl [num x1, num vtt] (num r.z3) rfl enter82 (fun W hW => HR.out.c_r_z3 W)) (by simp only [Act.put, List.setIfInBounds_toArray, List.set_cons_zero, List.set_cons_succ]; rfl) ?_; refine ⟨p10, r.z3.map dg, q0.z3.map dg, 134, rfl, rfl, hs.out.b10, nm_info HR.out.l_r_z3, by rw [List.length_map, List.length_map, HR.out.l_r_z3, hq0.out.z3.len], dgs_one _, fun W hW => ?_⟩
        have hs' := hide ((hs.out.on hW).put10 r.z3)
        replace ba := hide ((ba.out.on hW).setRowOther p10 (r.z3.map dg).toArray (xa.out.2.1))
        replace bb := hide ((bb.out.on hW).setRowOther p10 (r.z3.map dg).toArray (xa.out.2.2.2))
        clear hs
        have hs := hs'
        clear hs' hW
        dsimp only at hs ⊢
        generalize W.setRow p10 (r.z3.map dg).toArray = we at *
        clear bt xt
        go_upto_region 15 with fail
        refine reg_news (by kernel_rfl) 6 2 rfl (fun i => i + 15) (fun i => .tmp (79 + 3 * (i - 6))) (by kernel_rfl) (by kernel_rfl) #[true, true, true, true, true, true, true, true, false, false] (by kernel_rfl) (by kernel_rfl) 134 (z10n.map dg) zero75 (by kernel_rfl) (fun i h1 h2 => ?_) (fun i h1 h2 => ?_) (fun i j hij => by omega) (fun i j h1 h2 h3 h4 e => by have e' : 79 + 3 * (i - 6) = j + 15 := (by injection e); omega) ?_
        · have hi : i = 6 ∨ i = 7 := by omega
          rcases hi with rfl | rfl <;> exact ⟨_, rfl, rfl, rfl, rfl⟩
        · have hi : i = 6 ∨ i = 7 := by omega
          rcases hi with rfl | rfl <;> exact ⟨_, rfl, rfl, rfl, rfl⟩
        simp only [List.take_succ_cons, List.take_zero]
        refine wpLex_cons2 _ (uni_row rfl 134 (.tmp 13) rfl ga (va.map dg) 134 rfl (fun W hW => (ba.out).on hW) Tryd.underlying134 rfl (nm_info HR.out.l_a)) (by simp only [Act.put, List.setIfInBounds_toArray, List.set_cons_zero, List.set_cons_succ]; rfl) ?_; refine wpLex_cons2 _ (uni_row rfl 134 (.tmp 13) rfl ga (va.map dg) 134 rfl (fun W hW => (ba.out).on hW) Tryd.underlying134 rfl (nm_info HR.out.l_a)) (by simp only [Act.put, List.setIfInBounds_toArray, List.set_cons_zero, List.set_cons_succ]; rfl) ?_; refine wpLex_cons2 _ (uni_callF (by rfl) 82 [Operand.tmp 77, Operand.tmp 78] #[134, 134] rfl [num va, num va] (num vaa) rfl enter82 (fun W hW => HR.out.c_aa W)) (by simp only [Act.put, List.setIfInBounds_toArray, List.set_cons_zero, List.set_cons_succ]; rfl) ?_; refine wpLex_cons2 _ (uni_row rfl 134 (.tmp 14) rfl gb (vb.map dg) 134 rfl (fun W hW => (bb.out).on hW) Tryd.underlying134 rfl (nm_info HR.out.l_b)) (by simp only [Act.put, List.setIfInBounds_toArray, List.set_cons_zero, List.set_cons_succ]; rfl) ?_; refine wpLex_cons2 _ (uni_row rfl 134 (.tmp 14) rfl gb (vb.map dg) 134 rfl (fun W hW => (bb.out).on hW) Tryd.underlying134 rfl (nm_info HR.out.l_b)) (by simp only [Act.put, List.setIfInBounds_toArray, List.set_cons_zero, List.set_cons_succ]; rfl) ?_; refine wpLex_cons2 _ (uni_callF (by rfl) 82 [Operand.tmp 80, Operand.tmp 81] #[134, 134] rfl [num vb, num vb] (num vbb) rfl enter82 (fun W hW => HR.out.c_bb W)) (by simp only [Act.put, List.setIfInBounds_toArray, List.set_cons_zero, List.set_cons_succ]; rfl) ?_; refine ⟨fun i => if i = 6 then vaa.map dg else vbb.map dg, fun i h1 h2 => ?_, fun G wf lo ne hbf blk => ?_⟩
        · have hi : i = 6 ∨ i = 7 := by omega
          rcases hi with rfl | rfl
          · exact ⟨rfl, nm_len HR.out.l_aa, dgs_one _, by simp⟩
          · exact ⟨rfl, nm_len HR.out.l_bb, dgs_one _, by simp⟩
        have baa : Blk wf (G 6) (vaa.map dg) 134 := blk 6 (by omega) (by omega)
        have lo0 := lo 6 (by omega) (by omega)
        have bbb : Blk wf (G 7) (vbb.map dg) 134 := blk 7 (by omega) (by omega)
        have lo1 := lo 7 (by omega) (by omega)
        have ne01 := ne 6 7 (by omega) (by omega) (by omega) (by omega) (by omega)
        rw [show List.range' 6 2 = [6, 7] from rfl]
        simp only [putAll, Nat.reduceAdd, Act.put, List.setIfInBounds_toArray, List.set_cons_zero, List.set_cons_succ]
        clear blk lo ne
        generalize G 6 = gaa at *
        generalize G 7 = gbb at *
        have xaa : Hid (gaa ≠ p7) := by have e9 : p7 < _ := hs.out.b7.lt; show gaa ≠ p7; omega
        replace baa := hide baa
        replace bbb := hide bbb
        replace hs := hide (hs.out.on hbf)
        clear hbf lo0 lo1 ne01 ba bb xa
        go_upto_region 16 with fail
        refine lst_newT 3 rfl rfl rfl rfl 23 rfl 134 rfl (z10n.map dg) zero75 rfl rfl (.tmp 85) rfl ?_
        simp only [List.take_succ_cons, List.take_zero]
        refine wpLex_cons2 _ (uni_row rfl 134 (.tmp 21) rfl gaa (vaa.map dg) 134 rfl (fun W hW => (baa.out).on hW) Tryd.underlying134 rfl (nm_info HR.out.l_aa)) (by simp only [Act.put, List.setIfInBounds_toArray, List.set_cons_zero, List.set_cons_succ]; rfl) ?_; refine wpLex_cons2 _ (uni_row rfl 134 (.tmp 22) rfl gbb (vbb.map dg) 134 rfl (fun W hW => (bbb.out).on hW) Tryd.underlying134 rfl (nm_info HR.out.l_bb)) (by simp only [Act.put, List.setIfInBounds_toArray, List.set_cons_zero, List.set_cons_succ]; rfl) ?_; refine wpLex_cons2 _ (uni_callF (by rfl) 81 [Operand.tmp 83, Operand.tmp 84] #[134, 134] rfl [num vaa, num vbb] (num vf) rfl enter81 (fun W hW => HR.out.c_f W)) (by simp only [Act.put, List.setIfInBounds_toArray, List.set_cons_zero, List.set_cons_succ]; rfl) ?_; refine ⟨vf.map dg, rfl, by simp, by simp, nm_info HR.out.l_f, nm_len HR.out.l_f, dgs_one _, fun gf wg hgf hbg bf => ?_⟩
        have xf : Hid (gf ≠ p7) := by have e9 : p7 < _ := hs.out.b7.lt; show gf ≠ p7; omega
        replace bf := hide bf
        replace baa := hide (baa.out.on hbg)
        replace bbb := hide (bbb.out.on hbg)
        replace hs := hide (hs.out.on hbg)
        clear hbg hgf
        simp only [Act.put, List.setIfInBounds_toArray, List.set_cons_zero, List.set_cons_succ]
        go_upto_region 17 with fail
        refine lst_putT 3 rfl rfl rfl rfl 134 (.tmp 7) (.tmp 88) rfl ?_
        simp only [List.take_succ_cons, List.take_zero]
        refine wpLex_cons2 _ (uni_row rfl 134 (.tmp 21) rfl gaa (vaa.map dg) 134 rfl (fun W hW => (baa.out).on hW) Tryd.underlying134 rfl (nm_info HR.out.l_aa)) (by simp only [Act.put, List.setIfInBounds_toArray, List.set_cons_zero, List.set_cons_succ]; rfl) ?_; refine wpLex_cons2 _ (uni_row rfl 134 (.tmp 22) rfl gbb (vbb.map dg) 134 rfl (fun W hW => (bbb.out).on hW) Tryd.underlying134 rfl (nm_info HR.out.l_bb)) (by simp only [Act.put, List.setIfInBounds_toArray, List.set_cons_zero, List.set_cons_succ]; rfl) ?_; refine wpLex_cons2 _ (uni_callF (by rfl) 82 [Operand.tmp 86, Operand.tmp 87] #[134, 134] rfl [num vaa, num vbb] (num r.x2) rfl enter82 (fun W hW => HR.out.c_r_x2 W)) (by simp only [Act.put, List.setIfInBounds_toArray, List.set_cons_zero, List.set_cons_succ]; rfl) ?_; refine ⟨p7, r.x2.map dg, q0.x2.map dg, 134, rfl, rfl, hs.out.b7, nm_info HR.out.l_r_x2, by rw [List.length_map, List.length_map, HR.out.l_r_x2, hq0.out.x2.len], dgs_one _, fun W hW => ?_⟩
        have hs' := hide ((hs.out.on hW).put7 r.x2)
        replace baa := hide ((baa.out.on hW).setRowOther p7 (r.x2.map dg).toArray (xaa.out))
        replace bf := hide ((bf.out.on hW).setRowOther p7 (r.x2.map dg).toArray (xf.out))
        clear hs
        have hs := hs'
        clear hs' hW
        dsimp only at hs ⊢
        generalize W.setRow p7 (r.x2.map dg).toArray = wh at *
        clear bbb xaa xf
        go_upto_region 18 with fail
        refine reg_putT (by kernel_rfl) 7 rfl rfl (by kernel_rfl) rfl rfl 134 (.tmp 8) (.tmp 95) rfl ?_
        simp only [List.take_succ_cons, List.take_zero]
        refine wpLex_cons2 _ (uni_row rfl 134 (.tmp 23) rfl gf (vf.map dg) 134 rfl (fun W hW => (bf.out).on hW) Tryd.underlying134 rfl (nm_info HR.out.l_f)) (by simp only [Act.put, List.setIfInBounds_toArray, List.set_cons_zero, List.set_cons_succ]; rfl) ?_; refine wpLex_cons2 _ (uni_row rfl 134 (.tmp 21) rfl gaa (vaa.map dg) 134 rfl (fun W hW => (baa.out).on hW) Tryd.underlying134 rfl (nm_info HR.out.l_aa)) (by simp only [Act.put, List.setIfInBounds_toArray, List.set_cons_zero, List.set_cons_succ]; rfl) ?_; refine wpLex_cons2 _ (uni_callF (by rfl) 78 [Operand.const (Value.int IntKind.i64 121665)] #[3] rfl [.int .i64 121665] (num cc) rfl enter78 (fun W hW => ccc W)) (by simp only [Act.put, List.setIfInBounds_toArray, List.set_cons_zero, List.set_cons_succ]; rfl) ?_; refine wpLex_cons2 _ (uni_row rfl 134 (.tmp 23) rfl gf (vf.map dg) 134 rfl (fun W hW => (bf.out).on hW) Tryd.underlying134 rfl (nm_info HR.out.l_f)) (by simp only [Act.put, List.setIfInBounds_toArray, List.set_cons_zero, List.set_cons_succ]; rfl) ?_; refine wpLex_cons2 _ (uni_callF (by rfl) 82 [Operand.tmp 91, Operand.tmp 92] #[134, 134] rfl [num cc, num vf] (num vcf) rfl enter82 (fun W hW => HR.out.c_cf W)) (by simp only [Act.put, List.setIfInBounds_toArray, List.set_cons_zero, List.set_cons_succ]; rfl) ?_; refine wpLex_cons2 _ (uni_callF (by rfl) 80 [Operand.tmp 90, Operand.tmp 93] #[134, 134] rfl [num vaa, num vcf] (num vac) rfl enter80 (fun W hW => HR.out.c_ac W)) (by simp only [Act.put, List.setIfInBounds_toArray, List.set_cons_zero, List.set_cons_succ]; rfl) ?_; refine wpLex_cons2 _ (uni_callF (by rfl) 82 [Operand.tmp 89, Operand.tmp 94] #[134, 134] rfl [num vf, num vac] (num r.z2) rfl enter82 (fun W hW => HR.out.c_r_z2 W)) (by simp only [Act.put, List.setIfInBounds_toArray, List.set_cons_zero, List.set_cons_succ]; rfl) ?_; refine ⟨p8, r.z2.map dg, q0.z2.map dg, 134, rfl, rfl, hs.out.b8, nm_info HR.out.l_r_z2, by rw [List.length_map, List.length_map, HR.out.l_r_z2, hq0.out.z2.len], dgs_one _, fun W hW => ?_⟩
        have hs' := hide ((hs.out.on hW).put8 r.z2)
        clear hs
        have hs := hs'
        clear hs' hW
        dsimp only at hs ⊢
        generalize W.setRow p8 (r.z2.map dg).toArray = wi at *
        clear bf baa
        replace hs : Hid (Rst4 ⟨n, g5, g6, p7, p8, p9, p10⟩ w kc x1 r wi) := hs
        have rok : Hid r.Ok := by rw [← HRR.out]; exact hide (stp_is HO.out HDX.out hq0.out).1
        go_upto_region 20 with fail
        refine reg_swap (by kernel_rfl) 97 (by omega) (by simp) rfl rok.out hs.out rfl rfl rfl rfl rfl rfl rfl rfl ⟨rfl, rfl, rfl⟩ ⟨rfl, rfl, rfl⟩ ⟨rfl, rfl, rfl⟩ ⟨rfl, rfl, rfl⟩ ⟨rfl, rfl, rfl⟩ ⟨rfl, rfl, rfl⟩ ⟨rfl, rfl, rfl⟩ ⟨rfl, rfl, rfl⟩ (by kernel_rfl) (by kernel_rfl) (by kernel_rfl) (by kernel_rfl) (by kernel_rfl) (by kernel_rfl) rfl rfl rfl rfl (fun w7 hsw => ?_)
        simp only [Act.put, List.setIfInBounds_toArray, List.set_cons_zero, List.set_cons_succ]
        rw [HRR.out] at hnx
        clear hs
        have hs := hide hsw
        clear hsw
        go_wp2
        go_roundw
        case rel =>
          refine ⟨j + 1, by omega, by have := HBB.out; go_num, ?_⟩
          rw [hnx.out]
          exact hs
        case measure => have := HBB.out; simp [intOf] <;> omega
      · have hb0 : kb kc b = 0 := by omega
        rw [hb0] at cbit
        go_upto_region 10 with (first | (refine wpList_load_row rfl 23 (.tmp 5) rfl g5 rfl 23 (kc.map byt).toArray (0, 0) _ hs.out.ke Tryd.underlying23 rfl (key_infoA lkc) ?_) | (go_at_call 79; refine (cbit _).mono ?_; rintro e w5 ⟨rfl, hb5⟩; have B5 := hide hb5; clear hb5))
        replace hs := hide (hs.out.on B5.out)
        rw [if_neg hbit] at hnx
        obtain ⟨q0, hq00⟩ : ∃ q0, q = q0 := ⟨_, rfl⟩
        have hq0 : Hid q0.Ok := by rw [← hq00]; exact hide hq
        rw [hq00] at hs hnx
        clear B5 cbit hkb hq hbit hb0 hq00
        obtain ⟨va, vb, vc, vd, vda, vcb, vs, vt, vtt, vaa, vbb, vf, vcf, vac, hR⟩ := rnd_ok HO.out HDX.out hq0.out
        obtain ⟨r, hr⟩ : ∃ r, stp cc af sf mf x1 q0 = r := ⟨_, rfl⟩
        rw [hr] at hR
        have HR := hide hR
        have HRR := hide hr
        have ccc := HO.out.ccc
        clear hR hr
        go_upto_region 10 with fail
        refine reg_news (by kernel_rfl) 12 4 rfl (fun i => i + 1) (fun i => .tmp (47 + 3 * (i - 12))) (by kernel_rfl) (by kernel_rfl) #[true, true, true, true, true, true, true, true, true, true, true, true, true, true, true, true, false, false, false, false] (by kernel_rfl) (by kernel_rfl) 134 (z10n.map dg) zero75 (by kernel_rfl) (fun i h1 h2 => ?_) (fun i h1 h2 => ?_) (fun i j hij => by omega) (fun i j h1 h2 h3 h4 e => by have e' : 47 + 3 * (i - 12) = j + 1 := (by injection e); omega) ?_
        · have hi : i = 12 ∨ i = 13 ∨ i = 14 ∨ i = 15 := by omega
          rcases hi with rfl | rfl | rfl | rfl <;> exact ⟨_, rfl, rfl, rfl, rfl⟩
        · have hi : i = 12 ∨ i = 13 ∨ i = 14 ∨ i = 15 := by omega
          rcases hi with rfl | rfl | rfl | rfl <;> exact ⟨_, rfl, rfl, rfl, rfl⟩
        simp only [List.take_succ_cons, List.take_zero]
        refine wpLex_cons2 _ (uni_row rfl 134 (.tmp 7) rfl p7 (q0.x2.map dg) 134 rfl (fun W hW => (hs.out.b7).on hW) Tryd.underlying134 rfl (nm_info hq0.out.x2.len)) (by simp only [Act.put, List.setIfInBounds_toArray, List.set_cons_zero, List.set_cons_succ]; rfl) ?_; refine wpLex_cons2 _ (uni_row rfl 134 (.tmp 8) rfl p8 (q0.z2.map dg) 134 rfl (fun W hW => (hs.out.b8).on hW) Tryd.underlying134 rfl (nm_info hq0.out.z2.len)) (by simp only [Act.put, List.setIfInBounds_toArray, List.set_cons_zero, List.set_cons_succ]; rfl) ?_; refine wpLex_cons2 _ (uni_callF (by rfl) 80 [Operand.tmp 45, Operand.tmp 46] #[134, 134] rfl [num q0.x2, num q0.z2] (num va) rfl enter80 (fun W hW => HR.out.c_a W)) (by simp only [Act.put, List.setIfInBounds_toArray, List.set_cons_zero, List.set_cons_succ]; rfl) ?_; refine wpLex_cons2 _ (uni_row rfl 134 (.tmp 7) rfl p7 (q0.x2.map dg) 134 rfl (fun W hW => (hs.out.b7).on hW) Tryd.underlying134 rfl (nm_info hq0.out.x2.len)) (by simp only [Act.put, List.setIfInBounds_toArray, List.set_cons_zero, List.set_cons_succ]; rfl) ?_; refine wpLex_cons2 _ (uni_row rfl 134 (.tmp 8) rfl p8 (q0.z2.map dg) 134 rfl (fun W hW => (hs.out.b8).on hW) Tryd.underlying134 rfl (nm_info hq0.out.z2.len)) (by simp only [Act.put, List.setIfInBounds_toArray, List.set_cons_zero, List.set_cons_succ]; rfl) ?_; refine wpLex_cons2 _ (uni_callF (by rfl) 81 [Operand.tmp 48, Operand.tmp 49] #[134, 134] rfl [num q0.x2, num q0.z2] (num vb) rfl enter81 (fun W hW => HR.out.c_b W)) (by simp only [Act.put, List.setIfInBounds_toArray, List.set_cons_zero, List.set_cons_succ]; rfl) ?_; refine wpLex_cons2 _ (uni_row rfl 134 (.tmp 9) rfl p9 (q0.x3.map dg) 134 rfl (fun W hW => (hs.out.b9).on hW) Tryd.underlying134 rfl (nm_info hq0.out.x3.len)) (by simp only [Act.put, List.setIfInBounds_toArray, List.set_cons_zero, List.set_cons_succ]; rfl) ?_; refine wpLex_cons2 _ (uni_row rfl 134 (.tmp 10) rfl p10 (q0.z3.map dg) 134 rfl (fun W hW => (hs.out.b10).on hW) Tryd.underlying134 rfl (nm_info hq0.out.z3.len)) (by simp only [Act.put, List.setIfInBounds_toArray, List.set_cons_zero, List.set_cons_succ]; rfl) ?_; refine wpLex_cons2 _ (uni_callF (by rfl) 80 [Operand.tmp 51, Operand.tmp 52] #[134, 134] rfl [num q0.x3, num q0.z3] (num vc) rfl enter80 (fun W hW => HR.out.c_c W)) (by simp only [Act.put, List.setIfInBounds_toArray, List.set_cons_zero, List.set_cons_succ]; rfl) ?_; refine wpLex_cons2 _ (uni_row rfl 134 (.tmp 9) rfl p9 (q0.x3.map dg) 134 rfl (fun W hW => (hs.out.b9).on hW) Tryd.underlying134 rfl (nm_info hq0.out.x3.len)) (by simp only [Act.put, List.setIfInBounds_toArray, List.set_cons_zero, List.set_cons_succ]; rfl) ?_; refine wpLex_cons2 _ (uni_row rfl 134 (.tmp 10) rfl p10 (q0.z3.map dg) 134 rfl (fun W hW => (hs.out.b10).on hW) Tryd.underlying134 rfl (nm_info hq0.out.z3.len)) (by simp only [Act.put, List.setIfInBounds_toArray, List.set_cons_zero, List.set_cons_succ]; rfl) ?_; refine wpLex_cons2 _ (uni_callF (by rfl) 81 [Operand.tmp 54, Operand.tmp 55] #[134, 134] rfl [num q0.x3, num q0.z3] (num vd) rfl enter81 (fun W hW => HR.out.c_d W)) (by simp only [Act.put, List.setIfInBounds_toArray, List.set_cons_zero, List.set_cons_succ]; rfl) ?_; refine ⟨fun i => if i = 12 then va.map dg else if i = 13 then vb.map dg else if i = 14 then vc.map dg else vd.map dg, fun i h1 h2 => ?_, fun G wa lo ne hba blk => ?_⟩
        · have hi : i = 12 ∨ i = 13 ∨ i = 14 ∨ i = 15 := by omega
          rcases hi with rfl | rfl | rfl | rfl
          · exact ⟨rfl, nm_len HR.out.l_a, dgs_one _, by simp⟩
          · exact ⟨rfl, nm_len HR.out.l_b, dgs_one _, by simp⟩
          · exact ⟨rfl, nm_len HR.out.l_c, dgs_one _, by simp⟩
          · exact ⟨rfl, nm_len HR.out.l_d, dgs_one _, by simp⟩
        have ba : Blk wa (G 12) (va.map dg) 134 := blk 12 (by omega) (by omega)
        have lo0 := lo 12 (by omega) (by omega)
        have bb : Blk wa (G 13) (vb.map dg) 134 := blk 13 (by omega) (by omega)
        have lo1 := lo 13 (by omega) (by omega)
        have bc : Blk wa (G 14) (vc.map dg) 134 := blk 14 (by omega) (by omega)
        have lo2 := lo 14 (by omega) (by omega)
        have bd : Blk wa (G 15) (vd.map dg) 134 := blk 15 (by omega) (by omega)
        have lo3 := lo 15 (by omega) (by omega)
        have ne01 := ne 12 13 (by omega) (by omega) (by omega) (by omega) (by omega)
        have ne02 := ne 12 14 (by omega) (by omega) (by omega) (by omega) (by omega)
        have ne03 := ne 12 15 (by omega) (by omega) (by omega) (by omega) (by omega)
        have ne12 := ne 13 14 (by omega) (by omega) (by omega) (by omega) (by omega)
        have ne13 := ne 13 15 (by omega) (by omega) (by omega) (by omega) (by omega)
        have ne23 := ne 14 15 (by omega) (by omega) (by omega) (by omega) (by omega)
        rw [show List.range' 12 4 = [12, 13, 14, 15] from rfl]
        simp only [putAll, Nat.reduceAdd, Act.put, List.setIfInBounds_toArray, List.set_cons_zero, List.set_cons_succ]
        clear blk lo ne
        generalize G 12 = ga at *
        generalize G 13 = gb at *
        generalize G 14 = gc at *
        generalize G 15 = gd at *
        have xa : Hid (ga ≠ p9 ∧ ga ≠ p10 ∧ gb ≠ p9 ∧ gb ≠ p10) := by have := hs.out.b9.lt; have := hs.out.b10.lt; have e9 : p9 < _ := hs.out.b9.lt; have e10 : p10 < _ := hs.out.b10.lt; exact ⟨by omega, by omega, by omega, by omega⟩
        replace ba := hide ba
        replace bb := hide bb
        replace bc := hide bc
        replace bd := hide bd
        replace hs := hide (hs.out.on hba)
        clear hba lo0 lo1 lo2 lo3 ne01 ne02 ne03 ne12 ne13 ne23
        go_upto_region 11 with fail
        refine reg_news (by kernel_rfl) 6 2 rfl (fun i => i + 11) (fun i => .tmp (59 + 3 * (i - 6))) (by kernel_rfl) (by kernel_rfl) #[true, true, true, true, true, true, true, true, false, false] (by kernel_rfl) (by kernel_rfl) 134 (z10n.map dg) zero75 (by kernel_rfl) (fun i h1 h2 => ?_) (fun i h1 h2 => ?_) (fun i j hij => by omega) (fun i j h1 h2 h3 h4 e => by have e' : 59 + 3 * (i - 6) = j + 11 := (by injection e); omega) ?_
        · have hi : i = 6 ∨ i = 7 := by omega
          rcases hi with rfl | rfl <;> exact ⟨_, rfl, rfl, rfl, rfl⟩
        · have hi : i = 6 ∨ i = 7 := by omega
          rcases hi with rfl | rfl <;> exact ⟨_, rfl, rfl, rfl, rfl⟩
        simp only [List.take_succ_cons, List.take_zero]
        refine wpLex_cons2 _ (uni_row rfl 134 (.tmp 16) rfl gd (vd.map dg) 134 rfl (fun W hW => (bd.out).on hW) Tryd.underlying134 rfl (nm_info HR.out.l_d)) (by simp only [Act.put, List.setIfInBounds_toArray, List.set_cons_zero, List.set_cons_succ]; rfl) ?_; refine wpLex_cons2 _ (uni_row rfl 134 (.tmp 13) rfl ga (va.map dg) 134 rfl (fun W hW => (ba.out).on hW) Tryd.underlying134 rfl (nm_info HR.out.l_a)) (by simp only [Act.put, List.setIfInBounds_toArray, List.set_cons_zero, List.set_cons_succ]; rfl) ?_; refine wpLex_cons2 _ (uni_callF (by rfl) 82 [Operand.tmp 57, Operand.tmp 58] #[134, 134] rfl [num vd, num va] (num vda) rfl enter82 (fun W hW => HR.out.c_da W)) (by simp only [Act.put, List.setIfInBounds_toArray, List.set_cons_zero, List.set_cons_succ]; rfl) ?_; refine wpLex_cons2 _ (uni_row rfl 134 (.tmp 15) rfl gc (vc.map dg) 134 rfl (fun W hW => (bc.out).on hW) Tryd.underlying134 rfl (nm_info HR.out.l_c)) (by simp only [Act.put, List.setIfInBounds_toArray, List.set_cons_zero, List.set_cons_succ]; rfl) ?_; refine wpLex_cons2 _ (uni_row rfl 134 (.tmp 14) rfl gb (vb.map dg) 134 rfl (fun W hW => (bb.out).on hW) Tryd.underlying134 rfl (nm_info HR.out.l_b)) (by simp only [Act.put, List.setIfInBounds_toArray, List.set_cons_zero, List.set_cons_succ]; rfl) ?_; refine wpLex_cons2 _ (uni_callF (by rfl) 82 [Operand.tmp 60, Operand.tmp 61] #[134, 134] rfl [num vc, num vb] (num vcb) rfl enter82 (fun W hW => HR.out.c_cb W)) (by simp only [Act.put, List.setIfInBounds_toArray, List.set_cons_zero, List.set_cons_succ]; rfl) ?_; refine ⟨fun i => if i = 6 then vda.map dg else vcb.map dg, fun i h1 h2 => ?_, fun G wb lo ne hbb blk => ?_⟩
        · have hi : i = 6 ∨ i = 7 := by omega
          rcases hi with rfl | rfl
          · exact ⟨rfl, nm_len HR.out.l_da, dgs_one _, by simp⟩
          · exact ⟨rfl, nm_len HR.out.l_cb, dgs_one _, by simp⟩
        have bda : Blk wb (G 6) (vda.map dg) 134 := blk 6 (by omega) (by omega)
        have lo0 := lo 6 (by omega) (by omega)
        have bcb : Blk wb (G 7) (vcb.map dg) 134 := blk 7 (by omega) (by omega)
        have lo1 := lo 7 (by omega) (by omega)
        have ne01 := ne 6 7 (by omega) (by omega) (by omega) (by omega) (by omega)
        rw [show List.range' 6 2 = [6, 7] from rfl]
        simp only [putAll, Nat.reduceAdd, Act.put, List.setIfInBounds_toArray, List.set_cons_zero, List.set_cons_succ]
        clear blk lo ne
        generalize G 6 = gda at *
        generalize G 7 = gcb at *
        replace bda := hide bda
        replace bcb := hide bcb
        replace ba := hide (ba.out.on hbb)
        replace bb := hide (bb.out.on hbb)
        replace hs := hide (hs.out.on hbb)
        clear hbb lo0 lo1 ne01 bc bd
        go_upto_region 12 with fail
        refine reg_news (by kernel_rfl) 6 2 rfl (fun i => i + 13) (fun i => .tmp (65 + 3 * (i - 6))) (by kernel_rfl) (by kernel_rfl) #[true, true, true, true, true, true, true, true, false, false] (by kernel_rfl) (by kernel_rfl) 134 (z10n.map dg) zero75 (by kernel_rfl) (fun i h1 h2 => ?_) (fun i h1 h2 => ?_) (fun i j hij => by omega) (fun i j h1 h2 h3 h4 e => by have e' : 65 + 3 * (i - 6) = j + 13 := (by injection e); omega) ?_
        · have hi : i = 6 ∨ i = 7 := by omega
          rcases hi with rfl | rfl <;> exact ⟨_, rfl, rfl, rfl, rfl⟩
        · have hi : i = 6 ∨ i = 7 := by omega
          rcases hi with rfl | rfl <;> exact ⟨_, rfl, rfl, rfl, rfl⟩
        simp only [List.take_succ_cons, List.take_zero]
        refine wpLex_cons2 _ (uni_row rfl 134 (.tmp 17) rfl gda (vda.map dg) 134 rfl (fun W hW => (bda.out).on hW) Tryd.underlying134 rfl (nm_info HR.out.l_da)) (by simp only [Act.put, List.setIfInBounds_toArray, List.set_cons_zero, List.set_cons_succ]; rfl) ?_; refine wpLex_cons2 _ (uni_row rfl 134 (.tmp 18) rfl gcb (vcb.map dg) 134 rfl (fun W hW => (bcb.out).on hW) Tryd.underlying134 rfl (nm_info HR.out.l_cb)) (by simp only [Act.put, List.setIfInBounds_toArray, List.set_cons_zero, List.set_cons_succ]; rfl) ?_; refine wpLex_cons2 _ (uni_callF (by rfl) 80 [Operand.tmp 63, Operand.tmp 64] #[134, 134] rfl [num vda, num vcb] (num vs) rfl enter80 (fun W hW => HR.out.c_s W)) (by simp only [Act.put, List.setIfInBounds_toArray, List.set_cons_zero, List.set_cons_succ]; rfl) ?_; refine wpLex_cons2 _ (uni_row rfl 134 (.tmp 17) rfl gda (vda.map dg) 134 rfl (fun W hW => (bda.out).on hW) Tryd.underlying134 rfl (nm_info HR.out.l_da)) (by simp only [Act.put, List.setIfInBounds_toArray, List.set_cons_zero, List.set_cons_succ]; rfl) ?_; refine wpLex_cons2 _ (uni_row rfl 134 (.tmp 18) rfl gcb (vcb.map dg) 134 rfl (fun W hW => (bcb.out).on hW) Tryd.underlying134 rfl (nm_info HR.out.l_cb)) (by simp only [Act.put, List.setIfInBounds_toArray, List.set_cons_zero, List.set_cons_succ]; rfl) ?_; refine wpLex_cons2 _ (uni_callF (by rfl) 81 [Operand.tmp 66, Operand.tmp 67] #[134, 134] rfl [num vda, num vcb] (num vt) rfl enter81 (fun W hW => HR.out.c_t W)) (by simp only [Act.put, List.setIfInBounds_toArray, List.set_cons_zero, List.set_cons_succ]; rfl) ?_; refine ⟨fun i => if i = 6 then vs.map dg else vt.map dg, fun i h1 h2 => ?_, fun G wc2 lo ne hbc blk => ?_⟩
        · have hi : i = 6 ∨ i = 7 := by omega
          rcases hi with rfl | rfl
          · exact ⟨rfl, nm_len HR.out.l_s, dgs_one _, by simp⟩
          · exact ⟨rfl, nm_len HR.out.l_t, dgs_one _, by simp⟩
        have bs : Blk wc2 (G 6) (vs.map dg) 134 := blk 6 (by omega) (by omega)
        have lo0 := lo 6 (by omega) (by omega)
        have bt : Blk wc2 (G 7) (vt.map dg) 134 := blk 7 (by omega) (by omega)
        have lo1 := lo 7 (by omega) (by omega)
        have ne01 := ne 6 7 (by omega) (by omega) (by omega) (by omega) (by omega)
        rw [show List.range' 6 2 = [6, 7] from rfl]
        simp only [putAll, Nat.reduceAdd, Act.put, List.setIfInBounds_toArray, List.set_cons_zero, List.set_cons_succ]
        clear blk lo ne
        generalize G 6 = gs at *
        generalize G 7 = gt at *
        have xt : Hid (gt ≠ p9) := by have e9 : p9 < _ := hs.out.b9.lt; show gt ≠ p9; omega
        replace bs := hide bs
        replace bt := hide bt
        replace ba := hide (ba.out.on hbc)
        replace bb := hide (bb.out.on hbc)
        replace hs := hide (hs.out.on hbc)
        clear hbc lo0 lo1 ne01 bda bcb
        go_upto_region 13 with fail
        refine lst_putT 3 rfl rfl rfl rfl 134 (.tmp 9) (.tmp 71) rfl ?_
        simp only [List.take_succ_cons, List.take_zero]
        refine wpLex_cons2 _ (uni_row rfl 134 (.tmp 19) rfl gs (vs.map dg) 134 rfl (fun W hW => (bs.out).on hW) Tryd.underlying134 rfl (nm_info HR.out.l_s)) (by simp only [Act.put, List.setIfInBounds_toArray, List.set_cons_zero, List.set_cons_succ]; rfl) ?_; refine wpLex_cons2 _ (uni_row rfl 134 (.tmp 19) rfl gs (vs.map dg) 134 rfl (fun W hW => (bs.out).on hW) Tryd.underlying134 rfl (nm_info HR.out.l_s)) (by simp only [Act.put, List.setIfInBounds_toArray, List.set_cons_zero, List.set_cons_succ]; rfl) ?_; refine wpLex_cons2 _ (uni_callF (by rfl) 82 [Operand.tmp 69, Operand.tmp 70] #[134, 134] rfl [num vs, num vs] (num r.x3) rfl enter82 (fun W hW => HR.out.c_r_x3 W)) (by simp only [Act.put, List.setIfInBounds_toArray, List.set_cons_zero, List.set_cons_succ]; rfl) ?_; refine ⟨p9, r.x3.map dg, q0.x3.map dg, 134, rfl, rfl, hs.out.b9, nm_info HR.out.l_r_x3, by rw [List.length_map, List.length_map, HR.out.l_r_x3, hq0.out.x3.len], dgs_one _, fun W hW => ?_⟩
        have hs' := hide ((hs.out.on hW).put9 r.x3)
        replace ba := hide ((ba.out.on hW).setRowOther p9 (r.x3.map dg).toArray (xa.out.1))
        replace bb := hide ((bb.out.on hW).setRowOther p9 (r.x3.map dg).toArray (xa.out.2.2.1))
        replace bt := hide ((bt.out.on hW).setRowOther p9 (r.x3.map dg).toArray (xt.out))
        clear hs
        have hs := hs'
        clear hs' hW
        dsimp only at hs ⊢
        generalize W.setRow p9 (r.x3.map dg).toArray = wd at *
        clear bs
        go_upto_region 14 with fail
        refine reg_putT (by kernel_rfl) 5 rfl rfl (by kernel_rfl) rfl rfl 134 (.tmp 10) (.tmp 76) rfl ?_
        simp only [List.take_succ_cons, List.take_zero]
        refine wpLex_cons2 _ (uni_row rfl 134 (.tmp 6) rfl g6 (x1.map dg) 134 rfl (fun W hW => (hs.out.xx).on hW) Tryd.underlying134 rfl (nm_info lX)) (by simp only [Act.put, List.setIfInBounds_toArray, List.set_cons_zero, List.set_cons_succ]; rfl) ?_; refine wpLex_cons2 _ (uni_row rfl 134 (.tmp 20) rfl gt (vt.map dg) 134 rfl (fun W hW => (bt.out).on hW) Tryd.underlying134 rfl (nm_info HR.out.l_t)) (by simp only [Act.put, List.setIfInBounds_toArray, List.set_cons_zero, List.set_cons_succ]; rfl) ?_; refine wpLex_cons2 _ (uni_row rfl 134 (.tmp 20) rfl gt (vt.map dg) 134 rfl (fun W hW => (bt.out).on hW) Tryd.underlying134 rfl (nm_info HR.out.l_t)) (by simp only [Act.put, List.setIfInBounds_toArray, List.set_cons_zero, List.set_cons_succ]; rfl) ?_; refine wpLex_cons2 _ (uni_callF (by rfl) 82 [Operand.tmp 73, Operand.tmp 74] #[134, 134] rfl [num vt, num vt] (num vtt) rfl enter82 (fun W hW => HR.out.c_tt W)) (by simp only [Act.put, List.setIfInBounds_toArray, List.set_cons_zero, List.set_cons_succ]; rfl) ?_; refine wpLex_cons2 _ (uni_callF (by rfl) 82 [Operand.tmp 72, Operand.tmp 75] #[134, 134] rfl [num x1, num vtt] (num r.z3) rfl enter82 (fun W hW => HR.out.c_r_z3 W)) (by simp only [Act.put, List.setIfInBounds_toArray, List.set_cons_zero, List.set_cons_succ]; rfl) ?_; refine ⟨p10, r.z3.map dg, q0.z3.map dg, 134, rfl, rfl, hs.out.b10, nm_info HR.out.l_r_z3, by rw [List.length_map, List.length_map, HR.out.l_r_z3, hq0.out.z3.len], dgs_one _, fun W hW => ?_⟩
        have hs' := hide ((hs.out.on hW).put10 r.z3)
        replace ba := hide ((ba.out.on hW).setRowOther p10 (r.z3.map dg).toArray (xa.out.2.1))
        replace bb := hide ((bb.out.on hW).setRowOther p10 (r.z3.map dg).toArray (xa.out.2.2.2))
        clear hs
        have hs := hs'
        clear hs' hW
        dsimp only at hs ⊢
        generalize W.setRow p10 (r.z3.map dg).toArray = we at *
        clear bt xt
        go_upto_region 15 with fail
        refine reg_news (by kernel_rfl) 6 2 rfl (fun i => i + 15) (fun i => .tmp (79 + 3 * (i - 6))) (by kernel_rfl) (by kernel_rfl) #[true, true, true, true, true, true, true, true, false, false] (by kernel_rfl) (by kernel_rfl) 134 (z10n.map dg) zero75 (by kernel_rfl) (fun i h1 h2 => ?_) (fun i h1 h2 => ?_) (fun i j hij => by omega) (fun i j h1 h2 h3 h4 e => by have e' : 79 + 3 * (i - 6) = j + 15 := (by injection e); omega) ?_
        · have hi : i = 6 ∨ i = 7 := by omega
          rcases hi with rfl | rfl <;> exact ⟨_, rfl, rfl, rfl, rfl⟩
        · have hi : i = 6 ∨ i = 7 := by omega
          rcases hi with rfl | rfl <;> exact ⟨_, rfl, rfl, rfl, rfl⟩
        simp only [List.take_succ_cons, List.take_zero]
        refine wpLex_cons2 _ (uni_row rfl 134 (.tmp 13) rfl ga (va.map dg) 134 rfl (fun W hW => (ba.out).on hW) Tryd.underlying134 rfl (nm_info HR.out.l_a)) (by simp only [Act.put, List.setIfInBounds_toArray, List.set_cons_zero, List.set_cons_succ]; rfl) ?_; refine wpLex_cons2 _ (uni_row rfl 134 (.tmp 13) rfl ga (va.map dg) 134 rfl (fun W hW => (ba.out).on hW) Tryd.underlying134 rfl (nm_info HR.out.l_a)) (by simp only [Act.put, List.setIfInBounds_toArray, List.set_cons_zero, List.set_cons_succ]; rfl) ?_; refine wpLex_cons2 _ (uni_callF (by rfl) 82 [Operand.tmp 77, Operand.tmp 78] #[134, 134] rfl [num va, num va] (num vaa) rfl enter82 (fun W hW => HR.out.c_aa W)) (by simp only [Act.put, List.setIfInBounds_toArray, List.set_cons_zero, List.set_cons_succ]; rfl) ?_; refine wpLex_cons2 _ (uni_row rfl 134 (.tmp 14) rfl gb (vb.map dg) 134 rfl (fun W hW => (bb.out).on hW) Tryd.underlying134 rfl (nm_info HR.out.l_b)) (by simp only [Act.put, List.setIfInBounds_toArray, List.set_cons_zero, List.set_cons_succ]; rfl) ?_; refine wpLex_cons2 _ (uni_row rfl 134 (.tmp 14) rfl gb (vb.map dg) 134 rfl (fun W hW => (bb.out).on hW) Tryd.underlying134 rfl (nm_info HR.out.l_b)) (by simp only [Act.put, List.setIfInBounds_toArray, List.set_cons_zero, List.set_cons_succ]; rfl) ?_; refine wpLex_cons2 _ (uni_callF (by rfl) 82 [Operand.tmp 80, Operand.tmp 81] #[134, 134] rfl [num vb, num vb] (num vbb) rfl enter82 (fun W hW => HR.out.c_bb W)) (by simp only [Act.put, List.setIfInBounds_toArray, List.set_cons_zero, List.set_cons_succ]; rfl) ?_; refine ⟨fun i => if i = 6 then vaa.map dg else vbb.map dg, fun i h1 h2 => ?_, fun G wf lo ne hbf blk => ?_⟩
        · have hi : i = 6 ∨ i = 7 := by omega
          rcases hi with rfl | rfl
          · exact ⟨rfl, nm_len HR.out.l_aa, dgs_one _, by simp⟩
          · exact ⟨rfl, nm_len HR.out.l_bb, dgs_one _, by simp⟩
        have baa : Blk wf (G 6) (vaa.map dg) 134 := blk 6 (by omega) (by omega)
        have lo0 := lo 6 (by omega) (by omega)
        have bbb : Blk wf (G 7) (vbb.map dg) 134 := blk 7 (by omega) (by omega)
        have lo1 := lo 7 (by omega) (by omega)
        have ne01 := ne 6 7 (by omega) (by omega) (by omega) (by omega) (by omega)
        rw [show List.range' 6 2 = [6, 7] from rfl]
        simp only [putAll, Nat.reduceAdd, Act.put, List.setIfInBounds_toArray, List.set_cons_zero, List.set_cons_succ]
        clear blk lo ne
        generalize G 6 = gaa at *
        generalize G 7 = gbb at *
        have xaa : Hid (gaa ≠ p7) := by have e9 : p7 < _ := hs.out.b7.lt; show gaa ≠ p7; omega
        replace baa := hide baa
        replace bbb := hide bbb
        replace hs := hide (hs.out.on hbf)
        clear hbf lo0 lo1 ne01 ba bb xa
        go_upto_region 16 with fail
        refine lst_newT 3 rfl rfl rfl rfl 23 rfl 134 rfl (z10n.map dg) zero75 rfl rfl (.tmp 85) rfl ?_
        simp only [List.take_succ_cons, List.take_zero]
        refine wpLex_cons2 _ (uni_row rfl 134 (.tmp 21) rfl gaa (vaa.map dg) 134 rfl (fun W hW => (baa.out).on hW) Tryd.underlying134 rfl (nm_info HR.out.l_aa)) (by simp only [Act.put, List.setIfInBounds_toArray, List.set_cons_zero, List.set_cons_succ]; rfl) ?_; refine wpLex_cons2 _ (uni_row rfl 134 (.tmp 22) rfl gbb (vbb.map dg) 134 rfl (fun W hW => (bbb.out).on hW) Tryd.underlying134 rfl (nm_info HR.out.l_bb)) (by simp only [Act.put, List.setIfInBounds_toArray, List.set_cons_zero, List.set_cons_succ]; rfl) ?_; refine wpLex_cons2 _ (uni_callF (by rfl) 81 [Operand.tmp 83, Operand.tmp 84] #[134, 134] rfl [num vaa, num vbb] (num vf) rfl enter81 (fun W hW => HR.out.c_f W)) (by simp only [Act.put, List.setIfInBounds_toArray, List.set_cons_zero, List.set_cons_succ]; rfl) ?_; refine ⟨vf.map dg, rfl, by simp, by simp, nm_info HR.out.l_f, nm_len HR.out.l_f, dgs_one _, fun gf wg hgf hbg bf => ?_⟩
        have xf : Hid (gf ≠ p7) := by have e9 : p7 < _ := hs.out.b7.lt; show gf ≠ p7; omega
        replace bf := hide bf
        replace baa := hide (baa.out.on hbg)
        replace bbb := hide (bbb.out.on hbg)
        replace hs := hide (hs.out.on hbg)
        clear hbg hgf
        simp only [Act.put, List.setIfInBounds_toArray, List.set_cons_zero, List.set_cons_succ]
        go_upto_region 17 with fail
        refine lst_putT 3 rfl rfl rfl rfl 134 (.tmp 7) (.tmp 88) rfl ?_
        simp only [List.take_succ_cons, List.take_zero]
        refine wpLex_cons2 _ (uni_row rfl 134 (.tmp 21) rfl gaa (vaa.map dg) 134 rfl (fun W hW => (baa.out).on hW) Tryd.underlying134 rfl (nm_info HR.out.l_aa)) (by simp only [Act.put, List.setIfInBounds_toArray, List.set_cons_zero, List.set_cons_succ]; rfl) ?_; refine wpLex_cons2 _ (uni_row rfl 134 (.tmp 22) rfl gbb (vbb.map dg) 134 rfl (fun W hW => (bbb.out).on hW) Tryd.underlying134 rfl (nm_info HR.out.l_bb)) (by simp only [Act.put, List.setIfInBounds_toArray, List.set_cons_zero, List.set_cons_succ]; rfl) ?_; refine wpLex_cons2 _ (uni_callF (by rfl) 82 [Operand.tmp 86, Operand.tmp 87] #[134, 134] rfl [num vaa, num vbb] (num r.x2) rfl enter82 (fun W hW => HR.out.c_r_x2 W)) (by simp only [Act.put, List.setIfInBounds_toArray, List.set_cons_zero, List.set_cons_succ]; rfl) ?_; refine ⟨p7, r.x2.map dg, q0.x2.map dg, 134, rfl, rfl, hs.out.b7, nm_info HR.out.l_r_x2, by rw [List.length_map, List.length_map, HR.out.l_r_x2, hq0.out.x2.len], dgs_one _, fun W hW => ?_⟩
        have hs' := hide ((hs.out.on hW).put7 r.x2)
        replace baa := hide ((baa.out.on hW).setRowOther p7 (r.x2.map dg).toArray (xaa.out))
        replace bf := hide ((bf.out.on hW).setRowOther p7 (r.x2.map dg).toArray (xf.out))
        clear hs
        have hs := hs'
        clear hs' hW
        dsimp only at hs ⊢
        generalize W.setRow p7 (r.x2.map dg).toArray = wh at *
        clear bbb xaa xf
        go_upto_region 18 with fail
        refine reg_putT (by kernel_rfl) 7 rfl rfl (by kernel_rfl) rfl rfl 134 (.tmp 8) (.tmp 95) rfl ?_
        simp only [List.take_succ_cons, List.take_zero]
        refine wpLex_cons2 _ (uni_row rfl 134 (.tmp 23) rfl gf (vf.map dg) 134 rfl (fun W hW => (bf.out).on hW) Tryd.underlying134 rfl (nm_info HR.out.l_f)) (by simp only [Act.put, List.setIfInBounds_toArray, List.set_cons_zero, List.set_cons_succ]; rfl) ?_; refine wpLex_cons2 _ (uni_row rfl 134 (.tmp 21) rfl gaa (vaa.map dg) 134 rfl (fun W hW => (baa.out).on hW) Tryd.underlying134 rfl (nm_info HR.out.l_aa)) (by simp only [Act.put, List.setIfInBounds_toArray, List.set_cons_zero, List.set_cons_succ]; rfl) ?_; refine wpLex_cons2 _ (uni_callF (by rfl) 78 [Operand.const (Value.int IntKind.i64 121665)] #[3] rfl [.int .i64 121665] (num cc) rfl enter78 (fun W hW => ccc W)) (by simp only [Act.put, List.setIfInBounds_toArray, List.set_cons_zero, List.set_cons_succ]; rfl) ?_; refine wpLex_cons2 _ (uni_row rfl 134 (.tmp 23) rfl gf (vf.map dg) 134 rfl (fun W hW => (bf.out).on hW) Tryd.underlying134 rfl (nm_info HR.out.l_f)) (by simp only [Act.put, List.setIfInBounds_toArray, List.set_cons_zero, List.set_cons_succ]; rfl) ?_; refine wpLex_cons2 _ (uni_callF (by rfl) 82 [Operand.tmp 91, Operand.tmp 92] #[134, 134] rfl [num cc, num vf] (num vcf) rfl enter82 (fun W hW => HR.out.c_cf W)) (by simp only [Act.put, List.setIfInBounds_toArray, List.set_cons_zero, List.set_cons_succ]; rfl) ?_; refine wpLex_cons2 _ (uni_callF (by rfl) 80 [Operand.tmp 90, Operand.tmp 93] #[134, 134] rfl [num vaa, num vcf] (num vac) rfl enter80 (fun W hW => HR.out.c_ac W)) (by simp only [Act.put, List.setIfInBounds_toArray, List.set_cons_zero, List.set_cons_succ]; rfl) ?_; refine wpLex_cons2 _ (uni_callF (by rfl) 82 [Operand.tmp 89, Operand.tmp 94] #[134, 134] rfl [num vf, num vac] (num r.z2) rfl enter82 (fun W hW => HR.out.c_r_z2 W)) (by simp only [Act.put, List.setIfInBounds_toArray, List.set_cons_zero, List.set_cons_succ]; rfl) ?_; refine ⟨p8, r.z2.map dg, q0.z2.map dg, 134, rfl, rfl, hs.out.b8, nm_info HR.out.l_r_z2, by rw [List.length_map, List.length_map, HR.out.l_r_z2, hq0.out.z2.len], dgs_one _, fun W hW => ?_⟩
        have hs' := hide ((hs.out.on hW).put8 r.z2)
        clear hs
        have hs := hs'
        clear hs' hW
        dsimp only at hs ⊢
        generalize W.setRow p8 (r.z2.map dg).toArray = wi at *
        clear bf baa
        replace hs : Hid (Rst4 ⟨n, g5, g6, p7, p8, p9, p10⟩ w kc x1 r wi) := hs
        have rok : Hid r.Ok := by rw [← HRR.out]; exact hide (stp_is HO.out HDX.out hq0.out).1
        rw [HRR.out] at hnx
        go_wp2
        go_roundw
        case rel =>
          refine ⟨j + 1, by omega, by have := HBB.out; go_num, ?_⟩
          rw [hnx.out]
          exact hs
        case measure => have := HBB.out; simp [intOf] <;> omega
    · obtain rfl : j = 255 := by omega
      have hT := HRT.out
      rw [HQQ.out] at hT
      obtain ⟨dT, vT⟩ := hT
      have c43 := fun W => inverse_walk HO.out _ hq.z2 W
      have d43 := iv_dg HO.out hq.z2 255
      have c41 := fun W => HO.out.mc _ _ hq.x2 d43 W
      have c42 := fun W => write_any _ dT W
      rw [vT] at c42
      have hl := times_length k u
      obtain ⟨I, hI⟩ : ∃ I, ivN one q.z2 mf 255 = I := ⟨_, rfl⟩
      rw [hI] at c43 c41 c42
      obtain ⟨M, hM⟩ : ∃ M, mf q.x2 I = M := ⟨_, rfl⟩
      rw [hM] at c41 c42
      obtain ⟨T, hT⟩ : ∃ T, timesL k u = T := ⟨_, rfl⟩
      rw [hT] at c42 hl
      have HT := hide hT
      clear hI hM hT dT vT d43 hnx
      go_upto_region 21 with fail
      refine reg_putT (by kernel_rfl) 5 rfl rfl (by kernel_rfl) rfl rfl 23 (.tmp 4) (.tmp 105) rfl ?_
      simp only [List.take_succ_cons, List.take_zero]
      refine wpLex_cons2 _ (uni_row rfl 134 (.tmp 7) rfl p7 (q.x2.map dg) 134 rfl (fun W hW => (hs.out.b7).on hW) Tryd.underlying134 rfl (nm_info hq.x2.len)) (by simp only [Act.put, List.setIfInBounds_toArray, List.set_cons_zero, List.set_cons_succ]; rfl) ?_; refine wpLex_cons2 _ (uni_row rfl 134 (.tmp 8) rfl p8 (q.z2.map dg) 134 rfl (fun W hW => (hs.out.b8).on hW) Tryd.underlying134 rfl (nm_info hq.z2.len)) (by simp only [Act.put, List.setIfInBounds_toArray, List.set_cons_zero, List.set_cons_succ]; rfl) ?_; refine wpLex_cons2 _ (uni_callF (by rfl) 84 [Operand.tmp 102] #[134] rfl [num q.z2] (num I) rfl enter84 (fun W hW => c43 W)) (by simp only [Act.put, List.setIfInBounds_toArray, List.set_cons_zero, List.set_cons_succ]; rfl) ?_; refine wpLex_cons2 _ (uni_callF (by rfl) 82 [Operand.tmp 101, Operand.tmp 103] #[134, 134] rfl [num q.x2, num I] (num M) rfl enter82 (fun W hW => c41 W)) (by simp only [Act.put, List.setIfInBounds_toArray, List.set_cons_zero, List.set_cons_succ]; rfl) ?_; refine wpLex_cons2 _ (uni_callF (by rfl) 83 [Operand.tmp 104] #[134] rfl [num M] (.agg (T.map byt).toArray) rfl enter83 (fun W hW => c42 W)) (by simp only [Act.put, List.setIfInBounds_toArray, List.set_cons_zero, List.set_cons_succ]; rfl) ?_; refine ⟨n + 1 + 1, T.map byt, z32.map byt, 23, rfl, rfl, hs.out.re, key_info hl, key_len hl, byts_one _, fun wz hW => ?_⟩
      replace hs := hide (hs.out.on hW)
      clear hW c43 c41 c42
      go_wp2
      refine bodyPost_ret (results_cell_row Tryd.results65 _ _ (n + 1 + 1) 23 (T.map byt).toArray (0, 0) _ rfl (hs.out.re.setRow _) Tryd.underlying23 rfl (key_infoA hl)) rfl ?_
      exact ⟨by rw [HT.out], by first | (rw [hn]; exact below_setRow hs.out.be _ _ (by show n ≤ n + 1 + 1; omega)) | exact below_setRow hs.out.be _ _ (by show n ≤ n + 1 + 1; omega)⟩
end Go.Proofs.YtoceepmehmacbaaDoor.Cv
