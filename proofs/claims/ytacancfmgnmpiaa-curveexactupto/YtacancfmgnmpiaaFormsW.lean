import Derived.Test.YtacancfmgnmpiaaPrG
set_option linter.unusedVariables false
set_option linter.unusedSimpArgs false
namespace Go.Proofs.Ytacancfmgnmpiaa
open Go.RowKit

theorem uxor (a : UInt8) (b : Nat) (hb : b < 256) : bits .xor .u8 (a.toNat : Int) (b : Int) = ((a ^^^ UInt8.ofNat b).toNat : Int) := by
  have h := u8_xor_nat a.toNat b a.toNat_lt hb
  rw [h, UInt8.toNat_xor, UInt8.toNat_ofNat', Nat.mod_eq_of_lt hb]
structure Fms (n : Nat) (w wx : World) (g1 g2 g3 g4 : Nat) (k u t c q o : List UInt8) : Prop where
  b0 : Blk wx n (k.map byt) 24
  b1 : Blk wx (n + 1) (u.map byt) 24
  kt : Blk wx g1 (t.map byt) 24
  kc : Blk wx g2 (c.map byt) 24
  kq : Blk wx g3 (q.map byt) 24
  ko : Blk wx g4 (o.map byt) 24
  be : Below n w wx
  l1 : g1 < g4
  l2 : g2 < g4
  l3 : g3 < g4
  l4 : n + 1 < g4
theorem Fms.set {n : Nat} {w wx : World} {g1 g2 g3 g4 : Nat} {k u t c q o : List UInt8} (h : Fms n w wx g1 g2 g3 g4 k u t c q o) (j : Nat) (x : UInt8) : Fms n w (wx.setCell ⟨g4, j, none⟩ (.int .u8 (x.toNat : Int))) g1 g2 g3 g4 k u t c q (o.set j x) := by
  obtain ⟨a0, a1, a2, a3, a4, a5, a6, a7, a8, a9, a10⟩ := h
  exact ⟨a0.setOther _ _ _ (by omega), a1.setOther _ _ _ (by omega), a2.setOther _ _ _ (by omega), a3.setOther _ _ _ (by omega), a4.setOther _ _ _ (by omega), by rw [← byt_set]; exact a5.set j _, a6.setCell (by show n ≤ g4; omega) _, a7, a8, a9, a10⟩

set_option maxRecDepth 100000 in
set_option maxHeartbeats 16000000 in
theorem forms_walk (k u T C K1 K2 W1 O T2 : List UInt8) (z : Int) (m : Nat) (A B D U V : UInt8) (lk : k.length = 32) (lu : u.length = 32) (lT : T.length = 32) (lC : C.length = 32) (lK1 : K1.length = 32) (lK : K2.length = 32) (lW : W1.length = 32) (lO : O.length = 32)
    (hz : z.tmod 19 = (m : Int) ∨ (z.tmod 19 < 0 ∧ IntKind.i64.wrap (z.tmod 19 + 19) = (m : Int))) (hm : m < 19)
    (hA : k.getD 0 0 ^^^ 7 = A) (hB : K1.getD 31 0 ^^^ 192 = B) (hD : u.getD 31 0 ^^^ 128 = D)
    (e1 : k.set 0 A = K1) (e2 : K1.set 31 B = K2) (e3 : u.set 31 D = W1) (e4 : (cntL (fun _ => 255) 32).set 0 U = O)
    (hU : IntKind.i64.wrap (237 + (m : Int)) = (U.toNat : Int)) (hV : (m : Int) = (V.toNat : Int))
    (c1 : ∀ W, Calls Try.prog 10 #[.agg (k.map byt).toArray, .agg (u.map byt).toArray] W fun e w' => e = .returned (.agg (T.map byt).toArray) ∧ Below W.heap.size W w') (c2 : ∀ W, Calls Try.prog 11 #[.agg (k.map byt).toArray] W fun e w' => e = .returned (.agg (C.map byt).toArray) ∧ Below W.heap.size W w') (c3 : ∀ W, Calls Try.prog 10 #[.agg (K2.map byt).toArray, .agg (u.map byt).toArray] W fun e w' => e = .returned (.agg (T.map byt).toArray) ∧ Below W.heap.size W w') (c4 : ∀ W, Calls Try.prog 10 #[.agg (C.map byt).toArray, .agg (W1.map byt).toArray] W fun e w' => e = .returned (.agg (T.map byt).toArray) ∧ Below W.heap.size W w') (c5 : ∀ W, Calls Try.prog 11 #[.agg (C.map byt).toArray] W fun e w' => e = .returned (.agg (C.map byt).toArray) ∧ Below W.heap.size W w')
    (c6 : ∀ W, Calls Try.prog 10 #[.agg (K2.map byt).toArray, .agg (O.map byt).toArray] W fun e w' => e = .returned (.agg (T2.map byt).toArray) ∧ Below W.heap.size W w') (c7 : ∀ W, Calls Try.prog 10 #[.agg (K2.map byt).toArray, .agg ((keyN V).map byt).toArray] W fun e w' => e = .returned (.agg (T2.map byt).toArray) ∧ Below W.heap.size W w')
    (he : ∀ W, (Op.equalIn 10000 24 (.agg (T.map byt).toArray) (.agg (T.map byt).toArray)).run Try.prog W = .ok true W)
    (he1 : ∀ W, (Op.equalIn 10000 24 (.agg (C.map byt).toArray) (.agg (C.map byt).toArray)).run Try.prog W = .ok true W)
    (he2 : ∀ W, (Op.equalIn 10000 24 (.agg (T2.map byt).toArray) (.agg (T2.map byt).toArray)).run Try.prog W = .ok true W)
    (w : World) : Calls Try.prog 4 #[.agg (k.map byt).toArray, .agg (u.map byt).toArray, .int .i64 z] w fun e w' => e = .returned (.bool true) ∧ Below w.heap.size w w' := by
  have HZ := hide hz
  have HU := hide hU
  have HV := hide hV
  clear hz hU hV
  go_enter Try.func4, Try.ntmps4
  go_upto_region 1 with (first | (refine wpList_boxAt rfl 24 (.tmp 0) rfl (k.map byt) rfl (w.heap.size) rfl ?_) | (refine wpList_boxAt rfl 24 (.tmp 1) rfl (u.map byt) rfl (w.heap.size + 1) (by simp) ?_))
  have b0 : Blk ((w.alloc (.cells (k.map byt).toArray 24)).alloc (.cells (u.map byt).toArray 24)) (w.heap.size) (k.map byt) 24 := by
    have := (Blk.new w (k.map byt) 24).alloc (.cells (u.map byt).toArray 24)
    simpa using this
  have b1 : Blk ((w.alloc (.cells (k.map byt).toArray 24)).alloc (.cells (u.map byt).toArray 24)) (w.heap.size + 1) (u.map byt) 24 := by
    have := Blk.new (w.alloc (.cells (k.map byt).toArray 24)) (u.map byt) 24
    simpa using this
  have be : Below w.heap.size w ((w.alloc (.cells (k.map byt).toArray 24)).alloc (.cells (u.map byt).toArray 24)) := by go_grown
  generalize ((w.alloc (.cells (k.map byt).toArray 24)).alloc (.cells (u.map byt).toArray 24)) = w1 at b0 b1 be ⊢
  obtain ⟨n, hn⟩ : ∃ n, w.heap.size = n := ⟨_, rfl⟩
  rw [hn] at b0 b1 be ⊢
  try simp only [Act.put, List.setIfInBounds_toArray, List.set_cons_zero, List.set_cons_succ]
  have hb1 := b1.lt
  refine lst_newT 3 rfl rfl rfl rfl 7 rfl 24 rfl (z32.map byt) zero23 rfl rfl (.tmp 16) rfl ?_
  simp only [List.take_succ_cons, List.take_zero]
  refine wpLex_cons2 _ (uni_row rfl 24 (.tmp 3) rfl (n) (k.map byt) 24 rfl (fun W hW => b0.on hW) Try.underlying24 rfl (key_info lk)) (by simp only [Act.put, List.setIfInBounds_toArray, List.set_cons_zero, List.set_cons_succ]; rfl) ?_
  refine wpLex_cons2 _ (uni_row rfl 24 (.tmp 4) rfl (n + 1) (u.map byt) 24 rfl (fun W hW => b1.on hW) Try.underlying24 rfl (key_info lu)) (by simp only [Act.put, List.setIfInBounds_toArray, List.set_cons_zero, List.set_cons_succ]; rfl) ?_
  refine wpLex_cons2 _ (uni_callF (by rfl) 10 [Operand.tmp 14, Operand.tmp 15] #[24, 24] rfl [.agg (k.map byt).toArray, .agg (u.map byt).toArray] (.agg (T.map byt).toArray) rfl enter10 (fun W hW => c1 W)) (by simp only [Act.put, List.setIfInBounds_toArray, List.set_cons_zero, List.set_cons_succ]; rfl) ?_
  refine ⟨T.map byt, rfl, by simp, by simp, key_info lT, key_len lT, byts_one _, fun gkt w2 lo hW kt => ?_⟩
  simp only [Act.put, List.setIfInBounds_toArray, List.set_cons_zero, List.set_cons_succ]
  replace b0 := b0.on hW
  replace b1 := b1.on hW
  replace be := be.trans (hW.mono (by have := be.size; omega))
  have lkt : n + 1 < gkt := Nat.lt_of_lt_of_le hb1 lo
  clear hW lo hb1 w1
  clear c1
  go_upto_region 2 with fail
  have hb1 := b1.lt
  refine lst_newT 2 rfl rfl rfl rfl 8 rfl 24 rfl (z32.map byt) zero23 rfl rfl (.tmp 18) rfl ?_
  simp only [List.take_succ_cons, List.take_zero]
  refine wpLex_cons2 _ (uni_row rfl 24 (.tmp 3) rfl (n) (k.map byt) 24 rfl (fun W hW => b0.on hW) Try.underlying24 rfl (key_info lk)) (by simp only [Act.put, List.setIfInBounds_toArray, List.set_cons_zero, List.set_cons_succ]; rfl) ?_
  refine wpLex_cons2 _ (uni_callF (by rfl) 11 [Operand.tmp 17] #[24] rfl [.agg (k.map byt).toArray] (.agg (C.map byt).toArray) rfl enter11 (fun W hW => c2 W)) (by simp only [Act.put, List.setIfInBounds_toArray, List.set_cons_zero, List.set_cons_succ]; rfl) ?_
  refine ⟨C.map byt, rfl, by simp, by simp, key_info lC, key_len lC, byts_one _, fun gkc w3 lo hW kc => ?_⟩
  simp only [Act.put, List.setIfInBounds_toArray, List.set_cons_zero, List.set_cons_succ]
  replace b0 := b0.on hW
  replace b1 := b1.on hW
  replace kt := kt.on hW
  replace be := be.trans (hW.mono (by have := be.size; omega))
  have lkc : n + 1 < gkc := Nat.lt_of_lt_of_le hb1 lo
  clear hW lo hb1 w2
  clear c2
  go_upto_region 3 with fail
  obtain ⟨a0, ha0⟩ : ∃ a, k.getD 0 0 = a := ⟨_, rfl⟩
  rw [ha0] at hA
  have hc : w3.cell? ⟨n, 0, none⟩ = some (.int .u8 (a0.toNat : Int)) := by rw [b0.cell, byts_at k 0 (by omega), ha0]
  have hf := b0.frozen 0
  have x1 : bits .xor .u8 (a0.toNat : Int) 7 = (A.toNat : Int) := by rw [← hA]; exact uxor a0 7 (by decide)
  have H_b0 := hide b0
  have H_b1 := hide b1
  have H_kt := hide kt
  have H_kc := hide kc
  have H_be := hide be
  clear b0 b1 kt kc be
  go_upto_region 4 with fail
  clear hc hf x1
  have b0 := H_b0.out
  have b1 := H_b1.out
  have kt := H_kt.out
  have kc := H_kc.out
  have be := H_be.out
  clear H_b0 H_b1 H_kt H_kc H_be
  replace b0 := b0.set 0 (.int .u8 (A.toNat : Int))
  rw [byt_set, e1] at b0
  replace b1 := b1.setOther (n) 0 (.int .u8 (A.toNat : Int)) (by omega)
  replace kt := kt.setOther (n) 0 (.int .u8 (A.toNat : Int)) (by omega)
  replace kc := kc.setOther (n) 0 (.int .u8 (A.toNat : Int)) (by omega)
  replace be : Below n w (w3.setCell ⟨n, 0, none⟩ (.int .u8 (A.toNat : Int))) := be.setCell (by show n ≤ n; omega) _
  generalize w3.setCell ⟨n, 0, none⟩ (.int .u8 (A.toNat : Int)) = w4 at be ⊢ b0 b1 kt kc
  clear w3
  obtain ⟨a1, ha1⟩ : ∃ a, K1.getD 31 0 = a := ⟨_, rfl⟩
  rw [ha1] at hB
  have hc : w4.cell? ⟨n, 31, none⟩ = some (.int .u8 (a1.toNat : Int)) := by rw [b0.cell, byts_at K1 31 (by omega), ha1]
  have hf := b0.frozen 31
  have x1 : bits .xor .u8 (a1.toNat : Int) 192 = (B.toNat : Int) := by rw [← hB]; exact uxor a1 192 (by decide)
  have H_b0 := hide b0
  have H_b1 := hide b1
  have H_kt := hide kt
  have H_kc := hide kc
  have H_be := hide be
  clear b0 b1 kt kc be
  go_upto_region 5 with fail
  clear hc hf x1
  have b0 := H_b0.out
  have b1 := H_b1.out
  have kt := H_kt.out
  have kc := H_kc.out
  have be := H_be.out
  clear H_b0 H_b1 H_kt H_kc H_be
  replace b0 := b0.set 31 (.int .u8 (B.toNat : Int))
  rw [byt_set, e2] at b0
  replace b1 := b1.setOther (n) 31 (.int .u8 (B.toNat : Int)) (by omega)
  replace kt := kt.setOther (n) 31 (.int .u8 (B.toNat : Int)) (by omega)
  replace kc := kc.setOther (n) 31 (.int .u8 (B.toNat : Int)) (by omega)
  replace be : Below n w (w4.setCell ⟨n, 31, none⟩ (.int .u8 (B.toNat : Int))) := be.setCell (by show n ≤ n; omega) _
  generalize w4.setCell ⟨n, 31, none⟩ (.int .u8 (B.toNat : Int)) = w5 at be ⊢ b0 b1 kt kc
  clear w4
  have hbt := kt.lt
  have hbc := kc.lt
  have hb1 := b1.lt
  refine lst_newT 1 rfl rfl rfl rfl 9 rfl 24 rfl (z32.map byt) zero23 rfl rfl (.tmp 27) rfl ?_
  simp only [List.take_succ_cons, List.take_zero]
  refine wpLex_cons2 _ (uni_row rfl 24 (.tmp 4) rfl (n + 1) (u.map byt) 24 rfl (fun W hW => b1.on hW) Try.underlying24 rfl (key_info lu)) (by simp only [Act.put, List.setIfInBounds_toArray, List.set_cons_zero, List.set_cons_succ]; rfl) ?_
  refine ⟨u.map byt, rfl, by simp, by simp, key_info lu, key_len lu, byts_one _, fun gkq w6 lo hW kq => ?_⟩
  simp only [Act.put, List.setIfInBounds_toArray, List.set_cons_zero, List.set_cons_succ]
  replace b0 := b0.on hW
  replace b1 := b1.on hW
  replace kt := kt.on hW
  replace kc := kc.on hW
  replace be := be.trans (hW.mono (by have := be.size; omega))
  have lkq : n + 1 < gkq := Nat.lt_of_lt_of_le hb1 lo
  have lq1 : gkt < gkq := Nat.lt_of_lt_of_le hbt lo
  have lq2 : gkc < gkq := Nat.lt_of_lt_of_le hbc lo
  clear hbt hbc
  clear hW lo hb1 w5
  go_upto_region 6 with fail
  obtain ⟨a2, ha2⟩ : ∃ a, u.getD 31 0 = a := ⟨_, rfl⟩
  rw [ha2] at hD
  have hc : w6.cell? ⟨gkq, 31, none⟩ = some (.int .u8 (a2.toNat : Int)) := by rw [kq.cell, byts_at u 31 (by omega), ha2]
  have hf := kq.frozen 31
  have x1 : bits .xor .u8 (a2.toNat : Int) 128 = (D.toNat : Int) := by rw [← hD]; exact uxor a2 128 (by decide)
  have H_b0 := hide b0
  have H_b1 := hide b1
  have H_kt := hide kt
  have H_kc := hide kc
  have H_kq := hide kq
  have H_be := hide be
  clear b0 b1 kt kc kq be
  go_upto_region 7 with fail
  clear hc hf x1
  have b0 := H_b0.out
  have b1 := H_b1.out
  have kt := H_kt.out
  have kc := H_kc.out
  have kq := H_kq.out
  have be := H_be.out
  clear H_b0 H_b1 H_kt H_kc H_kq H_be
  replace b0 := b0.setOther (gkq) 31 (.int .u8 (D.toNat : Int)) (by omega)
  replace b1 := b1.setOther (gkq) 31 (.int .u8 (D.toNat : Int)) (by omega)
  replace kt := kt.setOther (gkq) 31 (.int .u8 (D.toNat : Int)) (by omega)
  replace kc := kc.setOther (gkq) 31 (.int .u8 (D.toNat : Int)) (by omega)
  replace kq := kq.set 31 (.int .u8 (D.toNat : Int))
  rw [byt_set, e3] at kq
  replace be : Below n w (w6.setCell ⟨gkq, 31, none⟩ (.int .u8 (D.toNat : Int))) := be.setCell (by show n ≤ gkq; omega) _
  generalize w6.setCell ⟨gkq, 31, none⟩ (.int .u8 (D.toNat : Int)) = w7 at be ⊢ b0 b1 kt kc kq
  clear w6
  clear hA hB hD ha0 ha1 ha2 e1 e2 e3
  obtain ⟨g4, hg4⟩ : ∃ g, w7.heap.size = g := ⟨_, rfl⟩
  have h0 : Hid (Fms n w (w7.alloc (.cells (z32.map byt).toArray 24)) gkt gkc gkq g4 K2 u T C W1 (cntL (fun _ => 255) 0)) := by
    have q1 := kt.lt
    have q2 := kc.lt
    have q3 := kq.lt
    have q4 := b1.lt
    rw [hg4] at q1 q2 q3 q4
    have ko := Blk.new w7 (z32.map byt) 24
    rw [hg4] at ko
    exact ⟨b0.alloc _, b1.alloc _, kt.alloc _, kc.alloc _, kq.alloc _, ko, be.alloc (by have := be.size; omega) _, q1, q2, q3, q4⟩
  clear b0 b1 kt kc kq be lkt lkc lkq lq1 lq2
  rcases HZ.out with hz | hz
  · have HM := hide hz
    have hneg : ¬ (m : Int) < 0 := by omega
    go_upto_region 11 with (refine wpList_newAt rfl 24 rfl (z32.map byt) zero23 g4 hg4 ?_)
    generalize w7.alloc (.cells (z32.map byt).toArray 24) = wl at h0 ⊢
    go_wp2
    go_loopw [12] (fun i wr => ∃ t : Nat, t ≤ 32 ∧ i = .int .i64 t ∧ Hid (Fms n w wr gkt gkc gkq g4 K2 u T C W1 (cntL (fun _ => 255) t))) (fun i _ => 32 - (intOf i).toNat)
    case atStart => exact ⟨0, by omega, rfl, h0⟩
    case round =>
      obtain ⟨t, ht, rfl, hs⟩ := hrel
      have hlen := cnt_length (fun _ => 255) t
      obtain ⟨L, hL⟩ : ∃ L, cntL (fun _ => 255) t = L := ⟨_, rfl⟩
      have HL2 := hide hL
      rw [hL] at hs hlen
      clear hL
      by_cases hlt : t < 32
      · have hlz : (t : Int) < 32 := by omega
        have hfz := hs.out.ko.frozen t
        have hold := hs.out.ko.cell t
        have hol2 : (L.map byt)[t]? = some (byt (L.getD t 0)) := by simp [List.getElem?_eq_getElem (show t < L.length by omega)]
        rw [hol2] at hold
        clear hol2 hlen
        go_wp2
        go_roundw
        case rel =>
          refine ⟨t + 1, by omega, by go_num, ?_⟩
          rw [cntL, HL2.out]
          exact hs.out.set t 255
        case measure => simp [intOf]; omega
      · obtain rfl : t = 32 := by omega
        have hc : wr.cell? ⟨g4, 0, none⟩ = some (.int .u8 ((L.getD 0 0).toNat : Int)) := by rw [hs.out.ko.cell, byts_at L 0 (by omega)]
        have hf := hs.out.ko.frozen 0
        have x1 := HU.out
        have x2 := wrap_u8 U
        go_upto_region 16 with fail
        clear hc hf x1 x2
        have hs2 := hs.out.set 0 U
        rw [← HL2.out, e4] at hs2
        generalize wr.setCell ⟨g4, 0, none⟩ (.int .u8 (U.toNat : Int)) = wm at hs2 ⊢
        obtain ⟨b0, b1, kt, kc, kq, ko, be, _, _, _, _⟩ := hs2
        clear hs HL2 hlen hlt ht h0
        refine lst_all ?_
        refine wpLex_cons2 _ (uni_callF (by rfl) 9 [] #[] rfl [] (.bool true) rfl enter9 (fun W hW => fixed_any W)) (by simp only [Act.put, List.setIfInBounds_toArray, List.set_cons_zero, List.set_cons_succ]; rfl) ?_
        refine wpLex_cons2 _ (uni_val (by rfl) (Op.assign (Operand.tmp 48)) rfl ((.bool true)) (fun o' ho W _ => by go_simp)) (by simp only [Act.put, List.setIfInBounds_toArray, List.set_cons_zero, List.set_cons_succ]; rfl) ?_
        intro w20 hW
        replace b0 := b0.on hW
        replace b1 := b1.on hW
        replace kt := kt.on hW
        replace kc := kc.on hW
        replace kq := kq.on hW
        replace ko := ko.on hW
        replace be := be.trans (hW.mono (by have := be.size; omega))
        clear hW wm
        go_upto_region 17 with fail
        refine reg_all (by kernel_rfl) (by kernel_rfl) ?_
        refine wpLex_cons2 _ (uni_val (by rfl) (Op.move (Operand.tmp 13)) rfl ((.bool true)) (fun o' ho W _ => by go_simp)) (by simp only [Act.put, List.setIfInBounds_toArray, List.set_cons_zero, List.set_cons_succ]; rfl) ?_
        refine wpLex_cons2 _ (uni_val (by rfl) (Op.unOp UnOp.not 4 (Operand.tmp 49)) rfl (.bool false) (fun o' ho W _ => by go_simp)) (by simp only [Act.put, List.setIfInBounds_toArray, List.set_cons_zero, List.set_cons_succ]; rfl) ?_
        refine wpLex_cons2 _ (uni_val (by rfl) (Op.move (Operand.tmp 50)) rfl (.bool false) (fun o' ho W _ => by go_simp)) (by simp only [Act.put, List.setIfInBounds_toArray, List.set_cons_zero, List.set_cons_succ]; rfl) ?_
        refine wpLex_cons2 _ (uni_rowG (by rfl) 24 (.tmp 3) rfl (n) (K2.map byt) 24 rfl (fun W hW => b0.on hW) Try.underlying24 rfl (key_info lK)) (by simp only [Act.put, List.setIfInBounds_toArray, List.set_cons_zero, List.set_cons_succ]; rfl) ?_
        refine wpLex_cons2 _ (uni_rowG (by rfl) 24 (.tmp 4) rfl (n + 1) (u.map byt) 24 rfl (fun W hW => b1.on hW) Try.underlying24 rfl (key_info lu)) (by simp only [Act.put, List.setIfInBounds_toArray, List.set_cons_zero, List.set_cons_succ]; rfl) ?_
        refine wpLex_cons2 _ (uni_callF (by rfl) 10 [Operand.tmp 52, Operand.tmp 53] #[24, 24] rfl [.agg (K2.map byt).toArray, .agg (u.map byt).toArray] (.agg (T.map byt).toArray) rfl enter10 (fun W hW => c3 W)) (by simp only [Act.put, List.setIfInBounds_toArray, List.set_cons_zero, List.set_cons_succ]; rfl) ?_
        refine wpLex_cons2 _ (uni_rowG (by rfl) 24 (.tmp 7) rfl (gkt) (T.map byt) 24 rfl (fun W hW => kt.on hW) Try.underlying24 rfl (key_info lT)) (by simp only [Act.put, List.setIfInBounds_toArray, List.set_cons_zero, List.set_cons_succ]; rfl) ?_
        refine wpLex_cons2 _ (uni_val (by rfl) (Op.binOp BinOp.neq 24 (Operand.tmp 54) (Operand.tmp 55) 24) rfl (.bool false) (fun o' ho W _ => by have hg := guard24; go_simp)) (by simp only [Act.put, List.setIfInBounds_toArray, List.set_cons_zero, List.set_cons_succ]; rfl) ?_
        refine wpLex_cons2 _ (uni_val (by rfl) (Op.pick (Operand.tmp 51) (Operand.const (Value.bool true)) (Operand.tmp 56)) rfl (.bool false) (fun o' ho W _ => by go_simp)) (by simp only [Act.put, List.setIfInBounds_toArray, List.set_cons_zero, List.set_cons_succ]; rfl) ?_
        refine wpLex_cons2 _ (uni_val (by rfl) (Op.move (Operand.tmp 57)) rfl (.bool false) (fun o' ho W _ => by go_simp)) (by simp only [Act.put, List.setIfInBounds_toArray, List.set_cons_zero, List.set_cons_succ]; rfl) ?_
        refine wpLex_cons2 _ (uni_rowG (by rfl) 24 (.tmp 8) rfl (gkc) (C.map byt) 24 rfl (fun W hW => kc.on hW) Try.underlying24 rfl (key_info lC)) (by simp only [Act.put, List.setIfInBounds_toArray, List.set_cons_zero, List.set_cons_succ]; rfl) ?_
        refine wpLex_cons2 _ (uni_rowG (by rfl) 24 (.tmp 9) rfl (gkq) (W1.map byt) 24 rfl (fun W hW => kq.on hW) Try.underlying24 rfl (key_info lW)) (by simp only [Act.put, List.setIfInBounds_toArray, List.set_cons_zero, List.set_cons_succ]; rfl) ?_
        refine wpLex_cons2 _ (uni_callF (by rfl) 10 [Operand.tmp 59, Operand.tmp 60] #[24, 24] rfl [.agg (C.map byt).toArray, .agg (W1.map byt).toArray] (.agg (T.map byt).toArray) rfl enter10 (fun W hW => c4 W)) (by simp only [Act.put, List.setIfInBounds_toArray, List.set_cons_zero, List.set_cons_succ]; rfl) ?_
        refine wpLex_cons2 _ (uni_rowG (by rfl) 24 (.tmp 7) rfl (gkt) (T.map byt) 24 rfl (fun W hW => kt.on hW) Try.underlying24 rfl (key_info lT)) (by simp only [Act.put, List.setIfInBounds_toArray, List.set_cons_zero, List.set_cons_succ]; rfl) ?_
        refine wpLex_cons2 _ (uni_val (by rfl) (Op.binOp BinOp.neq 24 (Operand.tmp 61) (Operand.tmp 62) 24) rfl (.bool false) (fun o' ho W _ => by have hg := guard24; go_simp)) (by simp only [Act.put, List.setIfInBounds_toArray, List.set_cons_zero, List.set_cons_succ]; rfl) ?_
        refine wpLex_cons2 _ (uni_val (by rfl) (Op.pick (Operand.tmp 58) (Operand.const (Value.bool true)) (Operand.tmp 63)) rfl (.bool false) (fun o' ho W _ => by go_simp)) (by simp only [Act.put, List.setIfInBounds_toArray, List.set_cons_zero, List.set_cons_succ]; rfl) ?_
        refine wpLex_cons2 _ (uni_val (by rfl) (Op.move (Operand.tmp 64)) rfl (.bool false) (fun o' ho W _ => by go_simp)) (by simp only [Act.put, List.setIfInBounds_toArray, List.set_cons_zero, List.set_cons_succ]; rfl) ?_
        refine wpLex_cons2 _ (uni_rowG (by rfl) 24 (.tmp 8) rfl (gkc) (C.map byt) 24 rfl (fun W hW => kc.on hW) Try.underlying24 rfl (key_info lC)) (by simp only [Act.put, List.setIfInBounds_toArray, List.set_cons_zero, List.set_cons_succ]; rfl) ?_
        refine wpLex_cons2 _ (uni_callF (by rfl) 11 [Operand.tmp 66] #[24] rfl [.agg (C.map byt).toArray] (.agg (C.map byt).toArray) rfl enter11 (fun W hW => c5 W)) (by simp only [Act.put, List.setIfInBounds_toArray, List.set_cons_zero, List.set_cons_succ]; rfl) ?_
        refine wpLex_cons2 _ (uni_rowG (by rfl) 24 (.tmp 8) rfl (gkc) (C.map byt) 24 rfl (fun W hW => kc.on hW) Try.underlying24 rfl (key_info lC)) (by simp only [Act.put, List.setIfInBounds_toArray, List.set_cons_zero, List.set_cons_succ]; rfl) ?_
        refine wpLex_cons2 _ (uni_val (by rfl) (Op.binOp BinOp.neq 24 (Operand.tmp 67) (Operand.tmp 68) 24) rfl (.bool false) (fun o' ho W _ => by have hg := guard24; go_simp)) (by simp only [Act.put, List.setIfInBounds_toArray, List.set_cons_zero, List.set_cons_succ]; rfl) ?_
        refine wpLex_cons2 _ (uni_val (by rfl) (Op.pick (Operand.tmp 65) (Operand.const (Value.bool true)) (Operand.tmp 69)) rfl (.bool false) (fun o' ho W _ => by go_simp)) (by simp only [Act.put, List.setIfInBounds_toArray, List.set_cons_zero, List.set_cons_succ]; rfl) ?_
        intro w21 hW
        replace b0 := b0.on hW
        replace b1 := b1.on hW
        replace kt := kt.on hW
        replace kc := kc.on hW
        replace kq := kq.on hW
        replace ko := ko.on hW
        replace be := be.trans (hW.mono (by have := be.size; omega))
        clear hW w20
        go_upto_region 19 with fail
        refine reg_all (by kernel_rfl) (by kernel_rfl) ?_
        refine wpLex_cons2 _ (uni_row rfl 24 (.tmp 3) rfl (n) (K2.map byt) 24 rfl (fun W hW => b0.on hW) Try.underlying24 rfl (key_info lK)) (by simp only [Act.put, List.setIfInBounds_toArray, List.set_cons_zero, List.set_cons_succ]; rfl) ?_
        refine wpLex_cons2 _ (uni_row rfl 24 (.tmp 11) rfl (g4) (O.map byt) 24 rfl (fun W hW => ko.on hW) Try.underlying24 rfl (key_info lO)) (by simp only [Act.put, List.setIfInBounds_toArray, List.set_cons_zero, List.set_cons_succ]; rfl) ?_
        refine wpLex_cons2 _ (uni_callF (by rfl) 10 [Operand.tmp 71, Operand.tmp 72] #[24, 24] rfl [.agg (K2.map byt).toArray, .agg (O.map byt).toArray] (.agg (T2.map byt).toArray) rfl enter10 (fun W hW => c6 W)) (by simp only [Act.put, List.setIfInBounds_toArray, List.set_cons_zero, List.set_cons_succ]; rfl) ?_
        refine wpLex_cons2 _ (uni_row rfl 24 (.tmp 3) rfl (n) (K2.map byt) 24 rfl (fun W hW => b0.on hW) Try.underlying24 rfl (key_info lK)) (by simp only [Act.put, List.setIfInBounds_toArray, List.set_cons_zero, List.set_cons_succ]; rfl) ?_
        refine wpLex_cons2 _ (uni_val (by rfl) (Op.move (Operand.tmp 10)) rfl (.int .i64 (m : Int)) (fun o' ho W _ => by go_simp)) (by simp only [Act.put, List.setIfInBounds_toArray, List.set_cons_zero, List.set_cons_succ]; rfl) ?_
        refine wpLex_cons2 _ (uni_val (by rfl) (Op.convert 3 5 (Operand.tmp 75)) rfl (.int .u8 (V.toNat : Int)) (fun o' ho W _ => by have x1 := HV.out; have x2 := wrap_u8 V; go_simp)) (by simp only [Act.put, List.setIfInBounds_toArray, List.set_cons_zero, List.set_cons_succ]; rfl) ?_
        refine wpLex_cons2 _ (uni_build1 (by rfl) 24 (.tmp 76) rfl (.int .u8 (V.toNat : Int)) (.agg ((keyN V).map byt).toArray) rfl (build24k V)) (by simp only [Act.put, List.setIfInBounds_toArray, List.set_cons_zero, List.set_cons_succ]; rfl) ?_
        refine wpLex_cons2 _ (uni_callF (by rfl) 10 [Operand.tmp 74, Operand.tmp 77] #[24, 24] rfl [.agg (K2.map byt).toArray, .agg ((keyN V).map byt).toArray] (.agg (T2.map byt).toArray) rfl enter10 (fun W hW => c7 W)) (by simp only [Act.put, List.setIfInBounds_toArray, List.set_cons_zero, List.set_cons_succ]; rfl) ?_
        refine wpLex_cons2 _ (uni_val (by rfl) (Op.binOp BinOp.eql 24 (Operand.tmp 73) (Operand.tmp 78) 24) rfl (.bool true) (fun o' ho W _ => by have hg := guard24; go_simp)) (by simp only [Act.put, List.setIfInBounds_toArray, List.set_cons_zero, List.set_cons_succ]; rfl) ?_
        refine wpLex_cons2 _ (uni_val (by rfl) (Op.assign (Operand.tmp 79)) rfl (.bool true) (fun o' ho W _ => by go_simp)) (by simp only [Act.put, List.setIfInBounds_toArray, List.set_cons_zero, List.set_cons_succ]; rfl) ?_
        intro w22 hW
        replace b0 := b0.on hW
        replace b1 := b1.on hW
        replace kt := kt.on hW
        replace kc := kc.on hW
        replace kq := kq.on hW
        replace ko := ko.on hW
        replace be := be.trans (hW.mono (by have := be.size; omega))
        clear hW w21
        go_wp2
        go_ret
        exact ⟨rfl, by first | (rw [hn]; exact be) | exact be⟩
  · obtain ⟨hneg, hw⟩ := hz
    obtain ⟨r, hr⟩ : ∃ r, z.tmod 19 = r := ⟨_, rfl⟩
    rw [hr] at hneg hw
    go_upto_region 11 with (refine wpList_newAt rfl 24 rfl (z32.map byt) zero23 g4 hg4 ?_)
    clear hw hneg hr
    generalize w7.alloc (.cells (z32.map byt).toArray 24) = wl at h0 ⊢
    go_wp2
    go_loopw [12] (fun i wr => ∃ t : Nat, t ≤ 32 ∧ i = .int .i64 t ∧ Hid (Fms n w wr gkt gkc gkq g4 K2 u T C W1 (cntL (fun _ => 255) t))) (fun i _ => 32 - (intOf i).toNat)
    case atStart => exact ⟨0, by omega, rfl, h0⟩
    case round =>
      obtain ⟨t, ht, rfl, hs⟩ := hrel
      have hlen := cnt_length (fun _ => 255) t
      obtain ⟨L, hL⟩ : ∃ L, cntL (fun _ => 255) t = L := ⟨_, rfl⟩
      have HL2 := hide hL
      rw [hL] at hs hlen
      clear hL
      by_cases hlt : t < 32
      · have hlz : (t : Int) < 32 := by omega
        have hfz := hs.out.ko.frozen t
        have hold := hs.out.ko.cell t
        have hol2 : (L.map byt)[t]? = some (byt (L.getD t 0)) := by simp [List.getElem?_eq_getElem (show t < L.length by omega)]
        rw [hol2] at hold
        clear hol2 hlen
        go_wp2
        go_roundw
        case rel =>
          refine ⟨t + 1, by omega, by go_num, ?_⟩
          rw [cntL, HL2.out]
          exact hs.out.set t 255
        case measure => simp [intOf]; omega
      · obtain rfl : t = 32 := by omega
        have hc : wr.cell? ⟨g4, 0, none⟩ = some (.int .u8 ((L.getD 0 0).toNat : Int)) := by rw [hs.out.ko.cell, byts_at L 0 (by omega)]
        have hf := hs.out.ko.frozen 0
        have x1 := HU.out
        have x2 := wrap_u8 U
        go_upto_region 16 with fail
        clear hc hf x1 x2
        have hs2 := hs.out.set 0 U
        rw [← HL2.out, e4] at hs2
        generalize wr.setCell ⟨g4, 0, none⟩ (.int .u8 (U.toNat : Int)) = wm at hs2 ⊢
        obtain ⟨b0, b1, kt, kc, kq, ko, be, _, _, _, _⟩ := hs2
        clear hs HL2 hlen hlt ht h0
        refine lst_all ?_
        refine wpLex_cons2 _ (uni_callF (by rfl) 9 [] #[] rfl [] (.bool true) rfl enter9 (fun W hW => fixed_any W)) (by simp only [Act.put, List.setIfInBounds_toArray, List.set_cons_zero, List.set_cons_succ]; rfl) ?_
        refine wpLex_cons2 _ (uni_val (by rfl) (Op.assign (Operand.tmp 48)) rfl ((.bool true)) (fun o' ho W _ => by go_simp)) (by simp only [Act.put, List.setIfInBounds_toArray, List.set_cons_zero, List.set_cons_succ]; rfl) ?_
        intro w20 hW
        replace b0 := b0.on hW
        replace b1 := b1.on hW
        replace kt := kt.on hW
        replace kc := kc.on hW
        replace kq := kq.on hW
        replace ko := ko.on hW
        replace be := be.trans (hW.mono (by have := be.size; omega))
        clear hW wm
        go_upto_region 17 with fail
        refine reg_all (by kernel_rfl) (by kernel_rfl) ?_
        refine wpLex_cons2 _ (uni_val (by rfl) (Op.move (Operand.tmp 13)) rfl ((.bool true)) (fun o' ho W _ => by go_simp)) (by simp only [Act.put, List.setIfInBounds_toArray, List.set_cons_zero, List.set_cons_succ]; rfl) ?_
        refine wpLex_cons2 _ (uni_val (by rfl) (Op.unOp UnOp.not 4 (Operand.tmp 49)) rfl (.bool false) (fun o' ho W _ => by go_simp)) (by simp only [Act.put, List.setIfInBounds_toArray, List.set_cons_zero, List.set_cons_succ]; rfl) ?_
        refine wpLex_cons2 _ (uni_val (by rfl) (Op.move (Operand.tmp 50)) rfl (.bool false) (fun o' ho W _ => by go_simp)) (by simp only [Act.put, List.setIfInBounds_toArray, List.set_cons_zero, List.set_cons_succ]; rfl) ?_
        refine wpLex_cons2 _ (uni_rowG (by rfl) 24 (.tmp 3) rfl (n) (K2.map byt) 24 rfl (fun W hW => b0.on hW) Try.underlying24 rfl (key_info lK)) (by simp only [Act.put, List.setIfInBounds_toArray, List.set_cons_zero, List.set_cons_succ]; rfl) ?_
        refine wpLex_cons2 _ (uni_rowG (by rfl) 24 (.tmp 4) rfl (n + 1) (u.map byt) 24 rfl (fun W hW => b1.on hW) Try.underlying24 rfl (key_info lu)) (by simp only [Act.put, List.setIfInBounds_toArray, List.set_cons_zero, List.set_cons_succ]; rfl) ?_
        refine wpLex_cons2 _ (uni_callF (by rfl) 10 [Operand.tmp 52, Operand.tmp 53] #[24, 24] rfl [.agg (K2.map byt).toArray, .agg (u.map byt).toArray] (.agg (T.map byt).toArray) rfl enter10 (fun W hW => c3 W)) (by simp only [Act.put, List.setIfInBounds_toArray, List.set_cons_zero, List.set_cons_succ]; rfl) ?_
        refine wpLex_cons2 _ (uni_rowG (by rfl) 24 (.tmp 7) rfl (gkt) (T.map byt) 24 rfl (fun W hW => kt.on hW) Try.underlying24 rfl (key_info lT)) (by simp only [Act.put, List.setIfInBounds_toArray, List.set_cons_zero, List.set_cons_succ]; rfl) ?_
        refine wpLex_cons2 _ (uni_val (by rfl) (Op.binOp BinOp.neq 24 (Operand.tmp 54) (Operand.tmp 55) 24) rfl (.bool false) (fun o' ho W _ => by have hg := guard24; go_simp)) (by simp only [Act.put, List.setIfInBounds_toArray, List.set_cons_zero, List.set_cons_succ]; rfl) ?_
        refine wpLex_cons2 _ (uni_val (by rfl) (Op.pick (Operand.tmp 51) (Operand.const (Value.bool true)) (Operand.tmp 56)) rfl (.bool false) (fun o' ho W _ => by go_simp)) (by simp only [Act.put, List.setIfInBounds_toArray, List.set_cons_zero, List.set_cons_succ]; rfl) ?_
        refine wpLex_cons2 _ (uni_val (by rfl) (Op.move (Operand.tmp 57)) rfl (.bool false) (fun o' ho W _ => by go_simp)) (by simp only [Act.put, List.setIfInBounds_toArray, List.set_cons_zero, List.set_cons_succ]; rfl) ?_
        refine wpLex_cons2 _ (uni_rowG (by rfl) 24 (.tmp 8) rfl (gkc) (C.map byt) 24 rfl (fun W hW => kc.on hW) Try.underlying24 rfl (key_info lC)) (by simp only [Act.put, List.setIfInBounds_toArray, List.set_cons_zero, List.set_cons_succ]; rfl) ?_
        refine wpLex_cons2 _ (uni_rowG (by rfl) 24 (.tmp 9) rfl (gkq) (W1.map byt) 24 rfl (fun W hW => kq.on hW) Try.underlying24 rfl (key_info lW)) (by simp only [Act.put, List.setIfInBounds_toArray, List.set_cons_zero, List.set_cons_succ]; rfl) ?_
        refine wpLex_cons2 _ (uni_callF (by rfl) 10 [Operand.tmp 59, Operand.tmp 60] #[24, 24] rfl [.agg (C.map byt).toArray, .agg (W1.map byt).toArray] (.agg (T.map byt).toArray) rfl enter10 (fun W hW => c4 W)) (by simp only [Act.put, List.setIfInBounds_toArray, List.set_cons_zero, List.set_cons_succ]; rfl) ?_
        refine wpLex_cons2 _ (uni_rowG (by rfl) 24 (.tmp 7) rfl (gkt) (T.map byt) 24 rfl (fun W hW => kt.on hW) Try.underlying24 rfl (key_info lT)) (by simp only [Act.put, List.setIfInBounds_toArray, List.set_cons_zero, List.set_cons_succ]; rfl) ?_
        refine wpLex_cons2 _ (uni_val (by rfl) (Op.binOp BinOp.neq 24 (Operand.tmp 61) (Operand.tmp 62) 24) rfl (.bool false) (fun o' ho W _ => by have hg := guard24; go_simp)) (by simp only [Act.put, List.setIfInBounds_toArray, List.set_cons_zero, List.set_cons_succ]; rfl) ?_
        refine wpLex_cons2 _ (uni_val (by rfl) (Op.pick (Operand.tmp 58) (Operand.const (Value.bool true)) (Operand.tmp 63)) rfl (.bool false) (fun o' ho W _ => by go_simp)) (by simp only [Act.put, List.setIfInBounds_toArray, List.set_cons_zero, List.set_cons_succ]; rfl) ?_
        refine wpLex_cons2 _ (uni_val (by rfl) (Op.move (Operand.tmp 64)) rfl (.bool false) (fun o' ho W _ => by go_simp)) (by simp only [Act.put, List.setIfInBounds_toArray, List.set_cons_zero, List.set_cons_succ]; rfl) ?_
        refine wpLex_cons2 _ (uni_rowG (by rfl) 24 (.tmp 8) rfl (gkc) (C.map byt) 24 rfl (fun W hW => kc.on hW) Try.underlying24 rfl (key_info lC)) (by simp only [Act.put, List.setIfInBounds_toArray, List.set_cons_zero, List.set_cons_succ]; rfl) ?_
        refine wpLex_cons2 _ (uni_callF (by rfl) 11 [Operand.tmp 66] #[24] rfl [.agg (C.map byt).toArray] (.agg (C.map byt).toArray) rfl enter11 (fun W hW => c5 W)) (by simp only [Act.put, List.setIfInBounds_toArray, List.set_cons_zero, List.set_cons_succ]; rfl) ?_
        refine wpLex_cons2 _ (uni_rowG (by rfl) 24 (.tmp 8) rfl (gkc) (C.map byt) 24 rfl (fun W hW => kc.on hW) Try.underlying24 rfl (key_info lC)) (by simp only [Act.put, List.setIfInBounds_toArray, List.set_cons_zero, List.set_cons_succ]; rfl) ?_
        refine wpLex_cons2 _ (uni_val (by rfl) (Op.binOp BinOp.neq 24 (Operand.tmp 67) (Operand.tmp 68) 24) rfl (.bool false) (fun o' ho W _ => by have hg := guard24; go_simp)) (by simp only [Act.put, List.setIfInBounds_toArray, List.set_cons_zero, List.set_cons_succ]; rfl) ?_
        refine wpLex_cons2 _ (uni_val (by rfl) (Op.pick (Operand.tmp 65) (Operand.const (Value.bool true)) (Operand.tmp 69)) rfl (.bool false) (fun o' ho W _ => by go_simp)) (by simp only [Act.put, List.setIfInBounds_toArray, List.set_cons_zero, List.set_cons_succ]; rfl) ?_
        intro w21 hW
        replace b0 := b0.on hW
        replace b1 := b1.on hW
        replace kt := kt.on hW
        replace kc := kc.on hW
        replace kq := kq.on hW
        replace ko := ko.on hW
        replace be := be.trans (hW.mono (by have := be.size; omega))
        clear hW w20
        go_upto_region 19 with fail
        refine reg_all (by kernel_rfl) (by kernel_rfl) ?_
        refine wpLex_cons2 _ (uni_row rfl 24 (.tmp 3) rfl (n) (K2.map byt) 24 rfl (fun W hW => b0.on hW) Try.underlying24 rfl (key_info lK)) (by simp only [Act.put, List.setIfInBounds_toArray, List.set_cons_zero, List.set_cons_succ]; rfl) ?_
        refine wpLex_cons2 _ (uni_row rfl 24 (.tmp 11) rfl (g4) (O.map byt) 24 rfl (fun W hW => ko.on hW) Try.underlying24 rfl (key_info lO)) (by simp only [Act.put, List.setIfInBounds_toArray, List.set_cons_zero, List.set_cons_succ]; rfl) ?_
        refine wpLex_cons2 _ (uni_callF (by rfl) 10 [Operand.tmp 71, Operand.tmp 72] #[24, 24] rfl [.agg (K2.map byt).toArray, .agg (O.map byt).toArray] (.agg (T2.map byt).toArray) rfl enter10 (fun W hW => c6 W)) (by simp only [Act.put, List.setIfInBounds_toArray, List.set_cons_zero, List.set_cons_succ]; rfl) ?_
        refine wpLex_cons2 _ (uni_row rfl 24 (.tmp 3) rfl (n) (K2.map byt) 24 rfl (fun W hW => b0.on hW) Try.underlying24 rfl (key_info lK)) (by simp only [Act.put, List.setIfInBounds_toArray, List.set_cons_zero, List.set_cons_succ]; rfl) ?_
        refine wpLex_cons2 _ (uni_val (by rfl) (Op.move (Operand.tmp 10)) rfl (.int .i64 (m : Int)) (fun o' ho W _ => by go_simp)) (by simp only [Act.put, List.setIfInBounds_toArray, List.set_cons_zero, List.set_cons_succ]; rfl) ?_
        refine wpLex_cons2 _ (uni_val (by rfl) (Op.convert 3 5 (Operand.tmp 75)) rfl (.int .u8 (V.toNat : Int)) (fun o' ho W _ => by have x1 := HV.out; have x2 := wrap_u8 V; go_simp)) (by simp only [Act.put, List.setIfInBounds_toArray, List.set_cons_zero, List.set_cons_succ]; rfl) ?_
        refine wpLex_cons2 _ (uni_build1 (by rfl) 24 (.tmp 76) rfl (.int .u8 (V.toNat : Int)) (.agg ((keyN V).map byt).toArray) rfl (build24k V)) (by simp only [Act.put, List.setIfInBounds_toArray, List.set_cons_zero, List.set_cons_succ]; rfl) ?_
        refine wpLex_cons2 _ (uni_callF (by rfl) 10 [Operand.tmp 74, Operand.tmp 77] #[24, 24] rfl [.agg (K2.map byt).toArray, .agg ((keyN V).map byt).toArray] (.agg (T2.map byt).toArray) rfl enter10 (fun W hW => c7 W)) (by simp only [Act.put, List.setIfInBounds_toArray, List.set_cons_zero, List.set_cons_succ]; rfl) ?_
        refine wpLex_cons2 _ (uni_val (by rfl) (Op.binOp BinOp.eql 24 (Operand.tmp 73) (Operand.tmp 78) 24) rfl (.bool true) (fun o' ho W _ => by have hg := guard24; go_simp)) (by simp only [Act.put, List.setIfInBounds_toArray, List.set_cons_zero, List.set_cons_succ]; rfl) ?_
        refine wpLex_cons2 _ (uni_val (by rfl) (Op.assign (Operand.tmp 79)) rfl (.bool true) (fun o' ho W _ => by go_simp)) (by simp only [Act.put, List.setIfInBounds_toArray, List.set_cons_zero, List.set_cons_succ]; rfl) ?_
        intro w22 hW
        replace b0 := b0.on hW
        replace b1 := b1.on hW
        replace kt := kt.on hW
        replace kc := kc.on hW
        replace kq := kq.on hW
        replace ko := ko.on hW
        replace be := be.trans (hW.mono (by have := be.size; omega))
        clear hW w21
        go_wp2
        go_ret
        exact ⟨rfl, by first | (rw [hn]; exact be) | exact be⟩
end Go.Proofs.Ytacancfmgnmpiaa
