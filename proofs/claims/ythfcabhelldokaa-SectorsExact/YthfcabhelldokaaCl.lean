import Derived.Test.YthfcabhelldokaaSpG
import Derived.Test.YthfcabhelldokaaTwG
import Derived.Test.YthfcabhelldokaaLpG
set_option linter.unusedVariables false
set_option linter.unusedSimpArgs false
namespace Go.Proofs.Ythfcabhelldokaa
open Go.RowKit

/-- A step. -/
structure Stp where
  kind : Int
  which : Int
  i : Int
  fill : UInt8
  vb : Value
  b : List UInt8
  vk : Value
  ks : List (BitVec 64)
  torn : Int
  off : Int
def stC (s : Stp) : List Value := [.int .i64 s.kind, .int .i64 s.which, .int .i64 s.i, .int .u8 (s.fill.toNat : Int), s.vb, s.vk, .int .i64 s.torn, .int .i64 s.off]
/-- What a step holds lies there. -/
structure Stp.ok (s : Stp) (w : World) : Prop where
  hb : Has w s.vb s.b
  bl : s.b.length < 9223372036854775808
  hk : Has64 w s.vk s.ks
  kl : s.ks.length + 2 ≤ 17592186044416
  ii : -9223372036854775808 ≤ s.i ∧ s.i ≤ 9223372036854775807
theorem Has64.below {w w' : World} {v : Value} {ks : List (BitVec 64)} (h : Has64 w v ks) (hb : Below w.heap.size w w') : Has64 w' v ks := h.fx (Fx.of_below (S := fun _ => False) hb) (fun _ _ h => h)
theorem Stp.ok.below {s : Stp} {w w' : World} (h : s.ok w) (hb : Below w.heap.size w w') : s.ok w' := ⟨h.hb.below hb, h.bl, h.hk.below hb, h.kl, h.ii⟩
theorem info53 (s : Stp) : (Try.prog.info? 53).map (·.size) = some (stC s).length := by kernel_rfl
theorem info53A (s : Stp) : (Try.prog.info? 53).map (·.size) = some (stC s).toArray.size := by kernel_rfl
theorem write_no {w : World} {L : Lay} {D : Dv} (h : Dev w L D) (i : Int) (vb : Value) (hr : refE D i ≠ 0) : Calls Try.prog 12 #[.pointer (some ⟨L.p, 0, none⟩), .int .i64 i, vb] w fun e w' => e = .returned (.int .i64 (refE D i)) ∧ w' = w := by
  have hf := hide (refusal_any h i)
  clear h
  obtain ⟨E, hE⟩ : ∃ E, refE D i = E := ⟨_, rfl⟩
  rw [hE] at hr hf ⊢
  clear hE
  go_enter Try.func12, Try.ntmps12
  go_wp2_with (first
    | (go_at_call 34; refine hf.out.mono ?_; rintro e w3 ⟨rfl, hz⟩; rw [hz]; clear hz w3)
    | fail)
  go_ret
  exact ⟨rfl, rfl⟩
theorem str_nil : (⟨#[]⟩ : ByteArray) = ⟨([] : List UInt8).toArray⟩ := rfl
set_option maxRecDepth 100000 in
set_option maxHeartbeats 2000000 in
theorem call_read_no {W0 W : World} {L : Lay} {D : Dv} (h : Mine W0 W L D) (s : Stp) (hs : s.ok W0) (hk : s.kind = 1) (hr : refE D (pickN s.i 5 : Nat) ≠ 0) :
    Calls Try.prog 21 #[.pointer (some ⟨L.p, 0, none⟩), .agg (stC s).toArray] W fun e w' => e = .returned (.tuple #[.int .i64 (refE D (pickN s.i 5 : Nat)), .string ⟨([] : List UInt8).toArray⟩]) ∧ ∃ L', Turn W w' L L' ∧ Dev w' L' (D) := by
  obtain ⟨g0, hg0⟩ : ∃ g, W.heap.size = g := ⟨_, rfl⟩
  have be0 : Below W.heap.size W (W.alloc (.cells (stC s).toArray 53)) := below_new W _
  have b0 : Blk (W.alloc (.cells (stC s).toArray 53)) g0 (stC s) 53 := Blk.newAt hg0
  have h0 := h.below be0
  have hs0 := hs.below h.be
  have T0 : Turn W (W.alloc (.cells (stC s).toArray 53)) L L := ⟨Fx.of_below be0, fun k h => .inl h, rfl⟩
  have hFg : ∀ k, L.F k → k < g0 := fun k hk => by have := h.dev.lt k hk; omega
  replace hs0 := hs0.below be0
  obtain ⟨w0, hw0⟩ : ∃ w0, W.alloc (.cells (stC s).toArray 53) = w0 := ⟨_, rfl⟩
  rw [hw0] at be0 b0 h0 T0 hs0
  have c0 := (b0.cell 0).trans (show _ = some (.int .i64 s.kind) from rfl)
  have c2 := (b0.cell 2).trans (show _ = some (.int .i64 s.i) from rfl)
  have c3 := (b0.cell 3).trans (show _ = some (.int .u8 (s.fill.toNat : Int)) from rfl)
  have c4 := (b0.cell 4).trans (show _ = some s.vb from rfl)
  have hpk := hide (pick_any s.i 5 (by decide) (by decide) hs.ii w0)
  have hplt := pick_lt s.i 5 (by decide)
  have R5 : Hid (w0.rangeAt g0 5 (lossC s.vk s.torn s.off)) := hide (fun j v hj => by
    rw [b0.cell, ← hj]
    have hj3 : j < 3 := by have := (List.getElem?_eq_some_iff.1 hj).1; simpa [lossC] using this
    match j, hj3 with
    | 0, _ => rfl
    | 1, _ => rfl
    | 2, _ => rfl)
  obtain ⟨I, hI⟩ : ∃ I, pickN s.i 5 = I := ⟨_, rfl⟩
  rw [hI] at hpk hplt
  try rw [hI]
  rw [hI] at hr
  have hrd := hide (read_no h0.dev (I : Int) hr)
  rw [hk] at c0
  obtain ⟨E, hE⟩ : ∃ E, refE D (I : Nat) = E := ⟨_, rfl⟩
  rw [hE] at hrd ⊢
  clear hE hr
  have HT0 := hide T0
  have H0 := hide h0
  have HS0 := hide hs0
  have HB0 := hide b0
  clear T0 h0 hs0 b0 h hs be0 hI hplt
  go_enter Try.func21, Try.ntmps21
  go_upto_region 5 with (first
    | (refine wpList_boxAt rfl 53 (.tmp 1) rfl (stC s) rfl g0 hg0 ?_; rw [hw0])
    | (go_at_call 9; refine hpk.out.mono ?_; rintro e w3 ⟨rfl, hz⟩; rw [hz]; clear hz w3)
    | (go_at_call 42; refine hrd.out.mono ?_; rintro e w3 ⟨rfl, hz⟩; rw [hz]; clear hz w3)
    | fail)
  have HN : ∀ W, (Go.convert 34 9 (.slice none 0 0)).run Try.prog W = .ok (.string ⟨([] : List UInt8).toArray⟩) W := fun W => (Has.nil W).convert
  refine reg_ord [(0, false), (1, false), (2, false), (3, false), (4, false)] (fun _ => True) (by kernel_rfl) rfl (by kernel_rfl) (trivial) ?_
  simp only [ordOps, List.getD_cons_zero, List.getD_cons_succ]
  refine wpOrd_val (.int .i64 E) (uvV (by rfl) (Op.move (Operand.tmp 8)) rfl (.int .i64 E) (fun o' ho W hW => by go_simp)) (by simp only [Act.put, List.setIfInBounds_toArray, List.set_cons_zero, List.set_cons_succ]; rfl) ?_
  refine wpOrd_val (.slice none 0 0) (uvV (by rfl) (Op.move (Operand.tmp 7)) rfl (.slice none 0 0) (fun o' ho W hW => by go_simp)) (by simp only [Act.put, List.setIfInBounds_toArray, List.set_cons_zero, List.set_cons_succ]; rfl) ?_
  refine wpOrd_val (.string ⟨([] : List UInt8).toArray⟩) (uvV (by rfl) (Op.convert 34 9 (Operand.tmp 23)) rfl (.string ⟨([] : List UInt8).toArray⟩) (fun o' ho W hW => by have hc := HN W; go_simp)) (by simp only [Act.put, List.setIfInBounds_toArray, List.set_cons_zero, List.set_cons_succ]; rfl) ?_
  refine wpOrd_val (.int .i64 E) (uvV (by rfl) (Op.assign (Operand.tmp 22)) rfl (.int .i64 E) (fun o' ho W hW => by go_simp)) (by simp only [Act.put, List.setIfInBounds_toArray, List.set_cons_zero, List.set_cons_succ]; rfl) ?_
  refine wpOrd_val (.string ⟨([] : List UInt8).toArray⟩) (uvV (by rfl) (Op.assign (Operand.tmp 24)) rfl (.string ⟨([] : List UInt8).toArray⟩) (fun o' ho W hW => by go_simp)) (by simp only [Act.put, List.setIfInBounds_toArray, List.set_cons_zero, List.set_cons_succ]; rfl) ?_
  intro Wz hW
  rw [hW]
  clear hW Wz
  have bd : Below w0.heap.size w0 { w0 with drawn := w0.drawn + 1 } := below_drawn w0
  have HD := hide (H0.out.dev.below bd)
  have HT := hide (HT0.out.trans ⟨Fx.of_below bd, fun k h => .inl h, rfl⟩ : Turn W _ L L)
  clear bd
  go_wp2
  go_ret2
  exact ⟨rfl, L, HT.out, HD.out⟩
set_option maxRecDepth 100000 in
set_option maxHeartbeats 2000000 in
theorem call_read {W0 W : World} {L : Lay} {D : Dv} (h : Mine W0 W L D) (s : Stp) (hs : s.ok W0) (hk : s.kind = 1) (hd : D.down = false) (hr : pickN s.i 5 < D.n) :
    Calls Try.prog 21 #[.pointer (some ⟨L.p, 0, none⟩), .agg (stC s).toArray] W fun e w' => e = .returned (.tuple #[.int .i64 (0), .string ⟨(readB D (pickN s.i 5)).toArray⟩]) ∧ ∃ L', Turn W w' L L' ∧ Dev w' L' (D) := by
  obtain ⟨g0, hg0⟩ : ∃ g, W.heap.size = g := ⟨_, rfl⟩
  have be0 : Below W.heap.size W (W.alloc (.cells (stC s).toArray 53)) := below_new W _
  have b0 : Blk (W.alloc (.cells (stC s).toArray 53)) g0 (stC s) 53 := Blk.newAt hg0
  have h0 := h.below be0
  have hs0 := hs.below h.be
  have T0 : Turn W (W.alloc (.cells (stC s).toArray 53)) L L := ⟨Fx.of_below be0, fun k h => .inl h, rfl⟩
  have hFg : ∀ k, L.F k → k < g0 := fun k hk => by have := h.dev.lt k hk; omega
  replace hs0 := hs0.below be0
  obtain ⟨w0, hw0⟩ : ∃ w0, W.alloc (.cells (stC s).toArray 53) = w0 := ⟨_, rfl⟩
  rw [hw0] at be0 b0 h0 T0 hs0
  have c0 := (b0.cell 0).trans (show _ = some (.int .i64 s.kind) from rfl)
  have c2 := (b0.cell 2).trans (show _ = some (.int .i64 s.i) from rfl)
  have c3 := (b0.cell 3).trans (show _ = some (.int .u8 (s.fill.toNat : Int)) from rfl)
  have c4 := (b0.cell 4).trans (show _ = some s.vb from rfl)
  have hpk := hide (pick_any s.i 5 (by decide) (by decide) hs.ii w0)
  have hplt := pick_lt s.i 5 (by decide)
  have R5 : Hid (w0.rangeAt g0 5 (lossC s.vk s.torn s.off)) := hide (fun j v hj => by
    rw [b0.cell, ← hj]
    have hj3 : j < 3 := by have := (List.getElem?_eq_some_iff.1 hj).1; simpa [lossC] using this
    match j, hj3 with
    | 0, _ => rfl
    | 1, _ => rfl
    | 2, _ => rfl)
  obtain ⟨I, hI⟩ : ∃ I, pickN s.i 5 = I := ⟨_, rfl⟩
  rw [hI] at hpk hplt
  try rw [hI]
  rw [hI] at hr
  have hrd := hide (read_ok h0.dev hd I hr)
  have bl := readB_length D h0.dev.ok I hr
  have B1 : Blk (w0.alloc (.cells ((readB D I).map byt).toArray 5)) w0.heap.size ((readB D I).map byt) 5 := Blk.new _ _ _
  have be1 : Below w0.heap.size w0 (w0.alloc (.cells ((readB D I).map byt).toArray 5)) := below_new _ _
  have D1 := h0.dev.below be1
  have T1 : Turn W (w0.alloc (.cells ((readB D I).map byt).toArray 5)) L L := T0.trans ⟨Fx.of_below be1, fun k h => .inl h, rfl⟩
  obtain ⟨w1, hw1⟩ : ∃ w1, w0.alloc (.cells ((readB D I).map byt).toArray 5) = w1 := ⟨_, rfl⟩
  obtain ⟨g1, hg1⟩ : ∃ g1, w0.heap.size = g1 := ⟨_, rfl⟩
  rw [hw1] at B1 be1 D1 T1 hrd
  rw [hg1] at B1 hrd
  have HB1 := hide B1
  have HD1 := hide D1
  have HT1 := hide T1
  have BL := hide bl
  clear B1 be1 D1 T1 hw1 hg1 hr bl
  rw [hk] at c0
  obtain ⟨Rb, hRb⟩ : ∃ Rb, readB D I = Rb := ⟨_, rfl⟩
  rw [hRb] at HB1 BL ⊢
  clear hRb
  have HT0 := hide T0
  have H0 := hide h0
  have HS0 := hide hs0
  have HB0 := hide b0
  clear T0 h0 hs0 b0 h hs be0 hI hplt
  go_enter Try.func21, Try.ntmps21
  go_upto_region 5 with (first
    | (refine wpList_boxAt rfl 53 (.tmp 1) rfl (stC s) rfl g0 hg0 ?_; rw [hw0])
    | (go_at_call 9; refine hpk.out.mono ?_; rintro e w3 ⟨rfl, hz⟩; rw [hz]; clear hz w3)
    | (go_at_call 42; refine hrd.out.mono ?_; rintro e w3 ⟨rfl, hz⟩; rw [hz]; clear hz w3)
    | fail)
  have bd : Below w1.heap.size w1 { w1 with drawn := w1.drawn + 1 } := below_drawn w1
  have HN : ∀ W, Below w1.heap.size w1 W → (Go.convert 34 9 (.slice (some ⟨g1, 0, none⟩) 512 512)).run Try.prog W = .ok (.string ⟨Rb.toArray⟩) W := fun W hW => (Blk.hasB (HB1.out.on hW) BL.out).convert
  refine reg_ord [(0, false), (1, false), (2, false), (3, false), (4, false)] (fun W => Below w1.heap.size w1 W) (by kernel_rfl) rfl (by kernel_rfl) (bd) ?_
  simp only [ordOps, List.getD_cons_zero, List.getD_cons_succ]
  refine wpOrd_val (.int .i64 0) (uvV (by rfl) (Op.move (Operand.tmp 8)) rfl (.int .i64 0) (fun o' ho W hW => by go_simp)) (by simp only [Act.put, List.setIfInBounds_toArray, List.set_cons_zero, List.set_cons_succ]; rfl) ?_
  refine wpOrd_val (.slice (some ⟨g1, 0, none⟩) 512 512) (uvV (by rfl) (Op.move (Operand.tmp 7)) rfl (.slice (some ⟨g1, 0, none⟩) 512 512) (fun o' ho W hW => by go_simp)) (by simp only [Act.put, List.setIfInBounds_toArray, List.set_cons_zero, List.set_cons_succ]; rfl) ?_
  refine wpOrd_val (.string ⟨Rb.toArray⟩) (uvV (by rfl) (Op.convert 34 9 (Operand.tmp 23)) rfl (.string ⟨Rb.toArray⟩) (fun o' ho W hW => by have hc := HN W hW; go_simp)) (by simp only [Act.put, List.setIfInBounds_toArray, List.set_cons_zero, List.set_cons_succ]; rfl) ?_
  refine wpOrd_val (.int .i64 0) (uvV (by rfl) (Op.assign (Operand.tmp 22)) rfl (.int .i64 0) (fun o' ho W hW => by go_simp)) (by simp only [Act.put, List.setIfInBounds_toArray, List.set_cons_zero, List.set_cons_succ]; rfl) ?_
  refine wpOrd_val (.string ⟨Rb.toArray⟩) (uvV (by rfl) (Op.assign (Operand.tmp 24)) rfl (.string ⟨Rb.toArray⟩) (fun o' ho W hW => by go_simp)) (by simp only [Act.put, List.setIfInBounds_toArray, List.set_cons_zero, List.set_cons_succ]; rfl) ?_
  intro Wz hW
  rw [hW]
  clear hW Wz
  have HD := hide (HD1.out.below bd)
  have HT := hide (HT1.out.trans ⟨Fx.of_below bd, fun k h => .inl h, rfl⟩ : Turn W _ L L)
  clear bd HN
  go_wp2
  go_ret2
  exact ⟨rfl, L, HT.out, HD.out⟩
set_option maxRecDepth 100000 in
set_option maxHeartbeats 2000000 in
theorem call_flush_no {W0 W : World} {L : Lay} {D : Dv} (h : Mine W0 W L D) (s : Stp) (hs : s.ok W0) (hk : s.kind = 4) (hd : D.down = true) :
    Calls Try.prog 21 #[.pointer (some ⟨L.p, 0, none⟩), .agg (stC s).toArray] W fun e w' => e = .returned (.tuple #[.int .i64 (80), .string ⟨([] : List UInt8).toArray⟩]) ∧ ∃ L', Turn W w' L L' ∧ Dev w' L' (D) := by
  obtain ⟨g0, hg0⟩ : ∃ g, W.heap.size = g := ⟨_, rfl⟩
  have be0 : Below W.heap.size W (W.alloc (.cells (stC s).toArray 53)) := below_new W _
  have b0 : Blk (W.alloc (.cells (stC s).toArray 53)) g0 (stC s) 53 := Blk.newAt hg0
  have h0 := h.below be0
  have hs0 := hs.below h.be
  have T0 : Turn W (W.alloc (.cells (stC s).toArray 53)) L L := ⟨Fx.of_below be0, fun k h => .inl h, rfl⟩
  have hFg : ∀ k, L.F k → k < g0 := fun k hk => by have := h.dev.lt k hk; omega
  replace hs0 := hs0.below be0
  obtain ⟨w0, hw0⟩ : ∃ w0, W.alloc (.cells (stC s).toArray 53) = w0 := ⟨_, rfl⟩
  rw [hw0] at be0 b0 h0 T0 hs0
  have c0 := (b0.cell 0).trans (show _ = some (.int .i64 s.kind) from rfl)
  have c2 := (b0.cell 2).trans (show _ = some (.int .i64 s.i) from rfl)
  have c3 := (b0.cell 3).trans (show _ = some (.int .u8 (s.fill.toNat : Int)) from rfl)
  have c4 := (b0.cell 4).trans (show _ = some s.vb from rfl)
  have hpk := hide (pick_any s.i 5 (by decide) (by decide) hs.ii w0)
  have hplt := pick_lt s.i 5 (by decide)
  have R5 : Hid (w0.rangeAt g0 5 (lossC s.vk s.torn s.off)) := hide (fun j v hj => by
    rw [b0.cell, ← hj]
    have hj3 : j < 3 := by have := (List.getElem?_eq_some_iff.1 hj).1; simpa [lossC] using this
    match j, hj3 with
    | 0, _ => rfl
    | 1, _ => rfl
    | 2, _ => rfl)
  obtain ⟨I, hI⟩ : ∃ I, pickN s.i 5 = I := ⟨_, rfl⟩
  rw [hI] at hpk hplt
  try rw [hI]
  have hf := hide (flush_no h0.dev hd)
  rw [hk] at c0
  have HT0 := hide T0
  have H0 := hide h0
  have HS0 := hide hs0
  have HB0 := hide b0
  clear T0 h0 hs0 b0 h hs be0 hI hplt
  go_enter Try.func21, Try.ntmps21
  go_wp2_with (first
    | (refine wpList_boxAt rfl 53 (.tmp 1) rfl (stC s) rfl g0 hg0 ?_; rw [hw0])
    | (go_at_call 9; refine hpk.out.mono ?_; rintro e w3 ⟨rfl, hz⟩; rw [hz]; clear hz w3)
    | (go_at_call 26; refine hf.out.mono ?_; rintro e w3 ⟨rfl, hz⟩; rw [hz]; clear hz w3)
    | fail)
  go_ret2
  exact ⟨rfl, L, HT0.out, H0.out.dev⟩
set_option maxRecDepth 100000 in
set_option maxHeartbeats 2000000 in
theorem call_flush_crash {W0 W : World} {L : Lay} {D : Dv} (h : Mine W0 W L D) (s : Stp) (hs : s.ok W0) (hk : s.kind = 4) (hd : D.down = false) (hcal : D.calls < 1000000000000) (h1 : D.left = 1) :
    Calls Try.prog 21 #[.pointer (some ⟨L.p, 0, none⟩), .agg (stC s).toArray] W fun e w' => e = .returned (.tuple #[.int .i64 (80), .string ⟨([] : List UInt8).toArray⟩]) ∧ ∃ L', Turn W w' L L' ∧ Dev w' L' (changedD D) := by
  obtain ⟨g0, hg0⟩ : ∃ g, W.heap.size = g := ⟨_, rfl⟩
  have be0 : Below W.heap.size W (W.alloc (.cells (stC s).toArray 53)) := below_new W _
  have b0 : Blk (W.alloc (.cells (stC s).toArray 53)) g0 (stC s) 53 := Blk.newAt hg0
  have h0 := h.below be0
  have hs0 := hs.below h.be
  have T0 : Turn W (W.alloc (.cells (stC s).toArray 53)) L L := ⟨Fx.of_below be0, fun k h => .inl h, rfl⟩
  have hFg : ∀ k, L.F k → k < g0 := fun k hk => by have := h.dev.lt k hk; omega
  replace hs0 := hs0.below be0
  obtain ⟨w0, hw0⟩ : ∃ w0, W.alloc (.cells (stC s).toArray 53) = w0 := ⟨_, rfl⟩
  rw [hw0] at be0 b0 h0 T0 hs0
  have c0 := (b0.cell 0).trans (show _ = some (.int .i64 s.kind) from rfl)
  have c2 := (b0.cell 2).trans (show _ = some (.int .i64 s.i) from rfl)
  have c3 := (b0.cell 3).trans (show _ = some (.int .u8 (s.fill.toNat : Int)) from rfl)
  have c4 := (b0.cell 4).trans (show _ = some s.vb from rfl)
  have hpk := hide (pick_any s.i 5 (by decide) (by decide) hs.ii w0)
  have hplt := pick_lt s.i 5 (by decide)
  have R5 : Hid (w0.rangeAt g0 5 (lossC s.vk s.torn s.off)) := hide (fun j v hj => by
    rw [b0.cell, ← hj]
    have hj3 : j < 3 := by have := (List.getElem?_eq_some_iff.1 hj).1; simpa [lossC] using this
    match j, hj3 with
    | 0, _ => rfl
    | 1, _ => rfl
    | 2, _ => rfl)
  obtain ⟨I, hI⟩ : ∃ I, pickN s.i 5 = I := ⟨_, rfl⟩
  rw [hI] at hpk hplt
  try rw [hI]
  have hf := hide (flush_crash h0.dev hd hcal h1)
  rw [hk] at c0
  have HT0 := hide T0
  have H0 := hide h0
  have HS0 := hide hs0
  have HB0 := hide b0
  clear T0 h0 hs0 b0 h hs be0 hI hplt
  go_enter Try.func21, Try.ntmps21
  go_wp2_with (first
    | (refine wpList_boxAt rfl 53 (.tmp 1) rfl (stC s) rfl g0 hg0 ?_; rw [hw0])
    | (go_at_call 9; refine hpk.out.mono ?_; rintro e w3 ⟨rfl, hz⟩; rw [hz]; clear hz w3)
    | (go_at_call 26; refine hf.out.mono ?_; rintro e w3 ⟨rfl, ⟨hp, hq⟩⟩; have HT1 := hide hp; have HD1 := hide hq; clear hp hq)
    | fail)
  go_ret2
  exact ⟨rfl, _, HT0.out.trans HT1.out, HD1.out⟩
set_option maxRecDepth 100000 in
set_option maxHeartbeats 2000000 in
theorem call_flush {W0 W : World} {L : Lay} {D : Dv} (h : Mine W0 W L D) (s : Stp) (hs : s.ok W0) (hk : s.kind = 4) (hd : D.down = false) (hcal : D.calls < 1000000000000) (hleft : D.left < 9223372036854775808) (h1 : D.left ≠ 1) :
    Calls Try.prog 21 #[.pointer (some ⟨L.p, 0, none⟩), .agg (stC s).toArray] W fun e w' => e = .returned (.tuple #[.int .i64 (0), .string ⟨([] : List UInt8).toArray⟩]) ∧ ∃ L', Turn W w' L L' ∧ Dev w' L' (flushD D) := by
  obtain ⟨g0, hg0⟩ : ∃ g, W.heap.size = g := ⟨_, rfl⟩
  have be0 : Below W.heap.size W (W.alloc (.cells (stC s).toArray 53)) := below_new W _
  have b0 : Blk (W.alloc (.cells (stC s).toArray 53)) g0 (stC s) 53 := Blk.newAt hg0
  have h0 := h.below be0
  have hs0 := hs.below h.be
  have T0 : Turn W (W.alloc (.cells (stC s).toArray 53)) L L := ⟨Fx.of_below be0, fun k h => .inl h, rfl⟩
  have hFg : ∀ k, L.F k → k < g0 := fun k hk => by have := h.dev.lt k hk; omega
  replace hs0 := hs0.below be0
  obtain ⟨w0, hw0⟩ : ∃ w0, W.alloc (.cells (stC s).toArray 53) = w0 := ⟨_, rfl⟩
  rw [hw0] at be0 b0 h0 T0 hs0
  have c0 := (b0.cell 0).trans (show _ = some (.int .i64 s.kind) from rfl)
  have c2 := (b0.cell 2).trans (show _ = some (.int .i64 s.i) from rfl)
  have c3 := (b0.cell 3).trans (show _ = some (.int .u8 (s.fill.toNat : Int)) from rfl)
  have c4 := (b0.cell 4).trans (show _ = some s.vb from rfl)
  have hpk := hide (pick_any s.i 5 (by decide) (by decide) hs.ii w0)
  have hplt := pick_lt s.i 5 (by decide)
  have R5 : Hid (w0.rangeAt g0 5 (lossC s.vk s.torn s.off)) := hide (fun j v hj => by
    rw [b0.cell, ← hj]
    have hj3 : j < 3 := by have := (List.getElem?_eq_some_iff.1 hj).1; simpa [lossC] using this
    match j, hj3 with
    | 0, _ => rfl
    | 1, _ => rfl
    | 2, _ => rfl)
  obtain ⟨I, hI⟩ : ∃ I, pickN s.i 5 = I := ⟨_, rfl⟩
  rw [hI] at hpk hplt
  try rw [hI]
  have hf := hide (flush_ok h0.dev hd hcal hleft h1)
  clear hcal hleft h1
  rw [hk] at c0
  have HT0 := hide T0
  have H0 := hide h0
  have HS0 := hide hs0
  have HB0 := hide b0
  clear T0 h0 hs0 b0 h hs be0 hI hplt
  go_enter Try.func21, Try.ntmps21
  go_wp2_with (first
    | (refine wpList_boxAt rfl 53 (.tmp 1) rfl (stC s) rfl g0 hg0 ?_; rw [hw0])
    | (go_at_call 9; refine hpk.out.mono ?_; rintro e w3 ⟨rfl, hz⟩; rw [hz]; clear hz w3)
    | (go_at_call 26; refine hf.out.mono ?_; rintro e w3 ⟨rfl, ⟨hp, hq⟩⟩; have HT1 := hide hp; have HD1 := hide hq; clear hp hq)
    | fail)
  go_ret2
  exact ⟨rfl, _, HT0.out.trans HT1.out, HD1.out⟩
set_option maxRecDepth 100000 in
set_option maxHeartbeats 2000000 in
theorem call_up {W0 W : World} {L : Lay} {D : Dv} (h : Mine W0 W L D) (s : Stp) (hs : s.ok W0) (hk : s.kind = 8) :
    Calls Try.prog 21 #[.pointer (some ⟨L.p, 0, none⟩), .agg (stC s).toArray] W fun e w' => e = .returned (.tuple #[.int .i64 (0), .string ⟨([] : List UInt8).toArray⟩]) ∧ ∃ L', Turn W w' L L' ∧ Dev w' L' (upD D) := by
  obtain ⟨g0, hg0⟩ : ∃ g, W.heap.size = g := ⟨_, rfl⟩
  have be0 : Below W.heap.size W (W.alloc (.cells (stC s).toArray 53)) := below_new W _
  have b0 : Blk (W.alloc (.cells (stC s).toArray 53)) g0 (stC s) 53 := Blk.newAt hg0
  have h0 := h.below be0
  have hs0 := hs.below h.be
  have T0 : Turn W (W.alloc (.cells (stC s).toArray 53)) L L := ⟨Fx.of_below be0, fun k h => .inl h, rfl⟩
  have hFg : ∀ k, L.F k → k < g0 := fun k hk => by have := h.dev.lt k hk; omega
  replace hs0 := hs0.below be0
  obtain ⟨w0, hw0⟩ : ∃ w0, W.alloc (.cells (stC s).toArray 53) = w0 := ⟨_, rfl⟩
  rw [hw0] at be0 b0 h0 T0 hs0
  have c0 := (b0.cell 0).trans (show _ = some (.int .i64 s.kind) from rfl)
  have c2 := (b0.cell 2).trans (show _ = some (.int .i64 s.i) from rfl)
  have c3 := (b0.cell 3).trans (show _ = some (.int .u8 (s.fill.toNat : Int)) from rfl)
  have c4 := (b0.cell 4).trans (show _ = some s.vb from rfl)
  have hpk := hide (pick_any s.i 5 (by decide) (by decide) hs.ii w0)
  have hplt := pick_lt s.i 5 (by decide)
  have R5 : Hid (w0.rangeAt g0 5 (lossC s.vk s.torn s.off)) := hide (fun j v hj => by
    rw [b0.cell, ← hj]
    have hj3 : j < 3 := by have := (List.getElem?_eq_some_iff.1 hj).1; simpa [lossC] using this
    match j, hj3 with
    | 0, _ => rfl
    | 1, _ => rfl
    | 2, _ => rfl)
  obtain ⟨I, hI⟩ : ∃ I, pickN s.i 5 = I := ⟨_, rfl⟩
  rw [hI] at hpk hplt
  try rw [hI]
  have hf := hide (up_any h0.dev)
  rw [hk] at c0
  have HT0 := hide T0
  have H0 := hide h0
  have HS0 := hide hs0
  have HB0 := hide b0
  clear T0 h0 hs0 b0 h hs be0 hI hplt
  go_enter Try.func21, Try.ntmps21
  go_wp2_with (first
    | (refine wpList_boxAt rfl 53 (.tmp 1) rfl (stC s) rfl g0 hg0 ?_; rw [hw0])
    | (go_at_call 9; refine hpk.out.mono ?_; rintro e w3 ⟨rfl, hz⟩; rw [hz]; clear hz w3)
    | (go_at_call 25; refine hf.out.mono ?_; rintro e w3 ⟨rfl, ⟨hp, hq⟩⟩; have HT1 := hide hp; have HD1 := hide hq; clear hp hq)
    | fail)
  go_ret2
  exact ⟨rfl, _, HT0.out.trans HT1.out, HD1.out⟩
set_option maxRecDepth 100000 in
set_option maxHeartbeats 2000000 in
theorem call_crash {W0 W : World} {L : Lay} {D : Dv} (h : Mine W0 W L D) (s : Stp) (hs : s.ok W0) (hk : s.kind = 7) (hd : D.down = false) :
    Calls Try.prog 21 #[.pointer (some ⟨L.p, 0, none⟩), .agg (stC s).toArray] W fun e w' => e = .returned (.tuple #[.int .i64 (0), .string ⟨([] : List UInt8).toArray⟩]) ∧ ∃ L', Turn W w' L L' ∧ Dev w' L' (crashD D s.ks s.torn s.off) := by
  obtain ⟨g0, hg0⟩ : ∃ g, W.heap.size = g := ⟨_, rfl⟩
  have be0 : Below W.heap.size W (W.alloc (.cells (stC s).toArray 53)) := below_new W _
  have b0 : Blk (W.alloc (.cells (stC s).toArray 53)) g0 (stC s) 53 := Blk.newAt hg0
  have h0 := h.below be0
  have hs0 := hs.below h.be
  have T0 : Turn W (W.alloc (.cells (stC s).toArray 53)) L L := ⟨Fx.of_below be0, fun k h => .inl h, rfl⟩
  have hFg : ∀ k, L.F k → k < g0 := fun k hk => by have := h.dev.lt k hk; omega
  replace hs0 := hs0.below be0
  obtain ⟨w0, hw0⟩ : ∃ w0, W.alloc (.cells (stC s).toArray 53) = w0 := ⟨_, rfl⟩
  rw [hw0] at be0 b0 h0 T0 hs0
  have c0 := (b0.cell 0).trans (show _ = some (.int .i64 s.kind) from rfl)
  have c2 := (b0.cell 2).trans (show _ = some (.int .i64 s.i) from rfl)
  have c3 := (b0.cell 3).trans (show _ = some (.int .u8 (s.fill.toNat : Int)) from rfl)
  have c4 := (b0.cell 4).trans (show _ = some s.vb from rfl)
  have hpk := hide (pick_any s.i 5 (by decide) (by decide) hs.ii w0)
  have hplt := pick_lt s.i 5 (by decide)
  have R5 : Hid (w0.rangeAt g0 5 (lossC s.vk s.torn s.off)) := hide (fun j v hj => by
    rw [b0.cell, ← hj]
    have hj3 : j < 3 := by have := (List.getElem?_eq_some_iff.1 hj).1; simpa [lossC] using this
    match j, hj3 with
    | 0, _ => rfl
    | 1, _ => rfl
    | 2, _ => rfl)
  obtain ⟨I, hI⟩ : ∃ I, pickN s.i 5 = I := ⟨_, rfl⟩
  rw [hI] at hpk hplt
  try rw [hI]
  have htw := hide (twin_any s.vk s.ks s.torn s.off hs0.kl w0 hs0.hk)
  obtain ⟨g2, hg2⟩ : ∃ g2, w0.heap.size + 2 = g2 := ⟨_, rfl⟩
  rw [hg2] at htw
  have hFg2 : ∀ k, L.F k → k < g2 := fun k hk => by have := h0.dev.lt k hk; omega
  clear hg2
  obtain ⟨TV, hTV⟩ : ∃ TV, (Value.slice (some ⟨g2, 0, none⟩) s.ks.length (s.ks.length + 2)) = TV := ⟨_, rfl⟩
  have hTo : ∀ k, TV.ownBlock = some k → k = g2 := fun k hk => by rw [← hTV] at hk; simpa [Value.ownBlock] using hk.symm
  rw [hTV] at htw
  have KL := hs0.kl
  rw [hk] at c0
  have HT0 := hide T0
  have H0 := hide h0
  have HS0 := hide hs0
  have HB0 := hide b0
  clear T0 h0 hs0 b0 h hs be0 hI hplt
  go_enter Try.func21, Try.ntmps21
  go_wp2_with (first
    | (refine wpList_boxAt rfl 53 (.tmp 1) rfl (stC s) rfl g0 hg0 ?_; rw [hw0])
    | (go_at_call 9; refine hpk.out.mono ?_; rintro e w3 ⟨rfl, hz⟩; rw [hz]; clear hz w3)
    | (refine wpList_load_mid rfl 38 (.tmp 32) rfl g0 5 rfl (lossC s.vk s.torn s.off) _ R5.out Try.underlying38 rfl (info38 _ _ _) ?_)
    | (go_at_call 20; refine htw.out.mono ?_; rintro e w3 ⟨rfl, hq1, hq2⟩; have HBE := hide hq1; have HV3 := hide hq2; have HD3 := hide (H0.out.dev.below hq1); clear hq1 hq2)
    | (go_at_call 15; refine (crash_any HD3.out hd TV s.ks s.torn s.off HV3.out (fun k hk e => by have h1 := hTo k hk; have h2 := hFg2 L.gi (.inr (.inl rfl)); omega)).mono ?_; rintro e w4 ⟨rfl, hp, hq⟩; have HT1 := hide hp; have HD1 := hide hq; clear hp hq)
    | fail)
  go_ret2
  exact ⟨rfl, _, (HT0.out.trans ⟨Fx.of_below HBE.out, fun k h => .inl h, rfl⟩).trans HT1.out, HD1.out⟩
set_option maxRecDepth 100000 in
set_option maxHeartbeats 2000000 in
theorem call_crash_no {W0 W : World} {L : Lay} {D : Dv} (h : Mine W0 W L D) (s : Stp) (hs : s.ok W0) (hk : s.kind = 7) (hd : D.down = true) :
    Calls Try.prog 21 #[.pointer (some ⟨L.p, 0, none⟩), .agg (stC s).toArray] W fun e w' => e = .returned (.tuple #[.int .i64 (80), .string ⟨([] : List UInt8).toArray⟩]) ∧ ∃ L', Turn W w' L L' ∧ Dev w' L' (D) := by
  obtain ⟨g0, hg0⟩ : ∃ g, W.heap.size = g := ⟨_, rfl⟩
  have be0 : Below W.heap.size W (W.alloc (.cells (stC s).toArray 53)) := below_new W _
  have b0 : Blk (W.alloc (.cells (stC s).toArray 53)) g0 (stC s) 53 := Blk.newAt hg0
  have h0 := h.below be0
  have hs0 := hs.below h.be
  have T0 : Turn W (W.alloc (.cells (stC s).toArray 53)) L L := ⟨Fx.of_below be0, fun k h => .inl h, rfl⟩
  have hFg : ∀ k, L.F k → k < g0 := fun k hk => by have := h.dev.lt k hk; omega
  replace hs0 := hs0.below be0
  obtain ⟨w0, hw0⟩ : ∃ w0, W.alloc (.cells (stC s).toArray 53) = w0 := ⟨_, rfl⟩
  rw [hw0] at be0 b0 h0 T0 hs0
  have c0 := (b0.cell 0).trans (show _ = some (.int .i64 s.kind) from rfl)
  have c2 := (b0.cell 2).trans (show _ = some (.int .i64 s.i) from rfl)
  have c3 := (b0.cell 3).trans (show _ = some (.int .u8 (s.fill.toNat : Int)) from rfl)
  have c4 := (b0.cell 4).trans (show _ = some s.vb from rfl)
  have hpk := hide (pick_any s.i 5 (by decide) (by decide) hs.ii w0)
  have hplt := pick_lt s.i 5 (by decide)
  have R5 : Hid (w0.rangeAt g0 5 (lossC s.vk s.torn s.off)) := hide (fun j v hj => by
    rw [b0.cell, ← hj]
    have hj3 : j < 3 := by have := (List.getElem?_eq_some_iff.1 hj).1; simpa [lossC] using this
    match j, hj3 with
    | 0, _ => rfl
    | 1, _ => rfl
    | 2, _ => rfl)
  obtain ⟨I, hI⟩ : ∃ I, pickN s.i 5 = I := ⟨_, rfl⟩
  rw [hI] at hpk hplt
  try rw [hI]
  have htw := hide (twin_any s.vk s.ks s.torn s.off hs0.kl w0 hs0.hk)
  obtain ⟨g2, hg2⟩ : ∃ g2, w0.heap.size + 2 = g2 := ⟨_, rfl⟩
  rw [hg2] at htw
  have hFg2 : ∀ k, L.F k → k < g2 := fun k hk => by have := h0.dev.lt k hk; omega
  clear hg2
  obtain ⟨TV, hTV⟩ : ∃ TV, (Value.slice (some ⟨g2, 0, none⟩) s.ks.length (s.ks.length + 2)) = TV := ⟨_, rfl⟩
  have hTo : ∀ k, TV.ownBlock = some k → k = g2 := fun k hk => by rw [← hTV] at hk; simpa [Value.ownBlock] using hk.symm
  rw [hTV] at htw
  have KL := hs0.kl
  rw [hk] at c0
  have HT0 := hide T0
  have H0 := hide h0
  have HS0 := hide hs0
  have HB0 := hide b0
  clear T0 h0 hs0 b0 h hs be0 hI hplt
  go_enter Try.func21, Try.ntmps21
  go_wp2_with (first
    | (refine wpList_boxAt rfl 53 (.tmp 1) rfl (stC s) rfl g0 hg0 ?_; rw [hw0])
    | (go_at_call 9; refine hpk.out.mono ?_; rintro e w3 ⟨rfl, hz⟩; rw [hz]; clear hz w3)
    | (refine wpList_load_mid rfl 38 (.tmp 32) rfl g0 5 rfl (lossC s.vk s.torn s.off) _ R5.out Try.underlying38 rfl (info38 _ _ _) ?_)
    | (go_at_call 20; refine htw.out.mono ?_; rintro e w3 ⟨rfl, hq1, hq2⟩; have HBE := hide hq1; have HV3 := hide hq2; have HD3 := hide (H0.out.dev.below hq1); clear hq1 hq2)
    | (go_at_call 15; refine (crash_no HD3.out hd TV s.torn s.off).mono ?_; rintro e w4 ⟨rfl, hp, hq⟩; have HT1 := hide hp; have HD1 := hide hq; clear hp hq)
    | fail)
  go_ret2
  exact ⟨rfl, _, (HT0.out.trans ⟨Fx.of_below HBE.out, fun k h => .inl h, rfl⟩).trans HT1.out, HD1.out⟩
set_option maxRecDepth 100000 in
set_option maxHeartbeats 2000000 in
theorem call_tell {W0 W : World} {L : Lay} {D : Dv} (h : Mine W0 W L D) (s : Stp) (hs : s.ok W0) (hk : s.kind = 9) :
    Calls Try.prog 21 #[.pointer (some ⟨L.p, 0, none⟩), .agg (stC s).toArray] W fun e w' => e = .returned (.tuple #[.int .i64 (0), .string ⟨D.img.toArray⟩]) ∧ ∃ L', Turn W w' L L' ∧ Dev w' L' (D) := by
  obtain ⟨g0, hg0⟩ : ∃ g, W.heap.size = g := ⟨_, rfl⟩
  have be0 : Below W.heap.size W (W.alloc (.cells (stC s).toArray 53)) := below_new W _
  have b0 : Blk (W.alloc (.cells (stC s).toArray 53)) g0 (stC s) 53 := Blk.newAt hg0
  have h0 := h.below be0
  have hs0 := hs.below h.be
  have T0 : Turn W (W.alloc (.cells (stC s).toArray 53)) L L := ⟨Fx.of_below be0, fun k h => .inl h, rfl⟩
  have hFg : ∀ k, L.F k → k < g0 := fun k hk => by have := h.dev.lt k hk; omega
  replace hs0 := hs0.below be0
  obtain ⟨w0, hw0⟩ : ∃ w0, W.alloc (.cells (stC s).toArray 53) = w0 := ⟨_, rfl⟩
  rw [hw0] at be0 b0 h0 T0 hs0
  have c0 := (b0.cell 0).trans (show _ = some (.int .i64 s.kind) from rfl)
  have c2 := (b0.cell 2).trans (show _ = some (.int .i64 s.i) from rfl)
  have c3 := (b0.cell 3).trans (show _ = some (.int .u8 (s.fill.toNat : Int)) from rfl)
  have c4 := (b0.cell 4).trans (show _ = some s.vb from rfl)
  have hpk := hide (pick_any s.i 5 (by decide) (by decide) hs.ii w0)
  have hplt := pick_lt s.i 5 (by decide)
  have R5 : Hid (w0.rangeAt g0 5 (lossC s.vk s.torn s.off)) := hide (fun j v hj => by
    rw [b0.cell, ← hj]
    have hj3 : j < 3 := by have := (List.getElem?_eq_some_iff.1 hj).1; simpa [lossC] using this
    match j, hj3 with
    | 0, _ => rfl
    | 1, _ => rfl
    | 2, _ => rfl)
  obtain ⟨I, hI⟩ : ∃ I, pickN s.i 5 = I := ⟨_, rfl⟩
  rw [hI] at hpk hplt
  try rw [hI]
  have bd : Below w0.heap.size w0 { w0 with drawn := w0.drawn + 1 } := below_drawn w0
  have dd := h0.dev.below bd
  have td : Turn W { w0 with drawn := w0.drawn + 1 } L L := T0.trans ⟨Fx.of_below bd, fun k h => .inl h, rfl⟩
  obtain ⟨wd, hwd⟩ : ∃ wd, { w0 with drawn := w0.drawn + 1 } = wd := ⟨_, rfl⟩
  rw [hwd] at dd td
  have him := image_any dd
  have bl := dd.ok.len
  have B1 : Blk (wd.alloc (.cells (D.img.map byt).toArray 5)) wd.heap.size (D.img.map byt) 5 := Blk.new _ _ _
  have be1 : Below wd.heap.size wd (wd.alloc (.cells (D.img.map byt).toArray 5)) := below_new _ _
  have D1 := dd.below be1
  have T1 : Turn W (wd.alloc (.cells (D.img.map byt).toArray 5)) L L := td.trans ⟨Fx.of_below be1, fun k h => .inl h, rfl⟩
  obtain ⟨w1, hw1⟩ : ∃ w1, wd.alloc (.cells (D.img.map byt).toArray 5) = w1 := ⟨_, rfl⟩
  obtain ⟨g1, hg1⟩ : ∃ g1, wd.heap.size = g1 := ⟨_, rfl⟩
  rw [hw1] at B1 D1 T1 him
  rw [hg1] at B1 him
  have hcv : (Go.convert 34 9 (.slice (some ⟨g1, 0, none⟩) D.img.length D.img.length)).run Try.prog w1 = .ok (.string ⟨D.img.toArray⟩) w1 := Has.convert (.inr ⟨⟨g1, 0, none⟩, D.img.length, rfl, Nat.le_refl _, fun i u hu => by rw [add_plain, B1.cell, List.getElem?_map, hu]; rfl⟩)
  have HD1 := hide D1
  have HT1 := hide T1
  have HIM := hide him
  have HCV := hide hcv
  clear B1 be1 D1 T1 hw1 hg1 bl dd td him bd hcv
  rw [hk] at c0
  obtain ⟨Ml, hMl⟩ : ∃ Ml, D.img.length = Ml := ⟨_, rfl⟩
  rw [hMl] at HIM HCV
  obtain ⟨Ms, hMs⟩ : ∃ Ms : ByteArray, ⟨D.img.toArray⟩ = Ms := ⟨_, rfl⟩
  rw [hMs] at HCV ⊢
  clear hMl hMs
  have HT0 := hide T0
  have H0 := hide h0
  have HS0 := hide hs0
  have HB0 := hide b0
  clear T0 h0 hs0 b0 h hs be0 hI hplt
  go_enter Try.func21, Try.ntmps21
  go_upto_region 13 with (first
    | (refine wpList_boxAt rfl 53 (.tmp 1) rfl (stC s) rfl g0 hg0 ?_; rw [hw0])
    | (go_at_call 9; refine hpk.out.mono ?_; rintro e w3 ⟨rfl, hz⟩; rw [hz]; clear hz w3)
    | fail)
  refine reg_ord [(0, false), (1, true), (2, false), (3, false), (4, false)] (fun _ => True) (by kernel_rfl) rfl (by kernel_rfl) (trivial) ?_
  simp only [ordOps, List.getD_cons_zero, List.getD_cons_succ]
  rw [hwd]
  refine wpOrd_val (.pointer (some ⟨L.p, 0, none⟩)) (uvV (by rfl) (Op.move (Operand.tmp 0)) rfl (.pointer (some ⟨L.p, 0, none⟩)) (fun o' ho W hW => by go_simp)) (by simp only [Act.put, List.setIfInBounds_toArray, List.set_cons_zero, List.set_cons_succ]; rfl) ?_
  refine wpOrd_to (by rfl) (.slice (some ⟨g1, 0, none⟩) Ml Ml) (w1) (fun W => W = w1) (rfl) (fun _ _ => trivial) (OpTo.call 16 [Operand.tmp 42] #[28] rfl [.pointer (some ⟨L.p, 0, none⟩)] (.slice (some ⟨g1, 0, none⟩) Ml Ml) rfl enter16 HIM.out) (by simp only [Act.put, List.setIfInBounds_toArray, List.set_cons_zero, List.set_cons_succ]; rfl) ?_
  refine wpOrd_val (.string Ms) (uvV (by rfl) (Op.convert 34 9 (Operand.tmp 43)) rfl (.string Ms) (fun o' ho W hW => by have hc := HCV.out; rw [hW]; go_simp)) (by simp only [Act.put, List.setIfInBounds_toArray, List.set_cons_zero, List.set_cons_succ]; rfl) ?_
  refine wpOrd_val (.int .i64 0) (uvV (by rfl) (Op.assign (Operand.const (Value.int IntKind.i64 0))) rfl (.int .i64 0) (fun o' ho W hW => by go_simp)) (by simp only [Act.put, List.setIfInBounds_toArray, List.set_cons_zero, List.set_cons_succ]; rfl) ?_
  refine wpOrd_val (.string Ms) (uvV (by rfl) (Op.assign (Operand.tmp 44)) rfl (.string Ms) (fun o' ho W hW => by go_simp)) (by simp only [Act.put, List.setIfInBounds_toArray, List.set_cons_zero, List.set_cons_succ]; rfl) ?_
  intro Wz hW
  rw [hW]
  clear hW Wz
  go_wp2
  go_ret2
  exact ⟨rfl, L, HT1.out, HD1.out⟩
set_option maxRecDepth 100000 in
set_option maxHeartbeats 2000000 in
theorem call_write_no {W0 W : World} {L : Lay} {D : Dv} (h : Mine W0 W L D) (s : Stp) (hs : s.ok W0) (n1 : ¬ s.kind = 1) (n4 : ¬ s.kind = 4) (n5 : ¬ s.kind = 5) (n6 : ¬ s.kind = 6) (n7 : ¬ s.kind = 7) (n8 : ¬ s.kind = 8) (n9 : ¬ s.kind = 9) (hr : refE D (pickN s.i 5 : Nat) ≠ 0) :
    Calls Try.prog 21 #[.pointer (some ⟨L.p, 0, none⟩), .agg (stC s).toArray] W fun e w' => e = .returned (.tuple #[.int .i64 (refE D (pickN s.i 5 : Nat)), .string ⟨([] : List UInt8).toArray⟩]) ∧ ∃ L', Turn W w' L L' ∧ Dev w' L' (D) := by
  obtain ⟨g0, hg0⟩ : ∃ g, W.heap.size = g := ⟨_, rfl⟩
  have be0 : Below W.heap.size W (W.alloc (.cells (stC s).toArray 53)) := below_new W _
  have b0 : Blk (W.alloc (.cells (stC s).toArray 53)) g0 (stC s) 53 := Blk.newAt hg0
  have h0 := h.below be0
  have hs0 := hs.below h.be
  have T0 : Turn W (W.alloc (.cells (stC s).toArray 53)) L L := ⟨Fx.of_below be0, fun k h => .inl h, rfl⟩
  have hFg : ∀ k, L.F k → k < g0 := fun k hk => by have := h.dev.lt k hk; omega
  replace hs0 := hs0.below be0
  obtain ⟨w0, hw0⟩ : ∃ w0, W.alloc (.cells (stC s).toArray 53) = w0 := ⟨_, rfl⟩
  rw [hw0] at be0 b0 h0 T0 hs0
  have c0 := (b0.cell 0).trans (show _ = some (.int .i64 s.kind) from rfl)
  have c2 := (b0.cell 2).trans (show _ = some (.int .i64 s.i) from rfl)
  have c3 := (b0.cell 3).trans (show _ = some (.int .u8 (s.fill.toNat : Int)) from rfl)
  have c4 := (b0.cell 4).trans (show _ = some s.vb from rfl)
  have hpk := hide (pick_any s.i 5 (by decide) (by decide) hs.ii w0)
  have hplt := pick_lt s.i 5 (by decide)
  have R5 : Hid (w0.rangeAt g0 5 (lossC s.vk s.torn s.off)) := hide (fun j v hj => by
    rw [b0.cell, ← hj]
    have hj3 : j < 3 := by have := (List.getElem?_eq_some_iff.1 hj).1; simpa [lossC] using this
    match j, hj3 with
    | 0, _ => rfl
    | 1, _ => rfl
    | 2, _ => rfl)
  obtain ⟨I, hI⟩ : ∃ I, pickN s.i 5 = I := ⟨_, rfl⟩
  rw [hI] at hpk hplt
  try rw [hI]
  rw [hI] at hr
  have hsc := sector_any s.fill s.vb s.b hs0.bl w0 hs0.hb
  have be1 : Below w0.heap.size w0 (w0.alloc (.cells ((secL s.fill s.b).map byt).toArray 5)) := below_new _ _
  have D1 := h0.dev.below be1
  have T1 : Turn W (w0.alloc (.cells ((secL s.fill s.b).map byt).toArray 5)) L L := T0.trans ⟨Fx.of_below be1, fun k h => .inl h, rfl⟩
  obtain ⟨w1, hw1⟩ : ∃ w1, w0.alloc (.cells ((secL s.fill s.b).map byt).toArray 5) = w1 := ⟨_, rfl⟩
  obtain ⟨g1, hg1⟩ : ∃ g1, w0.heap.size = g1 := ⟨_, rfl⟩
  rw [hw1] at D1 T1 hsc
  rw [hg1] at hsc
  have hwr := hide (write_no D1 (I : Int) (.slice (some ⟨g1, 0, none⟩) 512 512) hr)
  have HSC := hide hsc
  have HD1 := hide D1
  have HT1 := hide T1
  clear D1 T1 be1 hsc hw1 hg1
  obtain ⟨E, hE⟩ : ∃ E, refE D (I : Nat) = E := ⟨_, rfl⟩
  rw [hE] at hwr ⊢
  clear hE hr
  have HT0 := hide T0
  have H0 := hide h0
  have HS0 := hide hs0
  have HB0 := hide b0
  clear T0 h0 hs0 b0 h hs be0 hI hplt
  go_enter Try.func21, Try.ntmps21
  go_wp2_with (first
    | (refine wpList_boxAt rfl 53 (.tmp 1) rfl (stC s) rfl g0 hg0 ?_; rw [hw0])
    | (go_at_call 9; refine hpk.out.mono ?_; rintro e w3 ⟨rfl, hz⟩; rw [hz]; clear hz w3)
    | (go_at_call 13; refine HSC.out.mono ?_; rintro e w3 ⟨rfl, hz⟩; rw [hz]; clear hz w3)
    | (go_at_call 12; refine hwr.out.mono ?_; rintro e w3 ⟨rfl, hz⟩; rw [hz]; clear hz w3)
    | fail)
  go_ret2
  exact ⟨rfl, L, HT1.out, HD1.out⟩
set_option maxRecDepth 100000 in
set_option maxHeartbeats 2000000 in
theorem call_write {W0 W : World} {L : Lay} {D : Dv} (h : Mine W0 W L D) (s : Stp) (hs : s.ok W0) (n1 : ¬ s.kind = 1) (n4 : ¬ s.kind = 4) (n5 : ¬ s.kind = 5) (n6 : ¬ s.kind = 6) (n7 : ¬ s.kind = 7) (n8 : ¬ s.kind = 8) (n9 : ¬ s.kind = 9) (hd : D.down = false) (hr : pickN s.i 5 < D.n) (few : D.pen.length < 1000000) (hcal : D.calls < 1000000000000) (hleft : D.left < 9223372036854775808) :
    Calls Try.prog 21 #[.pointer (some ⟨L.p, 0, none⟩), .agg (stC s).toArray] W fun e w' => e = .returned (.tuple #[.int .i64 (changedE D), .string ⟨([] : List UInt8).toArray⟩]) ∧ ∃ L', Turn W w' L L' ∧ Dev w' L' (changedD (pushD D (pickN s.i 5) (secL s.fill s.b))) := by
  obtain ⟨g0, hg0⟩ : ∃ g, W.heap.size = g := ⟨_, rfl⟩
  have be0 : Below W.heap.size W (W.alloc (.cells (stC s).toArray 53)) := below_new W _
  have b0 : Blk (W.alloc (.cells (stC s).toArray 53)) g0 (stC s) 53 := Blk.newAt hg0
  have h0 := h.below be0
  have hs0 := hs.below h.be
  have T0 : Turn W (W.alloc (.cells (stC s).toArray 53)) L L := ⟨Fx.of_below be0, fun k h => .inl h, rfl⟩
  have hFg : ∀ k, L.F k → k < g0 := fun k hk => by have := h.dev.lt k hk; omega
  replace hs0 := hs0.below be0
  obtain ⟨w0, hw0⟩ : ∃ w0, W.alloc (.cells (stC s).toArray 53) = w0 := ⟨_, rfl⟩
  rw [hw0] at be0 b0 h0 T0 hs0
  have c0 := (b0.cell 0).trans (show _ = some (.int .i64 s.kind) from rfl)
  have c2 := (b0.cell 2).trans (show _ = some (.int .i64 s.i) from rfl)
  have c3 := (b0.cell 3).trans (show _ = some (.int .u8 (s.fill.toNat : Int)) from rfl)
  have c4 := (b0.cell 4).trans (show _ = some s.vb from rfl)
  have hpk := hide (pick_any s.i 5 (by decide) (by decide) hs.ii w0)
  have hplt := pick_lt s.i 5 (by decide)
  have R5 : Hid (w0.rangeAt g0 5 (lossC s.vk s.torn s.off)) := hide (fun j v hj => by
    rw [b0.cell, ← hj]
    have hj3 : j < 3 := by have := (List.getElem?_eq_some_iff.1 hj).1; simpa [lossC] using this
    match j, hj3 with
    | 0, _ => rfl
    | 1, _ => rfl
    | 2, _ => rfl)
  obtain ⟨I, hI⟩ : ∃ I, pickN s.i 5 = I := ⟨_, rfl⟩
  rw [hI] at hpk hplt
  try rw [hI]
  rw [hI] at hr
  have hsc := sector_any s.fill s.vb s.b hs0.bl w0 hs0.hb
  have be1 : Below w0.heap.size w0 (w0.alloc (.cells ((secL s.fill s.b).map byt).toArray 5)) := below_new _ _
  have D1 := h0.dev.below be1
  have T1 : Turn W (w0.alloc (.cells ((secL s.fill s.b).map byt).toArray 5)) L L := T0.trans ⟨Fx.of_below be1, fun k h => .inl h, rfl⟩
  have hsx := has_sec w0 (secL s.fill s.b) (secL_length _ _)
  obtain ⟨w1, hw1⟩ : ∃ w1, w0.alloc (.cells ((secL s.fill s.b).map byt).toArray 5) = w1 := ⟨_, rfl⟩
  obtain ⟨g1, hg1⟩ : ∃ g1, w0.heap.size = g1 := ⟨_, rfl⟩
  rw [hw1] at D1 T1 hsc hsx
  rw [hg1] at hsc hsx
  have hwr := hide (write_ok D1 hd I hr (.slice (some ⟨g1, 0, none⟩) 512 512) (secL s.fill s.b) (secL_length _ _) hsx few hcal hleft)
  have HSC := hide hsc
  have HT2 := hide T1
  clear D1 T1 be1 hsc hw1 hg1 hsx
  obtain ⟨E, hE⟩ : ∃ E, changedE D = E := ⟨_, rfl⟩
  rw [hE] at hwr ⊢
  clear hE hr few hcal hleft
  have HT0 := hide T0
  have H0 := hide h0
  have HS0 := hide hs0
  have HB0 := hide b0
  clear T0 h0 hs0 b0 h hs be0 hI hplt
  go_enter Try.func21, Try.ntmps21
  go_wp2_with (first
    | (refine wpList_boxAt rfl 53 (.tmp 1) rfl (stC s) rfl g0 hg0 ?_; rw [hw0])
    | (go_at_call 9; refine hpk.out.mono ?_; rintro e w3 ⟨rfl, hz⟩; rw [hz]; clear hz w3)
    | (go_at_call 13; refine HSC.out.mono ?_; rintro e w3 ⟨rfl, hz⟩; rw [hz]; clear hz w3)
    | (go_at_call 12; refine hwr.out.mono ?_; rintro e w3 ⟨rfl, L2, hp, hq⟩; have HT1 := hide hp; have HD1 := hide hq; clear hp hq)
    | fail)
  go_ret2
  exact ⟨rfl, L2, HT2.out.trans HT1.out, HD1.out⟩
end Go.Proofs.Ythfcabhelldokaa
