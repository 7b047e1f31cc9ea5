import Derived.Test.YtnakeieeopbeiaaPw3
set_option linter.unusedVariables false
set_option linter.unusedSimpArgs false
namespace Go.Proofs.Ytnakeieeopbeiaa
open Go.RowKit

/-- Bit i of a key. -/
def kbit (k : List UInt8) (i : Nat) : Bool := decide ((k.getD (i / 8) 0).toNat / 2 ^ (i % 8) % 2 = 1)
/-- The power by the first j bits from above. -/
def powL (x : L5) (k : List UInt8) : Nat → L5
  | 0 => small 1#32
  | j + 1 => if kbit k (255 - j) = true then mulE (mulE (powL x k j) (powL x k j)) x else mulE (powL x k j) (powL x k j)

structure Pst (n : Nat) (w wx : World) (g : Nat) (x : L5) (k : List UInt8) (p : L5) : Prop where
  va : Blk wx n x.cs 27
  ke : Blk wx (n + 1) (k.map byt) 23
  re : Blk wx (n + 1 + 1) z5 27
  po : Blk wx g p.cs 27
  be : Below n w wx
  lt : n + 1 + 1 < g
theorem Pst.on {n : Nat} {w wx wy : World} {g : Nat} {x : L5} {k : List UInt8} {p : L5} (h : Pst n w wx g x k p) (hb : Below wx.heap.size wx wy) : Pst n w wy g x k p :=
  ⟨h.va.on hb, h.ke.on hb, h.re.on hb, h.po.on hb, h.be.trans (hb.mono (by have := h.va.lt; omega)), h.lt⟩
theorem Pst.put {n : Nat} {w wx : World} {g : Nat} {x : L5} {k : List UInt8} {p : L5} (h : Pst n w wx g x k p) (q : L5) : Pst n w (wx.setRow g q.cs.toArray) g x k q :=
  ⟨h.va.setRowOther _ _ (by have := h.lt; omega), h.ke.setRowOther _ _ (by have := h.lt; omega), h.re.setRowOther _ _ (by have := h.lt; omega), h.po.setRow _, below_setRow h.be _ _ (by have := h.lt; omega), h.lt⟩

theorem and1_of (m : Nat) (h : m < 256) : bits .and .u8 (m : Int) (1 : Int) = ((m % 2 : Nat) : Int) := by
  have h := (bits_nat .u8 8 (by decide) wraps_u8 m 1 h (by decide)).1
  have e : m &&& 1 = m % 2 := Nat.and_two_pow_sub_one_eq_mod m 1
  rw [← e]
  exact h

set_option maxRecDepth 100000 in
set_option maxHeartbeats 4000000 in
theorem pow_any (x : L5) (k : List UInt8) (hk : k.length = 32) (w : World) :
    Calls Try.prog 17 #[x.v, .agg (k.map byt).toArray] w fun e w' => e = .returned (powL x k 256).v ∧ Below w.heap.size w w' := by
  go_enter Try.func17, Try.ntmps17
  go_upto_region 1 with (first | (refine wpList_boxAt rfl 27 (.tmp 0) rfl (x.cs) rfl (w.heap.size) rfl ?_) | (refine wpList_boxAt rfl 23 (.tmp 1) rfl (k.map byt) rfl (w.heap.size + 1) (by simp) ?_) | (refine wpList_newAt rfl 27 rfl z5 zero27 (w.heap.size + 1 + 1) (by simp) ?_))
  have b0 : Blk (((w.alloc (.cells (x.cs).toArray 27)).alloc (.cells (k.map byt).toArray 23)).alloc (.cells (z5).toArray 27)) (w.heap.size) (x.cs) 27 := by
    have := ((Blk.new w (x.cs) 27).alloc (.cells (k.map byt).toArray 23)).alloc (.cells (z5).toArray 27)
    simpa using this
  have b1 : Blk (((w.alloc (.cells (x.cs).toArray 27)).alloc (.cells (k.map byt).toArray 23)).alloc (.cells (z5).toArray 27)) (w.heap.size + 1) (k.map byt) 23 := by
    have := (Blk.new (w.alloc (.cells (x.cs).toArray 27)) (k.map byt) 23).alloc (.cells (z5).toArray 27)
    simpa using this
  have b2 : Blk (((w.alloc (.cells (x.cs).toArray 27)).alloc (.cells (k.map byt).toArray 23)).alloc (.cells (z5).toArray 27)) (w.heap.size + 1 + 1) (z5) 27 := by
    have := Blk.new ((w.alloc (.cells (x.cs).toArray 27)).alloc (.cells (k.map byt).toArray 23)) (z5) 27
    simpa using this
  have be : Below w.heap.size w (((w.alloc (.cells (x.cs).toArray 27)).alloc (.cells (k.map byt).toArray 23)).alloc (.cells (z5).toArray 27)) := by go_grown
  generalize (((w.alloc (.cells (x.cs).toArray 27)).alloc (.cells (k.map byt).toArray 23)).alloc (.cells (z5).toArray 27)) = w1 at b0 b1 b2 be ⊢
  obtain ⟨n, hn⟩ : ∃ n, w.heap.size = n := ⟨_, rfl⟩
  rw [hn] at b0 b1 b2 be ⊢
  try simp only [Act.put, List.setIfInBounds_toArray, List.set_cons_zero, List.set_cons_succ]
  have hb2 := b2.lt
  refine lst_newT 1 rfl rfl rfl rfl 5 rfl 27 rfl z5 zero27 rfl rfl (.tmp 7) rfl ?_
  simp only [List.take_succ_cons, List.take_zero]
  refine wpLex_cons2 _ (uni_callF (by rfl) 14 [Operand.const (Value.int IntKind.u32 1)] #[34] rfl [Value.int IntKind.u32 1] ((small 1#32).v) rfl enter14 (fun W hW => small_any 1#32 W)) (by simp only [Act.put, List.setIfInBounds_toArray, List.set_cons_zero, List.set_cons_succ]; rfl) ?_
  refine ⟨(small 1#32).cs, rfl, by simp, by simp, cs_info _, cs_len _, cs_one _, fun gcp w2 hg hW cp => ?_⟩
  simp only [Act.put, List.setIfInBounds_toArray, List.set_cons_zero, List.set_cons_succ]
  replace b0 := b0.on hW
  replace b1 := b1.on hW
  replace b2 := b2.on hW
  replace be := be.trans (hW.mono (by have := be.size; omega))
  have hlt : n + 1 + 1 < gcp := Nat.lt_of_lt_of_le hb2 hg
  clear hb2
  clear hW hg w1
  have h0 : Hid (Pst n w w2 gcp x k (powL x k 0)) := ⟨b0, b1, b2, cp, be, hlt⟩
  clear b0 b1 b2 cp be
  have HK := hide hk
  clear hk
  go_wp2
  go_loopw [6] (fun i wr => ∃ j : Nat, j ≤ 256 ∧ i = .int .i64 (255 - (j : Int)) ∧ Hid (Pst n w wr gcp x k (powL x k j))) (fun i _ => ((intOf i) + 1).toNat)
  case atStart => exact ⟨0, by omega, rfl, h0⟩
  case round =>
    obtain ⟨j, hj, rfl, hs⟩ := hrel
    have hpe : Hid (powL x k (j + 1) = if kbit k (255 - j) = true then mulE (mulE (powL x k j) (powL x k j)) x else mulE (powL x k j) (powL x k j)) := by rw [powL]; exact hide rfl
    obtain ⟨p, hp⟩ : ∃ p, powL x k j = p := ⟨_, rfl⟩
    have HP := hide hp
    rw [hp] at hs hpe
    clear hp
    by_cases hlt2 : j < 256
    · obtain ⟨b, hb⟩ : ∃ b, b = 255 - j := ⟨_, rfl⟩
      have hbi : (255 : Int) - (j : Int) = (b : Int) := by omega
      rw [← hb] at hpe
      rw [hbi]
      have hb6 : b < 256 := by omega
      clear hbi
      obtain ⟨q, hq⟩ : ∃ q, q = b / 8 := ⟨_, rfl⟩
      obtain ⟨r, hr⟩ : ∃ r, r = b % 8 := ⟨_, rfl⟩
      have hkb : Hid (kbit k b = decide ((k.getD q 0).toNat / 2 ^ r % 2 = 1)) := by rw [hq, hr]; exact hide rfl
      have q1 : (b : Int).tdiv 8 = (q : Int) := by rw [Int.tdiv_eq_ediv_of_nonneg (by omega)]; omega
      have q2 : (b : Int) / 8 = (q : Int) := by omega
      have q3 : (b : Int).tmod 8 = (r : Int) := by rw [Int.tmod_eq_emod_of_nonneg (by omega)]; omega
      have q4 : (b : Int) % 8 = (r : Int) := by omega
      have hq32 : (q : Int) < 32 := by omega
      have hr8 : r < 8 := by omega
      have hge : (0 : Int) ≤ (b : Int) := by omega
      obtain ⟨u, hu⟩ : ∃ u, k.getD q 0 = u := ⟨_, rfl⟩
      rw [hu] at hkb
      have hcell : ∀ W, Below wr.heap.size wr W → (W.setRow gcp (mulE p p).cs.toArray).cell? ⟨n + 1, q, none⟩ = some (.int .u8 (u.toNat : Int)) := fun W hW => by
        rw [((hs.out.on hW).put _).ke.cell, byts_at k q (by rw [HK.out]; omega), hu]
      obtain ⟨m, hm⟩ : ∃ m, m = u.toNat / 2 ^ r := ⟨_, rfl⟩
      have hm6 : m < 256 := by
        rw [hm]
        exact Nat.lt_of_le_of_lt (Nat.div_le_self _ _) u.toNat_lt
      have e1 : (u.toNat : Int) / 2 ^ r = (m : Int) := by
        rw [hm, Int.natCast_ediv, Int.natCast_pow]
        rfl
      have e2 := and1_of m hm6
      rw [← hm] at hkb
      have HB := hide hb
      have HQ := hide hq
      have HRR := hide hr
      clear hb hq hr hu hm hm6
      by_cases hbit : m % 2 = 1
      · have hk1 : kbit k b = true := by rw [hkb.out]; exact decide_eq_true hbit
        have hpe2 : Hid (powL x k (j + 1) = mulE (mulE p p) x) := by have h := hpe.out; rw [hk1] at h; simp at h; exact h
        rw [hbit] at e2
        clear hpe hkb hk1 hbit
        go_wp2_with (first | (refine wpList_load_row rfl 27 (.tmp 5) rfl gcp rfl 27 p.cs.toArray (0, 0) _ hs.out.po Try.underlying27 rfl (cs_infoA _) ?_) | (go_at_call 20; refine (square_any p _).mono ?_; rintro e w3 ⟨rfl, hb3⟩; have B3 := hide hb3; clear hb3; have hc := hcell w3 B3.out; clear hcell) | (refine wpList_store_row rfl 27 (.tmp 5) (.tmp 13) rfl gcp (mulE p p).cs.toArray rfl rfl 27 p.cs.toArray (hs.out.on B3.out).po (cs_infoA _) (cs_sz _ _) (cs_one _) ?_) | (refine wpList_load_row rfl 27 (.tmp 5) rfl gcp rfl 27 (mulE p p).cs.toArray (0, 0) _ ((hs.out.on B3.out).put _).po Try.underlying27 rfl (cs_infoA _) ?_) | (refine wpList_load_row rfl 27 (.tmp 2) rfl n rfl 27 x.cs.toArray (0, 0) _ ((hs.out.on B3.out).put _).va Try.underlying27 rfl (cs_infoA _) ?_) | (go_at_call 16; refine (mul_any (mulE p p) x _).mono ?_; rintro e w4 ⟨rfl, hb4⟩; have B4 := hide hb4; clear hb4) | (refine wpList_store_row rfl 27 (.tmp 5) (.tmp 25) rfl gcp (mulE (mulE p p) x).cs.toArray rfl rfl 27 (mulE p p).cs.toArray (((hs.out.on B3.out).put _).on B4.out).po (cs_infoA _) (cs_sz _ _) (cs_one _) ?_))
        go_roundw
        case rel =>
          refine ⟨j + 1, by omega, by have hbb := HB.out; go_num, ?_⟩
          rw [hpe2.out]
          exact (((hs.out.on B3.out).put _).on B4.out).put _
        case measure => simp [intOf] <;> omega
      · have hk1 : kbit k b = false := by rw [hkb.out]; exact decide_eq_false hbit
        have hpe2 : Hid (powL x k (j + 1) = mulE p p) := by have h := hpe.out; rw [hk1] at h; simp at h; exact h
        have hz : m % 2 = 0 := by omega
        rw [hz] at e2
        clear hpe hkb hk1 hbit hz
        go_wp2_with (first | (refine wpList_load_row rfl 27 (.tmp 5) rfl gcp rfl 27 p.cs.toArray (0, 0) _ hs.out.po Try.underlying27 rfl (cs_infoA _) ?_) | (go_at_call 20; refine (square_any p _).mono ?_; rintro e w3 ⟨rfl, hb3⟩; have B3 := hide hb3; clear hb3; have hc := hcell w3 B3.out; clear hcell) | (refine wpList_store_row rfl 27 (.tmp 5) (.tmp 13) rfl gcp (mulE p p).cs.toArray rfl rfl 27 p.cs.toArray (hs.out.on B3.out).po (cs_infoA _) (cs_sz _ _) (cs_one _) ?_))
        go_roundw
        case rel =>
          refine ⟨j + 1, by omega, by have hbb := HB.out; go_num, ?_⟩
          rw [hpe2.out]
          exact (hs.out.on B3.out).put _
        case measure => simp [intOf] <;> omega
    · obtain rfl : j = 256 := by omega
      clear hpe
      go_wp2_with (first | (refine wpList_load_row rfl 27 (.tmp 5) rfl gcp rfl 27 p.cs.toArray (0, 0) _ hs.out.po Try.underlying27 rfl (cs_infoA _) ?_) | (refine wpList_store_row rfl 27 (.tmp 4) (.tmp 26) rfl (n + 1 + 1) p.cs.toArray rfl rfl 27 z5.toArray hs.out.re (cs_infoA _) (cs_size _) (cs_one _) ?_))
      refine bodyPost_ret (results_cell_row Try.results17 _ _ (n + 1 + 1) 27 p.cs.toArray (0, 0) _ rfl (hs.out.re.setRow _) Try.underlying27 rfl (cs_infoA _)) rfl ?_
      exact ⟨by rw [HP.out]; rfl, by rw [hn]; exact below_setRow hs.out.be _ _ (by omega)⟩

end Go.Proofs.Ytnakeieeopbeiaa
