import Derived.Test.YtnakeieeopbeiaaEqG
import Derived.Test.YtnakeieeopbeiaaNum4
import Derived.Test.YtnakeieeopbeiaaRt
import Derived.Test.YtnakeieeopbeiaaPw3
set_option linter.unusedVariables false
set_option linter.unusedSimpArgs false
namespace Go.Proofs.Ytnakeieeopbeiaa
open Go.RowKit Prm

theorem P_lt (a : Nat) : a % P < 115792089237316195423570985008687907853269984665640564039457584007913129639936 := Nat.lt_of_lt_of_le (Nat.mod_lt _ (by decide)) (by decide)
theorem eq_of {x y : L5} (hx : x.Ok) (hy : y.Ok) (h : x.val % P = y.val % P) : eqE x y = true := by
  unfold eqE
  rw [tell_is x hx, tell_is y hy, h]
  simp
theorem ne_of {x y : L5} (hx : x.Ok) (hy : y.Ok) (h : x.val % P ≠ y.val % P) : eqE x y = false := by
  unfold eqE
  rw [tell_is x hx, tell_is y hy]
  exact decide_eq_false fun hh => h (nb_inj (P_lt _) (P_lt _) hh)
theorem eq_is {x y : L5} (hx : x.Ok) (hy : y.Ok) : eqE x y = decide (x.val % P = y.val % P) := by
  by_cases h : x.val % P = y.val % P
  · rw [eq_of hx hy h, decide_eq_true h]
  · rw [ne_of hx hy h, decide_eq_false h]
theorem equalT {x y : L5} (h : eqE x y = true) (w : World) : Calls Try.prog 12 #[x.v, y.v] w fun e w' => e = .returned (.bool true) ∧ Below w.heap.size w w' := by
  have := equalE x y w
  rwa [h] at this
theorem equalF {x y : L5} (h : eqE x y = false) (w : World) : Calls Try.prog 12 #[x.v, y.v] w fun e w' => e = .returned (.bool false) ∧ Below w.heap.size w w' := by
  have := equalE x y w
  rwa [h] at this

theorem mul_mod_r {m k : Nat} (a : Nat) (h : m % P = k % P) : a * m % P = a * k % P := by rw [Nat.mul_mod, h, ← Nat.mul_mod]
theorem mul_mod_l {m k : Nat} (a : Nat) (h : m % P = k % P) : m * a % P = k * a % P := by rw [Nat.mul_mod, h, ← Nat.mul_mod]
theorem mul_mod2 {m k m' k' : Nat} (h : m % P = k % P) (h' : m' % P = k' % P) : m * m' % P = k * k' % P := by rw [Nat.mul_mod, h, h', ← Nat.mul_mod]
theorem add_mod2 {m k m' k' : Nat} (h : m % P = k % P) (h' : m' % P = k' % P) : (m + m') % P = (k + k') % P := by rw [Nat.add_mod, h, h', ← Nat.add_mod]
theorem mod_cancel {u v z : Nat} (h : (u + z) % P = (v + z) % P) : u % P = v % P := by unfold P at *; omega

theorem small_val (n : BitVec 32) : (small n).val = n.toNat := by
  have := n.isLt
  unfold small L5.val
  have z : (0 : BitVec 64).toNat = 0 := rfl
  simp only [BitVec.toNat_setWidth, z]
  omega
theorem small_ok (n : BitVec 32) : (small n).Ok := by
  have := n.isLt
  have z : (0 : BitVec 64).toNat = 0 := rfl
  refine ⟨?_, ?_, ?_, ?_, ?_⟩ <;> simp only [small, BitVec.toNat_setWidth, z] <;> omega
theorem zero_val : zeroE.val = 0 := rfl
theorem zero_ok : zeroE.Ok := by
  have z : (0 : BitVec 64).toNat = 0 := rfl
  refine ⟨?_, ?_, ?_, ?_, ?_⟩ <;> simp only [zeroE, z] <;> omega

theorem ring1 {a b : L5} (ha : a.Ok) (hb : b.Ok) : eqE (addE a b) (addE b a) = true := eq_of (add_ok _ _) (add_ok _ _) (by rw [add_val a b ha hb, add_val b a hb ha, Nat.add_comm])
theorem ring3 {a b : L5} (ha : a.Ok) (hb : b.Ok) : eqE (mulE a b) (mulE b a) = true := eq_of (mul_ok _ _) (mul_ok _ _) (by rw [mul_val a b ha hb, mul_val b a hb ha, Nat.mul_comm])
theorem ring2 {a b c : L5} (ha : a.Ok) (hb : b.Ok) (hc : c.Ok) : eqE (addE a (addE b c)) (addE (addE a b) c) = true := eq_of (add_ok _ _) (add_ok _ _) (by
  rw [add_val a _ ha (add_ok _ _), add_val _ c (add_ok _ _) hc, add_mod2 rfl (add_val b c hb hc), add_mod2 (add_val a b ha hb) rfl, Nat.add_assoc])
theorem ring4 {a b c : L5} (ha : a.Ok) (hb : b.Ok) (hc : c.Ok) : eqE (mulE a (mulE b c)) (mulE (mulE a b) c) = true := eq_of (mul_ok _ _) (mul_ok _ _) (by
  rw [mul_val a _ ha (mul_ok _ _), mul_val _ c (mul_ok _ _) hc, mul_mod_r a.val (mul_val b c hb hc), mul_mod_l c.val (mul_val a b ha hb), Nat.mul_assoc])
theorem ring5 {a b c : L5} (ha : a.Ok) (hb : b.Ok) (hc : c.Ok) : eqE (mulE a (addE b c)) (addE (mulE a b) (mulE a c)) = true := eq_of (mul_ok _ _) (add_ok _ _) (by
  rw [mul_val a _ ha (add_ok _ _), add_val _ _ (mul_ok _ _) (mul_ok _ _), mul_mod_r a.val (add_val b c hb hc), add_mod2 (mul_val a b ha hb) (mul_val a c ha hc), Nat.mul_add])
theorem ring6 {a b c : L5} (ha : a.Ok) (hb : b.Ok) (hc : c.Ok) : eqE (mulE a (subE b c)) (subE (mulE a b) (mulE a c)) = true := eq_of (mul_ok _ _) (sub_ok _ _) (by
  refine mod_cancel (z := (mulE a c).val) ?_
  rw [sub_val (mulE a b) (mulE a c) (mul_ok _ _) (mul_ok _ _), add_mod2 (mul_val a _ ha (sub_ok b c)) (mul_val a c ha hc), ← Nat.mul_add, mul_mod_r a.val (sub_val b c hb hc), mul_val a b ha hb])
theorem ring7 {a : L5} (ha : a.Ok) : eqE (addE a zeroE) a = true := eq_of (add_ok _ _) ha (by rw [add_val a _ ha zero_ok, zero_val, Nat.add_zero])
theorem ring8 {a : L5} (ha : a.Ok) : eqE (mulE a (small 1#32)) a = true := eq_of (mul_ok _ _) ha (by rw [mul_val a _ ha (small_ok _), small_val]; simp)
theorem ring9 {a : L5} (ha : a.Ok) : eqE (mulE a zeroE) zeroE = true := eq_of (mul_ok _ _) zero_ok (by rw [mul_val a _ ha zero_ok, zero_val, Nat.mul_zero])
theorem ring11 {a : L5} (ha : a.Ok) : eqE (subE a a) zeroE = true := eq_of (sub_ok _ _) zero_ok (by
  refine mod_cancel (z := a.val) ?_
  rw [sub_val a a ha ha, zero_val, Nat.zero_add])
theorem ring10 {a b : L5} (ha : a.Ok) (hb : b.Ok) : eqE (addE (subE a b) b) a = true := eq_of (add_ok _ _) ha (by rw [add_val _ b (sub_ok _ _) hb, sub_val a b ha hb])
theorem ring12 (x : L5) : eqE x x = true := by unfold eqE; simp
theorem ring13 : eqE (small 1#32) zeroE = false := ne_of (small_ok _) zero_ok (by rw [small_val, zero_val]; decide)
theorem ring14 : eqE zeroE (small 0#32) = true := eq_of zero_ok (small_ok _) (by rw [small_val, zero_val]; rfl)
end Go.Proofs.Ytnakeieeopbeiaa

set_option linter.unusedVariables false
set_option linter.unusedSimpArgs false
namespace Go.Proofs.Ytnakeieeopbeiaa
open Go.RowKit

/-- Bit i of a key. -/
def kbit (k : List UInt8) (i : Nat) : Bool := decide ((k.getD (i / 8) 0).toNat / 2 ^ (i % 8) % 2 = 1)
/-- The power by the first j bits from above. -/
def powL (x : L5) (k : List UInt8) : Nat → L5
  | 0 => small 1#32
  | j + 1 => if kbit k (255 - j) = true then mulE (mulE (powL x k j) (powL x k j)) x else mulE (powL x k j) (powL x k j)

structure Pst (n : Nat) (w wx : World) (g : Nat) (x : L5) (k : List UInt8) (p : L5) : Prop where
  va : Blk wx n x.cs 27
  ke : Blk wx (n + 1) (k.map byt) 23
  re : Blk wx (n + 1 + 1) z5 27
  po : Blk wx g p.cs 27
  be : Below n w wx
  lt : n + 1 + 1 < g
theorem Pst.on {n : Nat} {w wx wy : World} {g : Nat} {x : L5} {k : List UInt8} {p : L5} (h : Pst n w wx g x k p) (hb : Below wx.heap.size wx wy) : Pst n w wy g x k p :=
  ⟨h.va.on hb, h.ke.on hb, h.re.on hb, h.po.on hb, h.be.trans (hb.mono (by have := h.va.lt; omega)), h.lt⟩
theorem Pst.put {n : Nat} {w wx : World} {g : Nat} {x : L5} {k : List UInt8} {p : L5} (h : Pst n w wx g x k p) (q : L5) : Pst n w (wx.setRow g q.cs.toArray) g x k q :=
  ⟨h.va.setRowOther _ _ (by have := h.lt; omega), h.ke.setRowOther _ _ (by have := h.lt; omega), h.re.setRowOther _ _ (by have := h.lt; omega), h.po.setRow _, below_setRow h.be _ _ (by have := h.lt; omega), h.lt⟩

theorem and1_of (m : Nat) (h : m < 256) : bits .and .u8 (m : Int) (1 : Int) = ((m % 2 : Nat) : Int) := by
  have h := (bits_nat .u8 8 (by decide) wraps_u8 m 1 h (by decide)).1
  have e : m &&& 1 = m % 2 := Nat.and_two_pow_sub_one_eq_mod m 1
  rw [← e]
  exact h

set_option maxRecDepth 100000 in
set_option maxHeartbeats 4000000 in
theorem pow_any (x : L5) (k : List UInt8) (hk : k.length = 32) (w : World) :
    Calls Try.prog 17 #[x.v, .agg (k.map byt).toArray] w fun e w' => e = .returned (powL x k 256).v ∧ Below w.heap.size w w' := by
  go_enter Try.func17, Try.ntmps17
  go_upto_region 1 with (first | (refine wpList_boxAt rfl 27 (.tmp 0) rfl (x.cs) rfl (w.heap.size) rfl ?_) | (refine wpList_boxAt rfl 23 (.tmp 1) rfl (k.map byt) rfl (w.heap.size + 1) (by simp) ?_) | (refine wpList_newAt rfl 27 rfl z5 zero27 (w.heap.size + 1 + 1) (by simp) ?_))
  have b0 : Blk (((w.alloc (.cells (x.cs).toArray 27)).alloc (.cells (k.map byt).toArray 23)).alloc (.cells (z5).toArray 27)) (w.heap.size) (x.cs) 27 := by
    have := ((Blk.new w (x.cs) 27).alloc (.cells (k.map byt).toArray 23)).alloc (.cells (z5).toArray 27)
    simpa using this
  have b1 : Blk (((w.alloc (.cells (x.cs).toArray 27)).alloc (.cells (k.map byt).toArray 23)).alloc (.cells (z5).toArray 27)) (w.heap.size + 1) (k.map byt) 23 := by
    have := (Blk.new (w.alloc (.cells (x.cs).toArray 27)) (k.map byt) 23).alloc (.cells (z5).toArray 27)
    simpa using this
  have b2 : Blk (((w.alloc (.cells (x.cs).toArray 27)).alloc (.cells (k.map byt).toArray 23)).alloc (.cells (z5).toArray 27)) (w.heap.size + 1 + 1) (z5) 27 := by
    have := Blk.new ((w.alloc (.cells (x.cs).toArray 27)).alloc (.cells (k.map byt).toArray 23)) (z5) 27
    simpa using this
  have be : Below w.heap.size w (((w.alloc (.cells (x.cs).toArray 27)).alloc (.cells (k.map byt).toArray 23)).alloc (.cells (z5).toArray 27)) := by go_grown
  generalize (((w.alloc (.cells (x.cs).toArray 27)).alloc (.cells (k.map byt).toArray 23)).alloc (.cells (z5).toArray 27)) = w1 at b0 b1 b2 be ⊢
  obtain ⟨n, hn⟩ : ∃ n, w.heap.size = n := ⟨_, rfl⟩
  rw [hn] at b0 b1 b2 be ⊢
  try simp only [Act.put, List.setIfInBounds_toArray, List.set_cons_zero, List.set_cons_succ]
  have hb2 := b2.lt
  refine lst_newT 1 rfl rfl rfl rfl 5 rfl 27 rfl z5 zero27 rfl rfl (.tmp 7) rfl ?_
  simp only [List.take_succ_cons, List.take_zero]
  refine wpLex_cons2 _ (uni_callF (by rfl) 14 [Operand.const (Value.int IntKind.u32 1)] #[34] rfl [Value.int IntKind.u32 1] ((small 1#32).v) rfl enter14 (fun W hW => small_any 1#32 W)) (by simp only [Act.put, List.setIfInBounds_toArray, List.set_cons_zero, List.set_cons_succ]; rfl) ?_
  refine ⟨(small 1#32).cs, rfl, by simp, by simp, cs_info _, cs_len _, cs_one _, fun gcp w2 hg hW cp => ?_⟩
  simp only [Act.put, List.setIfInBounds_toArray, List.set_cons_zero, List.set_cons_succ]
  replace b0 := b0.on hW
  replace b1 := b1.on hW
  replace b2 := b2.on hW
  replace be := be.trans (hW.mono (by have := be.size; omega))
  have hlt : n + 1 + 1 < gcp := Nat.lt_of_lt_of_le hb2 hg
  clear hb2
  clear hW hg w1
  have h0 : Hid (Pst n w w2 gcp x k (powL x k 0)) := ⟨b0, b1, b2, cp, be, hlt⟩
  clear b0 b1 b2 cp be
  have HK := hide hk
  clear hk
  go_wp2
  go_loopw [6] (fun i wr => ∃ j : Nat, j ≤ 256 ∧ i = .int .i64 (255 - (j : Int)) ∧ Hid (Pst n w wr gcp x k (powL x k j))) (fun i _ => ((intOf i) + 1).toNat)
  case atStart => exact ⟨0, by omega, rfl, h0⟩
  case round =>
    obtain ⟨j, hj, rfl, hs⟩ := hrel
    have hpe : Hid (powL x k (j + 1) = if kbit k (255 - j) = true then mulE (mulE (powL x k j) (powL x k j)) x else mulE (powL x k j) (powL x k j)) := by rw [powL]; exact hide rfl
    obtain ⟨p, hp⟩ : ∃ p, powL x k j = p := ⟨_, rfl⟩
    have HP := hide hp
    rw [hp] at hs hpe
    clear hp
    by_cases hlt2 : j < 256
    · obtain ⟨b, hb⟩ : ∃ b, b = 255 - j := ⟨_, rfl⟩
      have hbi : (255 : Int) - (j : Int) = (b : Int) := by omega
      rw [← hb] at hpe
      rw [hbi]
      have hb6 : b < 256 := by omega
      clear hbi
      obtain ⟨q, hq⟩ : ∃ q, q = b / 8 := ⟨_, rfl⟩
      obtain ⟨r, hr⟩ : ∃ r, r = b % 8 := ⟨_, rfl⟩
      have hkb : Hid (kbit k b = decide ((k.getD q 0).toNat / 2 ^ r % 2 = 1)) := by rw [hq, hr]; exact hide rfl
      have q1 : (b : Int).tdiv 8 = (q : Int) := by rw [Int.tdiv_eq_ediv_of_nonneg (by omega)]; omega
      have q2 : (b : Int) / 8 = (q : Int) := by omega
      have q3 : (b : Int).tmod 8 = (r : Int) := by rw [Int.tmod_eq_emod_of_nonneg (by omega)]; omega
      have q4 : (b : Int) % 8 = (r : Int) := by omega
      have hq32 : (q : Int) < 32 := by omega
      have hr8 : r < 8 := by omega
      have hge : (0 : Int) ≤ (b : Int) := by omega
      obtain ⟨u, hu⟩ : ∃ u, k.getD q 0 = u := ⟨_, rfl⟩
      rw [hu] at hkb
      have hcell : ∀ W, Below wr.heap.size wr W → (W.setRow gcp (mulE p p).cs.toArray).cell? ⟨n + 1, q, none⟩ = some (.int .u8 (u.toNat : Int)) := fun W hW => by
        rw [((hs.out.on hW).put _).ke.cell, byts_at k q (by rw [HK.out]; omega), hu]
      obtain ⟨m, hm⟩ : ∃ m, m = u.toNat / 2 ^ r := ⟨_, rfl⟩
      have hm6 : m < 256 := by
        rw [hm]
        exact Nat.lt_of_le_of_lt (Nat.div_le_self _ _) u.toNat_lt
      have e1 : (u.toNat : Int) / 2 ^ r = (m : Int) := by
        rw [hm, Int.natCast_ediv, Int.natCast_pow]
        rfl
      have e2 := and1_of m hm6
      rw [← hm] at hkb
      have HB := hide hb
      have HQ := hide hq
      have HRR := hide hr
      clear hb hq hr hu hm hm6
      by_cases hbit : m % 2 = 1
      · have hk1 : kbit k b = true := by rw [hkb.out]; exact decide_eq_true hbit
        have hpe2 : Hid (powL x k (j + 1) = mulE (mulE p p) x) := by have h := hpe.out; rw [hk1] at h; simp at h; exact h
        rw [hbit] at e2
        clear hpe hkb hk1 hbit
        go_wp2_with (first | (refine wpList_load_row rfl 27 (.tmp 5) rfl gcp rfl 27 p.cs.toArray (0, 0) _ hs.out.po Try.underlying27 rfl (cs_infoA _) ?_) | (go_at_call 20; refine (square_any p _).mono ?_; rintro e w3 ⟨rfl, hb3⟩; have B3 := hide hb3; clear hb3; have hc := hcell w3 B3.out; clear hcell) | (refine wpList_store_row rfl 27 (.tmp 5) (.tmp 13) rfl gcp (mulE p p).cs.toArray rfl rfl 27 p.cs.toArray (hs.out.on B3.out).po (cs_infoA _) (cs_sz _ _) (cs_one _) ?_) | (refine wpList_load_row rfl 27 (.tmp 5) rfl gcp rfl 27 (mulE p p).cs.toArray (0, 0) _ ((hs.out.on B3.out).put _).po Try.underlying27 rfl (cs_infoA _) ?_) | (refine wpList_load_row rfl 27 (.tmp 2) rfl n rfl 27 x.cs.toArray (0, 0) _ ((hs.out.on B3.out).put _).va Try.underlying27 rfl (cs_infoA _) ?_) | (go_at_call 16; refine (mul_any (mulE p p) x _).mono ?_; rintro e w4 ⟨rfl, hb4⟩; have B4 := hide hb4; clear hb4) | (refine wpList_store_row rfl 27 (.tmp 5) (.tmp 25) rfl gcp (mulE (mulE p p) x).cs.toArray rfl rfl 27 (mulE p p).cs.toArray (((hs.out.on B3.out).put _).on B4.out).po (cs_infoA _) (cs_sz _ _) (cs_one _) ?_))
        go_roundw
        case rel =>
          refine ⟨j + 1, by omega, by have hbb := HB.out; go_num, ?_⟩
          rw [hpe2.out]
          exact (((hs.out.on B3.out).put _).on B4.out).put _
        case measure => simp [intOf] <;> omega
      · have hk1 : kbit k b = false := by rw [hkb.out]; exact decide_eq_false hbit
        have hpe2 : Hid (powL x k (j + 1) = mulE p p) := by have h := hpe.out; rw [hk1] at h; simp at h; exact h
        have hz : m % 2 = 0 := by omega
        rw [hz] at e2
        clear hpe hkb hk1 hbit hz
        go_wp2_with (first | (refine wpList_load_row rfl 27 (.tmp 5) rfl gcp rfl 27 p.cs.toArray (0, 0) _ hs.out.po Try.underlying27 rfl (cs_infoA _) ?_) | (go_at_call 20; refine (square_any p _).mono ?_; rintro e w3 ⟨rfl, hb3⟩; have B3 := hide hb3; clear hb3; have hc := hcell w3 B3.out; clear hcell) | (refine wpList_store_row rfl 27 (.tmp 5) (.tmp 13) rfl gcp (mulE p p).cs.toArray rfl rfl 27 p.cs.toArray (hs.out.on B3.out).po (cs_infoA _) (cs_sz _ _) (cs_one _) ?_))
        go_roundw
        case rel =>
          refine ⟨j + 1, by omega, by have hbb := HB.out; go_num, ?_⟩
          rw [hpe2.out]
          exact (hs.out.on B3.out).put _
        case measure => simp [intOf] <;> omega
    · obtain rfl : j = 256 := by omega
      clear hpe
      go_wp2_with (first | (refine wpList_load_row rfl 27 (.tmp 5) rfl gcp rfl 27 p.cs.toArray (0, 0) _ hs.out.po Try.underlying27 rfl (cs_infoA _) ?_) | (refine wpList_store_row rfl 27 (.tmp 4) (.tmp 26) rfl (n + 1 + 1) p.cs.toArray rfl rfl 27 z5.toArray hs.out.re (cs_infoA _) (cs_size _) (cs_one _) ?_))
      refine bodyPost_ret (results_cell_row Try.results17 _ _ (n + 1 + 1) 27 p.cs.toArray (0, 0) _ rfl (hs.out.re.setRow _) Try.underlying27 rfl (cs_infoA _)) rfl ?_
      exact ⟨by rw [HP.out]; rfl, by rw [hn]; exact below_setRow hs.out.be _ _ (by omega)⟩

end Go.Proofs.Ytnakeieeopbeiaa
