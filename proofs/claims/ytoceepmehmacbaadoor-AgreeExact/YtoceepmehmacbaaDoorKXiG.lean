import Derived.Test.YtoceepmehmacbaaDoorKXbG
set_option linter.unusedVariables false
set_option linter.unusedSimpArgs false
namespace Go.Proofs.YtoceepmehmacbaaDoor.Cv
open Go.RowKit

/-- Digit by digit: F of the place. -/
def upL (a : List Nat) (F : Nat → Nat) : Nat → List Nat
  | 0 => a
  | i + 1 => (upL a F i).set i (F i)
theorem up_len (a : List Nat) (F : Nat → Nat) : ∀ i, (upL a F i).length = a.length
  | 0 => rfl
  | i + 1 => by rw [upL, List.length_set, up_len a F i]
theorem up_at (a : List Nat) (F : Nat → Nat) : ∀ i j, i ≤ j → (upL a F i).getD j 0 = a.getD j 0
  | 0, _, _ => rfl
  | i + 1, j, h => by rw [upL, setD_at _ _ _ _ (by omega), up_at a F i j (by omega)]
theorem up_in (a : List Nat) (F : Nat → Nat) (n : Nat) (ha : a.length = n) : ∀ i, i ≤ n → ∀ j, j < i → (upL a F i).getD j 0 = F j
  | 0, _, j, h => by omega
  | i + 1, hi, j, h => by
    rw [upL]
    by_cases hq : i = j
    · subst hq
      rw [setD_in _ _ _ (by rw [up_len]; omega)]
    · rw [setD_at _ _ _ _ hq, up_in a F n ha i (by omega) j (by omega)]
theorem getD_out (t : List Nat) (i : Nat) (h : t.length ≤ i) : t.getD i 0 = 0 := by
  rw [List.getD_eq_getElem?_getD, List.getElem?_eq_none h]; rfl
structure Ari (n : Nat) (w wx : World) (a b : List Nat) : Prop where
  va : Blk wx n (a.map dg) 134
  vb : Blk wx (n + 1) (b.map dg) 134
  re : Blk wx (n + 1 + 1) (z10n.map dg) 134
  be : Below n w wx
theorem Ari.drew {n : Nat} {w wx : World} {a b : List Nat} (h : Ari n w wx a b) : Ari n w wx.drew a b := ⟨h.va.drew, h.vb.drew, h.re.drew, h.be.drew⟩
theorem Ari.set {n : Nat} {w wx : World} {a b : List Nat} (h : Ari n w wx a b) (j x : Nat) : Ari n w (wx.setCell ⟨n, j, none⟩ (.int .i64 (x : Int))) (a.set j x) b :=
  ⟨by rw [← dgs_set]; exact h.va.set j _, h.vb.setOther _ _ _ (by omega), h.re.setOther _ _ _ (by omega), h.be.setCell (by simp) _⟩

set_option maxRecDepth 100000 in
set_option maxHeartbeats 4000000 in
theorem add_walk (a b r : List Nat) (ha : Dg a) (hb : Dg b)
    (c1 : ∀ W, Calls Tryd.prog 88 #[num (upL a (fun i => a.getD i 0 + b.getD i 0) 10)] W fun e w' => e = .returned (num r) ∧ Below W.heap.size W w') (lr : r.length = 10) (w : World) :
    Calls Tryd.prog 80 #[num a, num b] w fun e w' => e = .returned (num r) ∧ Below w.heap.size w w' := by
  have la := ha.len
  have lb := hb.len
  have HA := hide ha.lt
  have HB := hide hb.lt
  clear ha hb
  go_enter Tryd.func80, Tryd.ntmps80
  go_upto_region 1 with (first | (refine wpList_boxAt rfl 134 (.tmp 0) rfl (a.map dg) rfl (w.heap.size) rfl ?_) | (refine wpList_boxAt rfl 134 (.tmp 1) rfl (b.map dg) rfl (w.heap.size + 1) (size1 _ _) ?_) | (refine wpList_newAt rfl 134 rfl (z10n.map dg) zero75 (w.heap.size + 1 + 1) (size2 _ _ _) ?_))
  have h0 : Hid (Ari w.heap.size w (((w.alloc (.cells (a.map dg).toArray 134)).alloc (.cells (b.map dg).toArray 134)).alloc (.cells (z10n.map dg).toArray 134)) (upL a (fun i => a.getD i 0 + b.getD i 0) 0) b) := by
    refine ⟨((Blk.new _ _ _).alloc _).alloc _, ?_, ?_, by go_grown⟩
    · have := (Blk.new (w.alloc (.cells (a.map dg).toArray 134)) (b.map dg) 134).alloc (.cells (z10n.map dg).toArray 134)
      simpa using this
    · have := Blk.new ((w.alloc (.cells (a.map dg).toArray 134)).alloc (.cells (b.map dg).toArray 134)) (z10n.map dg) 134
      simpa using this
  generalize ((w.alloc (.cells (a.map dg).toArray 134)).alloc (.cells (b.map dg).toArray 134)).alloc (.cells (z10n.map dg).toArray 134) = w1 at h0 ⊢
  obtain ⟨n, hn⟩ : ∃ n, w.heap.size = n := ⟨_, rfl⟩
  rw [hn] at h0 ⊢
  have HC := hide c1
  clear c1
  go_wp2
  go_loopw [5] (fun i wr => ∃ t : Nat, t ≤ 10 ∧ i = .int .i64 t ∧ Hid (Ari n w wr (upL a (fun i => a.getD i 0 + b.getD i 0) t) b)) (fun i _ => 10 - (intOf i).toNat)
  case atStart => exact ⟨0, by omega, rfl, h0⟩
  case round =>
    obtain ⟨t, ht, rfl, hs⟩ := hrel
    have hlen := up_len a (fun i => a.getD i 0 + b.getD i 0) t
    have hat := up_at a (fun i => a.getD i 0 + b.getD i 0) t t (Nat.le_refl _)
    have hup : Hid (upL a (fun i => a.getD i 0 + b.getD i 0) (t + 1) = (upL a (fun i => a.getD i 0 + b.getD i 0) t).set t (a.getD t 0 + b.getD t 0)) := by rw [upL]; exact hide rfl
    obtain ⟨L, hL⟩ : ∃ L, upL a (fun i => a.getD i 0 + b.getD i 0) t = L := ⟨_, rfl⟩
    have HL := hide hL
    rw [hL] at hs hlen hat hup
    clear hL
    rw [la] at hlen
    by_cases hlt : t < 10
    · have hlz : (t : Int) < 10 := by omega
      have b1 := HA.out t
      have b2 := HB.out t
      obtain ⟨x, hx⟩ : ∃ x, a.getD t 0 = x := ⟨_, rfl⟩
      obtain ⟨y, hy⟩ : ∃ y, b.getD t 0 = y := ⟨_, rfl⟩
      rw [hx] at b1 hat hup
      rw [hy] at b2 hup
      have hc1 : wr.cell? ⟨n, t, none⟩ = some (.int .i64 (x : Int)) := by rw [hs.out.va.cell, dgs_at L t (by omega), hat]
      have hc2 : wr.cell? ⟨n + 1, t, none⟩ = some (.int .i64 (y : Int)) := by rw [hs.out.vb.cell, dgs_at b t (by omega), hy]
      have hfz := hs.out.va.frozen t
      obtain ⟨z, hz⟩ : ∃ z, x + y = z := ⟨_, rfl⟩
      rw [hz] at hup
      have e1 : IntKind.i64.wrap ((x : Int) + (y : Int)) = (z : Int) := by rw [wrap64_small (by omega) (by omega)]; omega
      clear hx hy hz b1 b2 hat
      go_wp2
      go_region
      go_wp2
      go_roundw
      case rel =>
        refine ⟨t + 1, by omega, by go_num, ?_⟩
        rw [hup.out]
        exact hs.out.drew.set t z
      case measure => simp [intOf]; omega
    · obtain rfl : t = 10 := by omega
      have hcc := HC.out
      rw [HL.out] at hcc
      go_wp2_with (first | (refine wpList_load_row rfl 134 (.tmp 2) rfl n rfl 134 (L.map dg).toArray (0, 0) _ hs.out.va Tryd.underlying134 rfl (nm_infoA hlen) ?_) | (go_at_call 88; refine (hcc _).mono ?_; rintro e w3 ⟨rfl, hb3⟩; have B3 := hide hb3; clear hb3) | (refine wpList_store_row rfl 134 (.tmp 4) (.tmp 20) rfl (n + 1 + 1) (r.map dg).toArray rfl rfl 134 (z10n.map dg).toArray (hs.out.re.on B3.out) (nm_infoA lr) (nm_size lr) (dgs_one r) ?_))
      refine bodyPost_ret (results_cell_row Tryd.results80 _ _ (n + 1 + 1) 134 (r.map dg).toArray (0, 0) _ rfl ((hs.out.re.on B3.out).setRow _) Tryd.underlying134 rfl (nm_infoA lr)) rfl ?_
      exact ⟨rfl, by first | (rw [hn]; exact below_setRow (hs.out.be.trans (B3.out.mono (by have := hs.out.be.size; omega))) _ _ (by omega)) | exact below_setRow (hs.out.be.trans (B3.out.mono (by have := hs.out.be.size; omega))) _ _ (by omega)⟩
theorem vs_up (a b : List Nat) : ∀ r, vs a r + vs b r = vs ((List.range 10).map fun i => a.getD i 0 + b.getD i 0) r ∨ 10 < r
  | 0 => .inl rfl
  | r + 1 => by
    rcases Nat.lt_or_ge 10 (r + 1) with h | h
    · exact .inr h
    · left
      rcases vs_up a b r with ih | ih
      · rw [vs, vs, vs, ← ih, show ((List.range 10).map fun i => a.getD i 0 + b.getD i 0).getD r 0 = a.getD r 0 + b.getD r 0 by
          rw [List.getD_eq_getElem?_getD, List.getElem?_map, List.getElem?_range (by omega)]; rfl, Nat.add_mul]
        omega
      · omega
theorem add_ok' (a b : List Nat) (ha : Dg a) (hb : Dg b) : ∃ r, Dg r ∧ V r % Prm.P = (V a + V b) % Prm.P ∧ ∀ w, Calls Tryd.prog 80 #[num a, num b] w fun e w' => e = .returned (num r) ∧ Below w.heap.size w w' := by
  have hl : (upL a (fun i => a.getD i 0 + b.getD i 0) 10).length = 10 := by rw [up_len, ha.len]
  have hD : ∀ i, i < 10 → (upL a (fun i => a.getD i 0 + b.getD i 0) 10).getD i 0 = a.getD i 0 + b.getD i 0 := fun i hi => up_in a _ 10 ha.len 10 (Nat.le_refl _) i hi
  obtain ⟨r, hr, hv, hc⟩ := carried_ok (upL a (fun i => a.getD i 0 + b.getD i 0) 10) hl (fun i => by
    rcases Nat.lt_or_ge i 10 with h | h
    · rw [hD i h]; have := ha.lt i; have := hb.lt i; omega
    · rw [getD_out _ _ (by omega)]; omega)
  refine ⟨r, hr, ?_, fun w => add_walk a b r ha hb hc hr.len w⟩
  rw [hv]
  congr 1
  show vs _ 10 = vs a 10 + vs b 10
  rcases vs_up a b 10 with h | h
  · rw [h]
    refine vs_eq 10 fun i hi => ?_
    rw [hD i hi, List.getD_eq_getElem?_getD (l := List.map _ _), List.getElem?_map, List.getElem?_range hi]
    rfl
  · omega
structure Oft (n : Nat) (w wx : World) (t : List Nat) : Prop where
  re : Blk wx n (z10n.map dg) 134
  va : Blk wx (n + 1) (t.map dg) 134
  be : Below n w wx
set_option maxRecDepth 100000 in
set_option maxHeartbeats 4000000 in
theorem of_walk (m : Nat) (t r : List Nat) (ht : z10n.set 0 m = t) (lt : t.length = 10)
    (c1 : ∀ W, Calls Tryd.prog 88 #[num t] W fun e w' => e = .returned (num r) ∧ Below W.heap.size W w') (lr : r.length = 10) (w : World) :
    Calls Tryd.prog 78 #[.int .i64 (m : Int)] w fun e w' => e = .returned (num r) ∧ Below w.heap.size w w' := by
  go_enter Tryd.func78, Tryd.ntmps78
  go_upto_region 2 with (first | (refine wpList_newAt rfl 134 rfl (z10n.map dg) zero75 (w.heap.size) rfl ?_) | (refine wpList_newAt rfl 134 rfl (z10n.map dg) zero75 (w.heap.size + 1) (size1 _ _) ?_))
  have h0 : Hid (Oft w.heap.size w ((w.alloc (.cells (z10n.map dg).toArray 134)).alloc (.cells (z10n.map dg).toArray 134)) z10n) := by
    refine ⟨(Blk.new _ _ _).alloc _, ?_, by go_grown⟩
    have := Blk.new (w.alloc (.cells (z10n.map dg).toArray 134)) (z10n.map dg) 134
    simpa using this
  generalize (w.alloc (.cells (z10n.map dg).toArray 134)).alloc (.cells (z10n.map dg).toArray 134) = w1 at h0 ⊢
  obtain ⟨n, hn⟩ : ∃ n, w.heap.size = n := ⟨_, rfl⟩
  rw [hn] at h0 ⊢
  have hc : w1.cell? ⟨n + 1, 0, none⟩ = some (.int .i64 0) := by rw [h0.out.va.cell]; rfl
  have hf := h0.out.va.frozen 0
  go_upto_region 3 with fail
  have h1 : Oft n w (w1.setCell ⟨n + 1, 0, none⟩ (.int .i64 (m : Int))) t := ⟨h0.out.re.setOther _ _ _ (by omega), by rw [← ht, ← dgs_set]; exact h0.out.va.set 0 _, h0.out.be.setCell (by simp) _⟩
  have hs := hide h1
  clear h0 hc hf h1
  generalize w1.setCell ⟨n + 1, 0, none⟩ (.int .i64 (m : Int)) = w2 at hs ⊢
  go_wp2_with (first | (refine wpList_load_row rfl 134 (.tmp 3) rfl (n + 1) rfl 134 (t.map dg).toArray (0, 0) _ hs.out.va Tryd.underlying134 rfl (nm_infoA lt) ?_) | (go_at_call 88; refine (c1 _).mono ?_; rintro e w3 ⟨rfl, hb3⟩; have B3 := hide hb3; clear hb3) | (refine wpList_store_row rfl 134 (.tmp 2) (.tmp 7) rfl n (r.map dg).toArray rfl rfl 134 (z10n.map dg).toArray (hs.out.re.on B3.out) (nm_infoA lr) (nm_size lr) (dgs_one r) ?_))
  refine bodyPost_ret (results_cell_row Tryd.results78 _ _ n 134 (r.map dg).toArray (0, 0) _ rfl ((hs.out.re.on B3.out).setRow _) Tryd.underlying134 rfl (nm_infoA lr)) rfl ?_
  exact ⟨rfl, by first | (rw [hn]; exact below_setRow (hs.out.be.trans (B3.out.mono (by have := hs.out.be.size; omega))) _ _ (by omega)) | exact below_setRow (hs.out.be.trans (B3.out.mono (by have := hs.out.be.size; omega))) _ _ (by omega)⟩
theorem vs_one (m : Nat) : ∀ r, vs (z10n.set 0 m) (r + 1) = m ∨ 10 < r + 1
  | 0 => by left; simp [vs, z10n]
  | r + 1 => by
    rcases Nat.lt_or_ge 10 (r + 1 + 1) with h | h
    · exact .inr h
    · left
      rcases vs_one m r with ih | ih
      · have e : (z10n.set 0 m).getD (r + 1) 0 = 0 := by
          rw [setD_at _ _ _ _ (by omega)]
          have hz : ∀ i : Fin 10, z10n.getD i.val 0 = 0 := by decide
          exact hz ⟨r + 1, by omega⟩
        rw [vs, ih, e, Nat.zero_mul, Nat.add_zero]
      · omega
theorem of_ok (m : Nat) (hm : m ≤ 4611686018427387903) : ∃ r, Dg r ∧ V r % Prm.P = m % Prm.P ∧ ∀ w, Calls Tryd.prog 78 #[.int .i64 (m : Int)] w fun e w' => e = .returned (num r) ∧ Below w.heap.size w w' := by
  have hl : (z10n.set 0 m).length = 10 := by simp [z10n]
  obtain ⟨r, hr, hv, hc⟩ := carried_ok (z10n.set 0 m) hl (fun i => by
    by_cases hi : i = 0
    · subst hi; rw [setD_in _ _ _ (by simp [z10n])]; exact hm
    · rw [setD_at _ _ _ _ (by omega)]
      rcases Nat.lt_or_ge i 10 with h | h
      · have hz : ∀ i : Fin 10, z10n.getD i.val 0 = 0 := by decide
        have e : z10n.getD i 0 = 0 := hz ⟨i, h⟩
        rw [e]
        omega
      · rw [getD_out _ _ (by simp [z10n]; omega)]; omega)
  refine ⟨r, hr, ?_, fun w => of_walk m _ r rfl hl hc hr.len w⟩
  rw [hv]
  rcases vs_one m 9 with h | h
  · exact congrArg (· % Prm.P) h
  · omega
/-- Bit i of a key, as a number. -/
def kb (k : List UInt8) (i : Nat) : Nat := (k.getD (i / 8) 0).toNat / 2 ^ (i % 8) % 2
theorem kb_lt (k : List UInt8) (i : Nat) : kb k i < 2 := Nat.mod_lt _ (by decide)
theorem kb_is (k : List UInt8) (i : Nat) (hi : i < 256) : kb k i = kn k / 2 ^ i % 2 := by
  have h := kbit_is k i hi
  unfold kbit at h
  have h1 : kb k i < 2 := kb_lt k i
  have h2 : kn k / 2 ^ i % 2 < 2 := Nat.mod_lt _ (by decide)
  have h3 : (kb k i = 1) = (kn k / 2 ^ i % 2 = 1) := by
    have := congrArg (· = true) h
    simpa [kb] using this
  by_cases hq : kb k i = 1
  · have := h3 ▸ hq
    omega
  · have : ¬ kn k / 2 ^ i % 2 = 1 := fun e => hq (h3 ▸ e)
    omega

set_option maxRecDepth 100000 in
set_option maxHeartbeats 4000000 in
theorem bit_any (k : List UInt8) (hk : k.length = 32) (b : Nat) (hb : b < 256) (w : World) :
    Calls Tryd.prog 79 #[.agg (k.map byt).toArray, .int .i64 (b : Int)] w fun e w' => e = .returned (.int .i64 (kb k b : Int)) ∧ Below w.heap.size w w' := by
  obtain ⟨c, hc⟩ : ∃ c, c = b / 8 := ⟨_, rfl⟩
  obtain ⟨r, hr⟩ : ∃ r, r = b % 8 := ⟨_, rfl⟩
  obtain ⟨y, hy⟩ : ∃ y, k.getD c 0 = y := ⟨_, rfl⟩
  obtain ⟨m, hm⟩ : ∃ m, m = y.toNat / 2 ^ r := ⟨_, rfl⟩
  obtain ⟨q, hq⟩ : ∃ q, q = m % 2 := ⟨_, rfl⟩
  have hkb : kb k b = q := by unfold kb; rw [← hc, ← hr, hy, ← hm, ← hq]
  rw [hkb]
  have q1 : (b : Int).tdiv 8 = (c : Int) := by rw [Int.tdiv_eq_ediv_of_nonneg (by omega)]; omega
  have q2 : (b : Int) / 8 = (c : Int) := by omega
  have q3 : (b : Int).tmod 8 = (r : Int) := by rw [Int.tmod_eq_emod_of_nonneg (by omega)]; omega
  have q4 : (b : Int) % 8 = (r : Int) := by omega
  have hc32 : (c : Int) < 32 := by omega
  have hr8 : r < 8 := by omega
  have hm6 : m < 256 := by
    rw [hm]
    exact Nat.lt_of_le_of_lt (Nat.div_le_self _ _) y.toNat_lt
  have e1 : (y.toNat : Int) / 2 ^ r = (m : Int) := by
    rw [hm, Int.natCast_ediv, Int.natCast_pow]
    rfl
  have e2 : (m : Int).tmod 2 = (q : Int) := by rw [Int.tmod_eq_emod_of_nonneg (by omega)]; omega
  have e3 : (m : Int) % 2 = (q : Int) := by omega
  have hcell0 : (k.map byt)[c]? = some (.int .u8 (y.toNat : Int)) := by rw [byts_at k c (by omega), hy]
  have hy6 := y.toNat_lt
  have HC := hide hcell0
  clear hcell0 hc hr hy hm hq hkb hk
  go_enter Tryd.func79, Tryd.ntmps79
  go_upto_region 1 with (refine wpList_boxAt rfl 23 (.tmp 0) rfl (k.map byt) rfl (w.heap.size) rfl ?_)
  have b0 : Blk (w.alloc (.cells (k.map byt).toArray 23)) w.heap.size (k.map byt) 23 := Blk.new _ _ _
  have be : Below w.heap.size w (w.alloc (.cells (k.map byt).toArray 23)) := by go_grown
  generalize w.alloc (.cells (k.map byt).toArray 23) = w1 at b0 be ⊢
  obtain ⟨n, hn⟩ : ∃ n, w.heap.size = n := ⟨_, rfl⟩
  rw [hn] at b0 be ⊢
  have hcell : w1.cell? ⟨n, c, none⟩ = some (.int .u8 (y.toNat : Int)) := by rw [b0.cell, HC.out]
  have BE := hide be
  clear b0 be
  go_wp2
  go_ret
  exact ⟨rfl, by first | (rw [hn]; exact BE.out) | exact BE.out⟩

set_option maxRecDepth 100000 in
set_option maxHeartbeats 4000000 in
theorem refclamp_any (k : List UInt8) (hk : k.length = 32) (w : World) : Calls Tryd.prog 76 #[.agg (k.map byt).toArray] w fun e w' => e = .returned (.agg ((clampL k).map byt).toArray) ∧ Below w.heap.size w w' := by
  go_enter Tryd.func76, Tryd.ntmps76
  go_upto_region 1 with (first | (refine wpList_boxAt rfl 23 (.tmp 0) rfl (k.map byt) rfl (w.heap.size) rfl ?_) | (refine wpList_newAt rfl 23 rfl (z32.map byt) zero23 (w.heap.size + 1) (size1 _ _) ?_))
  have b0 : Blk ((w.alloc (.cells (k.map byt).toArray 23)).alloc (.cells (z32.map byt).toArray 23)) w.heap.size (k.map byt) 23 := (Blk.new _ _ _).alloc _
  have b1 : Blk ((w.alloc (.cells (k.map byt).toArray 23)).alloc (.cells (z32.map byt).toArray 23)) (w.heap.size + 1) (z32.map byt) 23 := by
    have := Blk.new (w.alloc (.cells (k.map byt).toArray 23)) (z32.map byt) 23
    simpa using this
  have be : Below w.heap.size w ((w.alloc (.cells (k.map byt).toArray 23)).alloc (.cells (z32.map byt).toArray 23)) := by go_grown
  generalize (w.alloc (.cells (k.map byt).toArray 23)).alloc (.cells (z32.map byt).toArray 23) = w1 at b0 b1 be ⊢
  obtain ⟨n, hn⟩ : ∃ n, w.heap.size = n := ⟨_, rfl⟩
  rw [hn] at b0 b1 be ⊢
  obtain ⟨a, ha⟩ : ∃ a, k.getD 0 0 = a := ⟨_, rfl⟩
  obtain ⟨b, hb⟩ : ∃ b, k.getD 31 0 = b := ⟨_, rfl⟩
  have hc0 : w1.cell? ⟨n, 0, none⟩ = some (.int .u8 (a.toNat : Int)) := by rw [b0.cell, byts_at k 0 (by omega), ha]
  have hf0 := b0.frozen 0
  obtain ⟨A, hA2⟩ : ∃ A, a &&& 248 = A := ⟨_, rfl⟩
  have hav := a.toNat_lt
  have hAv : A.toNat = a.toNat / 8 * 8 := by rw [← hA2]; exact byte_low a
  obtain ⟨r, hr⟩ : ∃ r, r = a.toNat % 8 := ⟨_, rfl⟩
  have e1 : (a.toNat : Int).tmod 8 = (r : Int) := by rw [Int.tmod_eq_emod_of_nonneg (by omega)]; omega
  have e2 : (a.toNat : Int) % 8 = (r : Int) := by omega
  have e3 : IntKind.u8.wrap ((a.toNat : Int) - (r : Int)) = (A.toNat : Int) := by rw [IntKind.wrap_u8]; omega
  have e4 : IntKind.u8.wrap (r : Int) = (r : Int) := by rw [IntKind.wrap_u8]; omega
  have B0 := hide b0
  have B1 := hide b1
  have BE := hide be
  have HA := hide ha
  have HA2 := hide hA2
  have HB := hide hb
  have HK := hide hk
  clear b0 b1 be ha hb hk hA2 hAv hr hav
  go_upto_region 2 with fail
  have c0 : Blk (w1.setCell ⟨n, 0, none⟩ (.int .u8 (A.toNat : Int))) n ((k.set 0 A).map byt) 23 := by
    have := B0.out.set 0 (.int .u8 (A.toNat : Int))
    rwa [byt_set] at this
  have c1 := B1.out.setOther n 0 (.int .u8 (A.toNat : Int)) (by omega)
  have ce : Below n w (w1.setCell ⟨n, 0, none⟩ (.int .u8 (A.toNat : Int))) := BE.out.setCell (by simp) _
  generalize w1.setCell ⟨n, 0, none⟩ (.int .u8 (A.toNat : Int)) = w2 at c0 c1 ce ⊢
  clear hc0 hf0 e1 e2 e3 e4 B0 B1 BE
  obtain ⟨q, hq⟩ : ∃ q, q = k.set 0 A := ⟨_, rfl⟩
  rw [← hq] at c0
  have hql : q.length = 32 := by rw [hq, List.length_set]; exact HK.out
  have hc1 : w2.cell? ⟨n, 31, none⟩ = some (.int .u8 (b.toNat : Int)) := by
    rw [c0.cell, byts_at q 31 (by omega), hq, List.getD_eq_getElem?_getD, List.getElem?_set_ne (by decide), ← List.getD_eq_getElem?_getD, HB.out]
  have hf1 := c0.frozen 31
  obtain ⟨C, hC2⟩ : ∃ C, b &&& 127 ||| 64 = C := ⟨_, rfl⟩
  have hbv := b.toNat_lt
  have hCv : C.toNat = b.toNat % 64 + 64 := by rw [← hC2]; exact byte_top b
  obtain ⟨s, hs⟩ : ∃ s, s = b.toNat % 64 := ⟨_, rfl⟩
  have e1 : (b.toNat : Int).tmod 64 = (s : Int) := by rw [Int.tmod_eq_emod_of_nonneg (by omega)]; omega
  have e2 : (b.toNat : Int) % 64 = (s : Int) := by omega
  have e3 : IntKind.u8.wrap ((s : Int) + 64) = (C.toNat : Int) := by rw [IntKind.wrap_u8]; omega
  have e4 : IntKind.u8.wrap (s : Int) = (s : Int) := by rw [IntKind.wrap_u8]; omega
  have B0 := hide c0
  have B1 := hide c1
  have BE := hide ce
  have HQ := hide hq
  have HC2 := hide hC2
  clear c0 c1 ce hq hql hC2 hCv hs hbv
  go_upto_region 3 with fail
  have c0 : Blk (w2.setCell ⟨n, 31, none⟩ (.int .u8 (C.toNat : Int))) n ((q.set 31 C).map byt) 23 := by
    have := B0.out.set 31 (.int .u8 (C.toNat : Int))
    rwa [byt_set] at this
  have c1 := B1.out.setOther n 31 (.int .u8 (C.toNat : Int)) (by omega)
  have ce : Below n w (w2.setCell ⟨n, 31, none⟩ (.int .u8 (C.toNat : Int))) := BE.out.setCell (by simp) _
  generalize w2.setCell ⟨n, 31, none⟩ (.int .u8 (C.toNat : Int)) = w3 at c0 c1 ce ⊢
  clear hc1 hf1 e1 e2 e3 e4 B0 B1 BE
  have hR : q.set 31 C = clampL k := by unfold clampL; rw [HA.out, HB.out, HA2.out, HC2.out, HQ.out]
  rw [hR] at c0
  have hl : (clampL k).length = 32 := by rw [clamp_length]; exact HK.out
  clear hR
  obtain ⟨R, hR⟩ : ∃ R, clampL k = R := ⟨_, rfl⟩
  rw [hR] at c0 hl
  have HR := hide hR
  clear hR
  go_wp2_with (first | (refine wpList_load_row rfl 23 (.tmp 1) rfl n rfl 23 (R.map byt).toArray (0, 0) _ c0 Tryd.underlying23 rfl (key_infoA hl) ?_) | (refine wpList_store_row rfl 23 (.tmp 2) (.tmp 15) rfl (n + 1) (R.map byt).toArray rfl rfl 23 (z32.map byt).toArray c1 (key_infoA hl) (key_size hl) (byts_one _) ?_))
  refine bodyPost_ret (results_cell_row Tryd.results76 _ _ (n + 1) 23 (R.map byt).toArray (0, 0) _ rfl (c1.setRow _) Tryd.underlying23 rfl (key_infoA hl)) rfl ?_
  exact ⟨by rw [HR.out], by first | (rw [hn]; exact below_setRow ce _ _ (by omega)) | exact below_setRow ce _ _ (by omega)⟩
end Go.Proofs.YtoceepmehmacbaaDoor.Cv
