import Derived.Test.YtnakeieeopbeiaaEnt
import Derived.Deep.DeepCutAuto
import Derived.Handy
set_option linter.unusedVariables false
set_option linter.unusedSimpArgs false
namespace Go.Proofs.Ytnakeieeopbeiaa
open Go.RowKit

/-- Digits as values. -/
def dv (l : List Nat) : List Value := l.map fun d : Nat => .int .i64 (d : Int)
theorem dv_length (l : List Nat) : (dv l).length = l.length := by simp [dv]
theorem dv_at (l : List Nat) (j : Nat) (h : j < l.length) : (dv l)[j]? = some (.int .i64 ((l.getD j 0 : Nat) : Int)) := by
  simp [dv, List.getElem?_eq_getElem h]
theorem dv_set (l : List Nat) (j d : Nat) : (dv l).set j (.int .i64 (d : Int)) = dv (l.set j d) := by
  simp [dv, List.map_set]
theorem dv_one (l : List Nat) : (dv l).toArray.all (·.oneCell') = true :=
  all_oneCell_toArray fun v hv => by
    obtain ⟨x, _, rfl⟩ := List.mem_map.1 hv
    rfl
def z16 : List Nat := List.replicate 16 0
theorem zero49 (w : World) : (zeroValue 49).run Try.prog w = .ok (.agg (dv z16).toArray) w := by
  rw [Try.zeroValue49]; rfl
theorem info49 {l : List Nat} (h : l.length = 16) : (Try.prog.info? 49).map (·.size) = some (dv l).length := by rw [dv_length, h]; kernel_rfl
theorem info49a {l : List Nat} (h : l.length = 16) : (Try.prog.info? 49).map (·.size) = some (dv l).toArray.size := by simpa using info49 h
theorem size16 {l m : List Nat} (h : l.length = 16) (k : m.length = 16) : (dv l).toArray.size = (dv m).toArray.size := by simp [dv_length, h, k]
theorem z16_length : z16.length = 16 := by simp [z16]

def pdk : Nat → List Nat
  | 0 => z16
  | t + 1 => (pdk t).set t 65535
theorem pdk_length : ∀ t, (pdk t).length = 16
  | 0 => z16_length
  | t + 1 => by rw [pdk, List.length_set, pdk_length t]
/-- The digits of the modulus. -/
def primeD : List Nat := ((pdk 16).set 0 65517).set 15 32767
theorem primeD_length : primeD.length = 16 := by rw [primeD, List.length_set, List.length_set, pdk_length]

structure Pd (n : Nat) (w wx : World) (L : List Nat) : Prop where
  re : Blk wx n (dv z16) 49
  va : Blk wx (n + 1) (dv L) 49
  be : Below n w wx
theorem Pd.set {n : Nat} {w wx : World} {L : List Nat} (h : Pd n w wx L) (j d : Nat) : Pd n w (wx.setCell ⟨n + 1, j, none⟩ (.int .i64 (d : Int))) (L.set j d) :=
  ⟨h.re.setOther _ _ _ (by omega), by rw [← dv_set]; exact h.va.set j _, h.be.setCell (by simp) _⟩

set_option maxRecDepth 100000 in
set_option maxHeartbeats 2000000 in
theorem primeD_any (w : World) :
    Calls Try.prog 48 #[] w fun e w' => e = .returned (.agg (dv primeD).toArray) ∧ Below w.heap.size w w' := by
  go_enter Try.func48, Try.ntmps48
  go_upto_region 1 with (refine wpList_newAt rfl 49 rfl (dv z16) zero49 w.heap.size rfl ?_)
  go_upto_region 2 with (refine wpList_newAt rfl 49 rfl (dv z16) zero49 (w.heap.size + 1) (by simp) ?_)
  have h0 : Hid (Pd w.heap.size w ((w.alloc (.cells (dv z16).toArray 49)).alloc (.cells (dv z16).toArray 49)) (pdk 0)) := by
    refine ⟨(Blk.new _ _ _).alloc _, ?_, by go_grown⟩
    have := Blk.new (w.alloc (.cells (dv z16).toArray 49)) (dv z16) 49
    show Blk _ (w.heap.size + 1) (dv z16) 49
    simpa using this
  generalize (w.alloc (.cells (dv z16).toArray 49)).alloc (.cells (dv z16).toArray 49) = w1 at h0 ⊢
  obtain ⟨n, hn⟩ : ∃ n, w.heap.size = n := ⟨_, rfl⟩
  rw [hn] at h0 ⊢
  go_wp2
  go_loopw [2] (fun i wr => ∃ t : Nat, t ≤ 16 ∧ i = .int .i64 t ∧ Hid (Pd n w wr (pdk t))) (fun i _ => 16 - (intOf i).toNat)
  case atStart => exact ⟨0, by omega, rfl, h0⟩
  case round =>
    obtain ⟨t, ht, rfl, hr⟩ := hrel
    have hlen := pdk_length t
    have hre : Hid (pdk (t + 1) = (pdk t).set t 65535) := rfl
    by_cases hlt : t < 16
    · generalize pdk t = L at hr hlen hre
      have hlz : (t : Int) < 16 := by omega
      have hc := hr.out.va.cell t
      rw [dv_at L t (by omega)] at hc
      have hfz := hr.out.va.frozen t
      clear hlen
      go_wp2
      go_roundw
      case rel =>
        refine ⟨t + 1, by omega, by go_num, ?_⟩
        rw [hre.out]
        exact hr.out.set t 65535
      case measure => simp [intOf]; omega
    · obtain rfl : t = 16 := by omega
      have hP : Hid (primeD = ((pdk 16).set 0 65517).set 15 32767) := rfl
      have hl : primeD.length = 16 := primeD_length
      have hR := (hr.out.set 0 65517).set 15 32767
      rw [← hP.out] at hR
      have hc0 := hr.out.va.cell 0
      rw [dv_at _ 0 (by omega)] at hc0
      have hc15 := hr.out.va.cell 15
      rw [dv_at _ 15 (by omega)] at hc15
      have hf0 := hr.out.va.frozen 0
      have hf15 := hr.out.va.frozen 15
      clear hre hlen hP
      obtain ⟨M, hM⟩ : ∃ M, primeD = M := ⟨_, rfl⟩
      rw [hM] at hl hR
      have HM := hide hM
      clear hM
      have HR := hide hR
      have HI := hide (info49a hl)
      have HZ := hide (size16 z16_length hl)
      clear hR hl
      go_wp2_with (first | (refine wpList_load_row rfl 49 (.tmp 1) rfl (n + 1) rfl 49 (dv M).toArray (0, 0) _ HR.out.va Try.underlying49 rfl HI.out ?_) | (refine wpList_store_row rfl 49 (.tmp 0) (.tmp 11) rfl n (dv M).toArray rfl rfl 49 (dv z16).toArray HR.out.re HI.out HZ.out (dv_one M) ?_))
      refine bodyPost_ret (results_cell_row Try.results48 _ _ n 49 (dv M).toArray (0, 0) _ rfl (HR.out.re.setRow _) Try.underlying49 rfl HI.out) rfl ?_
      exact ⟨by rw [HM.out], by first | (rw [hn]; exact below_setRow HR.out.be _ _ (by omega)) | exact below_setRow HR.out.be _ _ (by omega)⟩

/-- Is the first number below the second? From digit j - 1 down. -/
def lessD (a b : List Nat) : Nat → Bool
  | 0 => false
  | j + 1 => if a.getD j 0 = b.getD j 0 then lessD a b j else decide (a.getD j 0 < b.getD j 0)

set_option maxRecDepth 100000 in
set_option maxHeartbeats 2000000 in
theorem less_any (a b : List Nat) (ha : a.length = 16) (hb : b.length = 16) (w : World) :
    Calls Try.prog 47 #[.agg (dv a).toArray, .agg (dv b).toArray] w fun e w' => e = .returned (.bool (lessD a b 16)) ∧ Below w.heap.size w w' := by
  have HA := hide ha
  have HB := hide hb
  clear ha hb
  go_enter Try.func47, Try.ntmps47
  go_upto_region 1 with (first | (refine wpList_boxAt rfl 49 (.tmp 0) rfl (dv a) rfl w.heap.size rfl ?_) | (refine wpList_boxAt rfl 49 (.tmp 1) rfl (dv b) rfl (w.heap.size + 1) (by simp) ?_))
  have b0 : Blk ((w.alloc (.cells (dv a).toArray 49)).alloc (.cells (dv b).toArray 49)) w.heap.size (dv a) 49 := (Blk.new _ _ _).alloc _
  have b1 : Blk ((w.alloc (.cells (dv a).toArray 49)).alloc (.cells (dv b).toArray 49)) (w.heap.size + 1) (dv b) 49 := by
    have := Blk.new (w.alloc (.cells (dv a).toArray 49)) (dv b) 49
    simpa using this
  have be : Below w.heap.size w ((w.alloc (.cells (dv a).toArray 49)).alloc (.cells (dv b).toArray 49)) := by go_grown
  generalize (w.alloc (.cells (dv a).toArray 49)).alloc (.cells (dv b).toArray 49) = w1 at b0 b1 be ⊢
  obtain ⟨n, hn⟩ : ∃ n, w.heap.size = n := ⟨_, rfl⟩
  rw [hn] at b0 b1 be ⊢
  go_wp2
  go_loopw [5] (fun i wr => ∃ j : Nat, j ≤ 16 ∧ i = .int .i64 ((j : Int) - 1) ∧ Hid (lessD a b 16 = lessD a b j) ∧ Hid (Blk wr n (dv a) 49 ∧ Blk wr (n + 1) (dv b) 49 ∧ Below n w wr)) (fun i _ => ((intOf i) + 1).toNat)
  case atStart => exact ⟨16, by omega, rfl, rfl, hide ⟨b0, b1, be⟩⟩
  case round =>
    obtain ⟨j, hj, rfl, hl, hw⟩ := hrel
    cases j with
    | zero =>
      go_wp2
      go_ret
      exact ⟨by rw [hl.out]; rfl, by first | (rw [hn]; exact hw.out.2.2) | exact hw.out.2.2⟩
    | succ j =>
      have e : ((j + 1 : Nat) : Int) - 1 = (j : Int) := by omega
      rw [e]
      have hlz : (j : Int) < 16 := by omega
      have hge : (0 : Int) ≤ (j : Int) := by omega
      have ca := hw.out.1.cell j
      rw [dv_at a j (by rw [HA.out]; omega)] at ca
      have cb := hw.out.2.1.cell j
      rw [dv_at b j (by rw [HB.out]; omega)] at cb
      have hd : Hid (lessD a b (j + 1) = if a.getD j 0 = b.getD j 0 then lessD a b j else decide (a.getD j 0 < b.getD j 0)) := rfl
      generalize a.getD j 0 = x at ca hd
      generalize b.getD j 0 = y at cb hd
      clear e
      by_cases hxy : x = y
      · have hl2 : Hid (lessD a b 16 = lessD a b j) := by rw [hl.out, hd.out, if_pos hxy]; exact hide rfl
        have hne : ((x : Int) != (y : Int)) = false := by simp [hxy]
        subst hxy
        clear hl hd hne
        go_wp2
        go_region
        go_wp2
        go_roundw
        case rel => exact ⟨j, by omega, by go_num, hl2, hide ⟨hw.out.1.drew, hw.out.2.1.drew, hw.out.2.2.drew⟩⟩
        case measure => simp [intOf] <;> omega
      · have hl2 : Hid (lessD a b 16 = decide (x < y)) := by rw [hl.out, hd.out, if_neg hxy]; exact hide rfl
        have hxi : ¬ (x : Int) = (y : Int) := by omega
        have hlt : decide ((x : Int) < (y : Int)) = decide (x < y) := by
          by_cases h : x < y
          · rw [decide_eq_true h, decide_eq_true (by omega)]
          · rw [decide_eq_false h, decide_eq_false (by omega)]
        clear hl hd hxy
        go_wp2
        go_region
        go_wp2
        go_region
        go_wp2
        go_ret
        exact ⟨by rw [hl2.out]; rfl, by first | (rw [hn]; exact hw.out.2.2.drew.drew) | exact hw.out.2.2.drew.drew⟩

/-- The borrow behind t digits. -/
def borD (a b : List Nat) : Nat → Nat
  | 0 => 0
  | t + 1 => if a.getD t 0 < b.getD t 0 + borD a b t then 1 else 0
def minD (a b : List Nat) : Nat → List Nat
  | 0 => a
  | t + 1 => (minD a b t).set t (if a.getD t 0 < b.getD t 0 + borD a b t then a.getD t 0 + 65536 - b.getD t 0 - borD a b t else a.getD t 0 - b.getD t 0 - borD a b t)
theorem minD_length (a b : List Nat) : ∀ t, (minD a b t).length = a.length
  | 0 => rfl
  | t + 1 => by rw [minD, List.length_set, minD_length a b t]
theorem minD_at (a b : List Nat) : ∀ t j, t ≤ j → (minD a b t).getD j 0 = a.getD j 0
  | 0, _, _ => rfl
  | t + 1, j, h => by
    have h1 : t ≠ j := by omega
    rw [minD, List.getD_eq_getElem?_getD, List.getElem?_set_ne h1, ← List.getD_eq_getElem?_getD]
    exact minD_at a b t j (by omega)
theorem borD_le (a b : List Nat) : ∀ t, borD a b t ≤ 1
  | 0 => by simp [borD]
  | t + 1 => by rw [borD]; split <;> omega

structure Mn (n : Nat) (w wx : World) (L b : List Nat) : Prop where
  la : Blk wx n (dv L) 49
  lb : Blk wx (n + 1) (dv b) 49
  re : Blk wx (n + 1 + 1) (dv z16) 49
  be : Below n w wx
theorem Mn.drew {n : Nat} {w wx : World} {L b : List Nat} (h : Mn n w wx L b) : Mn n w wx.drew L b := ⟨h.la.drew, h.lb.drew, h.re.drew, h.be.drew⟩
theorem Mn.set {n : Nat} {w wx : World} {L b : List Nat} (h : Mn n w wx L b) (j d : Nat) : Mn n w (wx.setCell ⟨n, j, none⟩ (.int .i64 (d : Int))) (L.set j d) b :=
  ⟨by rw [← dv_set]; exact h.la.set j _, h.lb.setOther _ _ _ (by omega), h.re.setOther _ _ _ (by omega), h.be.setCell (by simp) _⟩

set_option maxRecDepth 100000 in
set_option maxHeartbeats 2000000 in
theorem minus_any (a b : List Nat) (ha : a.length = 16) (hb : b.length = 16) (da : ∀ j, a.getD j 0 < 65536) (db : ∀ j, b.getD j 0 < 65536) (w : World) :
    Calls Try.prog 56 #[.agg (dv a).toArray, .agg (dv b).toArray] w fun e w' => e = .returned (.agg (dv (minD a b 16)).toArray) ∧ Below w.heap.size w w' := by
  have HA := hide ha
  have HB := hide hb
  have DA := hide da
  have DB := hide db
  clear ha hb da db
  go_enter Try.func56, Try.ntmps56
  go_upto_region 1 with (first | (refine wpList_boxAt rfl 49 (.tmp 0) rfl (dv a) rfl w.heap.size rfl ?_) | (refine wpList_boxAt rfl 49 (.tmp 1) rfl (dv b) rfl (w.heap.size + 1) (by simp) ?_) | (refine wpList_newAt rfl 49 rfl (dv z16) zero49 (w.heap.size + 1 + 1) (by simp) ?_))
  have h0 : Hid (Mn w.heap.size w (((w.alloc (.cells (dv a).toArray 49)).alloc (.cells (dv b).toArray 49)).alloc (.cells (dv z16).toArray 49)) (minD a b 0) b) := by
    refine ⟨((Blk.new _ _ _).alloc _).alloc _, ?_, ?_, by go_grown⟩
    · have := (Blk.new (w.alloc (.cells (dv a).toArray 49)) (dv b) 49).alloc (.cells (dv z16).toArray 49)
      simpa using this
    · have := Blk.new ((w.alloc (.cells (dv a).toArray 49)).alloc (.cells (dv b).toArray 49)) (dv z16) 49
      simpa using this
  generalize ((w.alloc (.cells (dv a).toArray 49)).alloc (.cells (dv b).toArray 49)).alloc (.cells (dv z16).toArray 49) = w1 at h0 ⊢
  obtain ⟨n, hn⟩ : ∃ n, w.heap.size = n := ⟨_, rfl⟩
  rw [hn] at h0 ⊢
  go_wp2
  go_loopw [6, 5] (fun i c wr => ∃ t : Nat, t ≤ 16 ∧ i = .int .i64 t ∧ c = .int .i64 (borD a b t : Nat) ∧ Hid (Mn n w wr (minD a b t) b)) (fun i _ _ => 16 - (intOf i).toNat)
  case atStart => exact ⟨0, by omega, rfl, rfl, h0⟩
  case round =>
    obtain ⟨t, ht, rfl, rfl, hr⟩ := hrel
    have hlen := minD_length a b t
    have hat := minD_at a b t t (Nat.le_refl _)
    by_cases hlt : t < 16
    · have hlz : (t : Int) < 16 := by omega
      have hc := hr.out.la.cell t
      rw [dv_at _ t (by rw [hlen, HA.out]; omega), hat] at hc
      have hd := hr.out.lb.cell t
      rw [dv_at b t (by rw [HB.out]; omega)] at hd
      have hfz := hr.out.la.frozen t
      have hbl := borD_le a b t
      have hx := DA.out t
      have hy := DB.out t
      have e1 : Hid (borD a b (t + 1) = if a.getD t 0 < b.getD t 0 + borD a b t then 1 else 0) := rfl
      have e2 : Hid (minD a b (t + 1) = (minD a b t).set t (if a.getD t 0 < b.getD t 0 + borD a b t then a.getD t 0 + 65536 - b.getD t 0 - borD a b t else a.getD t 0 - b.getD t 0 - borD a b t)) := rfl
      generalize a.getD t 0 = x at hc hx e1 e2
      generalize b.getD t 0 = y at hd hy e1 e2
      generalize borD a b t = c at hbl e1 e2 ⊢
      generalize minD a b t = L at hr e2
      clear hlen hat
      by_cases hq : x < y + c
      · have hv : (x : Int) - (y : Int) - (c : Int) < 0 := by omega
        have e3 : ((x : Int) - (y : Int) - (c : Int)) + 65536 = ((x + 65536 - y - c : Nat) : Int) := by omega
        have e4 : Hid (borD a b (t + 1) = 1) := by rw [e1.out, if_pos hq]; exact hide rfl
        have e5 : Hid (minD a b (t + 1) = L.set t (x + 65536 - y - c)) := by rw [e2.out, if_pos hq]; exact hide rfl
        obtain ⟨r, hr'⟩ : ∃ r, r = x + 65536 - y - c := ⟨_, rfl⟩
        rw [← hr'] at e3 e5
        have HR' := hide hr'
        clear e1 e2 hq hr'
        go_wp2
        go_region
        go_wp2
        go_roundw
        case rel =>
          refine ⟨t + 1, by omega, by go_num, by rw [e4.out]; rfl, ?_⟩
          rw [e5.out]
          first | (rw [e3]; exact hr.out.drew.set t r) | exact hr.out.drew.set t r
        case measure => simp [intOf]; omega
      · have hv : ¬ (x : Int) - (y : Int) - (c : Int) < 0 := by omega
        have e3 : (x : Int) - (y : Int) - (c : Int) = ((x - y - c : Nat) : Int) := by omega
        have e4 : Hid (borD a b (t + 1) = 0) := by rw [e1.out, if_neg hq]; exact hide rfl
        have e5 : Hid (minD a b (t + 1) = L.set t (x - y - c)) := by rw [e2.out, if_neg hq]; exact hide rfl
        obtain ⟨r, hr'⟩ : ∃ r, r = x - y - c := ⟨_, rfl⟩
        rw [← hr'] at e3 e5
        have HR' := hide hr'
        have E3 := hide e3
        clear e1 e2 hq hr' e3
        go_wp2
        go_region
        go_wp2
        go_roundw
        case rel =>
          refine ⟨t + 1, by omega, by go_num, by rw [e4.out]; rfl, ?_⟩
          rw [e5.out]
          first | (rw [E3.out]; exact hr.out.drew.set t r) | exact hr.out.drew.set t r
        case measure => simp [intOf]; omega
    · obtain rfl : t = 16 := by omega
      have hl : (minD a b 16).length = 16 := by rw [hlen, HA.out]
      obtain ⟨M, hM⟩ : ∃ M, minD a b 16 = M := ⟨_, rfl⟩
      rw [hM] at hl hr
      have HM := hide hM
      have HI := hide (info49a hl)
      have HZ := hide (size16 z16_length hl)
      clear hM hl hlen hat
      go_wp2_with (first | (refine wpList_load_row rfl 49 (.tmp 2) rfl n rfl 49 (dv M).toArray (0, 0) _ hr.out.la Try.underlying49 rfl HI.out ?_) | (refine wpList_store_row rfl 49 (.tmp 4) (.tmp 28) rfl (n + 1 + 1) (dv M).toArray rfl rfl 49 (dv z16).toArray hr.out.re HI.out HZ.out (dv_one M) ?_))
      refine bodyPost_ret (results_cell_row Try.results56 _ _ (n + 1 + 1) 49 (dv M).toArray (0, 0) _ rfl (hr.out.re.setRow _) Try.underlying49 rfl HI.out) rfl ?_
      exact ⟨by rw [HM.out], by first | (rw [hn]; exact below_setRow hr.out.be _ _ (by omega)) | exact below_setRow hr.out.be _ _ (by omega)⟩

/-- The number of the first t digits. -/
def dpre (l : List Nat) : Nat → Nat
  | 0 => 0
  | t + 1 => dpre l t + l.getD t 0 * 65536 ^ t
theorem dpre_lt {l : List Nat} (h : ∀ j, l.getD j 0 < 65536) : ∀ t, dpre l t < 65536 ^ t
  | 0 => by simp [dpre]
  | t + 1 => by
    have ih := dpre_lt h t
    have hj := h t
    rw [dpre, Nat.pow_succ]
    have : l.getD t 0 * 65536 ^ t ≤ 65535 * 65536 ^ t := Nat.mul_le_mul_right _ (by omega)
    omega
theorem dpre_congr {l m : List Nat} : ∀ t, (∀ j, j < t → l.getD j 0 = m.getD j 0) → dpre l t = dpre m t
  | 0, _ => rfl
  | t + 1, h => by rw [dpre, dpre, dpre_congr t (fun j hj => h j (by omega)), h t (by omega)]
theorem less_val {a b : List Nat} (ha : ∀ j, a.getD j 0 < 65536) (hb : ∀ j, b.getD j 0 < 65536) : ∀ t, lessD a b t = decide (dpre a t < dpre b t)
  | 0 => by simp [lessD, dpre]
  | t + 1 => by
    have ih := less_val ha hb t
    have la := dpre_lt ha t
    have lb := dpre_lt hb t
    rw [lessD, dpre, dpre]
    by_cases h : a.getD t 0 = b.getD t 0
    · rw [if_pos h, ih, h]
      by_cases hq : dpre a t < dpre b t
      · rw [decide_eq_true hq, decide_eq_true (by omega)]
      · rw [decide_eq_false hq, decide_eq_false (by omega)]
    · rw [if_neg h]
      generalize a.getD t 0 = x at *
      generalize b.getD t 0 = y at *
      generalize dpre a t = p at *
      generalize dpre b t = q at *
      generalize 65536 ^ t = m at *
      by_cases hq : x < y
      · have h1 : (x + 1) * m ≤ y * m := Nat.mul_le_mul_right _ hq
        rw [Nat.add_mul] at h1
        rw [decide_eq_true hq, decide_eq_true (by omega)]
      · have h1 : (y + 1) * m ≤ x * m := Nat.mul_le_mul_right _ (by omega)
        rw [Nat.add_mul] at h1
        rw [decide_eq_false hq, decide_eq_false (by omega)]
theorem minD_low (a b : List Nat) (t : Nat) (ht : t < a.length) : (minD a b (t + 1)).getD t 0 = if a.getD t 0 < b.getD t 0 + borD a b t then a.getD t 0 + 65536 - b.getD t 0 - borD a b t else a.getD t 0 - b.getD t 0 - borD a b t := by
  rw [minD, List.getD_eq_getElem?_getD, List.getElem?_set_self (by rw [minD_length]; exact ht), Option.getD_some]
theorem minD_keep (a b : List Nat) (t j : Nat) (h : j < t) : (minD a b (t + 1)).getD j 0 = (minD a b t).getD j 0 := by
  rw [minD, List.getD_eq_getElem?_getD, List.getElem?_set_ne (by omega), ← List.getD_eq_getElem?_getD]
theorem minD_val {a b : List Nat} (ha : ∀ j, a.getD j 0 < 65536) (hb : ∀ j, b.getD j 0 < 65536) : ∀ t, t ≤ a.length → dpre (minD a b t) t + dpre b t = dpre a t + borD a b t * 65536 ^ t
  | 0, _ => by simp [dpre, borD]
  | t + 1, ht => by
    have ih := minD_val ha hb t (by omega)
    have hx := ha t
    have hy := hb t
    have hc := borD_le a b t
    rw [dpre, dpre, dpre, dpre_congr t (fun j hj => minD_keep a b t j hj), minD_low a b t (by omega), borD, Nat.pow_succ]
    generalize a.getD t 0 = x at *
    generalize b.getD t 0 = y at *
    generalize borD a b t = c at *
    generalize dpre (minD a b t) t = p at *
    generalize dpre a t = q at *
    generalize dpre b t = r at *
    generalize 65536 ^ t = m at *
    split
    · rename_i h
      obtain ⟨d, hd⟩ : ∃ d, d + y + c = x + 65536 := ⟨x + 65536 - y - c, by omega⟩
      have e : x + 65536 - y - c = d := by omega
      have e2 : d * m + y * m + c * m = x * m + 65536 * m := by rw [← Nat.add_mul, ← Nat.add_mul, hd, Nat.add_mul]
      rw [e]
      omega
    · rename_i h
      obtain ⟨d, hd⟩ : ∃ d, d + y + c = x := ⟨x - y - c, by omega⟩
      have e : x - y - c = d := by omega
      have e2 : d * m + y * m + c * m = x * m := by rw [← Nat.add_mul, ← Nat.add_mul, hd]
      rw [e]
      omega
theorem minD_digits {a b : List Nat} (ha : ∀ j, a.getD j 0 < 65536) (hb : ∀ j, b.getD j 0 < 65536) : ∀ t, ∀ j, (minD a b t).getD j 0 < 65536
  | 0, j => ha j
  | t + 1, j => by
    have ih := minD_digits ha hb t j
    have hx := ha t
    have hc := borD_le a b t
    rw [minD]
    by_cases h : t = j
    · subst h
      rcases Nat.lt_or_ge t (minD a b t).length with hl | hl
      · rw [List.getD_eq_getElem?_getD, List.getElem?_set_self hl, Option.getD_some]
        split <;> omega
      · rw [List.set_eq_of_length_le hl]; exact ih
    · rw [List.getD_eq_getElem?_getD, List.getElem?_set_ne h, ← List.getD_eq_getElem?_getD]; exact ih
end Go.Proofs.Ytnakeieeopbeiaa
