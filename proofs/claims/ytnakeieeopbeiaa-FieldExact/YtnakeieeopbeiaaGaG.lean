import Derived.Test.YtnakeieeopbeiaaDa
import Derived.Laws.AppendOwnNone
set_option linter.unusedVariables false
set_option linter.unusedSimpArgs false
namespace Go.Proofs.Ytnakeieeopbeiaa
open Go.RowKit

theorem add_plain (g k : Nat) : (⟨g, 0, none⟩ : Addr).add k = ⟨g, k, none⟩ := by
  unfold Addr.add; split <;> simp_all

/-- A slice of digits. -/
def Dig (W : World) (v : Value) (ds : List Nat) : Prop :=
  ∃ g cap, v = .slice (some ⟨g, 0, none⟩) ds.length cap ∧ ds.length ≤ cap ∧ g < W.heap.size ∧ ∀ i, i < ds.length → W.cell? ⟨g, i, none⟩ = some (.int .i64 ((ds.getD i 0 : Nat) : Int))
theorem Dig.on {W W' : World} {v : Value} {ds : List Nat} (h : Dig W v ds) (hb : Below W.heap.size W W') : Dig W' v ds := by
  obtain ⟨g, cap, h1, h2, h3, h4⟩ := h
  exact ⟨g, cap, h1, h2, Nat.lt_of_lt_of_le h3 hb.size, fun i hi => (hb.cell h3).trans (h4 i hi)⟩

def carD (ds : List Nat) : Nat → Bool
  | 0 => false
  | t + 1 => carD ds t || decide (65536 ≤ ds.getD t 0)
/-- Is a digit too great, or the number not below 2^255? -/
def carsD (ds : List Nat) : Bool := carD ds ds.length || (decide (ds.length = 16) && decide (32768 ≤ ds.getD 15 0))
theorem carD_false (ds : List Nat) : ∀ t, carD ds t = false → ∀ j, j < t → ds.getD j 0 < 65536
  | 0, _, j, h => by omega
  | t + 1, hc, j, h => by
    rw [carD, Bool.or_eq_false_iff] at hc
    rcases Nat.lt_or_ge j t with hj | hj
    · exact carD_false ds t hc.1 j hj
    · obtain rfl : j = t := by omega
      have := of_decide_eq_false hc.2
      omega
theorem carD_up (ds : List Nat) (t : Nat) (h : carD ds t = true) : ∀ n, t ≤ n → carD ds n = true
  | 0, hn => by
    obtain rfl : t = 0 := by omega
    exact h
  | n + 1, hn => by
    rcases Nat.lt_or_ge t (n + 1) with hl | hl
    · rw [carD, carD_up ds t h n (by omega)]; rfl
    · obtain rfl : t = n + 1 := by omega
      exact h

set_option maxRecDepth 100000 in
set_option maxHeartbeats 2000000 in
theorem carries_any (v : Value) (ds : List Nat) (hl : ds.length ≤ 1000) (w : World) (hv : Dig w v ds) :
    Calls Try.prog 53 #[v] w fun e w' => e = .returned (.bool (carsD ds)) ∧ w' = w := by
  obtain ⟨g, cap, rfl, h2, h3, h4⟩ := hv
  have HC : Hid (carsD ds = (carD ds ds.length || (decide (ds.length = 16) && decide (32768 ≤ ds.getD 15 0)))) := rfl
  obtain ⟨n, hn⟩ : ∃ n, ds.length = n := ⟨_, rfl⟩
  rw [hn] at h2 h4 HC hl ⊢
  have H4 := hide h4
  have HN := hide hn
  clear h4 hn
  go_enter Try.func53, Try.ntmps53
  go_wp2
  go_loopw [3] (fun i wr => ∃ t : Nat, t ≤ n ∧ i = .int .i64 t ∧ Hid (carD ds t = false) ∧ wr = w) (fun i _ => n - (intOf i).toNat)
  case atStart => exact ⟨0, by omega, rfl, rfl, rfl⟩
  case round =>
    obtain ⟨t, ht, rfl, hc, hw⟩ := hrel
    rw [hw]
    clear hw
    by_cases hlt : t < n
    · have hlz : (t : Int) < (n : Int) := by omega
      have hcell := H4.out t hlt
      have hcd : Hid (carD ds (t + 1) = (carD ds t || decide (65536 ≤ ds.getD t 0))) := rfl
      have hup := carD_up ds (t + 1)
      generalize ds.getD t 0 = x at hcell hcd
      by_cases hq : 65536 ≤ x
      · have hqi : (65536 : Int) ≤ (x : Int) := by omega
        have hres : Hid (carsD ds = true) := by
          rw [HC.out, hup (by rw [hcd.out, decide_eq_true hq]; simp) n (by omega)]; exact hide rfl
        clear hcd hup
        go_wp2
        go_ret
        exact ⟨by rw [hres.out]; rfl, rfl⟩
      · have hqi : ¬ (65536 : Int) ≤ (x : Int) := by omega
        have hnext : Hid (carD ds (t + 1) = false) := by
          rw [hcd.out, hc.out, decide_eq_false hq]; exact hide rfl
        clear hcd hup
        go_wp2
        go_roundw
        case rel => exact ⟨t + 1, by omega, by go_num, hnext, trivial⟩
        case measure => simp [intOf]; omega
    · obtain rfl : t = n := by omega
      by_cases h16 : t = 16
      · subst h16
        have hcell := H4.out 15 (by omega)
        rw [hc.out] at HC
        generalize ds.getD 15 0 = x at hcell HC
        have hx : decide (32768 ≤ x) = decide ((32768 : Int) ≤ (x : Int)) := by
          by_cases h : 32768 ≤ x
          · rw [decide_eq_true h]; exact (decide_eq_true (by omega)).symm
          · rw [decide_eq_false h]; exact (decide_eq_false (by omega)).symm
        have hres : Hid (carsD ds = decide ((32768 : Int) ≤ (x : Int))) := by
          rw [HC.out, hx]
          exact hide (by simp)
        clear hx
        clear HC
        go_wp2
        go_ret
        exact ⟨by rw [hres.out]; rfl, rfl⟩
      · have h16i : ¬ (t : Int) = 16 := by omega
        have hres : Hid (carsD ds = false) := by
          rw [HC.out, hc.out, decide_eq_false h16]; exact hide rfl
        have hbe : ((t : Int) == 16) = false := by simp; omega
        go_wp2
        go_ret
        exact ⟨by rw [hres.out]; rfl, rfl⟩
end Go.Proofs.Ytnakeieeopbeiaa

set_option linter.unusedVariables false
set_option linter.unusedSimpArgs false
namespace Go.Proofs.Ytnakeieeopbeiaa
open Go.RowKit

theorem Try.info3 : (Try.prog.info? 3).map (fun i => (i.zero, i.size, i.bytes)) = some (some (.int .i64 0), 1, 8) := by kernel_rfl
/-- The slice value v, made by the call itself (from block 'base' on), owns the digits. -/
def OwnD (w : World) (base : Nat) (v : Value) (ds : List Nat) : Prop := w.ownsRow base 3 1 v ds.length (dv ds)
theorem OwnD.nil (w : World) (base : Nat) : OwnD w base (.slice none 0 0) [] := ⟨rfl, .inl ⟨rfl, rfl⟩⟩
theorem dv_ones (ds : List Nat) : ∀ u ∈ dv ds, u.oneCell' = true := by
  intro u hu
  obtain ⟨b, _, rfl⟩ := List.mem_map.1 hu
  rfl
theorem OwnD.slice {w : World} {base : Nat} {v : Value} {ds : List Nat} (h : OwnD w base v ds) : ∃ ao cap, v = .slice ao ds.length cap := by
  obtain ⟨_, ⟨rfl, h2⟩ | ⟨g, cap, cur, hv, _⟩⟩ := h
  · exact ⟨none, 0, by rw [h2]⟩
  · exact ⟨_, _, hv⟩
theorem OwnD.dig {w : World} {base : Nat} {v : Value} {ds : List Nat} (h : OwnD w base v ds) (hne : 0 < ds.length) : Dig w v ds := by
  obtain ⟨_, h | ⟨g, cap, cur, hv, hg, hh, hn, hc, hs, ht⟩⟩ := h
  · have := h.2; omega
  · have hlt : g < w.heap.size := by
      rcases Nat.lt_or_ge g w.heap.size with hl | hl
      · exact hl
      · rw [Array.getElem?_eq_none hl] at hh; cases hh
    refine ⟨g, cap, hv, hn, hlt, fun i hi => ?_⟩
    have e : cur[i]? = some (.int .i64 ((ds.getD i 0 : Nat) : Int)) := by
      have := dv_at ds i hi
      rw [← ht, Nat.mul_one, List.getElem?_take_of_lt hi, Array.getElem?_toList] at this
      exact this
    simp [World.cell?, hh, e]
theorem OwnD.blocks {w w' : World} {base : Nat} {v : Value} {ds : List Nat} (h : OwnD w base v ds) (hb : ∀ k, k < w.heap.size → w'.heap[k]? = w.heap[k]?) : OwnD w' base v ds := by
  obtain ⟨h1, h | ⟨g, cap, cur, hv, hg, hh, r⟩⟩ := h
  · exact ⟨h1, .inl h⟩
  · refine ⟨h1, .inr ⟨g, cap, cur, hv, hg, ?_, r⟩⟩
    rw [hb g ?_, hh]
    rcases Nat.lt_or_ge g w.heap.size with hl | hl
    · exact hl
    · rw [Array.getElem?_eq_none hl] at hh; cases hh
theorem OwnD.ownBlock {w : World} {base : Nat} {v : Value} {ds : List Nat} (h : OwnD w base v ds) : ∀ k, v.ownBlock = some k → base ≤ k := by
  intro k hk
  obtain ⟨_, ⟨rfl, _⟩ | ⟨g, cap, cur, rfl, hg, _⟩⟩ := h
  · cases hk
  · simp [Value.ownBlock] at hk; omega
theorem grown_below {n : Nat} {w w' : World} {row : Option Nat} (hrow : ∀ k, row = some k → n ≤ k) (hn : n ≤ w.heap.size) (h : w.grownBy w' row) : Below n w w' := by
  obtain ⟨h1, h2, h3, h4, h5⟩ := h
  exact ⟨h1, h2, h3, h4, fun k hk => h5 k (by omega) (fun e => by have := hrow k e.symm; omega)⟩

/-- 'append(s, d)', s the call's own digits, d in a row of its own. -/
theorem wpList_appD {w : World} {ops : Array Oper} {rest : List Oper} {o : Oper} {a : Act} {Q : Exit → Act → World → Prop} (hgd : o.guard = none) (s x : Operand)
    (ho : o.op = .call { callee := .builtin .append, args := #[s, x], argTypes := #[78, 78] }) (base : Nat) (v : Value) (ds : List Nat) (hs : a.eval s = v) (hown : OwnD w base v ds)
    (g d : Nat) (hx : a.eval x = .slice (some ⟨g, 0, none⟩) 1 1) (hd : w.cell? ⟨g, 0, none⟩ = some (.int .i64 (d : Int))) (hb : ds.length ≤ 1000000) (hbase : base ≤ w.heap.size)
    (h : ∀ v' w', OwnD w' base v' (ds ++ [d]) → Below base w w' → wpList Try.prog ops Q rest (a.put o.dst v') w') : wpList Try.prog ops Q (o :: rest) a w := by
  obtain ⟨i0, hi, hz0, hz1, hz2⟩ := info_parts Try.info3
  have hnews : ∀ j u, (dv [d])[j]? = some u → w.cell? ((⟨g, 0, none⟩ : Addr).add j) = some u := by
    intro j u hj
    cases j with
    | zero =>
      rw [add_plain, hd]
      simpa [dv] using hj
    | succ j => simp [dv] at hj
  obtain ⟨v', w', hrun, r2, r3, _⟩ := run_append_own (P := Try.prog) w base 78 o.type 3 i0 (.int .i64 0) 1 8 Try.underlying78 hi hz0 hz1 hz2 rfl (by decide) v _ _ hown ⟨g, 0, none⟩ 1 1 (dv [d]) (by simp [dv]) hnews (dv_ones [d]) (by unfold maxLen; omega) (by omega) hbase
  refine wpList_plain hgd fun K hK => ?_
  unfold Oper.wp
  simp [execOp, ho, resolve, invoke, builtin, hs, hx, hrun, Result.andThen]
  refine hK _ _ (h v' w' ?_ (grown_below (hown.ownBlock) hbase r3))
  have e : dv ds ++ dv [d] = dv (ds ++ [d]) := by simp [dv]
  rw [e] at r2
  simpa [OwnD] using r2

/-- The carry into digit t. -/
def crC (ds : List Nat) : Nat → Nat
  | 0 => 0
  | t + 1 => (crC ds t + ds.getD t 0) / 65536
def crO (ds : List Nat) : Nat → List Nat
  | 0 => []
  | t + 1 => crO ds t ++ [(crC ds t + ds.getD t 0) % 65536]
theorem crO_length (ds : List Nat) : ∀ t, (crO ds t).length = t
  | 0 => rfl
  | t + 1 => by rw [crO, List.length_append, crO_length ds t]; rfl
theorem crC_lt {ds : List Nat} (hd : ∀ j, ds.getD j 0 < 1125899906842624) : ∀ t, crC ds t < 2251799813685248
  | 0 => by simp [crC]
  | t + 1 => by
    have := crC_lt hd t
    have := hd t
    rw [crC]
    omega
theorem getD_past {ds : List Nat} {t : Nat} (h : ds.length ≤ t) : ds.getD t 0 = 0 := by
  rw [List.getD_eq_getElem?_getD, List.getElem?_eq_none h]; rfl
theorem crC_past {ds : List Nat} (hd : ∀ j, ds.getD j 0 < 1125899906842624) {M : Nat} (hM : ds.length ≤ M) : ∀ k, crC ds (M + k) * 65536 ^ k < 2251799813685248
  | 0 => by simpa using crC_lt hd M
  | k + 1 => by
    have ih := crC_past hd hM k
    rw [← Nat.add_assoc, crC, getD_past (by omega), Nat.add_zero, Nat.pow_succ, Nat.mul_comm (65536 ^ k), ← Nat.mul_assoc]
    exact Nat.lt_of_le_of_lt (Nat.mul_le_mul_right _ (Nat.div_mul_le_self _ _)) ih
theorem crO_getD (ds : List Nat) (t j : Nat) (h : j < t) : (crO ds t).getD j 0 = (crC ds j + ds.getD j 0) % 65536 := by
  induction t with
  | zero => omega
  | succ t ih =>
    have hl := crO_length ds t
    rw [crO, List.getD_eq_getElem?_getD]
    rcases Nat.lt_or_ge j t with hj | hj
    · rw [List.getElem?_append_left (by omega), ← List.getD_eq_getElem?_getD, ih hj]
    · obtain rfl : j = t := by omega
      rw [List.getElem?_append_right (by omega), hl, Nat.sub_self]; rfl
theorem cr_val (ds : List Nat) : ∀ t, dpre (crO ds t) t + crC ds t * 65536 ^ t = dpre ds t
  | 0 => by simp [dpre, crC]
  | t + 1 => by
    have ih := cr_val ds t
    have hc : dpre (crO ds (t + 1)) t = dpre (crO ds t) t := dpre_congr t (fun j hj => by rw [crO_getD ds (t + 1) j (by omega), crO_getD ds t j hj])
    rw [dpre, dpre, hc, crO_getD ds (t + 1) t (by omega), crC, ← ih, Nat.pow_succ]
    generalize dpre (crO ds t) t = p
    generalize 65536 ^ t = m
    generalize crC ds t = c
    generalize ds.getD t 0 = d
    have e := Nat.div_add_mod (c + d) 65536
    generalize (c + d) / 65536 = q at *
    generalize (c + d) % 65536 = r at *
    have e2 : 65536 * q * m + r * m = c * m + d * m := by rw [← Nat.add_mul, e, Nat.add_mul]
    have e3 : q * (m * 65536) = 65536 * q * m := by rw [Nat.mul_comm m, ← Nat.mul_assoc, Nat.mul_comm q]
    omega

end Go.Proofs.Ytnakeieeopbeiaa

set_option linter.unusedVariables false
set_option linter.unusedSimpArgs false
namespace Go.Proofs.Ytnakeieeopbeiaa
open Go.RowKit

/-- The number of a list of digits. -/
def nV (l : List Nat) : Nat := dpre l l.length
theorem dpre_past (l : List Nat) (n : Nat) (h : l.length ≤ n) : ∀ k, dpre l (n + k) = dpre l n
  | 0 => rfl
  | k + 1 => by rw [← Nat.add_assoc, dpre, getD_past (by omega), Nat.zero_mul, Nat.add_zero, dpre_past l n h k]
theorem dpre_nV (l : List Nat) (n : Nat) (h : l.length ≤ n) : dpre l n = nV l := by
  obtain ⟨k, rfl⟩ : ∃ k, n = l.length + k := ⟨n - l.length, by omega⟩
  exact dpre_past l l.length (Nat.le_refl _) k
theorem dpre_mono (l : List Nat) (t : Nat) : ∀ k, dpre l t ≤ dpre l (t + k)
  | 0 => Nat.le_refl _
  | k + 1 => by rw [← Nat.add_assoc, dpre]; exact Nat.le_trans (dpre_mono l t k) (Nat.le_add_right _ _)
/-- The carried digits have the same number. -/
theorem cr_same (ds : List Nat) (L : Nat) (h : ds.length ≤ L) (hc : crC ds L = 0) : nV (crO ds L) = nV ds := by
  have := cr_val ds L
  rw [hc, Nat.zero_mul, Nat.add_zero] at this
  unfold nV
  rw [crO_length, this]
  exact dpre_nV ds L h
theorem cr_dig (ds : List Nat) (L j : Nat) : (crO ds L).getD j 0 < 65536 := by
  rcases Nat.lt_or_ge j L with h | h
  · rw [crO_getD ds L j h]; omega
  · rw [getD_past (by rw [crO_length]; exact h)]; decide
theorem crC_end {ds : List Nat} (hd : ∀ j, ds.getD j 0 < 1125899906842624) {t : Nat} (h : ds.length ≤ t) (hc : 0 < crC ds t) : t < ds.length + 4 := by
  rcases Nat.lt_or_ge t (ds.length + 4) with h1 | h1
  · exact h1
  · exfalso
    obtain ⟨k, rfl⟩ : ∃ k, t = ds.length + 4 + k := ⟨t - (ds.length + 4), by omega⟩
    have h2 := crC_past hd (Nat.le_refl ds.length) (4 + k)
    rw [← Nat.add_assoc, Nat.pow_add] at h2
    have h3 : 1 ≤ 65536 ^ k := Nat.pow_pos (by decide)
    have h4 : 1 * (65536 ^ 4 * 1) ≤ crC ds (ds.length + 4 + k) * (65536 ^ 4 * 65536 ^ k) := Nat.mul_le_mul hc (Nat.mul_le_mul (Nat.le_refl _) h3)
    have h5 : (65536 : Nat) ^ 4 = 18446744073709551616 := by decide
    rw [h5] at h2 h4
    omega
/-- Where more digits came, the number is great. -/
theorem cr_big (ds : List Nat) (t : Nat) (h16 : 16 ≤ t) (h : ds.length ≤ t) (hc : 0 < crC ds t) : 65536 ^ 16 ≤ nV ds := by
  have h1 := cr_val ds t
  rw [dpre_nV ds t h] at h1
  have h2 : 65536 ^ 16 ≤ 65536 ^ t := Nat.pow_le_pow_right (by decide) h16
  have h3 : 1 * 65536 ^ t ≤ crC ds t * 65536 ^ t := Nat.mul_le_mul_right _ hc
  omega
/-- 'add': to a digit, and the list grows if it must. -/
def addD (l : List Nat) (i v : Nat) : List Nat := (l ++ List.replicate (i + 1 - l.length) 0).set i ((l ++ List.replicate (i + 1 - l.length) 0).getD i 0 + v)
theorem addD_length (l : List Nat) (i v : Nat) : (addD l i v).length = max l.length (i + 1) := by
  simp only [addD, List.length_set, List.length_append, List.length_replicate]
  omega
theorem pad_getD (l : List Nat) (k j : Nat) : (l ++ List.replicate k 0).getD j 0 = l.getD j 0 := by
  rw [List.getD_eq_getElem?_getD, List.getD_eq_getElem?_getD]
  rcases Nat.lt_or_ge j l.length with h | h
  · rw [List.getElem?_append_left h]
  · rw [List.getElem?_append_right h, List.getElem?_eq_none h]
    rcases Nat.lt_or_ge (j - l.length) k with h1 | h1
    · rw [List.getElem?_replicate_of_lt h1]; rfl
    · rw [List.getElem?_eq_none (by simpa using h1)]
theorem addD_getD (l : List Nat) (i v j : Nat) : (addD l i v).getD j 0 = l.getD j 0 + if j = i then v else 0 := by
  unfold addD
  rw [List.getD_eq_getElem?_getD, List.getElem?_set]
  by_cases h : i = j
  · subst h
    rw [if_pos rfl, if_pos (by simp; omega), if_pos rfl, pad_getD]
    rfl
  · rw [if_neg h, if_neg (Ne.symm h), ← List.getD_eq_getElem?_getD, pad_getD]
    rfl
theorem dpre_add (l : List Nat) (i v : Nat) : ∀ t, dpre (addD l i v) t = dpre l t + if i < t then v * 65536 ^ i else 0
  | 0 => by simp [dpre]
  | t + 1 => by
    rw [dpre, dpre, dpre_add l i v t, addD_getD]
    by_cases h1 : i < t
    · rw [if_pos h1, if_neg (by omega), if_pos (by omega)]
      simp only [Nat.add_zero]
      omega
    · by_cases h2 : t = i
      · subst h2
        rw [if_neg (Nat.lt_irrefl _), if_pos rfl, if_pos (by omega), Nat.add_mul]
        omega
      · rw [if_neg h1, if_neg h2, if_neg (by omega)]
        simp only [Nat.add_zero]
theorem nV_add (l : List Nat) (i v : Nat) : nV (addD l i v) = nV l + v * 65536 ^ i := by
  have h := dpre_add l i v (max l.length (i + 1))
  rw [if_pos (by omega), dpre_nV l _ (by omega), dpre_nV (addD l i v) _ (by rw [addD_length]; exact Nat.le_refl _)] at h
  exact h
/-- What 'folded' begins with. -/
def fo0 (d : List Nat) : List Nat := (d.take 16).set 15 (d.getD 15 0 % 32768)
/-- The list behind the digits below t (from 16 on). -/
def foT (d : List Nat) : Nat → List Nat
  | 0 => addD (fo0 d) 0 (19 * (d.getD 15 0 / 32768))
  | t + 1 => addD (foT d t) t (38 * d.getD (16 + t) 0)
theorem fo0_length (d : List Nat) (h : 16 ≤ d.length) : (fo0 d).length = 16 := by simp [fo0]; omega
theorem foT_length (d : List Nat) (h : 16 ≤ d.length) : ∀ t, (foT d t).length = max 16 t
  | 0 => by rw [foT, addD_length, fo0_length d h]; omega
  | t + 1 => by rw [foT, addD_length, foT_length d h t]; omega
theorem fo0_getD (d : List Nat) (h : 16 ≤ d.length) (j : Nat) : (fo0 d).getD j 0 = if j < 15 then d.getD j 0 else if j = 15 then d.getD 15 0 % 32768 else 0 := by
  unfold fo0
  rw [List.getD_eq_getElem?_getD, List.getElem?_set]
  by_cases h1 : 15 = j
  · subst h1
    rw [if_pos rfl, if_pos (by simp; omega), if_neg (by decide), if_pos rfl]; rfl
  · rw [if_neg h1]
    by_cases h2 : j < 15
    · rw [if_pos h2, List.getElem?_take_of_lt (by omega), ← List.getD_eq_getElem?_getD]
    · rw [if_neg h2, if_neg (by omega), List.getElem?_eq_none (by simp; omega)]; rfl
theorem fo0_val (d : List Nat) (h : 16 ≤ d.length) : nV (fo0 d) + d.getD 15 0 / 32768 * 2 ^ 255 = dpre d 16 := by
  unfold nV
  have e1 : dpre (fo0 d) 16 = dpre (fo0 d) 15 + (fo0 d).getD 15 0 * 65536 ^ 15 := rfl
  have e2 : dpre d 16 = dpre d 15 + d.getD 15 0 * 65536 ^ 15 := rfl
  rw [fo0_length d h, e1, e2, fo0_getD d h 15, if_neg (by decide), if_pos rfl, dpre_congr (l := fo0 d) (m := d) 15 (fun j hj => by rw [fo0_getD d h j, if_pos hj])]
  have e : (65536 : Nat) ^ 15 * 32768 = 2 ^ 255 := by decide
  rw [← e]
  generalize dpre d 15 = x
  generalize (65536 : Nat) ^ 15 = m
  have h1 := Nat.div_add_mod (d.getD 15 0) 32768
  generalize d.getD 15 0 / 32768 = q at *
  generalize d.getD 15 0 % 32768 = r at *
  rw [← h1, Nat.add_mul, show 32768 * q * m = q * (m * 32768) by rw [Nat.mul_comm 32768 q, Nat.mul_assoc, Nat.mul_comm 32768 m]]
  omega
/-- What comes back, as a number. -/
def foH (d : List Nat) : Nat → Nat
  | 0 => d.getD 15 0 / 32768
  | t + 1 => foH d t + 2 * d.getD (16 + t) 0 * 65536 ^ t
theorem foT_val (d : List Nat) (h : 16 ≤ d.length) : ∀ t, nV (foT d t) = nV (fo0 d) + 19 * foH d t
  | 0 => by rw [foT, nV_add, foH]; simp
  | t + 1 => by
    rw [foT, nV_add, foT_val d h t, foH]
    generalize 65536 ^ t = m
    generalize d.getD (16 + t) 0 = x
    rw [Nat.mul_add, show 38 * x * m = 19 * (2 * x * m) by rw [← Nat.mul_assoc, ← Nat.mul_assoc]]
    omega
theorem foH_val (d : List Nat) (h : 16 ≤ d.length) : ∀ t, nV (fo0 d) + foH d t * 2 ^ 255 = dpre d (16 + t)
  | 0 => fo0_val d h
  | t + 1 => by
    have ih := foH_val d h t
    have key : ∀ x m y : Nat, 2 * x * m * y = x * (2 * y * m) := fun x m y => by
      rw [Nat.mul_comm 2 x, Nat.mul_assoc, Nat.mul_assoc, Nat.mul_assoc 2 y m, Nat.mul_comm m y]
    have e : (65536 : Nat) ^ (16 + t) = 2 * 2 ^ 255 * 65536 ^ t := by rw [Nat.pow_add, show (65536 : Nat) ^ 16 = 2 * 2 ^ 255 by decide]
    rw [← Nat.add_assoc, dpre, ← ih, foH, Nat.add_mul, key, e, Nat.add_assoc]
theorem foT_dig (d : List Nat) (h : 16 ≤ d.length) (hd : ∀ j, d.getD j 0 < 65536) : ∀ t j, (foT d t).getD j 0 ≤ 65555 + if j < t then 38 * 65535 else 0
  | 0, j => by
    rw [foT, addD_getD, fo0_getD d h j]
    have := hd j
    have := hd 15
    split <;> split <;> (try split) <;> omega
  | t + 1, j => by
    rw [foT, addD_getD]
    have ih := foT_dig d h hd t j
    have := hd (16 + t)
    by_cases e : j = t
    · subst e
      rw [if_neg (Nat.lt_irrefl _)] at ih
      rw [if_pos rfl, if_pos (by omega)]; omega
    · rw [if_neg e, Nat.add_zero]
      by_cases e2 : j < t
      · rw [if_pos e2] at ih; rw [if_pos (by omega)]; exact ih
      · rw [if_neg e2] at ih; rw [if_neg (by omega)]; exact ih
/-- Folded digits. -/
def foD (d : List Nat) : List Nat := foT d (d.length - 16)
theorem fo_val (d : List Nat) (h : 16 ≤ d.length) : nV d = nV (foD d) + (2 ^ 255 - 19) * foH d (d.length - 16) := by
  have h1 := foH_val d h (d.length - 16)
  have h2 := foT_val d h (d.length - 16)
  rw [show 16 + (d.length - 16) = d.length by omega] at h1
  unfold foD
  rw [h2]
  show dpre d d.length = _
  rw [← h1]
  generalize foH d (d.length - 16) = x
  rw [Nat.mul_comm x, show (2 : Nat) ^ 255 = (2 ^ 255 - 19) + 19 by decide, Nat.add_mul]
  omega
/-- One number has one list of 16 digits. -/
def numD (V : Nat) : List Nat := (List.range 16).map fun i => V / 65536 ^ i % 65536
theorem numD_length (V : Nat) : (numD V).length = 16 := by simp [numD]
theorem numD_getD (V j : Nat) (h : j < 16) : (numD V).getD j 0 = V / 65536 ^ j % 65536 := by
  rw [List.getD_eq_getElem?_getD, numD, List.getElem?_map, List.getElem?_range h]; rfl
theorem numD_dig (V j : Nat) : (numD V).getD j 0 < 65536 := by
  rcases Nat.lt_or_ge j 16 with h | h
  · rw [numD_getD V j h]; omega
  · rw [getD_past (by rw [numD_length]; exact h)]; decide
theorem dpre_digit {l : List Nat} (hd : ∀ j, l.getD j 0 < 65536) : ∀ n t, t < n → dpre l n / 65536 ^ t % 65536 = l.getD t 0
  | 0, t, h => absurd h (Nat.not_lt_zero _)
  | n + 1, t, h => by
    have hlt := dpre_lt hd n
    have hpos : ∀ k, 0 < (65536 : Nat) ^ k := fun k => Nat.pow_pos (by decide)
    rw [dpre]
    rcases Nat.lt_or_ge t n with h1 | h1
    · have ih := dpre_digit hd n t h1
      obtain ⟨k, hk⟩ : ∃ k, n = t + (k + 1) := ⟨n - t - 1, by omega⟩
      have e : l.getD n 0 * 65536 ^ n = 65536 ^ t * (65536 * (l.getD n 0 * 65536 ^ k)) := by
        rw [hk, Nat.pow_add, Nat.pow_succ]
        generalize l.getD (t + (k + 1)) 0 = x
        generalize (65536 : Nat) ^ t = a
        generalize (65536 : Nat) ^ k = b
        rw [Nat.mul_comm b 65536, ← Nat.mul_assoc x a, Nat.mul_comm x a, Nat.mul_assoc a x, ← Nat.mul_assoc x 65536, Nat.mul_comm x 65536, Nat.mul_assoc 65536 x b]
      rw [e, Nat.add_mul_div_left _ _ (hpos t), Nat.add_mul_mod_self_left, ih]
    · obtain rfl : t = n := by omega
      rw [Nat.add_mul_div_right _ _ (hpos t), Nat.div_eq_of_lt hlt, Nat.zero_add, Nat.mod_eq_of_lt (hd t)]
theorem num_unique {l : List Nat} (hl : l.length = 16) (hd : ∀ j, l.getD j 0 < 65536) : l = numD (dpre l 16) := by
  apply List.ext_getElem?
  intro j
  rcases Nat.lt_or_ge j 16 with h | h
  · have h1 := dpre_digit hd 16 j h
    rw [← numD_getD _ j h, List.getD_eq_getElem?_getD, List.getD_eq_getElem?_getD] at h1
    have ea := List.getElem?_eq_getElem (l := l) (i := j) (by omega)
    have eb := List.getElem?_eq_getElem (l := numD (dpre l 16)) (i := j) (by rw [numD_length]; exact h)
    rw [ea, eb] at h1
    rw [ea, eb]
    simpa using h1.symm
  · rw [List.getElem?_eq_none (by omega), List.getElem?_eq_none (by rw [numD_length]; exact h)]
theorem num_val (V : Nat) (h : V < 65536 ^ 16) : dpre (numD V) 16 = V := by
  have key : ∀ t, t ≤ 16 → dpre (numD V) t = V % 65536 ^ t := by
    intro t
    induction t with
    | zero => intro _; simp [dpre, Nat.mod_one]
    | succ t ih =>
      intro ht
      rw [dpre, ih (by omega), numD_getD V t (by omega), Nat.pow_succ, Nat.mod_mul]
      rw [Nat.mul_comm (65536 ^ t)]
  rw [key 16 (Nat.le_refl _), Nat.mod_eq_of_lt h]
end Go.Proofs.Ytnakeieeopbeiaa
