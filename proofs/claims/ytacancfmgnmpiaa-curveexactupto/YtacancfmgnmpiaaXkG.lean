import Derived.Test.YtacancfmgnmpiaaFormsW
import Derived.Test.YtacancfmgnmpiaaXj
import Derived.Test.YtacancfmgnmpiaaXh
set_option linter.unusedVariables false
set_option linter.unusedSimpArgs false
namespace Go.Proofs.Ytacancfmgnmpiaa
open Go.RowKit Prm Edw

theorem xor7 (a : UInt8) : (a ^^^ 7).toNat / 8 = a.toNat / 8 := by
  have h : ∀ a : Fin 256, (a.val ^^^ 7) / 8 = a.val / 8 := by decide +kernel
  rw [UInt8.toNat_xor]
  exact h ⟨a.toNat, a.toNat_lt⟩
theorem xor192 (a : UInt8) : (a ^^^ 192).toNat % 64 = a.toNat % 64 := by
  have h : ∀ a : Fin 256, (a.val ^^^ 192) % 64 = a.val % 64 := by decide +kernel
  rw [UInt8.toNat_xor]
  exact h ⟨a.toNat, a.toNat_lt⟩
theorem xor128 (a : UInt8) : (a ^^^ 128).toNat % 128 = a.toNat % 128 := by
  have h : ∀ a : Fin 256, (a.val ^^^ 128) % 128 = a.val % 128 := by decide +kernel
  rw [UInt8.toNat_xor]
  exact h ⟨a.toNat, a.toNat_lt⟩
theorem set_at (k : List UInt8) (i j : Nat) (x : UInt8) (h : i ≠ j) : (k.set i x).getD j 0 = k.getD j 0 := by
  rw [List.getD_eq_getElem?_getD, List.getElem?_set_ne h, ← List.getD_eq_getElem?_getD]
theorem set_in (k : List UInt8) (i : Nat) (x : UInt8) (h : i < k.length) : (k.set i x).getD i 0 = x := by
  rw [List.getD_eq_getElem?_getD, List.getElem?_set_self h]; rfl
theorem clamp_same {k l : List UInt8} (hk : k.length = 32) (hl : l.length = 32) (h0 : (k.getD 0 0).toNat / 8 = (l.getD 0 0).toNat / 8) (h1 : ∀ i, i < 30 → k.getD (1 + i) 0 = l.getD (1 + i) 0) (h31 : (k.getD 31 0).toNat % 64 = (l.getD 31 0).toNat % 64) : clampL k = clampL l := by
  apply kn_inj (by rw [clamp_length, hk]) (by rw [clamp_length, hl])
  rw [kn_clamp k hk, kn_clamp l hl, h0, h31, psum_eq 1 30 h1]
theorem mod255 (a p t : Nat) (ha : a < 256) (hp : p < 1766847064778384329583297500742918515827483896875618958121606201292619776) : (a + 256 * p + 452312848583266388373324160190187140051835877600158453279131187530910662656 * t) % 57896044618658097711785492504343953926634992332820282019728792003956564819968 = a + 256 * p + 452312848583266388373324160190187140051835877600158453279131187530910662656 * (t % 128) := by
  omega
theorem un_same {k l : List UInt8} (h : ∀ i, i < 31 → k.getD i 0 = l.getD i 0) (h31 : (k.getD 31 0).toNat % 128 = (l.getD 31 0).toNat % 128) : un k = un l := by
  unfold un
  have e1 := kn_ends k
  have e2 := kn_ends l
  rw [e1, e2, mod255 _ _ _ (k.getD 0 0).toNat_lt (psum_lt k 1 30), mod255 _ _ _ (l.getD 0 0).toNat_lt (psum_lt l 1 30), h31, h 0 (by omega), psum_eq (l := l) 1 30 (fun i hi => h (1 + i) (by omega))]
theorem cnt_full : cntL (fun _ => 255) 32 = List.replicate 32 255 := by decide +kernel
theorem kn_cons' (U : UInt8) (l : List UInt8) : kn (U :: l) = U.toNat + 256 * psum (0 :: l) 1 31 := by
  unfold kn
  have h := psum_add (U :: l) 0 1 31
  rw [show 1 + 31 = 32 from rfl, show 0 + 1 = 1 from rfl] at h
  rw [h, psum_eq (l := 0 :: l) 1 31 (fun i hi => by rw [Nat.add_comm 1 i, List.getD_cons_succ, List.getD_cons_succ])]
  simp [psum]
theorem un_over (U : UInt8) (m : Nat) (hm : m < 19) (hU : U.toNat = 237 + m) : un ((cntL (fun _ => 255) 32).set 0 U) = re m := by
  rw [cnt_full]
  show un (U :: List.replicate 31 255) = re m
  unfold un
  have e : psum (0 :: List.replicate 31 255) 1 31 = 452312848583266388373324160190187140051835877600158453279131187530910662655 := by decide +kernel
  rw [kn_cons', e, hU]
  refine re_eq.2 ?_
  unfold P
  omega
theorem un_small (V : UInt8) (m : Nat) (hm : m < 19) (hV : V.toNat = m) : un (keyN V) = re m := by
  unfold un keyN
  have e : psum (0 :: List.replicate 31 0) 1 31 = 0 := by decide +kernel
  rw [kn_cons', e, hV]
  refine re_eq.2 ?_
  unfold P
  omega
theorem rest_of (z : Int) : ∃ m : Nat, m < 19 ∧ (z.tmod 19 = (m : Int) ∨ (z.tmod 19 < 0 ∧ IntKind.i64.wrap (z.tmod 19 + 19) = (m : Int))) := by
  have h1 := Int.tmod_lt_of_pos z (show (0 : Int) < 19 by decide)
  have h2 := Int.lt_tmod_of_pos z (show (0 : Int) < 19 by decide)
  by_cases h : z.tmod 19 < 0
  · refine ⟨(z.tmod 19 + 19).toNat, by omega, .inr ⟨h, ?_⟩⟩
    rw [wrap64_small (by omega) (by omega)]
    omega
  · exact ⟨(z.tmod 19).toNat, by omega, .inl (by omega)⟩
theorem forms_any (k u : List UInt8) (z : Int) (lk : k.length = 32) (lu : u.length = 32) (w : World) : Calls Try.prog 4 #[.agg (k.map byt).toArray, .agg (u.map byt).toArray, .int .i64 z] w fun e w' => e = .returned (.bool true) ∧ Below w.heap.size w w' := by
  obtain ⟨m, hm, hz⟩ := rest_of z
  obtain ⟨A, hA⟩ : ∃ A, k.getD 0 0 ^^^ 7 = A := ⟨_, rfl⟩
  obtain ⟨K1, e1⟩ : ∃ K, k.set 0 A = K := ⟨_, rfl⟩
  obtain ⟨B, hB⟩ : ∃ A, K1.getD 31 0 ^^^ 192 = A := ⟨_, rfl⟩
  obtain ⟨K2, e2⟩ : ∃ K, K1.set 31 B = K := ⟨_, rfl⟩
  obtain ⟨D, hD⟩ : ∃ A, u.getD 31 0 ^^^ 128 = A := ⟨_, rfl⟩
  obtain ⟨W1, e3⟩ : ∃ K, u.set 31 D = K := ⟨_, rfl⟩
  obtain ⟨O, e4⟩ : ∃ K, (cntL (fun _ => 255) 32).set 0 (UInt8.ofNat (237 + m)) = K := ⟨_, rfl⟩
  have hU : (UInt8.ofNat (237 + m)).toNat = 237 + m := by rw [UInt8.toNat_ofNat']; omega
  have hV : (UInt8.ofNat m).toNat = m := by rw [UInt8.toNat_ofNat']; omega
  have lK1 : K1.length = 32 := by rw [← e1, List.length_set, lk]
  have lK2 : K2.length = 32 := by rw [← e2, List.length_set, lK1]
  have lW1 : W1.length = 32 := by rw [← e3, List.length_set, lu]
  have lO : O.length = 32 := by rw [← e4, List.length_set, cnt_length]
  have lC : (clampL k).length = 32 := by rw [clamp_length, lk]
  have hK : clampL K2 = clampL k := by
    refine clamp_same lK2 lk ?_ (fun i hi => ?_) ?_
    · rw [← e2, set_at _ _ _ _ (by decide), ← e1, set_in _ _ _ (by omega), ← hA, xor7]
    · rw [← e2, set_at _ _ _ _ (by omega), ← e1, set_at _ _ _ _ (by omega)]
    · rw [← e2, set_in _ _ _ (by omega), ← hB, xor192, ← e1, set_at _ _ _ _ (by decide)]
  have hW : un W1 = un u := by
    refine un_same (fun i hi => ?_) ?_
    · rw [← e3, set_at _ _ _ _ (by omega)]
    · rw [← e3, set_in _ _ _ (by omega), ← hD, xor128]
  have t3 : timesL K2 u = timesL k u := by rw [times_num, times_num, hK]
  have t4 : timesL (clampL k) W1 = timesL k u := by rw [times_num, times_num, clamp_twice k lk, hW]
  have t5 : timesL K2 O = timesL K2 (keyN (UInt8.ofNat m)) := by
    rw [times_num, times_num, ← e4, un_over _ m hm hU, un_small _ m hm hV]
  have self : ∀ L : List UInt8, L.length = 32 → ∀ W, (Op.equalIn 10000 24 (.agg (L.map byt).toArray) (.agg (L.map byt).toArray)).run Try.prog W = .ok true W := fun L hl W => by
    have := eq23 L L hl hl W; rwa [decide_eq_true rfl] at this
  refine forms_walk k u (timesL k u) (clampL k) K1 K2 W1 O (timesL K2 O) z m A B D (UInt8.ofNat (237 + m)) (UInt8.ofNat m) lk lu (times_length _ _) lC lK1 lK2 lW1 lO hz hm hA hB hD e1 e2 e3 e4 ?_ ?_
    (fun W => times_any k u lk lu W) (fun W => clamp_any k lk W) (fun W => ?_) (fun W => ?_) (fun W => ?_) (fun W => times_any K2 O lK2 lO W) (fun W => ?_) (self _ (times_length _ _)) (self _ lC) (self _ (times_length _ _)) w
  · rw [wrap64_small (by omega) (by omega), hU]; omega
  · rw [hV]
  · rw [← t3]; exact times_any K2 u lK2 lu W
  · rw [← t4]; exact times_any _ W1 lC lW1 W
  · have := clamp_any (clampL k) lC W; rwa [clamp_twice k lk] at this
  · rw [t5]; exact times_any K2 _ lK2 (keyN_length _) W
end Go.Proofs.Ytacancfmgnmpiaa

set_option linter.unusedVariables false
set_option linter.unusedSimpArgs false
namespace Go.Proofs.Ytacancfmgnmpiaa
open Go.RowKit

theorem it_exact (t : List Nat) (ht : t.length = 10) (h : V t < 67108864 ^ 10) : V (itL t 3).1 = V t := by
  have i1 : itL t 1 = (psE t, psC t 10) := by rw [itL, if_neg (by simp [itL])]; rfl
  have c0 : psC t 10 = 0 := by rw [(psC_eq t ht).1]; exact Nat.div_eq_of_lt h
  have hst : itL t (1 + 2) = itL t 1 := it_stop t 1 (by rw [i1]; exact c0) 2
  rw [show 3 = 1 + 2 from rfl, hst, i1]
  dsimp only
  rw [psE_val t ht, Nat.div_eq_of_lt h, Nat.mod_eq_of_lt h, Nat.mul_zero, Nat.add_zero]
theorem vs_div {t : List Nat} (h : ∀ i, t.getD i 0 < 67108864) : ∀ r d, d < r → vs t r / 67108864 ^ d % 67108864 = t.getD d 0
  | 0, d, hd => by omega
  | r + 1, d, hd => by
    rw [vs]
    by_cases hq : d = r
    · subst hq
      have hl := vs_lt h d
      rw [Nat.add_mul_div_right _ _ (Nat.pow_pos (by decide)), Nat.div_eq_of_lt hl, Nat.zero_add]
      exact Nat.mod_eq_of_lt (h d)
    · have ih := vs_div h r d (by omega)
      obtain ⟨e, he⟩ : ∃ e, r = d + (e + 1) := ⟨r - d - 1, by omega⟩
      have ee : t.getD r 0 * 67108864 ^ r = t.getD r 0 * 67108864 ^ e * 67108864 * 67108864 ^ d := by
        rw [he, Nat.pow_add, Nat.pow_succ, Nat.mul_comm (67108864 ^ d), ← Nat.mul_assoc, ← Nat.mul_assoc]
      rw [ee, Nat.add_mul_div_right _ _ (Nat.pow_pos (by decide)), Nat.add_mul_mod_self_right, ih]
theorem top_is {t : List Nat} (h : ∀ i, t.getD i 0 < 67108864) : V t / 2 ^ 255 = t.getD 9 0 / 2097152 ∧ V t / 67108864 ^ 9 = t.getD 9 0 := by
  have e1 : V t = vs t 9 + t.getD 9 0 * 67108864 ^ 9 := rfl
  have hl := vs_lt h 9
  have e2 : V t / 67108864 ^ 9 = t.getD 9 0 := by rw [e1, Nat.add_mul_div_right _ _ (Nat.pow_pos (by decide)), Nat.div_eq_of_lt hl, Nat.zero_add]
  refine ⟨?_, e2⟩
  rw [show 2 ^ 255 = 67108864 ^ 9 * 2097152 by decide +kernel, ← Nat.div_div_eq_div_mul, e2]
theorem set_set (t : List Nat) (k x y : Nat) (hy : t.getD k 0 = y) (hk : k < t.length) : (t.set k x).set k y = t := by
  apply List.ext_getElem (by simp)
  intro i h1 h2
  by_cases hi : i = k
  · subst hi
    rw [List.getElem_set_self, ← hy, List.getD_eq_getElem?_getD, List.getElem?_eq_getElem h2]
    rfl
  · rw [List.getElem_set_ne (by omega), List.getElem_set_ne (by omega)]
/-- What is above 2^255 folded. -/
def fw (t : List Nat) : List Nat := (t.set 9 (t.getD 9 0 % 2097152)).set 0 (t.getD 0 0 + 19 * (t.getD 9 0 / 2097152))
theorem fw_len (t : List Nat) : (fw t).length = t.length := by simp [fw]
theorem fw_val (t : List Nat) (ht : t.length = 10) : V (fw t) + (t.getD 9 0 / 2097152) * Prm.P = V t := by
  obtain ⟨q, hq⟩ : ∃ q, t.getD 9 0 / 2097152 = q := ⟨_, rfl⟩
  obtain ⟨r, hr⟩ : ∃ r, t.getD 9 0 % 2097152 = r := ⟨_, rfl⟩
  have h9 : t.getD 9 0 = r + q * 2097152 := by rw [← hq, ← hr]; omega
  have hl : (t.set 9 r).length = 10 := by simp [ht]
  have h0 : (t.set 9 r).getD 0 0 = t.getD 0 0 := setD_at _ _ _ _ (by decide)
  have s1 := vs_setk (t.set 9 r) 9 (q * 2097152) (by omega) 10
  rw [setD_in _ _ _ (by omega), ← h9, set_set t 9 r _ rfl (by omega), if_pos (by decide)] at s1
  have s2 := vs_setk (t.set 9 r) 0 (19 * q) (by omega) 10
  rw [h0, if_pos (by decide), Nat.pow_zero, Nat.mul_one] at s2
  show vs (fw t) 10 + _ = vs t 10
  unfold fw
  rw [hq, hr, s1, s2]
  have hp : 2097152 * 67108864 ^ 9 = Prm.P + 19 := by decide +kernel
  rw [Nat.mul_assoc, hp, Nat.mul_add, Nat.add_assoc, Nat.add_comm (19 * q), Nat.mul_comm 19 q]
def wrL (t : List Nat) : Nat → List Nat
  | 0 => t
  | j + 1 => if 2097152 ≤ (wrL t j).getD 9 0 then (itL (fw (wrL t j)) 3).1 else wrL t j
theorem fw_small {t : List Nat} (ht : Dg t) (i : Nat) : (fw t).getD i 0 ≤ 4611686018427387903 := by
  have h0 := ht.lt 0
  have h9 := ht.lt 9
  have hi := ht.lt i
  have hl := ht.len
  unfold fw
  by_cases e : i = 0
  · subst e
    rw [setD_in _ _ _ (by simp; omega)]
    omega
  · rw [setD_at _ _ _ _ (by omega)]
    by_cases e9 : i = 9
    · subst e9
      rw [setD_in _ _ _ (by omega)]
      omega
    · rw [setD_at _ _ _ _ (by omega)]
      omega
theorem V_lt {t : List Nat} (ht : Dg t) : V t < 67108864 ^ 10 := vs_lt ht.lt 10
theorem wr_step {t : List Nat} (ht : Dg t) : Dg (itL (fw t) 3).1 ∧ V (itL (fw t) 3).1 + (V t / 2 ^ 255) * Prm.P = V t := by
  have hl : (fw t).length = 10 := by rw [fw_len, ht.len]
  have hv := fw_val t ht.len
  refine ⟨it_dg _ hl 2 (it_end _ hl (fw_small ht)), ?_⟩
  rw [it_exact _ hl (by have := V_lt ht; omega), (top_is ht.lt).1]
  exact hv
theorem wr_dg {t : List Nat} (ht : Dg t) : ∀ j, Dg (wrL t j)
  | 0 => ht
  | j + 1 => by
    rw [wrL]
    split
    · exact (wr_step (wr_dg ht j)).1
    · exact wr_dg ht j
theorem wr_mod {t : List Nat} (ht : Dg t) : ∀ j, V (wrL t j) % Prm.P = V t % Prm.P
  | 0 => rfl
  | j + 1 => by
    rw [wrL]
    split
    · have h := (wr_step (wr_dg ht j)).2
      rw [← wr_mod ht j, ← h, Nat.add_mul_mod_self_right]
    · exact wr_mod ht j
theorem wr_num {a b c X Q : Nat} (hX : X = Q + 19) (ha : a < 32 * X) (hQ : 1000 < Q) (hb : b + a / X * Q = a) (h1 : X ≤ b) (hc : c + b / X * Q = b) : c < X := by
  have hq : a / X < 32 := Nat.div_lt_of_lt_mul (by rw [Nat.mul_comm]; exact ha)
  have e := Nat.div_add_mod a X
  have hm := Nat.mod_lt a (show 0 < X by omega)
  have e2 : X * (a / X) = a / X * Q + 19 * (a / X) := by rw [hX, Nat.add_mul, Nat.mul_comm Q]
  have hb2 : b < X + 608 := by omega
  have hb3 : b / X = 1 := by
    have h2 : b / X < 2 := Nat.div_lt_of_lt_mul (by omega)
    have h3 : 1 ≤ b / X := (Nat.le_div_iff_mul_le (by omega)).2 (by omega)
    omega
  rw [hb3, Nat.one_mul] at hc
  omega
theorem wr_end {t : List Nat} (ht : Dg t) : (wrL t 2).getD 9 0 < 2097152 := by
  have key : ∀ s : List Nat, Dg s → (s.getD 9 0 < 2097152 ↔ V s < 2 ^ 255) := fun s hs => by
    have h := (top_is hs.lt).1
    constructor
    · intro h9
      have : V s / 2 ^ 255 = 0 := by rw [h]; omega
      exact (Nat.div_eq_zero_iff.1 this).resolve_left (by decide)
    · intro hv
      rw [Nat.div_eq_of_lt hv] at h
      omega
  have d1 := wr_dg ht 1
  have d2 := wr_dg ht 2
  rw [key _ d2]
  have e2 : wrL t 2 = if 2097152 ≤ (wrL t 1).getD 9 0 then (itL (fw (wrL t 1)) 3).1 else wrL t 1 := by rw [wrL]
  have e1 : wrL t 1 = if 2097152 ≤ t.getD 9 0 then (itL (fw t) 3).1 else t := by rw [wrL]; rfl
  by_cases h1 : 2097152 ≤ (wrL t 1).getD 9 0
  · rw [if_pos h1] at e2
    have hv1 : 2 ^ 255 ≤ V (wrL t 1) := by
      rcases Nat.lt_or_ge (V (wrL t 1)) (2 ^ 255) with h | h
      · have := (key _ d1).2 h; omega
      · exact h
    have s2 := (wr_step d1).2
    rw [← e2] at s2
    by_cases h0 : 2097152 ≤ t.getD 9 0
    · rw [if_pos h0] at e1
      have s1 := (wr_step ht).2
      rw [← e1] at s1
      refine wr_num (Q := Prm.P) (by decide +kernel) ?_ (by decide +kernel) s1 hv1 s2
      have := V_lt ht
      rwa [show 67108864 ^ 10 = 32 * 2 ^ 255 by decide +kernel] at this
    · rw [if_neg h0] at e1
      rw [e1] at h1
      exact absurd h1 h0
  · rw [if_neg h1] at e2
    rw [e2]
    exact (key _ d1).1 (by omega)
theorem wr_stop (t : List Nat) (j : Nat) (h : (wrL t j).getD 9 0 < 2097152) : ∀ k, wrL t (j + k) = wrL t j
  | 0 => rfl
  | k + 1 => by rw [← Nat.add_assoc, wrL, wr_stop t j h k, if_neg (by omega)]
/-- The comparison with the prime. -/
def mm (t : List Nat) : List Nat := (itL (t.set 0 (t.getD 0 0 + 19)) 3).1
def fin (t : List Nat) : List Nat := if 2097152 ≤ (mm t).getD 9 0 then (mm t).set 9 ((mm t).getD 9 0 - 2097152) else t
theorem mm_is {t : List Nat} (ht : Dg t) (hv : V t < 2 ^ 255) : Dg (mm t) ∧ V (mm t) = V t + 19 := by
  have hl : (t.set 0 (t.getD 0 0 + 19)).length = 10 := by rw [List.length_set, ht.len]
  have hV : V (t.set 0 (t.getD 0 0 + 19)) = V t + 19 := vs_set0 t ht.len 19 9
  have hs : ∀ i, (t.set 0 (t.getD 0 0 + 19)).getD i 0 ≤ 4611686018427387903 := fun i => by
    have h0 := ht.lt 0
    have hi := ht.lt i
    have hl := ht.len
    by_cases e : i = 0
    · subst e; rw [setD_in _ _ _ (by omega)]; omega
    · rw [setD_at _ _ _ _ (by omega)]; omega
  refine ⟨it_dg _ hl 2 (it_end _ hl hs), ?_⟩
  unfold mm
  rw [it_exact _ hl, hV]
  rw [hV]
  have : 2 ^ 255 + 19 < 67108864 ^ 10 := by decide +kernel
  omega
theorem fin_is {t : List Nat} (ht : Dg t) (hv : V t < 2 ^ 255) : Dg (fin t) ∧ V (fin t) = V t % Prm.P := by
  obtain ⟨dm, vm⟩ := mm_is ht hv
  have htop := (top_is dm.lt).1
  have hP : 2 ^ 255 = Prm.P + 19 := by decide +kernel
  have hP2 : 1000 < Prm.P := by decide +kernel
  unfold fin
  split
  · rename_i h
    have hge : Prm.P ≤ V t := by
      rcases Nat.lt_or_ge (V t) Prm.P with h1 | h1
      · have : V (mm t) / 2 ^ 255 = 0 := Nat.div_eq_of_lt (by rw [vm, hP]; omega)
        rw [htop] at this
        omega
      · exact h1
    have h9 := dm.lt 9
    have hl := dm.len
    constructor
    · refine ⟨by rw [List.length_set, hl], fun i => ?_⟩
      by_cases e : i = 9
      · subst e; rw [setD_in _ _ _ (by omega)]; omega
      · rw [setD_at _ _ _ _ (by omega)]; exact dm.lt i
    · obtain ⟨x, hx⟩ : ∃ x, (mm t).getD 9 0 - 2097152 = x := ⟨_, rfl⟩
      have h9x : (mm t).getD 9 0 = x + 2097152 := by omega
      have s1 := vs_setk ((mm t).set 9 x) 9 2097152 (by simp; omega) 10
      rw [setD_in _ _ _ (by omega), ← h9x, set_set (mm t) 9 x _ rfl (by omega), if_pos (by decide), show 2097152 * 67108864 ^ 9 = 2 ^ 255 by decide +kernel] at s1
      have s2 : V (mm t) = V ((mm t).set 9 x) + 2 ^ 255 := s1
      rw [hx]
      rw [vm, hP] at s2
      have e : V ((mm t).set 9 x) = V t - Prm.P := by omega
      rw [e, Nat.mod_eq_sub_mod hge, Nat.mod_eq_of_lt (by omega)]
  · rename_i h
    refine ⟨ht, ?_⟩
    have hlt : V t < Prm.P := by
      rcases Nat.lt_or_ge (V t) Prm.P with h1 | h1
      · exact h1
      · have : 1 ≤ V (mm t) / 2 ^ 255 := (Nat.le_div_iff_mul_le (by decide)).2 (by rw [vm, hP]; omega)
        rw [htop] at this
        omega
    exact (Nat.mod_eq_of_lt hlt).symm
/-- One bit more. -/
theorem nb_bit (v i : Nat) (hi : i < 255) (hb : v / 2 ^ i % 2 = 1) : nb (v % 2 ^ (i + 1)) = (nb (v % 2 ^ i)).set (i / 8) (UInt8.ofNat (((nb (v % 2 ^ i)).getD (i / 8) 0).toNat + 2 ^ (i % 8))) ∧ ((nb (v % 2 ^ i)).getD (i / 8) 0).toNat + 2 ^ (i % 8) < 256 := by
  obtain ⟨a, ha⟩ : ∃ a, v % 2 ^ i = a := ⟨_, rfl⟩
  have hal : a < 2 ^ i := by rw [← ha]; exact Nat.mod_lt _ (Nat.two_pow_pos i)
  have e1 : v % 2 ^ (i + 1) = a + 2 ^ i := by rw [Nat.pow_succ, Nat.mod_mul, ha, hb, Nat.mul_one]
  rw [ha, e1]
  have e8 : 2 ^ i = 256 ^ (i / 8) * 2 ^ (i % 8) := by
    rw [show (256 : Nat) = 2 ^ 8 from rfl, ← Nat.pow_mul, ← Nat.pow_add]
    congr 1
    omega
  have hpos : 0 < 256 ^ (i / 8) := Nat.pow_pos (by decide)
  have hr : 2 ^ (i % 8) ≤ 128 := by
    have : 2 ^ (i % 8) ≤ 2 ^ 7 := Nat.pow_le_pow_right (by decide) (by omega)
    exact this
  have hq : a / 256 ^ (i / 8) < 2 ^ (i % 8) := Nat.div_lt_of_lt_mul (by rw [← e8]; exact hal)
  have hbyte : ((nb a).getD (i / 8) 0).toNat = a / 256 ^ (i / 8) := by
    rw [nb_at a _ (by omega), UInt8.toNat_ofNat']
    exact Nat.mod_eq_of_lt (by omega)
  rw [hbyte]
  refine ⟨getD_ext' (nb_length _) (by rw [List.length_set, nb_length]) fun j hj => ?_, by omega⟩
  rw [nb_at _ j hj]
  by_cases hji : i / 8 = j
  · subst hji
    rw [set_in _ _ _ (by rw [nb_length]; omega), e8, Nat.add_mul_div_left _ _ hpos]
  · rw [set_at _ _ _ _ hji, nb_at _ j hj]
    apply UInt8.toNat_inj.1
    rw [UInt8.toNat_ofNat', UInt8.toNat_ofNat']
    rcases Nat.lt_or_ge j (i / 8) with h | h
    · obtain ⟨c, hc⟩ : ∃ c, i / 8 = j + (c + 1) := ⟨i / 8 - j - 1, by omega⟩
      have e9 : 2 ^ i = 256 ^ j * (256 * (256 ^ c * 2 ^ (i % 8))) := by rw [e8, hc, Nat.pow_add, Nat.pow_succ, Nat.mul_comm (256 ^ c), Nat.mul_assoc, Nat.mul_assoc]
      rw [e9, Nat.add_mul_div_left _ _ (Nat.pow_pos (by decide)), Nat.add_mul_mod_self_left]
    · have hj1 : i / 8 + 1 ≤ j := by omega
      have hle : 256 ^ (i / 8 + 1) ≤ 256 ^ j := Nat.pow_le_pow_right (by decide) hj1
      have h256 : a + 2 ^ i < 256 ^ (i / 8 + 1) := by
        rw [Nat.pow_succ]
        have : 2 ^ i ≤ 256 ^ (i / 8) * 128 := by rw [e8]; exact Nat.mul_le_mul_left _ hr
        omega
      rw [Nat.div_eq_of_lt (by omega), Nat.div_eq_of_lt (by omega)]
theorem nb_nobit (v i : Nat) (hb : v / 2 ^ i % 2 = 0) : nb (v % 2 ^ (i + 1)) = nb (v % 2 ^ i) := by
  rw [Nat.pow_succ, Nat.mod_mul, hb, Nat.mul_zero, Nat.add_zero]
theorem dig_bit {t : List Nat} (ht : Dg t) (i : Nat) (hi : i < 255) : t.getD (i / 26) 0 / 2 ^ (i % 26) % 2 = V t / 2 ^ i % 2 := by
  have h := vs_div ht.lt 10 (i / 26) (by omega)
  rw [← h]
  show V t / 67108864 ^ (i / 26) % 67108864 / 2 ^ (i % 26) % 2 = _
  have e : 2 ^ i = 67108864 ^ (i / 26) * 2 ^ (i % 26) := by
    rw [show (67108864 : Nat) = 2 ^ 26 from rfl, ← Nat.pow_mul, ← Nat.pow_add]
    congr 1
    omega
  rw [e, ← Nat.div_div_eq_div_mul]
  generalize V t / 67108864 ^ (i / 26) = x
  have e2 : 67108864 = 2 ^ (i % 26) * 2 ^ (26 - i % 26) := by rw [← Nat.pow_add, show i % 26 + (26 - i % 26) = 26 by omega]
  conv => lhs; lhs; lhs; rw [e2]
  rw [Nat.mod_mul_right_div_self]
  have e3 : 2 ^ (26 - i % 26) = 2 * 2 ^ (25 - i % 26) := by rw [show 26 - i % 26 = (25 - i % 26) + 1 by omega, Nat.pow_succ, Nat.mul_comm]
  rw [e3, Nat.mod_mul_right_mod]
end Go.Proofs.Ytacancfmgnmpiaa
