import Derived.Test.YtacancfmgnmpiaaFormsW
set_option linter.unusedVariables false
set_option linter.unusedSimpArgs false
namespace Go.Proofs.Ytacancfmgnmpiaa
open Go.RowKit Prm Edw

theorem xor7 (a : UInt8) : (a ^^^ 7).toNat / 8 = a.toNat / 8 := by
  have h : ∀ a : Fin 256, (a.val ^^^ 7) / 8 = a.val / 8 := by decide +kernel
  rw [UInt8.toNat_xor]
  exact h ⟨a.toNat, a.toNat_lt⟩
theorem xor192 (a : UInt8) : (a ^^^ 192).toNat % 64 = a.toNat % 64 := by
  have h : ∀ a : Fin 256, (a.val ^^^ 192) % 64 = a.val % 64 := by decide +kernel
  rw [UInt8.toNat_xor]
  exact h ⟨a.toNat, a.toNat_lt⟩
theorem xor128 (a : UInt8) : (a ^^^ 128).toNat % 128 = a.toNat % 128 := by
  have h : ∀ a : Fin 256, (a.val ^^^ 128) % 128 = a.val % 128 := by decide +kernel
  rw [UInt8.toNat_xor]
  exact h ⟨a.toNat, a.toNat_lt⟩
theorem set_at (k : List UInt8) (i j : Nat) (x : UInt8) (h : i ≠ j) : (k.set i x).getD j 0 = k.getD j 0 := by
  rw [List.getD_eq_getElem?_getD, List.getElem?_set_ne h, ← List.getD_eq_getElem?_getD]
theorem set_in (k : List UInt8) (i : Nat) (x : UInt8) (h : i < k.length) : (k.set i x).getD i 0 = x := by
  rw [List.getD_eq_getElem?_getD, List.getElem?_set_self h]; rfl
theorem clamp_same {k l : List UInt8} (hk : k.length = 32) (hl : l.length = 32) (h0 : (k.getD 0 0).toNat / 8 = (l.getD 0 0).toNat / 8) (h1 : ∀ i, i < 30 → k.getD (1 + i) 0 = l.getD (1 + i) 0) (h31 : (k.getD 31 0).toNat % 64 = (l.getD 31 0).toNat % 64) : clampL k = clampL l := by
  apply kn_inj (by rw [clamp_length, hk]) (by rw [clamp_length, hl])
  rw [kn_clamp k hk, kn_clamp l hl, h0, h31, psum_eq 1 30 h1]
theorem mod255 (a p t : Nat) (ha : a < 256) (hp : p < 1766847064778384329583297500742918515827483896875618958121606201292619776) : (a + 256 * p + 452312848583266388373324160190187140051835877600158453279131187530910662656 * t) % 57896044618658097711785492504343953926634992332820282019728792003956564819968 = a + 256 * p + 452312848583266388373324160190187140051835877600158453279131187530910662656 * (t % 128) := by
  omega
theorem un_same {k l : List UInt8} (h : ∀ i, i < 31 → k.getD i 0 = l.getD i 0) (h31 : (k.getD 31 0).toNat % 128 = (l.getD 31 0).toNat % 128) : un k = un l := by
  unfold un
  have e1 := kn_ends k
  have e2 := kn_ends l
  rw [e1, e2, mod255 _ _ _ (k.getD 0 0).toNat_lt (psum_lt k 1 30), mod255 _ _ _ (l.getD 0 0).toNat_lt (psum_lt l 1 30), h31, h 0 (by omega), psum_eq (l := l) 1 30 (fun i hi => h (1 + i) (by omega))]
theorem cnt_full : cntL (fun _ => 255) 32 = List.replicate 32 255 := by decide +kernel
theorem kn_cons' (U : UInt8) (l : List UInt8) : kn (U :: l) = U.toNat + 256 * psum (0 :: l) 1 31 := by
  unfold kn
  have h := psum_add (U :: l) 0 1 31
  rw [show 1 + 31 = 32 from rfl, show 0 + 1 = 1 from rfl] at h
  rw [h, psum_eq (l := 0 :: l) 1 31 (fun i hi => by rw [Nat.add_comm 1 i, List.getD_cons_succ, List.getD_cons_succ])]
  simp [psum]
theorem un_over (U : UInt8) (m : Nat) (hm : m < 19) (hU : U.toNat = 237 + m) : un ((cntL (fun _ => 255) 32).set 0 U) = re m := by
  rw [cnt_full]
  show un (U :: List.replicate 31 255) = re m
  unfold un
  have e : psum (0 :: List.replicate 31 255) 1 31 = 452312848583266388373324160190187140051835877600158453279131187530910662655 := by decide +kernel
  rw [kn_cons', e, hU]
  refine re_eq.2 ?_
  unfold P
  omega
theorem un_small (V : UInt8) (m : Nat) (hm : m < 19) (hV : V.toNat = m) : un (keyN V) = re m := by
  unfold un keyN
  have e : psum (0 :: List.replicate 31 0) 1 31 = 0 := by decide +kernel
  rw [kn_cons', e, hV]
  refine re_eq.2 ?_
  unfold P
  omega
theorem rest_of (z : Int) : ∃ m : Nat, m < 19 ∧ (z.tmod 19 = (m : Int) ∨ (z.tmod 19 < 0 ∧ IntKind.i64.wrap (z.tmod 19 + 19) = (m : Int))) := by
  have h1 := Int.tmod_lt_of_pos z (show (0 : Int) < 19 by decide)
  have h2 := Int.lt_tmod_of_pos z (show (0 : Int) < 19 by decide)
  by_cases h : z.tmod 19 < 0
  · refine ⟨(z.tmod 19 + 19).toNat, by omega, .inr ⟨h, ?_⟩⟩
    rw [wrap64_small (by omega) (by omega)]
    omega
  · exact ⟨(z.tmod 19).toNat, by omega, .inl (by omega)⟩
theorem forms_any (k u : List UInt8) (z : Int) (lk : k.length = 32) (lu : u.length = 32) (w : World) : Calls Try.prog 4 #[.agg (k.map byt).toArray, .agg (u.map byt).toArray, .int .i64 z] w fun e w' => e = .returned (.bool true) ∧ Below w.heap.size w w' := by
  obtain ⟨m, hm, hz⟩ := rest_of z
  obtain ⟨A, hA⟩ : ∃ A, k.getD 0 0 ^^^ 7 = A := ⟨_, rfl⟩
  obtain ⟨K1, e1⟩ : ∃ K, k.set 0 A = K := ⟨_, rfl⟩
  obtain ⟨B, hB⟩ : ∃ A, K1.getD 31 0 ^^^ 192 = A := ⟨_, rfl⟩
  obtain ⟨K2, e2⟩ : ∃ K, K1.set 31 B = K := ⟨_, rfl⟩
  obtain ⟨D, hD⟩ : ∃ A, u.getD 31 0 ^^^ 128 = A := ⟨_, rfl⟩
  obtain ⟨W1, e3⟩ : ∃ K, u.set 31 D = K := ⟨_, rfl⟩
  obtain ⟨O, e4⟩ : ∃ K, (cntL (fun _ => 255) 32).set 0 (UInt8.ofNat (237 + m)) = K := ⟨_, rfl⟩
  have hU : (UInt8.ofNat (237 + m)).toNat = 237 + m := by rw [UInt8.toNat_ofNat']; omega
  have hV : (UInt8.ofNat m).toNat = m := by rw [UInt8.toNat_ofNat']; omega
  have lK1 : K1.length = 32 := by rw [← e1, List.length_set, lk]
  have lK2 : K2.length = 32 := by rw [← e2, List.length_set, lK1]
  have lW1 : W1.length = 32 := by rw [← e3, List.length_set, lu]
  have lO : O.length = 32 := by rw [← e4, List.length_set, cnt_length]
  have lC : (clampL k).length = 32 := by rw [clamp_length, lk]
  have hK : clampL K2 = clampL k := by
    refine clamp_same lK2 lk ?_ (fun i hi => ?_) ?_
    · rw [← e2, set_at _ _ _ _ (by decide), ← e1, set_in _ _ _ (by omega), ← hA, xor7]
    · rw [← e2, set_at _ _ _ _ (by omega), ← e1, set_at _ _ _ _ (by omega)]
    · rw [← e2, set_in _ _ _ (by omega), ← hB, xor192, ← e1, set_at _ _ _ _ (by decide)]
  have hW : un W1 = un u := by
    refine un_same (fun i hi => ?_) ?_
    · rw [← e3, set_at _ _ _ _ (by omega)]
    · rw [← e3, set_in _ _ _ (by omega), ← hD, xor128]
  have t3 : timesL K2 u = timesL k u := by rw [times_num, times_num, hK]
  have t4 : timesL (clampL k) W1 = timesL k u := by rw [times_num, times_num, clamp_twice k lk, hW]
  have t5 : timesL K2 O = timesL K2 (keyN (UInt8.ofNat m)) := by
    rw [times_num, times_num, ← e4, un_over _ m hm hU, un_small _ m hm hV]
  have self : ∀ L : List UInt8, L.length = 32 → ∀ W, (Op.equalIn 10000 24 (.agg (L.map byt).toArray) (.agg (L.map byt).toArray)).run Try.prog W = .ok true W := fun L hl W => by
    have := eq23 L L hl hl W; rwa [decide_eq_true rfl] at this
  refine forms_walk k u (timesL k u) (clampL k) K1 K2 W1 O (timesL K2 O) z m A B D (UInt8.ofNat (237 + m)) (UInt8.ofNat m) lk lu (times_length _ _) lC lK1 lK2 lW1 lO hz hm hA hB hD e1 e2 e3 e4 ?_ ?_
    (fun W => times_any k u lk lu W) (fun W => clamp_any k lk W) (fun W => ?_) (fun W => ?_) (fun W => ?_) (fun W => times_any K2 O lK2 lO W) (fun W => ?_) (self _ (times_length _ _)) (self _ lC) (self _ (times_length _ _)) w
  · rw [wrap64_small (by omega) (by omega), hU]; omega
  · rw [hV]
  · rw [← t3]; exact times_any K2 u lK2 lu W
  · rw [← t4]; exact times_any _ W1 lC lW1 W
  · have := clamp_any (clampL k) lC W; rwa [clamp_twice k lk] at this
  · rw [t5]; exact times_any K2 _ lK2 (keyN_length _) W
end Go.Proofs.Ytacancfmgnmpiaa
