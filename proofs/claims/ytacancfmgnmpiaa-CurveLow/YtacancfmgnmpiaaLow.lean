import Derived.Test.YtacancfmgnmpiaaLowL
import Derived.Test.YtacancfmgnmpiaaLowM
import Derived.Test.YtacancfmgnmpiaaAgrees
import Derived.Test.YtacancfmgnmpiaaForms
set_option linter.unusedVariables false
set_option linter.unusedSimpArgs false
namespace Go.Proofs.Ytacancfmgnmpiaa
open Go.RowKit Prm Edw

def lowK : Nat → List UInt8
  | 0 => z32
  | 1 => keyN 1
  | 2 => lastK
  | 3 => eightK
  | _ => otherK
theorem lowK_length : ∀ i, (lowK i).length = 32
  | 0 => z32_length
  | 1 => keyN_length 1
  | 2 => last_length
  | 3 => eight_length
  | n + 4 => other_length
theorem lowC_at : ∀ i : Fin 5, ∀ j : Fin 32, lowC[i.val * 32 + j.val]? = (lowK i.val)[j.val]? := by decide +kernel
theorem lowC_hat (i : Nat) (hi : i < 5) (j : Nat) (hj : j < ((lowK i).map byt).length) : (lowC.map byt)[i * 32 + j]? = ((lowK i).map byt)[j]? := by
  rw [List.length_map, lowK_length] at hj
  rw [List.getElem?_map, List.getElem?_map, lowC_at ⟨i, hi⟩ ⟨j, hj⟩]
theorem byte_127 (a : UInt8) : (a &&& 127).toNat = a.toNat % 128 := by
  have h : ∀ a : Fin 256, (a.val &&& 127) = a.val % 128 := by decide +kernel
  rw [UInt8.toNat_and]
  exact h ⟨a.toNat, a.toNat_lt⟩
theorem kn_pl (U : List UInt8) (hU : U.length = 32) : kn (plL U) = kn U % 57896044618658097711785492504343953926634992332820282019728792003956564819968 := by
  have e1 := kn_ends (plL U)
  have e2 := kn_ends U
  have h0 : (plL U).getD 0 0 = U.getD 0 0 := set_at _ _ _ _ (by decide)
  have h1 : psum (plL U) 1 30 = psum U 1 30 := psum_eq 1 30 fun i hi => set_at _ _ _ _ (by omega)
  have h31 : (plL U).getD 31 0 = U.getD 31 0 &&& 127 := set_in _ _ _ (by omega)
  rw [h0, h1, h31, byte_127] at e1
  rw [e2, mod255 _ _ _ (U.getD 0 0).toNat_lt (psum_lt U 1 30), e1]
theorem un_pl (U : List UInt8) (hU : U.length = 32) : un U = re (kn (plL U)) := by unfold un; rw [kn_pl U hU]
theorem pl_lt (U : List UInt8) (hU : U.length = 32) : kn (plL U) < 57896044618658097711785492504343953926634992332820282019728792003956564819968 := by
  rw [kn_pl U hU]; exact Nat.mod_lt _ (by decide)
theorem kn_ed : kn edK = P := by decide +kernel
theorem kn_ee : kn eeK = P + 1 := by decide +kernel
theorem kn_k0 : kn (lowK 0) = 0 := by decide +kernel
theorem kn_k1 : kn (lowK 1) = 1 := by decide +kernel
theorem kn_k2 : kn (lowK 2) = P - 1 := by decide +kernel
theorem kn_k3 : kn (lowK 3) = e1N := by decide +kernel
theorem kn_k4 : kn (lowK 4) = e2N := by decide +kernel
theorem neg_one : (-1 : Fp) = re (P - 1) := by
  refine neg_of ?_
  rw [← re_1, ← re_add, ← re_0]
  exact re_eq.2 (by decide +kernel)
theorem bad_iff (pl : List UInt8) : badF edK eeK lowK pl 5 = true ↔ (pl = edK ∨ pl = eeK ∨ pl = lowK 0 ∨ pl = lowK 1 ∨ pl = lowK 2 ∨ pl = lowK 3 ∨ pl = lowK 4) := by
  simp only [badF, Bool.ite_eq_true_distrib, if_true_left, decide_eq_true_eq]
  constructor
  · intro h
    by_cases h1 : pl = edK
    · exact .inl h1
    by_cases h2 : pl = eeK
    · exact .inr (.inl h2)
    by_cases h3 : pl = lowK 0
    · exact .inr (.inr (.inl h3))
    by_cases h4 : pl = lowK 1
    · exact .inr (.inr (.inr (.inl h4)))
    by_cases h5 : pl = lowK 2
    · exact .inr (.inr (.inr (.inr (.inl h5))))
    by_cases h6 : pl = lowK 3
    · exact .inr (.inr (.inr (.inr (.inr (.inl h6)))))
    · refine .inr (.inr (.inr (.inr (.inr (.inr ?_)))))
      simp_all
  · rintro (h | h | h | h | h | h | h) <;> simp_all
theorem res_of {v n : Nat} (hv : v < 57896044618658097711785492504343953926634992332820282019728792003956564819968) (hn : n < P) (h : re v = re n) : v = n ∨ v = P + n := by
  have h' := re_eq.1 h
  rw [Nat.mod_eq_of_lt hn] at h'
  unfold P at *
  omega
theorem low_yes (k U : List UInt8) (lk : k.length = 32) (lU : U.length = 32) (h : badF edK eeK lowK (plL U) 5 = true) : timesL k U = z32 := by
  obtain ⟨m, h1, h2, h3⟩ := clamp_num k lk
  have hk := clamp_lt k lk
  rw [h1] at hk
  have hu := un_pl U lU
  have hz : tmK cP (8 * m) (un U) = 0 := by
    have zero : ∀ n, re n = 0 → tmK cP (8 * m) (re n) = 0 := fun n hn => by rw [hn, times_zero]
    have one : ∀ n, re n = re 1 → tmK cP (8 * m) (re n) = 0 := fun n hn => by
      rw [hn]
      exact low_all m hk _ (by rw [re_1]; exact Fd.one_ne) (by rw [cal8_1, re_0])
    rcases (bad_iff _).1 h with e | e | e | e | e | e | e
    · rw [hu, e, kn_ed]; exact zero _ (by rw [← re_0]; exact re_eq.2 (by decide +kernel))
    · rw [hu, e, kn_ee]; exact one _ (re_eq.2 (by decide +kernel))
    · rw [hu, e, kn_k0]; exact zero _ re_0
    · rw [hu, e, kn_k1]; exact one _ rfl
    · rw [hu, e, kn_k2]
      refine low_all m hk _ ?_ (by have := cal8_m; rw [re_0] at this; exact this)
      exact tT_ne
    · rw [hu, e, kn_k3]
      refine low_all m hk _ ?_ (by have := cal8_e1; rw [re_0] at this; exact this)
      exact tE_ne
    · rw [hu, e, kn_k4]
      refine low_all m hk _ (fun h0 => ?_) (by have := cal8_e2; rw [re_0] at this; exact this)
      have := ef
      rw [h0] at this
      exact Fd.one_ne (K := Fp) (by rw [← this]; exact mulz _)
  rw [times_num, h1, hz, fp_zero]
  decide +kernel
theorem low_no (k U : List UInt8) (lk : k.length = 32) (lU : U.length = 32) (h : badF edK eeK lowK (plL U) 5 = false) : timesL k U ≠ z32 := fun ht => by
  obtain ⟨m, h1, h2, h3⟩ := clamp_num k lk
  have hk := clamp_lt k lk
  rw [h1] at hk
  rw [times_num, h1] at ht
  have hz := nb_zero ht
  have hlo := low_only m (by omega) h3 hk _ hz
  have hv := pl_lt U lU
  have hl : (plL U).length = 32 := by rw [pl_length, lU]
  rw [un_pl U lU] at hlo
  have hb : badF edK eeK lowK (plL U) 5 = true := by
    refine (bad_iff _).2 ?_
    have key : ∀ (n : Nat) (L : List UInt8), L.length = 32 → kn L = n → kn (plL U) = n → plL U = L := fun n L hL e1 e2 => kn_inj hl hL (by rw [e1, e2])
    rcases hlo with e | e | e | e | e
    · rw [← re_0] at e
      rcases res_of hv (by decide +kernel) e with e | e
      · exact .inr (.inr (.inl (key 0 _ (lowK_length 0) kn_k0 e)))
      · exact .inl (key P _ ed_length kn_ed e)
    · rw [← re_1] at e
      rcases res_of hv (by decide +kernel) e with e | e
      · exact .inr (.inr (.inr (.inl (key 1 _ (lowK_length 1) kn_k1 e))))
      · exact .inr (.inl (key (P + 1) _ ee_length kn_ee e))
    · rw [neg_one] at e
      rcases res_of hv (by decide +kernel) e with e | e
      · exact .inr (.inr (.inr (.inr (.inl (key (P - 1) _ (lowK_length 2) kn_k2 e)))))
      · exfalso
        unfold P at e
        omega
    · rcases res_of hv (by decide +kernel) e with e | e
      · exact .inr (.inr (.inr (.inr (.inr (.inl (key e1N _ (lowK_length 3) kn_k3 e))))))
      · exfalso
        unfold P e1N at e
        omega
    · rcases res_of hv (by decide +kernel) e with e | e
      · exact .inr (.inr (.inr (.inr (.inr (.inr (key e2N _ (lowK_length 4) kn_k4 e))))))
      · exfalso
        unfold P e2N at e
        omega
  rw [h] at hb
  cases hb
theorem lowlaw_any (k u : List UInt8) (z : Int) (b : Bool) (lk : k.length = 32) (lu : u.length = 32) (w : World) : Calls Try.prog 7 #[.agg (lowS k u z b).toArray] w fun e w' => e = .returned (.bool true) ∧ Below w.heap.size w w' :=
  lowlaw_walk k u lowC edK eeK z32 z b (fun U => timesL k U) (fun U => if timesL k U = z32 then 70 else 0) lowK lk lu ed_length ee_length z32_length lowK_length (fun U => times_length k U) low_any lowC_hat b_ed b_ee build24
    (fun U lU W => shared_walk k U lk lU W) (fun U lU W => times_any k U lk lU W) (fun U lU h => ⟨if_pos (low_yes k U lk lU h), low_yes k U lk lU h⟩) (fun U lU h => ⟨if_neg (low_no k U lk lU h), low_no k U lk lU h⟩) w
end Go.Proofs.Ytacancfmgnmpiaa
