import Derived.Test.YtacancfmgnmpiaaAgreesW
import Derived.Test.YtacancfmgnmpiaaOrd
set_option linter.unusedVariables false
set_option linter.unusedSimpArgs false
namespace Go.Proofs.Ytacancfmgnmpiaa
open Go.RowKit Prm Edw

theorem nb_zero {v : Fp} (h : nb v.val = z32) : v = 0 := by
  have hv := v.isLt
  have hP : P < 115792089237316195423570985008687907853269984665640564039457584007913129639936 := by decide +kernel
  have e := kn_nb v.val (by omega)
  rw [h, show kn z32 = 0 by decide +kernel] at e
  exact Fin.ext (by rw [fp_zero]; exact e.symm)
theorem times_clamp (k u : List UInt8) (lk : k.length = 32) : timesL (clampL k) u = timesL k u := by rw [times_num, times_num, clamp_twice k lk]
theorem public_clamp (k : List UInt8) (lk : k.length = 32) : publicL (clampL k) = publicL k := times_clamp k _ lk
theorem secret_ne (a b : List UInt8) (la : a.length = 32) (lb : b.length = 32) : timesL a (publicL b) ≠ z32 := fun h => by
  obtain ⟨m, h1, h2, h3⟩ := clamp_num a la
  obtain ⟨m', h1', h2', h3'⟩ := clamp_num b lb
  have k1 := clamp_lt a la
  have k2 := clamp_lt b lb
  rw [times_num] at h
  have hz := nb_zero h
  unfold publicL at hz
  rw [un_times, un_9, h1, h1'] at hz
  rw [h1] at k1
  rw [h1'] at k2
  exact base_ne m m' (by omega) h3 (by omega) h3' k1 k2 hz
theorem agrees_any (a b : List UInt8) (la : a.length = 32) (lb : b.length = 32) (w : World) : Calls Try.prog 5 #[.agg (a.map byt).toArray, .agg (b.map byt).toArray] w fun e w' => e = .returned (.bool true) ∧ Below w.heap.size w w' := by
  have lCA : (clampL a).length = 32 := by rw [clamp_length, la]
  have lCB : (clampL b).length = 32 := by rw [clamp_length, lb]
  have lPA : (publicL a).length = 32 := public_length a
  have lPB : (publicL b).length = 32 := public_length b
  have hne := secret_ne a b la lb
  have hX : timesL b (publicL a) = timesL a (publicL b) := by
    unfold publicL
    rw [times_num b, times_num a (timesL b _), un_times, un_times, meetsP _ _ (clamp_lt b lb) (clamp_lt a la)]
  have self : ∀ L : List UInt8, L.length = 32 → ∀ W, (Op.equalIn 10000 24 (.agg (L.map byt).toArray) (.agg (L.map byt).toArray)).run Try.prog W = .ok true W := fun L hl W => by
    have := eq23 L L hl hl W; rwa [decide_eq_true rfl] at this
  refine agrees_walk a b (clampL a) (publicL a) (clampL b) (publicL b) (timesL a (publicL b)) la lb lCA lPA lCB lPB (times_length _ _) (by rw [List.length_append, lCA, lPA]) (by rw [List.length_append, lCB, lPB])
    (fun g c W hg hr => ?_) (fun g c W hg hr => ?_) (fun W => ?_) (fun W => ?_) (fun W => public_any b lb W) (fun W => times_any a _ la lPB W) (fun W => clamp_any a la W) (fun W => public_any a la W)
    (self _ (times_length _ _)) (self _ lCA) (self _ lPA) w
  · have := newpair_any g c a la W hg hr; unfold pairL at this; rwa [public_clamp a la] at this
  · have := newpair_any g c b lb W hg hr; unfold pairL at this; rwa [public_clamp b lb] at this
  · have := shared_walk (clampL a) (publicL b) lCA lPB W; rwa [times_clamp a _ la, if_neg hne] at this
  · have := shared_walk (clampL b) (publicL a) lCB lPA W; rwa [times_clamp b _ lb, hX, if_neg hne] at this
end Go.Proofs.Ytacancfmgnmpiaa
