import Derived.Test.YtacimelcmkhhlaaKh
import Derived.Test.YtacimelcmkhhlaaJs
set_option linter.unusedVariables false
set_option linter.unusedSimpArgs false
namespace Go.Proofs.Ytacimelcmkhhlaa
open Go.RowKit

def oT (c : List UInt8) : Nat := if 0 < numB (tkC c 209 4) then 261 else 221
def pT (c : List UInt8) : Nat := if 0 < numB (tkC c 213 4) then oT c + 36 else oT c
theorem oT_le (c : List UInt8) : 221 ≤ oT c ∧ oT c ≤ 261 := by unfold oT; split <;> omega
theorem pT_le (c : List UInt8) : 221 ≤ pT c ∧ oT c ≤ pT c ∧ pT c ≤ 297 := by have := oT_le c; unfold pT; split <;> omega
theorem tk_own {c : List UInt8} (h : 221 ≤ c.length) : ownN c = numB (tkC c 209 4) ∧ trnN c = numB (tkC c 213 4) ∧ oA c = oT c ∧ tA c = pT c := by
  have e1 : ownN c = numB (tkC c 209 4) := by unfold ownN; rw [tkC_cut (by omega)]
  have e2 : trnN c = numB (tkC c 213 4) := by unfold trnN; rw [tkC_cut (by omega)]
  have e3 : oA c = oT c := by unfold oA oT; rw [e1]
  exact ⟨e1, e2, e3, by unfold tA pT; rw [e2, e3]⟩
theorem doc_short {c : List UInt8} (h0 : ¬ c.length = 0) (hv : numB (cutB c 0 1) = 1) (h : c.length < pT c + 1) : parE c = 10 := by
  unfold parE
  rw [if_neg h0, if_pos hv]
  by_cases h1 : c.length < 221
  · rw [if_pos h1]
  · rw [if_neg h1, if_pos (by rw [(tk_own (by omega)).2.2.2]; omega)]
theorem doc_mark {c : List UInt8} (h : pT c + 1 ≤ c.length) : mkN c = numB (tkC c (pT c) 1) ∧ tA c = pT c := by
  have hp := pT_le c
  obtain ⟨_, _, _, e4⟩ := tk_own (c := c) (by omega)
  refine ⟨?_, e4⟩
  unfold mkN
  rw [e4, tkC_cut (by omega)]
theorem doc_bad {c : List UInt8} (h0 : ¬ c.length = 0) (hv : numB (cutB c 0 1) = 1) (h : pT c + 1 ≤ c.length) (hm : 1 < numB (tkC c (pT c) 1)) : parE c = 180 := by
  have hp := pT_le c
  obtain ⟨e1, e2⟩ := doc_mark h
  unfold parE
  rw [if_neg h0, if_pos hv, if_neg (by omega), if_neg (by omega), e1, if_pos hm]
def eT (c : List UInt8) : Nat := if numB (tkC c (pT c) 1) = 1 then pT c + 37 else pT c + 1
theorem eT_is {c : List UInt8} (h : pT c + 1 ≤ c.length) : enA c = eT c := by
  obtain ⟨e1, e2⟩ := doc_mark h
  unfold enA eT
  rw [e1, e2]
theorem doc_short2 {c : List UInt8} (h0 : ¬ c.length = 0) (hv : numB (cutB c 0 1) = 1) (h : pT c + 1 ≤ c.length) (hm : ¬ 1 < numB (tkC c (pT c) 1)) (hs : c.length < eT c) : parE c = 10 := by
  have hp := pT_le c
  obtain ⟨e1, e2⟩ := doc_mark h
  unfold parE
  rw [if_neg h0, if_pos hv, if_neg (by omega), if_neg (by omega), e1, if_neg hm, eT_is h, if_pos hs]
theorem doc_tail {c : List UInt8} (h0 : ¬ c.length = 0) (hv : numB (cutB c 0 1) = 1) (h : pT c + 1 ≤ c.length) (hm : ¬ 1 < numB (tkC c (pT c) 1)) (hs : eT c < c.length) : parE c = 11 := by
  have hp := pT_le c
  obtain ⟨e1, e2⟩ := doc_mark h
  unfold parE
  rw [if_neg h0, if_pos hv, if_neg (by omega), if_neg (by omega), e1, if_neg hm, eT_is h, if_neg (by omega), if_pos hs]
theorem preS_ok {c : List UInt8} (h : pT c + 1 ≤ c.length) (hs : c.length = eT c) : (preS c).ok := by
  have hp := pT_le c
  obtain ⟨e1, e2⟩ := doc_mark h
  obtain ⟨a1, a2, a3, a4⟩ := tk_own (c := c) (by omega)
  have l4 : ∀ a, numB (cutB c a 4) < 4294967296 := fun a => numB_32 _ (by unfold cutB; rw [List.length_take]; omega)
  refine ⟨cutB_len (by omega), cutB_len (by omega), cutB_len (by omega), cutB_len (by omega), cutB_len (by omega), ?_, ?_, l4 _, l4 _, ?_, ?_, ?_, l4 _, ?_, cutB_len (by omega)⟩
  · show (if 0 < ownN c then cutB c 221 32 else z32).length = 32
    split
    · rename_i ho
      have : oT c = 261 := by unfold oT; rw [← a1, if_pos ho]
      exact cutB_len (by omega)
    · rfl
  · show (if 0 < trnN c then cutB c (oA c) 32 else z32).length = 32
    split
    · rename_i ho
      have : pT c = oT c + 36 := by unfold pT; rw [← a2, if_pos ho]
      exact cutB_len (by omega)
    · rfl
  · show (if 0 < ownN c then numB (cutB c 253 4) else 0) < _
    split
    · exact l4 _
    · decide
  · show (if 0 < trnN c then numB (cutB c (oA c + 32) 4) else 0) < _
    split
    · exact l4 _
    · decide
  · show (if 0 < ownN c then numB (cutB c 257 4) else 0) < _
    split
    · exact l4 _
    · decide
  · show (if mkN c = 1 then (⟨(cutB c 17 64).take 32, cutB c (tA c + 1) 32, numB (cutB c (tA c + 33) 4)⟩ : Hl) else Hl.z).ok
    split
    · rename_i hm
      have : eT c = pT c + 37 := by unfold eT; rw [← e1, if_pos hm]
      exact ⟨takeB (cutB_len (by omega)), cutB_len (by omega), l4 _⟩
    · exact Hl.z_ok
theorem doc_fin {c : List UInt8} (h0 : ¬ c.length = 0) (hv : numB (cutB c 0 1) = 1) (h : pT c + 1 ≤ c.length) (hm : ¬ 1 < numB (tkC c (pT c) 1)) (hs : c.length = eT c) : parE c = if Good (preS c) ∧ encD (preS c) = c then 0 else 180 := by
  have hp := pT_le c
  obtain ⟨e1, e2⟩ := doc_mark h
  have hE : parE c = if mkN c = mkD (preS c).hl then chkD (preS c) else 180 := by
    unfold parE
    rw [if_neg h0, if_pos hv, if_neg (by omega), if_neg (by omega), e1, if_neg hm, eT_is h, if_neg (by omega), if_neg (by omega)]
  by_cases g : Good (preS c)
  · by_cases hk : mkN c = mkD (preS c).hl
    · rw [if_pos hk, chkD, if_pos g] at hE
      have h1 := (par_is c).1
      rw [hE] at h1
      have h2 := (enc_form h1).2
      have h3 : decS c = preS c := by rw [(par_is c).2, parS, if_pos hE]
      rw [h3] at h2
      rw [hE, if_pos ⟨g, h2⟩]
    · rw [if_neg hk] at hE
      rw [hE, if_neg]
      rintro ⟨_, he⟩
      have hok : (preS c).ok := preS_ok h hs
      have := (enc_back hok g).2.2.2.1
      rw [he] at this
      exact hk this
  · rw [if_neg (fun x => g x.1), hE]
    split
    · rw [chkD, if_neg g]
    · rfl
theorem pre_tk {c : List UInt8} (h : pT c + 1 ≤ c.length) (hs : c.length = eT c) : preS c = ⟨tkC c 1 16, tkC c 81 32, tkC c 113 32, tkC c 145 32, tkC c 177 32, if 0 < numB (tkC c 209 4) then tkC c 221 32 else z32, if 0 < numB (tkC c 213 4) then tkC c (oT c) 32 else z32, numB (tkC c 209 4), numB (tkC c 213 4), if 0 < numB (tkC c 209 4) then numB (tkC c 253 4) else 0, if 0 < numB (tkC c 213 4) then numB (tkC c (oT c + 32) 4) else 0, if 0 < numB (tkC c 209 4) then numB (tkC c 257 4) else 0, numB (tkC c 217 4), if numB (tkC c (pT c) 1) = 1 then ⟨(tkC c 17 64).take 32, tkC c (pT c + 1) 32, numB (tkC c (pT c + 33) 4)⟩ else Hl.z, tkC c 17 64⟩ := by
  have hp := pT_le c
  obtain ⟨e1, e2⟩ := doc_mark h
  obtain ⟨a1, a2, a3, a4⟩ := tk_own (c := c) (by omega)
  unfold preS
  rw [a1, a2, a3, a4, e1]
  have x1 : (if 0 < numB (tkC c 209 4) then cutB c 221 32 else z32) = (if 0 < numB (tkC c 209 4) then tkC c 221 32 else z32) ∧ (if 0 < numB (tkC c 209 4) then numB (cutB c 253 4) else 0) = (if 0 < numB (tkC c 209 4) then numB (tkC c 253 4) else 0) ∧ (if 0 < numB (tkC c 209 4) then numB (cutB c 257 4) else 0) = (if 0 < numB (tkC c 209 4) then numB (tkC c 257 4) else 0) := by
    by_cases ho : 0 < numB (tkC c 209 4)
    · have : oT c = 261 := by unfold oT; rw [if_pos ho]
      rw [tkC_cut (pos := 221) (by omega), tkC_cut (pos := 253) (by omega), tkC_cut (pos := 257) (by omega)]
      exact ⟨rfl, rfl, rfl⟩
    · rw [if_neg ho, if_neg ho, if_neg ho, if_neg ho, if_neg ho, if_neg ho]
      exact ⟨rfl, rfl, rfl⟩
  have x2 : (if 0 < numB (tkC c 213 4) then cutB c (oT c) 32 else z32) = (if 0 < numB (tkC c 213 4) then tkC c (oT c) 32 else z32) ∧ (if 0 < numB (tkC c 213 4) then numB (cutB c (oT c + 32) 4) else 0) = (if 0 < numB (tkC c 213 4) then numB (tkC c (oT c + 32) 4) else 0) := by
    by_cases ho : 0 < numB (tkC c 213 4)
    · have : pT c = oT c + 36 := by unfold pT; rw [if_pos ho]
      rw [tkC_cut (pos := oT c) (by omega), tkC_cut (pos := oT c + 32) (by omega)]
      exact ⟨rfl, rfl⟩
    · rw [if_neg ho, if_neg ho, if_neg ho, if_neg ho]
      exact ⟨rfl, rfl⟩
  have x3 : (if numB (tkC c (pT c) 1) = 1 then (⟨(cutB c 17 64).take 32, cutB c (pT c + 1) 32, numB (cutB c (pT c + 33) 4)⟩ : Hl) else Hl.z) = (if numB (tkC c (pT c) 1) = 1 then ⟨(tkC c 17 64).take 32, tkC c (pT c + 1) 32, numB (tkC c (pT c + 33) 4)⟩ else Hl.z) := by
    by_cases hm : numB (tkC c (pT c) 1) = 1
    · have : eT c = pT c + 37 := by unfold eT; rw [if_pos hm]
      rw [tkC_cut (pos := 17) (by omega), tkC_cut (pos := pT c + 1) (by omega), tkC_cut (pos := pT c + 33) (by omega)]
    · rw [if_neg hm, if_neg hm]
  rw [x1.1, x1.2.1, x1.2.2, x2.1, x2.2, x3, tkC_cut (pos := 1) (by omega), tkC_cut (pos := 81) (by omega), tkC_cut (pos := 113) (by omega), tkC_cut (pos := 145) (by omega), tkC_cut (pos := 177) (by omega), tkC_cut (pos := 217) (by omega), tkC_cut (pos := 17) (by omega)]
theorem tk1 (c : List UInt8) (p : Nat) : ∃ u : UInt8, tkC c p 1 = [u] ∧ numB (tkC c p 1) = u.toNat := by
  have h := tkC_len c p 1
  rcases hx : tkC c p 1 with _ | ⟨u, _ | ⟨d, r⟩⟩
  · rw [hx] at h; simp at h
  · exact ⟨u, rfl, by simp [numB]⟩
  · rw [hx] at h; simp at h
end Go.Proofs.Ytacimelcmkhhlaa
