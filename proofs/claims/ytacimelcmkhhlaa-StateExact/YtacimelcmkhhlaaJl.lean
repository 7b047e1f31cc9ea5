import Derived.Test.YtacimelcmkhhlaaJk
set_option linter.unusedVariables false
set_option linter.unusedSimpArgs false
namespace Go.Proofs.Ytacimelcmkhhlaa
open Go.RowKit

def cutB (c : List UInt8) (a m : Nat) : List UInt8 := (c.drop a).take m
theorem cutB_len {c : List UInt8} {a m : Nat} (h : a + m ≤ c.length) : (cutB c a m).length = m := by
  unfold cutB
  rw [List.length_take, List.length_drop]; omega
theorem rS_ok {c : List UInt8} {m a : Nat} (h : a + m ≤ c.length) : rS c m (a, 0) = (a + m, 0) := by
  unfold rS
  rw [if_pos rfl, if_pos h]
theorem rS_no {c : List UInt8} {m a : Nat} (h : ¬ a + m ≤ c.length) : rS c m (a, 0) = (a, 10) := by
  unfold rS
  rw [if_pos rfl, if_neg h]
theorem rS_bad {c : List UInt8} {m : Nat} {s : Nat × Int} (h : s.2 = 10) : (rS c m s).2 = 10 := by
  unfold rS
  rw [if_neg (by rw [h]; decide)]; exact h
theorem rB_ok {c : List UInt8} {m a : Nat} (h : a + m ≤ c.length) : rB c m (a, 0) = cutB c a m := by
  unfold rB
  rw [if_pos ⟨rfl, h⟩]; rfl
def rSs (c : List UInt8) (ms : List Nat) (s : Nat × Int) : Nat × Int := ms.foldl (fun s m => rS c m s) s
theorem rSs_bad {c : List UInt8} : ∀ {ms : List Nat} {s : Nat × Int}, s.2 = 10 → (rSs c ms s).2 = 10
  | [], s, h => h
  | m :: ms, s, h => rSs_bad (ms := ms) (s := rS c m s) (rS_bad h)
theorem rSs_no {c : List UInt8} : ∀ {ms : List Nat} {a : Nat}, a ≤ c.length → ¬ a + ms.sum ≤ c.length → (rSs c ms (a, 0)).2 = 10
  | [], a, ha, h => absurd ha (by simpa using h)
  | m :: ms, a, ha, h => by
    rw [List.sum_cons] at h
    show (rSs c ms (rS c m (a, 0))).2 = 10
    by_cases h1 : a + m ≤ c.length
    · rw [rS_ok h1]; exact rSs_no h1 (by omega)
    · rw [rS_no h1]; exact rSs_bad rfl
theorem keyR_ok {c : List UInt8} {a : Nat} (h : a + 32 ≤ c.length) : keyR c (a, 0) = cutB c a 32 := by
  unfold keyR
  rw [rB_ok h]
  exact padR_full (by rw [cutB_len h]; rfl)
theorem cutB_mid {c a m b : List UInt8} {o n : Nat} (hc : c = a ++ (m ++ b)) (ho : a.length = o) (hn : m.length = n) : cutB c o n = m := by
  unfold cutB
  rw [hc, ← ho, List.drop_left, ← hn, List.take_left]
theorem cutB_add (c : List UInt8) (a m n : Nat) : cutB c a m ++ cutB c (a + m) n = cutB c a (m + n) := by
  unfold cutB
  rw [← List.drop_drop, List.take_add]
theorem numB_be32 {n : Nat} (h : n < 4294967296) : numB (be32 n) = n := by
  have e : ∀ x, (UInt8.ofNat (x % 256)).toNat = x % 256 := fun x => by rw [UInt8.toNat_ofNat', Nat.mod_eq_of_lt (by omega)]
  simp only [numB, be32, shB, List.foldl_cons, List.foldl_nil, e]
  omega
theorem be32_numB {bs : List UInt8} (h : bs.length = 4) : be32 (numB bs) = bs := by
  match bs, h with
  | [a, b, c, d], _ =>
    have ha := a.toNat_lt
    have hb := b.toNat_lt
    have hc := c.toNat_lt
    have hd := d.toNat_lt
    have e : ∀ (x : Nat) (u : UInt8), x = u.toNat → UInt8.ofNat x = u := fun x u hx => by rw [hx]; exact UInt8.ofNat_toNat
    simp only [numB, be32, shB, List.foldl_cons, List.foldl_nil]
    rw [e _ a (by omega), e _ b (by omega), e _ c (by omega), e _ d (by omega)]
theorem one_numB {bs : List UInt8} (h : bs.length = 1) : [UInt8.ofNat (numB bs)] = bs := by
  match bs, h with
  | [a], _ => simp [numB]
def ownN (c : List UInt8) : Nat := numB (cutB c 209 4)
def trnN (c : List UInt8) : Nat := numB (cutB c 213 4)
def oA (c : List UInt8) : Nat := if 0 < ownN c then 261 else 221
def tA (c : List UInt8) : Nat := if 0 < trnN c then oA c + 36 else oA c
def mkN (c : List UInt8) : Nat := numB (cutB c (tA c) 1)
def enA (c : List UInt8) : Nat := if mkN c = 1 then tA c + 37 else tA c + 1
/-- The state that the bytes tell. -/
def preS (c : List UInt8) : Sg := ⟨cutB c 1 16, cutB c 81 32, cutB c 113 32, cutB c 145 32, cutB c 177 32, if 0 < ownN c then cutB c 221 32 else z32, if 0 < trnN c then cutB c (oA c) 32 else z32, ownN c, trnN c, if 0 < ownN c then numB (cutB c 253 4) else 0, if 0 < trnN c then numB (cutB c (oA c + 32) 4) else 0, if 0 < ownN c then numB (cutB c 257 4) else 0, numB (cutB c 217 4), if mkN c = 1 then ⟨(cutB c 17 64).take 32, cutB c (tA c + 1) 32, numB (cutB c (tA c + 33) 4)⟩ else Hl.z, cutB c 17 64⟩
def parE (c : List UInt8) : Int := if c.length = 0 then 10 else if numB (cutB c 0 1) = 1 then (if c.length < 221 then 10 else if c.length ≤ tA c then 10 else if 1 < mkN c then 180 else if c.length < enA c then 10 else if enA c < c.length then 11 else if mkN c = mkD (preS c).hl then chkD (preS c) else 180) else 140
def parS (c : List UInt8) : Sg := if parE c = 0 then preS c else Sg.z
theorem tl10 {f e : Int} (h : f = 10) : tlE f e = 10 := by rw [h]; rfl
theorem eS_bad {c : List UInt8} {s : Nat × Int} (h : s.2 = 10) : (eS c s).2 = 10 := by unfold eS; rw [if_neg (fun e => by have := e.1; omega)]; exact h
theorem rB_bad {c : List UInt8} {m : Nat} {s : Nat × Int} (h : s.2 = 10) : rB c m s = [] := by unfold rB; rw [if_neg (fun e => by have := e.1; omega)]
theorem rB_no {c : List UInt8} {m a : Nat} (h : ¬ a + m ≤ c.length) : rB c m (a, 0) = [] := by unfold rB; rw [if_neg (fun e => h e.2)]
theorem bad2 {c : List UInt8} (h : (dT1 c).2 = 10) : (dT2 c).2 = 10 := by
  unfold dT2
  split
  · exact rS_bad (rS_bad (rS_bad h))
  · exact h
theorem bad3 {c : List UInt8} (h : (dT2 c).2 = 10) : (dT3 c).2 = 10 := by
  unfold dT3
  split
  · exact rS_bad (rS_bad h)
  · exact h
theorem bad4 {c : List UInt8} (hv : numB (rB c 1 (0, 0)) = 1) (h : (dT4 c).2 = 10) (hm : dM c ≤ 1) : decE c = 10 := by
  have h5 : (dT5 c).2 = 10 := by
    unfold dT5
    split
    · exact rS_bad (rS_bad h)
    · exact h
  rw [decE, if_pos hv, if_neg (by omega)]
  exact tl10 (eS_bad h5)
theorem badE {c : List UInt8} (hv : numB (rB c 1 (0, 0)) = 1) (h : (dT3 c).2 = 10) : decE c = 10 := by
  refine bad4 hv (rS_bad h) ?_
  unfold dM
  rw [rB_bad h]
  decide
theorem pad16 {c : List UInt8} {a : Nat} (h : a + 16 ≤ c.length) : padR z16 (rB c 16 (a, 0)) = cutB c a 16 := by
  rw [rB_ok h]
  exact padR_full (by rw [cutB_len h]; rfl)
theorem pad64 {c : List UInt8} {a : Nat} (h : a + 64 ≤ c.length) : padR z64 (rB c 64 (a, 0)) = cutB c a 64 := by
  rw [rB_ok h]
  exact padR_full (by rw [cutB_len h]; rfl)
theorem cor_is {c : List UInt8} (h : 221 ≤ c.length) : dT1 c = (221, 0) ∧ dS1 c = { Sg.z with sid := cutB c 1 16, bind := cutB c 17 64, root := cutB c 81 32, pri := cutB c 113 32, pub := cutB c 145 32, peer := cutB c 177 32, own := ownN c, turns := trnN c, ser := numB (cutB c 217 4) } := by
  have r0 : rS c 1 (0, 0) = (1, 0) := rS_ok (a := 0) (by omega)
  have r1 : rS c 16 (1, 0) = (17, 0) := rS_ok (by omega)
  have r2 : rS c 64 (17, 0) = (81, 0) := rS_ok (by omega)
  have r3 : rS c 32 (81, 0) = (113, 0) := rS_ok (by omega)
  have r4 : rS c 32 (113, 0) = (145, 0) := rS_ok (by omega)
  have r5 : rS c 32 (145, 0) = (177, 0) := rS_ok (by omega)
  have r6 : rS c 32 (177, 0) = (209, 0) := rS_ok (by omega)
  have r7 : rS c 4 (209, 0) = (213, 0) := rS_ok (by omega)
  have r8 : rS c 4 (213, 0) = (217, 0) := rS_ok (by omega)
  have r9 : rS c 4 (217, 0) = (221, 0) := rS_ok (by omega)
  constructor
  · unfold dT1 corS
    rw [r0, r1, r2, r3, r4, r5, r6, r7, r8, r9]
  · unfold dS1 corR
    rw [r0, r1, r2, r3, r4, r5, r6, r7, r8]
    have a1 : padR Sg.z.sid (rB c 16 (1, 0)) = cutB c 1 16 := pad16 (by omega)
    have a2 : padR Sg.z.bind (rB c 64 (17, 0)) = cutB c 17 64 := pad64 (by omega)
    rw [a1, a2, keyR_ok (by omega), keyR_ok (by omega), keyR_ok (by omega), keyR_ok (by omega), rB_ok (by omega), rB_ok (by omega), rB_ok (by omega)]
    rfl
theorem snd_is {c : List UInt8} (h : 221 ≤ c.length) (h2 : oA c ≤ c.length) : dT2 c = (oA c, 0) ∧ dS2 c = { Sg.z with sid := cutB c 1 16, bind := cutB c 17 64, root := cutB c 81 32, pri := cutB c 113 32, pub := cutB c 145 32, peer := cutB c 177 32, own := ownN c, turns := trnN c, ser := numB (cutB c 217 4), sk := if 0 < ownN c then cutB c 221 32 else z32, sent := if 0 < ownN c then numB (cutB c 253 4) else 0, prev := if 0 < ownN c then numB (cutB c 257 4) else 0 } := by
  obtain ⟨e1, e2⟩ := cor_is h
  have eo : (dS1 c).own = ownN c := by rw [e2]
  unfold dT2 dS2 oA at *
  rw [eo]
  by_cases ho : 0 < ownN c
  · rw [if_pos ho] at h2
    rw [if_pos ho, if_pos ho, if_pos ho, if_pos ho, if_pos ho, if_pos ho, e1]
    have r1 : rS c 32 (221, 0) = (253, 0) := rS_ok (by omega)
    have r2 : rS c 4 (253, 0) = (257, 0) := rS_ok (by omega)
    have r3 : rS c 4 (257, 0) = (261, 0) := rS_ok (by omega)
    constructor
    · unfold sndS
      rw [r1, r2, r3]
    · unfold sndR
      rw [r1, r2, keyR_ok (by omega), rB_ok (by omega), rB_ok (by omega), e2]
  · rw [if_neg ho, if_neg ho, if_neg ho, if_neg ho, if_neg ho, if_neg ho]
    exact ⟨e1, e2⟩
theorem rcv_is {c : List UInt8} (h : 221 ≤ c.length) (h2 : tA c ≤ c.length) : dT3 c = (tA c, 0) ∧ dS3 c = { preS c with hl := Hl.z } := by
  have h3 : oA c ≤ c.length := by
    unfold tA at h2
    split at h2 <;> omega
  obtain ⟨e1, e2⟩ := snd_is h h3
  have et : (dS2 c).turns = trnN c := by rw [e2]
  unfold dT3 dS3 tA at *
  rw [et]
  by_cases ht : 0 < trnN c
  · rw [if_pos ht] at h2
    rw [if_pos ht, if_pos ht, if_pos ht, e1]
    have r1 : rS c 32 (oA c, 0) = (oA c + 32, 0) := rS_ok (by omega)
    have r2 : rS c 4 (oA c + 32, 0) = (oA c + 36, 0) := rS_ok (by omega)
    constructor
    · unfold rcvS
      rw [r1, r2]
    · unfold rcvR
      rw [r1, keyR_ok (by omega), rB_ok (by omega), e2]
      simp only [preS, if_pos ht]
      rfl
  · rw [if_neg ht, if_neg ht, if_neg ht]
    refine ⟨e1, ?_⟩
    rw [e2]
    simp only [preS, if_neg ht]
    rfl
theorem par_is (c : List UInt8) : decE c = parE c ∧ decS c = parS c := by
  have key : decE c = parE c ∧ (parE c = 0 → dS4 c = preS c) := by
    unfold parE
    by_cases h0 : c.length = 0
    · rw [if_pos h0]
      have hr : rB c 1 (0, 0) = [] := rB_no (by omega)
      have hs : rS c 1 (0, 0) = (0, 10) := rS_no (by omega)
      refine ⟨?_, fun h => absurd h (by decide)⟩
      rw [decE, hr, if_neg (by decide), hs]
      rfl
    rw [if_neg h0]
    have hs : rS c 1 (0, 0) = (1, 0) := rS_ok (a := 0) (by omega)
    have hr : rB c 1 (0, 0) = cutB c 0 1 := rB_ok (by omega)
    by_cases hv : ¬ numB (cutB c 0 1) = 1
    · rw [if_neg hv]
      refine ⟨?_, fun h => absurd h (by decide)⟩
      rw [decE, hr, if_neg hv, hs]
      rfl
    have hv := Classical.not_not.1 hv
    rw [if_pos hv]
    have hv' : numB (rB c 1 (0, 0)) = 1 := by rw [hr]; exact hv
    by_cases h1 : c.length < 221
    · rw [if_pos h1]
      have h2 : (dT1 c).2 = 10 := by
        unfold dT1
        rw [hs]
        exact rSs_no (ms := [16, 64, 32, 32, 32, 32, 4, 4, 4]) (a := 1) (by omega) (by simp; omega)
      exact ⟨badE hv' (bad3 (bad2 h2)), fun h => absurd h (by decide)⟩
    rw [if_neg h1]
    by_cases h2 : c.length ≤ tA c
    · rw [if_pos h2]
      refine ⟨?_, fun h => absurd h (by decide)⟩
      by_cases h3 : oA c ≤ c.length
      · obtain ⟨e1, e2⟩ := snd_is (by omega) h3
        by_cases h4 : tA c ≤ c.length
        · obtain ⟨e3, e4⟩ := rcv_is (by omega) h4
          refine bad4 hv' ?_ ?_
          · unfold dT4
            rw [e3, rS_no (by omega)]
          · unfold dM
            rw [e3, rB_no (by omega)]
            decide
        · refine badE hv' ?_
          have et : (dS2 c).turns = trnN c := by rw [e2]
          have ht : 0 < trnN c := by
            unfold tA at h4
            split at h4
            · assumption
            · omega
          unfold tA at h4
          rw [if_pos ht] at h4
          unfold dT3
          rw [et, if_pos ht, e1]
          exact rSs_no (ms := [32, 4]) (by omega) (by simp; omega)
      · refine badE hv' (bad3 ?_)
        obtain ⟨e1, e2⟩ := cor_is (c := c) (by omega)
        have eo : (dS1 c).own = ownN c := by rw [e2]
        have ho : 0 < ownN c := by
          unfold oA at h3
          split at h3
          · assumption
          · omega
        unfold oA at h3
        rw [if_pos ho] at h3
        unfold dT2
        rw [eo, if_pos ho, e1]
        exact rSs_no (ms := [32, 4, 4]) (by omega) (by simp; omega)
    rw [if_neg h2]
    obtain ⟨e3, e4⟩ := rcv_is (c := c) (by omega) (by omega)
    have eM : dM c = mkN c := by unfold dM mkN; rw [e3, rB_ok (by omega)]
    have eT : dT4 c = (tA c + 1, 0) := by unfold dT4; rw [e3, rS_ok (by omega)]
    by_cases hm : 1 < mkN c
    · rw [if_pos hm]
      refine ⟨?_, fun h => absurd h (by decide)⟩
      rw [decE, if_pos hv', eM, if_pos hm, eT]
      rfl
    rw [if_neg hm]
    by_cases h3 : c.length < enA c
    · rw [if_pos h3]
      refine ⟨?_, fun h => absurd h (by decide)⟩
      have hm1 : mkN c = 1 := by
        unfold enA at h3
        split at h3
        · assumption
        · omega
      unfold enA at h3
      rw [if_pos hm1] at h3
      rw [decE, if_pos hv', eM, if_neg hm]
      refine tl10 (eS_bad ?_)
      unfold dT5
      rw [eM, if_pos hm1, eT]
      exact rSs_no (ms := [32, 4]) (by omega) (by simp; omega)
    rw [if_neg h3]
    have e5 : dT5 c = (enA c, 0) ∧ dS4 c = preS c := by
      unfold dT5 dS4 enA at *
      rw [eM]
      by_cases hm1 : mkN c = 1
      · rw [if_pos hm1] at h3
        rw [if_pos hm1, if_pos hm1, if_pos hm1, eT]
        have r1 : rS c 32 (tA c + 1, 0) = (tA c + 33, 0) := rS_ok (by omega)
        have r2 : rS c 4 (tA c + 33, 0) = (tA c + 37, 0) := rS_ok (by omega)
        constructor
        · unfold helS
          rw [r1, r2]
        · unfold helR
          rw [r1, keyR_ok (by omega), rB_ok (by omega), e4]
          simp only [preS, if_pos hm1]
      · rw [if_neg hm1, if_neg hm1, if_neg hm1]
        refine ⟨eT, ?_⟩
        rw [e4]
        simp only [preS, if_neg hm1]
    refine ⟨?_, fun _ => e5.2⟩
    rw [decE, if_pos hv', eM, if_neg hm, e5.1, e5.2]
    by_cases h4 : enA c < c.length
    · rw [if_pos h4]
      unfold eS
      rw [if_pos ⟨rfl, h4⟩]
      rfl
    · rw [if_neg h4]
      unfold eS
      rw [if_neg (fun e => h4 e.2)]
      rfl
  refine ⟨key.1, ?_⟩
  unfold decS parS
  rw [key.1]
  split
  · rename_i h
    exact key.2 h
  · rfl
end Go.Proofs.Ytacimelcmkhhlaa
