import Derived.Test.YtobfebpinkikdaaHr
set_option linter.unusedVariables false
set_option linter.unusedSimpArgs false
namespace Go.Proofs.Ytobfebpinkikdaa
open Go.RowKit

def cutB (c : List UInt8) (a m : Nat) : List UInt8 := (c.drop a).take m
theorem cutB_len {c : List UInt8} {a m : Nat} (h : a + m ≤ c.length) : (cutB c a m).length = m := by
  unfold cutB
  rw [List.length_take, List.length_drop]; omega
theorem rS_ok {c : List UInt8} {m a : Nat} (h : a + m ≤ c.length) : rS c m (a, 0) = (a + m, 0) := by
  unfold rS
  rw [if_pos rfl, if_pos h]
theorem rS_no {c : List UInt8} {m a : Nat} (h : ¬ a + m ≤ c.length) : rS c m (a, 0) = (a, 10) := by
  unfold rS
  rw [if_pos rfl, if_neg h]
theorem rS_bad {c : List UInt8} {m : Nat} {s : Nat × Int} (h : s.2 = 10) : (rS c m s).2 = 10 := by
  unfold rS
  rw [if_neg (by rw [h]; decide)]; exact h
theorem rB_ok {c : List UInt8} {m a : Nat} (h : a + m ≤ c.length) : rB c m (a, 0) = cutB c a m := by
  unfold rB
  rw [if_pos ⟨rfl, h⟩]; rfl
def rSs (c : List UInt8) (ms : List Nat) (s : Nat × Int) : Nat × Int := ms.foldl (fun s m => rS c m s) s
theorem rSs_ok {c : List UInt8} : ∀ {ms : List Nat} {a : Nat}, a + ms.sum ≤ c.length → rSs c ms (a, 0) = (a + ms.sum, 0)
  | [], a, _ => rfl
  | m :: ms, a, h => by
    rw [List.sum_cons] at h ⊢
    show rSs c ms (rS c m (a, 0)) = _
    rw [rS_ok (by omega), rSs_ok (by omega), Nat.add_assoc]
theorem rSs_bad {c : List UInt8} : ∀ {ms : List Nat} {s : Nat × Int}, s.2 = 10 → (rSs c ms s).2 = 10
  | [], s, h => h
  | m :: ms, s, h => rSs_bad (ms := ms) (s := rS c m s) (rS_bad h)
theorem rSs_no {c : List UInt8} : ∀ {ms : List Nat} {a : Nat}, a ≤ c.length → ¬ a + ms.sum ≤ c.length → (rSs c ms (a, 0)).2 = 10
  | [], a, ha, h => absurd ha (by simpa using h)
  | m :: ms, a, ha, h => by
    rw [List.sum_cons] at h
    show (rSs c ms (rS c m (a, 0))).2 = 10
    by_cases h1 : a + m ≤ c.length
    · rw [rS_ok h1]; exact rSs_no h1 (by omega)
    · rw [rS_no h1]; exact rSs_bad rfl
theorem keyR_ok {c : List UInt8} {a : Nat} (h : a + 32 ≤ c.length) : keyR c (a, 0) = cutB c a 32 := by
  unfold keyR
  rw [rB_ok h]
  exact padR_full (by rw [cutB_len h]; rfl)
theorem sidR_ok {c : List UInt8} {a : Nat} (h : a + 16 ≤ c.length) : sidR c (a, 0) = cutB c a 16 := by
  unfold sidR
  rw [rB_ok h]
  exact padR_full (by rw [cutB_len h]; rfl)
def kdD (c : List UInt8) : Nat := numB (cutB c 1 1)
def atD (k : Nat) : Nat := if k = 1 then 70 else 2
def hlD (c : List UInt8) (k : Nat) : Hl := if k = 1 then ⟨cutB c 2 32, cutB c 34 32, numB (cutB c 66 4)⟩ else Hl.z
def hdD (c : List UInt8) (a : Nat) : Hd := ⟨cutB c a 16, numB (cutB c (a + 16) 4), cutB c (a + 20) 32, numB (cutB c (a + 52) 4), numB (cutB c (a + 56) 4)⟩
def nD (c : List UInt8) (k : Nat) : Nat := numB (cutB c (atD k + 60) 2)
def tailE (c : List UInt8) (m : Nat) : Int := if c.length < m then 10 else if m < c.length then 11 else 0
def begE (c : List UInt8) : Int := if c.length < 2 then 10 else if numB (cutB c 0 1) = 1 then 0 else 140
def unE (c : List UInt8) : Int := if begE c = 0 then (if kdD c = 1 ∨ kdD c = 2 then (if c.length < atD (kdD c) + 62 then 10 else if fltD (kdD c : Int) (hlD c (kdD c)) (nD c (kdD c)) = 0 then tailE c (atD (kdD c) + 62 + nD c (kdD c)) else fltD (kdD c : Int) (hlD c (kdD c)) (nD c (kdD c))) else 103) else begE c
def pkD (c : List UInt8) (v : Value) : Pk := ⟨(kdD c : Int), hlD c (kdD c), hdD c (atD (kdD c)), v⟩
def boD (c : List UInt8) : List UInt8 := c.drop (atD (kdD c) + 62)
abbrev s0 : Nat × Int := (0, 0)
theorem s2_ok {c : List UInt8} (h : 2 ≤ c.length) : s2R c s0 = (2, 0) := rSs_ok (ms := [1, 1]) (a := 0) (by simpa using h)
theorem s2_no {c : List UInt8} (h : c.length < 2) : (s2R c s0).2 = 10 := rSs_no (ms := [1, 1]) (a := 0) (Nat.zero_le _) (by simp; omega)
theorem stE_is (c : List UInt8) : stE c s0 = begE c := by
  unfold stE begE
  by_cases h : c.length < 2
  · rw [if_pos h, if_neg (by rw [s2_no h]; decide), s2_no h]
  · rw [if_neg h, s2_ok (by omega), if_pos rfl, rB_ok (by omega)]
theorem beg_ok {c : List UInt8} (h : begE c = 0) : 2 ≤ c.length ∧ numB (cutB c 0 1) = 1 := by
  unfold begE at h
  by_cases h1 : c.length < 2
  · rw [if_pos h1] at h; omega
  · rw [if_neg h1] at h
    by_cases h2 : numB (cutB c 0 1) = 1
    · exact ⟨by omega, h2⟩
    · rw [if_neg h2] at h; omega
theorem stK_is {c : List UInt8} (h : begE c = 0) : stK c s0 = kdD c := by
  have h2 := (beg_ok h).1
  unfold stK
  rw [stE_is, if_pos h, rS_ok (by omega), rB_ok (by omega)]; rfl
theorem s3_ok {c : List UInt8} {k : Nat} (hk : k = 1 ∨ k = 2) (h : atD k ≤ c.length) : s3R c k s0 = (atD k, 0) := by
  rcases hk with rfl | rfl
  · exact rSs_ok (c := c) (ms := [1, 1, 32, 32, 4]) (a := 0) (by simpa [atD] using h)
  · exact rSs_ok (c := c) (ms := [1, 1]) (a := 0) (by simpa [atD] using h)
theorem s4_ok {c : List UInt8} {k : Nat} (hk : k = 1 ∨ k = 2) (h : atD k + 60 ≤ c.length) : s4R c k s0 = (atD k + 60, 0) := by
  unfold s4R
  rw [s3_ok hk (by omega)]
  exact rSs_ok (c := c) (ms := [16, 4, 32, 4, 4]) (a := atD k) (by simpa using h)
theorem s5_ok {c : List UInt8} {k : Nat} (hk : k = 1 ∨ k = 2) (h : atD k + 62 ≤ c.length) : s5R c k s0 = (atD k + 62, 0) := by
  unfold s5R
  rw [s4_ok hk (by omega), rS_ok (by omega)]
theorem s5_no {c : List UInt8} {k : Nat} (hk : k = 1 ∨ k = 2) (h : c.length < atD k + 62) : (s5R c k s0).2 = 10 := by
  rcases hk with rfl | rfl
  · exact rSs_no (c := c) (ms := [1, 1, 32, 32, 4, 16, 4, 32, 4, 4, 2]) (a := 0) (Nat.zero_le _) (by simp [atD] at h ⊢; omega)
  · exact rSs_no (c := c) (ms := [1, 1, 16, 4, 32, 4, 4, 2]) (a := 0) (Nat.zero_le _) (by simp [atD] at h ⊢; omega)
theorem hlR_is {c : List UInt8} {k : Nat} (hk : k = 1 ∨ k = 2) (h : atD k ≤ c.length) : hlR c k s0 = hlD c k := by
  rcases hk with rfl | rfl
  · have h : 70 ≤ c.length := h
    unfold hlR hlD
    rw [if_pos rfl, if_pos rfl, s2_ok (by omega)]
    unfold helR
    rw [rS_ok (by omega), rS_ok (by omega), keyR_ok (by omega), keyR_ok (by omega), rB_ok (by omega)]
  · rfl
theorem hedR_is {c : List UInt8} {a : Nat} (h : a + 60 ≤ c.length) : hedR c (a, 0) = hdD c a := by
  unfold hedR hdD
  rw [rS_ok (by omega), rS_ok (by omega), rS_ok (by omega), rS_ok (by omega), sidR_ok (by omega), rB_ok (by omega), keyR_ok (by omega), rB_ok (by omega), rB_ok (by omega)]
theorem nR_is {c : List UInt8} {k : Nat} (hk : k = 1 ∨ k = 2) (h : atD k + 62 ≤ c.length) : nR c k s0 = nD c k := by
  unfold nR nD
  rw [s4_ok hk (by omega), rB_ok (by omega)]
theorem pkR_is {c : List UInt8} {k : Nat} (hk : k = 1 ∨ k = 2) (h : atD k + 62 ≤ c.length) (v : Value) : pkR c k s0 v = ⟨(k : Int), hlD c k, hdD c (atD k), v⟩ := by
  unfold pkR
  rw [hlR_is hk (by omega), s3_ok hk (by omega), hedR_is (by omega)]
theorem s7_is {c : List UInt8} {k : Nat} (hk : k = 1 ∨ k = 2) (h : atD k + 62 ≤ c.length) : (s7R c k s0).2 = tailE c (atD k + 62 + nD c k) := by
  unfold s7R s6R tailE
  rw [s5_ok hk h, nR_is hk h]
  by_cases h1 : c.length < atD k + 62 + nD c k
  · rw [rS_no (by omega), if_pos h1]
    unfold eS
    rw [if_neg (fun e => absurd e.1 (show ¬ (10 : Int) = 0 by decide))]
  · rw [rS_ok (by omega), if_neg h1]
    unfold eS
    by_cases h2 : atD k + 62 + nD c k < c.length
    · rw [if_pos ⟨rfl, h2⟩, if_pos h2]
    · rw [if_neg (fun e => h2 e.2), if_neg h2]
theorem tail_ok {c : List UInt8} {m : Nat} (h : tailE c m = 0) : c.length = m := by
  unfold tailE at h
  by_cases h1 : c.length < m
  · rw [if_pos h1] at h; omega
  · rw [if_neg h1] at h
    by_cases h2 : m < c.length
    · rw [if_pos h2] at h; omega
    · omega
/-- Unpack's answer. -/
def UnA (w : World) (c : List UInt8) (e : Ending) (w' : World) : Prop := ∃ p : Pk, e = .returned (.tuple #[p.v, .int .i64 (unE c)]) ∧ (¬ unE c = 0 → p = Pk.z) ∧ (unE c = 0 → ∃ vy, p = pkD c vy ∧ Ob w' w.heap.size vy (boD c)) ∧ Below w.heap.size w w'
theorem unpack_any (vb : Value) (c : List UInt8) (w : World) (hb : Has w vb c) (hl : c.length ≤ 140737488355328) : Calls Try.prog 11 #[vb] w (UnA w c) := by
  by_cases hE : begE c = 0
  · have hK := stK_is hE
    have hE' : stE c s0 = 0 := by rw [stE_is]; exact hE
    by_cases hk : kdD c = 1 ∨ kdD c = 2
    · by_cases h62 : c.length < atD (kdD c) + 62
      · have hu : unE c = 10 := by unfold unE; rw [if_pos hE, if_pos hk, if_pos h62]
        have h10 := s5_no hk h62
        refine (unp_err vb c w hb hl 10 (by decide) (fun w' q u hr => ?_)).mono fun e w' ⟨h1, h2⟩ => ⟨Pk.z, by rw [hu]; exact h1, fun _ => rfl, fun h => absurd h (by rw [hu]; decide), h2⟩
        rw [← h10]
        rcases hk with e | e
        · rw [e] at h10 ⊢
          exact ahead_D1 q u c s0 w' hr hl hE' (hK.trans e) (by rw [h10]; decide)
        · rw [e] at h10 ⊢
          exact ahead_D2 q u c s0 w' hr hl hE' (hK.trans e) (by rw [h10]; decide)
      · have hat : atD (kdD c) + 62 ≤ c.length := by omega
        have hS : (s5R c (kdD c) s0).2 = 0 := by rw [s5_ok hk hat]
        have hA : ∀ w' q u, Rd w' q u c 0 0 → Calls Try.prog 27 #[.pointer (some ⟨q, 0, none⟩)] w' fun e w'' => e = .returned (.tuple #[(pkR c (kdD c) s0 (.slice none 0 0)).v, .int .i64 (nR c (kdD c) s0 : Int), .int .i64 (0)]) ∧ Rd w'' q u c (s5R c (kdD c) s0).1 0 ∧ Fx (fun k => k = q) w' w'' := fun w' q u hr => by
          rcases hk with e | e
          · rw [e] at hS ⊢
            exact ahead_C1 q u c s0 w' hr hl hE' (hK.trans e) hS
          · rw [e] at hS ⊢
            exact ahead_C2 q u c s0 w' hr hl hE' (hK.trans e) hS
        have hfl : fltD (kdD c : Int) (hlR c (kdD c) s0) (nR c (kdD c) s0) = fltD (kdD c : Int) (hlD c (kdD c)) (nD c (kdD c)) := by rw [hlR_is hk (by omega), nR_is hk hat]
        by_cases hF : fltD (kdD c : Int) (hlD c (kdD c)) (nD c (kdD c)) = 0
        · have hu : unE c = tailE c (atD (kdD c) + 62 + nD c (kdD c)) := by unfold unE; rw [if_pos hE, if_pos hk, if_neg h62, if_pos hF]
          have h7 := s7_is hk hat
          by_cases ht : tailE c (atD (kdD c) + 62 + nD c (kdD c)) = 0
          · refine (unp_ok vb c w hb hl (kdD c) s0 hA hS (hfl.trans hF) (h7.trans ht)).mono fun e w' ⟨vy, h1, h2, h3⟩ => ⟨_, by rw [hu, ht]; exact h1, fun h => absurd (hu.trans ht) h, fun _ => ⟨vy, pkR_is hk hat vy, ?_⟩, h3⟩
            have e1 : rB c (nR c (kdD c) s0) (s5R c (kdD c) s0) = boD c := by
              have := tail_ok ht
              rw [s5_ok hk hat, nR_is hk hat, rB_ok (by omega)]
              unfold cutB boD
              exact List.take_of_length_le (by rw [List.length_drop]; omega)
            rw [e1] at h2
            exact h2
          · exact (unp_end vb c w hb hl (kdD c) s0 hA hS (hfl.trans hF) (by rw [h7]; exact ht)).mono fun e w' ⟨h1, h2⟩ => ⟨Pk.z, by rw [hu, ← h7]; exact h1, fun _ => rfl, fun h => absurd (hu.symm.trans h) ht, h2⟩
        · have hu : unE c = fltD (kdD c : Int) (hlD c (kdD c)) (nD c (kdD c)) := by unfold unE; rw [if_pos hE, if_pos hk, if_neg h62, if_neg hF]
          exact (unp_flt vb c w hb hl (kdD c) s0 hA (by rw [hfl]; exact hF)).mono fun e w' ⟨h1, h2⟩ => ⟨Pk.z, by rw [hu, ← hfl]; exact h1, fun _ => rfl, fun h => absurd (hu.symm.trans h) hF, h2⟩
    · have hu : unE c = 103 := by unfold unE; rw [if_pos hE, if_neg hk]
      refine (unp_err vb c w hb hl 103 (by decide) (fun w' q u hr => ahead_B q u c s0 w' hr hl hE' (decide_eq_false ?_))).mono fun e w' ⟨h1, h2⟩ => ⟨Pk.z, by rw [hu]; exact h1, fun _ => rfl, fun h => absurd h (by rw [hu]; decide), h2⟩
      rw [hK]; omega
  · have hu : unE c = begE c := by unfold unE; rw [if_neg hE]
    refine (unp_err vb c w hb hl (begE c) hE (fun w' q u hr => ?_)).mono fun e w' ⟨h1, h2⟩ => ⟨Pk.z, by rw [hu]; exact h1, fun _ => rfl, fun h => absurd (hu.symm.trans h) hE, h2⟩
    rw [← stE_is]
    exact ahead_A q u c s0 w' hr hl (by rw [stE_is]; exact hE)
end Go.Proofs.Ytobfebpinkikdaa
