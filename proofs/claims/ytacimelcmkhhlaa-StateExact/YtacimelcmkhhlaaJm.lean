import Derived.Test.YtacimelcmkhhlaaJl
set_option linter.unusedVariables false
set_option linter.unusedSimpArgs false
namespace Go.Proofs.Ytacimelcmkhhlaa
open Go.RowKit

theorem hd_cut {s : Sg} (k : s.ok) {c r : List UInt8} (hc : c = [1] ++ (corD s ++ r)) : cutB c 0 1 = [1] ∧ cutB c 1 16 = s.sid ∧ cutB c 17 64 = s.bind ∧ cutB c 81 32 = s.root ∧ cutB c 113 32 = s.pri ∧ cutB c 145 32 = s.pub ∧ cutB c 177 32 = s.peer ∧ cutB c 209 4 = be32 s.own ∧ cutB c 213 4 = be32 s.turns ∧ cutB c 217 4 = be32 s.ser :=
  ⟨cutB_mid (a := []) (m := [1]) (b := s.sid ++ (s.bind ++ (s.root ++ (s.pri ++ (s.pub ++ (s.peer ++ ((be32 s.own) ++ ((be32 s.turns) ++ ((be32 s.ser) ++ r))))))))) (by rw [hc]; simp [corD]) (by simp [k.sid, k.bind, k.root, k.pri, k.pub, k.peer, k.sk, k.rk, be32_len]) rfl, cutB_mid (a := [1]) (m := s.sid) (b := s.bind ++ (s.root ++ (s.pri ++ (s.pub ++ (s.peer ++ ((be32 s.own) ++ ((be32 s.turns) ++ ((be32 s.ser) ++ r)))))))) (by rw [hc]; simp [corD]) (by simp [k.sid, k.bind, k.root, k.pri, k.pub, k.peer, k.sk, k.rk, be32_len]) k.sid, cutB_mid (a := [1] ++ s.sid) (m := s.bind) (b := s.root ++ (s.pri ++ (s.pub ++ (s.peer ++ ((be32 s.own) ++ ((be32 s.turns) ++ ((be32 s.ser) ++ r))))))) (by rw [hc]; simp [corD]) (by simp [k.sid, k.bind, k.root, k.pri, k.pub, k.peer, k.sk, k.rk, be32_len]) k.bind, cutB_mid (a := [1] ++ (s.sid ++ s.bind)) (m := s.root) (b := s.pri ++ (s.pub ++ (s.peer ++ ((be32 s.own) ++ ((be32 s.turns) ++ ((be32 s.ser) ++ r)))))) (by rw [hc]; simp [corD]) (by simp [k.sid, k.bind, k.root, k.pri, k.pub, k.peer, k.sk, k.rk, be32_len]) k.root, cutB_mid (a := [1] ++ (s.sid ++ (s.bind ++ s.root))) (m := s.pri) (b := s.pub ++ (s.peer ++ ((be32 s.own) ++ ((be32 s.turns) ++ ((be32 s.ser) ++ r))))) (by rw [hc]; simp [corD]) (by simp [k.sid, k.bind, k.root, k.pri, k.pub, k.peer, k.sk, k.rk, be32_len]) k.pri, cutB_mid (a := [1] ++ (s.sid ++ (s.bind ++ (s.root ++ s.pri)))) (m := s.pub) (b := s.peer ++ ((be32 s.own) ++ ((be32 s.turns) ++ ((be32 s.ser) ++ r)))) (by rw [hc]; simp [corD]) (by simp [k.sid, k.bind, k.root, k.pri, k.pub, k.peer, k.sk, k.rk, be32_len]) k.pub, cutB_mid (a := [1] ++ (s.sid ++ (s.bind ++ (s.root ++ (s.pri ++ s.pub))))) (m := s.peer) (b := (be32 s.own) ++ ((be32 s.turns) ++ ((be32 s.ser) ++ r))) (by rw [hc]; simp [corD]) (by simp [k.sid, k.bind, k.root, k.pri, k.pub, k.peer, k.sk, k.rk, be32_len]) k.peer, cutB_mid (a := [1] ++ (s.sid ++ (s.bind ++ (s.root ++ (s.pri ++ (s.pub ++ s.peer)))))) (m := be32 s.own) (b := (be32 s.turns) ++ ((be32 s.ser) ++ r)) (by rw [hc]; simp [corD]) (by simp [k.sid, k.bind, k.root, k.pri, k.pub, k.peer, k.sk, k.rk, be32_len]) (be32_len _), cutB_mid (a := [1] ++ (s.sid ++ (s.bind ++ (s.root ++ (s.pri ++ (s.pub ++ (s.peer ++ (be32 s.own)))))))) (m := be32 s.turns) (b := (be32 s.ser) ++ r) (by rw [hc]; simp [corD]) (by simp [k.sid, k.bind, k.root, k.pri, k.pub, k.peer, k.sk, k.rk, be32_len]) (be32_len _), cutB_mid (a := [1] ++ (s.sid ++ (s.bind ++ (s.root ++ (s.pri ++ (s.pub ++ (s.peer ++ ((be32 s.own) ++ (be32 s.turns))))))))) (m := be32 s.ser) (b := r) (by rw [hc]; simp [corD]) (by simp [k.sid, k.bind, k.root, k.pri, k.pub, k.peer, k.sk, k.rk, be32_len]) (be32_len _)⟩
theorem snd_cut {s : Sg} (k : s.ok) {c X r : List UInt8} {o : Nat} (hc : c = X ++ (sndD s ++ r)) (ho : X.length = o) : cutB c o 32 = s.sk ∧ cutB c (o + 32) 4 = be32 s.sent ∧ cutB c (o + 36) 4 = be32 s.prev :=
  ⟨cutB_mid (a := X) (m := s.sk) (b := be32 s.sent ++ (be32 s.prev ++ r)) (by rw [hc]; simp [sndD]) ho k.sk, cutB_mid (a := X ++ s.sk) (m := be32 s.sent) (b := be32 s.prev ++ r) (by rw [hc]; simp [sndD]) (by simp [ho, k.sk]) (be32_len _), cutB_mid (a := X ++ (s.sk ++ be32 s.sent)) (m := be32 s.prev) (b := r) (by rw [hc]; simp [sndD]) (by simp [ho, k.sk, be32_len]) (be32_len _)⟩
theorem rcv_cut {s : Sg} (k : s.ok) {c X r : List UInt8} {o : Nat} (hc : c = X ++ (rcvD s ++ r)) (ho : X.length = o) : cutB c o 32 = s.rk ∧ cutB c (o + 32) 4 = be32 s.got :=
  ⟨cutB_mid (a := X) (m := s.rk) (b := be32 s.got ++ r) (by rw [hc]; simp [rcvD]) ho k.rk, cutB_mid (a := X ++ s.rk) (m := be32 s.got) (b := r) (by rw [hc]; simp [rcvD]) (by simp [ho, k.rk]) (be32_len _)⟩
theorem hel_cut {h : Hl} (k : h.ok) {c X : List UInt8} {m : UInt8} {o : Nat} (hc : c = X ++ ([m] ++ helB h)) (ho : X.length = o) : cutB c (o + 1) 32 = h.once ∧ cutB c (o + 33) 4 = be32 h.pre :=
  ⟨cutB_mid (a := X ++ [m]) (m := h.once) (b := be32 h.pre) (by rw [hc]; simp [helB]) (by simp [ho]) k.o, cutB_mid (a := X ++ ([m] ++ h.once)) (m := be32 h.pre) (b := []) (by rw [hc]; simp [helB]) (by simp [ho, k.o]; try omega) (be32_len _)⟩
def sndP (s : Sg) : List UInt8 := if 0 < s.own then sndD s else []
def rcvP (s : Sg) : List UInt8 := if 0 < s.turns then rcvD s else []
def helP (s : Sg) : List UInt8 := if s.hl = Hl.z then [] else helB s.hl
/-- Where the byte ahead of the hello stands. -/
def atP (s : Sg) : Nat := 221 + (sndP s).length + (rcvP s).length
def ahP (s : Sg) : List UInt8 := [1] ++ (corD s ++ (sndP s ++ rcvP s))
theorem ahP_len {s : Sg} (k : s.ok) : (ahP s).length = atP s := by simp [ahP, atP, corD_len k]; omega
theorem enc_ah (s : Sg) : encD s = ahP s ++ ([UInt8.ofNat (mkD s.hl)] ++ helP s) := by simp [encD, ahP, sndP, rcvP, helP]
theorem sndP_len {s : Sg} (k : s.ok) : (sndP s).length = if 0 < s.own then 40 else 0 := by unfold sndP; split; exact sndD_len k; rfl
theorem rcvP_len {s : Sg} (k : s.ok) : (rcvP s).length = if 0 < s.turns then 36 else 0 := by unfold rcvP; split; exact rcvD_len k; rfl
theorem mk_num (s : Sg) : numB [UInt8.ofNat (mkD s.hl)] = mkD s.hl := by
  unfold mkD
  split <;> rfl
/-- What any bytes that begin so tell, up to the byte ahead of the hello. -/
theorem ah_is {s : Sg} (k : s.ok) {c r : List UInt8} (hc : c = ahP s ++ r) : numB (cutB c 0 1) = 1 ∧ ownN c = s.own ∧ trnN c = s.turns ∧ oA c = 221 + (sndP s).length ∧ tA c = atP s ∧ cutB c (tA c) 1 = r.take 1 := by
  obtain ⟨a0, a1, a2, a3, a4, a5, a6, a7, a8, a9⟩ := hd_cut k (c := c) (r := sndP s ++ (rcvP s ++ r)) (by rw [hc]; simp [ahP])
  have ho : ownN c = s.own := by unfold ownN; rw [a7]; exact numB_be32 k.own
  have ht : trnN c = s.turns := by unfold trnN; rw [a8]; exact numB_be32 k.turns
  have eo : oA c = 221 + (sndP s).length := by unfold oA; rw [ho, sndP_len k]; split <;> rfl
  have et : tA c = atP s := by unfold tA atP; rw [ht, eo, rcvP_len k]; split <;> rfl
  refine ⟨by rw [a0]; rfl, ho, ht, eo, et, ?_⟩
  rw [et, hc]
  unfold cutB
  rw [← ahP_len k, List.drop_left]
theorem good_0 {s : Sg} (g : Good s) (h : s.own = 0) : s.sk = z32 ∧ s.sent = 0 ∧ s.prev = 0 ∧ s.ser = 0 ∧ s.hl = Hl.z := by
  have e1 := congrArg Sg.sk g.2.1
  have e2 := congrArg Sg.sent g.2.1
  have e3 := congrArg Sg.prev g.2.1
  have e4 := congrArg Sg.ser g.2.1
  simp only [cntD, if_pos h] at e1 e2 e4
  simp only [cntD, if_pos (show s.own ≤ 1 by omega)] at e3
  exact ⟨e1, e2, e3, e4, good_hl g (.inl h)⟩
theorem good_t {s : Sg} (g : Good s) (h : s.turns = 0) : s.rk = z32 ∧ s.got = 0 := by
  have e1 := congrArg Sg.rk g.2.1
  have e2 := congrArg Sg.got g.2.1
  simp only [cntD, if_pos h] at e1 e2
  exact ⟨e1, e2⟩
/-- There and back. -/
theorem enc_back {s : Sg} (k : s.ok) (g : Good s) : parE (encD s) = 0 ∧ preS (encD s) = s ∧ enA (encD s) = (encD s).length ∧ mkN (encD s) = mkD s.hl ∧ (encD s).length = atP s + (if s.hl = Hl.z then 1 else 37) := by
  obtain ⟨c, hc⟩ : ∃ c, encD s = c := ⟨_, rfl⟩
  have e1 := hc.symm.trans (enc_ah s)
  obtain ⟨v0, ho, ht, eo, et, em⟩ := ah_is k e1
  rw [hc]
  have em1 : mkN c = mkD s.hl := by
    unfold mkN
    rw [em]
    exact mk_num s
  have hlen : c.length = atP s + (if s.hl = Hl.z then 1 else 37) := by
    rw [e1, List.length_append, ahP_len k, List.length_append, helP]
    split
    · rfl
    · rw [helB_len k.hl]; rfl
  have een : enA c = c.length := by
    unfold enA
    rw [em1, hlen, et, mkD]
    by_cases hz : s.hl = Hl.z
    · rw [if_pos hz, if_pos hz]; rfl
    · rw [if_neg hz, if_neg hz]; rfl
  obtain ⟨a0, a1, a2, a3, a4, a5, a6, a7, a8, a9⟩ := hd_cut k (c := c) (r := sndP s ++ (rcvP s ++ ([UInt8.ofNat (mkD s.hl)] ++ helP s))) (by rw [e1]; simp [ahP])
  have pS : (if 0 < ownN c then cutB c 221 32 else z32) = s.sk ∧ (if 0 < ownN c then numB (cutB c 253 4) else 0) = s.sent ∧ (if 0 < ownN c then numB (cutB c 257 4) else 0) = s.prev := by
    rw [ho]
    by_cases h0 : 0 < s.own
    · obtain ⟨b1, b2, b3⟩ := snd_cut k (c := c) (X := [1] ++ corD s) (r := rcvP s ++ ([UInt8.ofNat (mkD s.hl)] ++ helP s)) (o := 221) (by rw [e1]; simp [ahP, sndP, h0]) (by simp [corD_len k])
      rw [if_pos h0, if_pos h0, if_pos h0, b1, b2, b3]
      exact ⟨rfl, numB_be32 k.sent, numB_be32 k.prev⟩
    · obtain ⟨b1, b2, b3, _⟩ := good_0 g (by omega)
      rw [if_neg h0, if_neg h0, if_neg h0]
      exact ⟨b1.symm, b2.symm, b3.symm⟩
  have pR : (if 0 < trnN c then cutB c (oA c) 32 else z32) = s.rk ∧ (if 0 < trnN c then numB (cutB c (oA c + 32) 4) else 0) = s.got := by
    rw [ht, eo]
    by_cases h0 : 0 < s.turns
    · obtain ⟨b1, b2⟩ := rcv_cut k (c := c) (X := [1] ++ (corD s ++ sndP s)) (r := [UInt8.ofNat (mkD s.hl)] ++ helP s) (o := 221 + (sndP s).length) (by rw [e1]; simp [ahP, rcvP, h0]) (by simp [corD_len k]; try omega)
      rw [if_pos h0, if_pos h0, b1, b2]
      exact ⟨rfl, numB_be32 k.got⟩
    · obtain ⟨b1, b2⟩ := good_t g (by omega)
      rw [if_neg h0, if_neg h0]
      exact ⟨b1.symm, b2.symm⟩
  have pH : (if mkN c = 1 then (⟨(cutB c 17 64).take 32, cutB c (tA c + 1) 32, numB (cutB c (tA c + 33) 4)⟩ : Hl) else Hl.z) = s.hl := by
    rw [em1, mkD, et]
    by_cases hz : s.hl = Hl.z
    · rw [if_pos hz, if_neg (by decide)]; exact hz.symm
    · rw [if_neg hz, if_pos rfl]
      obtain ⟨b1, b2⟩ := hel_cut k.hl (c := c) (X := ahP s) (m := UInt8.ofNat (mkD s.hl)) (o := atP s) (by rw [e1]; simp [helP, hz]) (ahP_len k)
      rw [b1, b2, a2, numB_be32 k.hl.p]
      rcases g.2.2.2 with h | ⟨_, h⟩
      · exact absurd h hz
      · rw [← h]
  have hp : preS c = s := by
    unfold preS
    rw [pS.1, pS.2.1, pS.2.2, pR.1, pR.2, pH, a1, a2, a3, a4, a5, a6, a9, ho, ht, numB_be32 k.ser]
  have hl1 : 1 ≤ c.length - atP s ∧ 221 ≤ atP s := by
    constructor
    · rw [hlen]
      split <;> omega
    · unfold atP; omega
  have hmk : mkD s.hl ≤ 1 := by unfold mkD; split <;> decide
  refine ⟨?_, hp, een, em1, hlen⟩
  unfold parE
  rw [if_neg (by omega), if_pos v0, if_neg (by omega), if_neg (by rw [et]; omega), if_neg (by rw [em1]; omega), een, if_neg (by omega), if_neg (by omega), hp, em1, if_pos rfl, chkD, if_pos g]
theorem enc_len {s : Sg} (k : s.ok) (g : Good s) : 222 ≤ (encD s).length ∧ (encD s).length ≤ 330 := by
  obtain ⟨_, _, _, _, h⟩ := enc_back k g
  have a1 := sndP_len k
  have a2 := rcvP_len k
  have a3 : 0 < s.turns → s.hl = Hl.z := fun h => good_hl g (.inr h)
  unfold atP at h
  by_cases h1 : 0 < s.own <;> by_cases h2 : 0 < s.turns <;> by_cases h3 : s.hl = Hl.z
  all_goals simp only [h1, h2, h3, if_true, if_false] at h a1 a2
  all_goals first | omega | exact absurd (a3 h2) h3
end Go.Proofs.Ytacimelcmkhhlaa
