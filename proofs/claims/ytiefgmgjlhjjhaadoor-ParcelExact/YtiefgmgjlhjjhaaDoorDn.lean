import Derived.Test.YtiefgmgjlhjjhaaDoorDmG
set_option linter.unusedVariables false
set_option linter.unusedSimpArgs false
namespace Go.Proofs.YtiefgmgjlhjjhaaDoor
open Go.RowKit

attribute [local irreducible] sm sumOf cnt chk partB ptB lgL pM pI pN pA pS pC
theorem Tr.sh {w : World} {p r most : Nat} {E : List Me} {c : Nat} (h : Tr w p r most E c) : ∀ m ∈ E, m.c.sh := h.mp.ok
theorem tk_sub (E : List Me) (a : List UInt8) (id : Nat) : ∀ m ∈ tkL E a id, m ∈ E := fun m hm => by
  unfold tkL at hm
  split at hm
  · exact (List.filter_sublist).subset hm
  · exact hm
theorem tk_len (E : List Me) (a : List UInt8) (id : Nat) : (tkL E a id).length ≤ E.length := by
  unfold tkL
  split
  · exact List.length_filter_le _ _
  · exact Nat.le_refl _
set_option maxRecDepth 100000 in
set_option maxHeartbeats 16000000 in
theorem step_e {w0 w : World} {p r : Nat} {E : List Me} {c : Nat} {q : Nat} {v : Value} {L : List Rp} {most : Nat} (D : Dk w0 w p r E c q v L most) (a : List UInt8) (id : Nat) (hid : id < 4294967296) (bv : Value) (bs : List UInt8) (hb : Has w0 bv bs) (hl : bs.length ≤ 140737488355328) (k : Int) (h1 : ¬ k = 1) (h2 : ¬ k = 2) (h3 : ¬ k = 3) (h4 : ¬ k = 4) (h5 : ¬ k = 5) (h6 : ¬ k = 6) : Calls Tryd.prog 17 #[.pointer (some ⟨p, 0, none⟩), .pointer (some ⟨q, 0, none⟩), (Ox.mk k a id bv).v] w fun e w' => e = .returned (.bool true) ∧ ∃ E' c' v' L', Dk w0 w' p r E' c' q v' L' most := by
  refine calls_of_args [.pointer (some ⟨p, 0, none⟩), .pointer (some ⟨q, 0, none⟩), (Ox.mk k a id bv).v] Tryd.func17 rfl 214 Tryd.ntmps17 (by show 3 ≤ 214; decide) ?_
  refine EW.seq ?_
  refine EW.region ?_
  obtain ⟨w1, q5, rb5, b5, l1, hq5⟩ := box_any 51 (Ox.mk k a id bv).cs w
  refine WL.box rfl rfl rfl rb5 ?_
  have D1 := D.on l1
  have hb1 := hb.below D1.be
  first | refine WL.assign rfl rfl rfl ?_
  refine WL.done ?_
  refine EW.on ?_
  refine EW.seq ?_
  refine EW.region ?_
  refine WL.bslN [] rfl rfl rfl (bsl22n _) ?_
  have l15 := below_new w1 (.cells #[] 5)
  refine WL.field rfl rfl rfl (g51_3 _ _) ?_
  refine WL.load rfl rfl rfl (ldS (b5.on l15) rfl) ?_
  obtain ⟨ow, w2, r2, ow2, be2⟩ := copy_new hb1 hl 24
  refine WL.app rfl rfl rfl rfl r2 ?_
  have D2 := D1.on be2
  have b52 := b5.on be2
  have hb2 := hb.below D2.be
  have oo := ow2.ob
  have LL2 : L.length ≤ 64 := by rw [D.rel.len]; have := D.le; have := D.m64; omega
  first | refine WL.assign rfl rfl rfl ?_
  refine WL.done ?_
  refine EW.on ?_
  refine EW.seq ?_
  refine EW.seq ?_
  refine EW.region ?_
  refine WL.field rfl rfl rfl (g51_0 _ _) ?_
  refine WL.load rfl rfl rfl (ldI b52 rfl) ?_
  refine WL.done ?_
  refine EW.on ?_
  refine EW.block ?_
  refine EW.seq ?_
  refine EW.region ?_
  first | refine WL.bin rfl rfl rfl rfl (int_eq_t rfl _ _ _) ?_ | refine WL.bin rfl rfl rfl rfl (int_eq_t ‹_› _ _ _) ?_ | refine WL.bin rfl rfl rfl rfl (int_eq_f ‹_› _ _ _) ?_ | refine WL.bin rfl rfl rfl rfl (int_eq_d _ _ _ _ _) ?_
  first | refine WL.assign rfl rfl rfl ?_
  refine WL.done ?_
  refine EW.on ?_
  refine EW.cond_f rfl ?_
  refine EW.seq ?_
  refine EW.region ?_
  first | refine WL.bin rfl rfl rfl rfl (int_eq_t rfl _ _ _) ?_ | refine WL.bin rfl rfl rfl rfl (int_eq_t ‹_› _ _ _) ?_ | refine WL.bin rfl rfl rfl rfl (int_eq_f ‹_› _ _ _) ?_ | refine WL.bin rfl rfl rfl rfl (int_eq_d _ _ _ _ _) ?_
  first | refine WL.assign rfl rfl rfl ?_
  refine WL.done ?_
  refine EW.on ?_
  refine EW.cond_f rfl ?_
  refine EW.seq ?_
  refine EW.region ?_
  first | refine WL.bin rfl rfl rfl rfl (int_eq_t rfl _ _ _) ?_ | refine WL.bin rfl rfl rfl rfl (int_eq_t ‹_› _ _ _) ?_ | refine WL.bin rfl rfl rfl rfl (int_eq_f ‹_› _ _ _) ?_ | refine WL.bin rfl rfl rfl rfl (int_eq_d _ _ _ _ _) ?_
  first | refine WL.assign rfl rfl rfl ?_
  refine WL.done ?_
  refine EW.on ?_
  refine EW.cond_f rfl ?_
  refine EW.seq ?_
  refine EW.region ?_
  first | refine WL.bin rfl rfl rfl rfl (int_eq_t rfl _ _ _) ?_ | refine WL.bin rfl rfl rfl rfl (int_eq_t ‹_› _ _ _) ?_ | refine WL.bin rfl rfl rfl rfl (int_eq_f ‹_› _ _ _) ?_ | refine WL.bin rfl rfl rfl rfl (int_eq_d _ _ _ _ _) ?_
  first | refine WL.assign rfl rfl rfl ?_
  refine WL.done ?_
  refine EW.on ?_
  refine EW.cond_f rfl ?_
  refine EW.seq ?_
  refine EW.region ?_
  first | refine WL.bin rfl rfl rfl rfl (int_eq_t rfl _ _ _) ?_ | refine WL.bin rfl rfl rfl rfl (int_eq_t ‹_› _ _ _) ?_ | refine WL.bin rfl rfl rfl rfl (int_eq_f ‹_› _ _ _) ?_ | refine WL.bin rfl rfl rfl rfl (int_eq_d _ _ _ _ _) ?_
  first | refine WL.assign rfl rfl rfl ?_
  refine WL.done ?_
  refine EW.on ?_
  refine EW.cond_f rfl ?_
  refine EW.seq ?_
  refine EW.region ?_
  first | refine WL.bin rfl rfl rfl rfl (int_eq_t rfl _ _ _) ?_ | refine WL.bin rfl rfl rfl rfl (int_eq_t ‹_› _ _ _) ?_ | refine WL.bin rfl rfl rfl rfl (int_eq_f ‹_› _ _ _) ?_ | refine WL.bin rfl rfl rfl rfl (int_eq_d _ _ _ _ _) ?_
  first | refine WL.assign rfl rfl rfl ?_
  refine WL.done ?_
  refine EW.on ?_
  refine EW.cond_f rfl ?_
  refine EW.skip ?_
  refine pn_block ?_
  refine EW.on ?_
  refine EW.seq ?_
  refine EW.region ?_
  first | refine WL.assign rfl rfl rfl ?_
  refine WL.done ?_
  refine EW.on ?_
  refine EW.ret ?_
  exact EW.returns Tryd.results17 rfl ⟨rfl, E, c, v, L, D2⟩
set_option maxRecDepth 100000 in
set_option maxHeartbeats 16000000 in
theorem step5 {w0 w : World} {p r : Nat} {E : List Me} {c : Nat} {q : Nat} {v : Value} {L : List Rp} {most : Nat} (D : Dk w0 w p r E c q v L most) (a : List UInt8) (id : Nat) (hid : id < 4294967296) (bv : Value) (bs : List UInt8) (hb : Has w0 bv bs) (hl : bs.length ≤ 140737488355328) : Calls Tryd.prog 17 #[.pointer (some ⟨p, 0, none⟩), .pointer (some ⟨q, 0, none⟩), (Ox.mk 5 a id bv).v] w fun e w' => e = .returned (.bool true) ∧ ∃ E' c' v' L', Dk w0 w' p r E' c' q v' L' most := by
  refine calls_of_args [.pointer (some ⟨p, 0, none⟩), .pointer (some ⟨q, 0, none⟩), (Ox.mk 5 a id bv).v] Tryd.func17 rfl 214 Tryd.ntmps17 (by show 3 ≤ 214; decide) ?_
  refine EW.seq ?_
  refine EW.region ?_
  obtain ⟨w1, q5, rb5, b5, l1, hq5⟩ := box_any 51 (Ox.mk 5 a id bv).cs w
  refine WL.box rfl rfl rfl rb5 ?_
  have D1 := D.on l1
  have hb1 := hb.below D1.be
  first | refine WL.assign rfl rfl rfl ?_
  refine WL.done ?_
  refine EW.on ?_
  refine EW.seq ?_
  refine EW.region ?_
  refine WL.bslN [] rfl rfl rfl (bsl22n _) ?_
  have l15 := below_new w1 (.cells #[] 5)
  refine WL.field rfl rfl rfl (g51_3 _ _) ?_
  refine WL.load rfl rfl rfl (ldS (b5.on l15) rfl) ?_
  obtain ⟨ow, w2, r2, ow2, be2⟩ := copy_new hb1 hl 24
  refine WL.app rfl rfl rfl rfl r2 ?_
  have D2 := D1.on be2
  have b52 := b5.on be2
  have hb2 := hb.below D2.be
  have oo := ow2.ob
  have LL2 : L.length ≤ 64 := by rw [D.rel.len]; have := D.le; have := D.m64; omega
  first | refine WL.assign rfl rfl rfl ?_
  refine WL.done ?_
  refine EW.on ?_
  refine EW.seq ?_
  refine EW.seq ?_
  refine EW.region ?_
  refine WL.field rfl rfl rfl (g51_0 _ _) ?_
  refine WL.load rfl rfl rfl (ldI b52 rfl) ?_
  refine WL.done ?_
  refine EW.on ?_
  refine EW.block ?_
  refine EW.seq ?_
  refine EW.region ?_
  first | refine WL.bin rfl rfl rfl rfl (int_eq_t rfl _ _ _) ?_ | refine WL.bin rfl rfl rfl rfl (int_eq_t ‹_› _ _ _) ?_ | refine WL.bin rfl rfl rfl rfl (int_eq_f ‹_› _ _ _) ?_ | refine WL.bin rfl rfl rfl rfl (int_eq_d _ _ _ _ _) ?_
  first | refine WL.assign rfl rfl rfl ?_
  refine WL.done ?_
  refine EW.on ?_
  refine EW.cond_f rfl ?_
  refine EW.seq ?_
  refine EW.region ?_
  first | refine WL.bin rfl rfl rfl rfl (int_eq_t rfl _ _ _) ?_ | refine WL.bin rfl rfl rfl rfl (int_eq_t ‹_› _ _ _) ?_ | refine WL.bin rfl rfl rfl rfl (int_eq_f ‹_› _ _ _) ?_ | refine WL.bin rfl rfl rfl rfl (int_eq_d _ _ _ _ _) ?_
  first | refine WL.assign rfl rfl rfl ?_
  refine WL.done ?_
  refine EW.on ?_
  refine EW.cond_f rfl ?_
  refine EW.seq ?_
  refine EW.region ?_
  first | refine WL.bin rfl rfl rfl rfl (int_eq_t rfl _ _ _) ?_ | refine WL.bin rfl rfl rfl rfl (int_eq_t ‹_› _ _ _) ?_ | refine WL.bin rfl rfl rfl rfl (int_eq_f ‹_› _ _ _) ?_ | refine WL.bin rfl rfl rfl rfl (int_eq_d _ _ _ _ _) ?_
  first | refine WL.assign rfl rfl rfl ?_
  refine WL.done ?_
  refine EW.on ?_
  refine EW.cond_f rfl ?_
  refine EW.seq ?_
  refine EW.region ?_
  first | refine WL.bin rfl rfl rfl rfl (int_eq_t rfl _ _ _) ?_ | refine WL.bin rfl rfl rfl rfl (int_eq_t ‹_› _ _ _) ?_ | refine WL.bin rfl rfl rfl rfl (int_eq_f ‹_› _ _ _) ?_ | refine WL.bin rfl rfl rfl rfl (int_eq_d _ _ _ _ _) ?_
  first | refine WL.assign rfl rfl rfl ?_
  refine WL.done ?_
  refine EW.on ?_
  refine EW.cond_f rfl ?_
  refine EW.seq ?_
  refine EW.region ?_
  first | refine WL.bin rfl rfl rfl rfl (int_eq_t rfl _ _ _) ?_ | refine WL.bin rfl rfl rfl rfl (int_eq_t ‹_› _ _ _) ?_ | refine WL.bin rfl rfl rfl rfl (int_eq_f ‹_› _ _ _) ?_ | refine WL.bin rfl rfl rfl rfl (int_eq_d _ _ _ _ _) ?_
  first | refine WL.assign rfl rfl rfl ?_
  refine WL.done ?_
  refine EW.on ?_
  refine EW.cond_t rfl ?_
  refine EW.seq ?_
  refine EW.region ?_
  first | refine WL.move rfl rfl rfl ?_
  refine WL.call [.pointer (some ⟨p, 0, none⟩)] enter13 rfl rfl rfl (tlen_any p r most E c w2 D2.tr) ?_
  rintro _ w3 ⟨rfl, hw3⟩
  refine ⟨_, rfl, ?_⟩
  rw [hw3]
  first | refine WL.move rfl rfl rfl ?_
  refine WL.call [.pointer (some ⟨q, 0, none⟩)] enter18 rfl rfl rfl (rlen_any q v most L w2 D2.rt) ?_
  rintro _ w4 ⟨rfl, hw4⟩
  refine ⟨_, rfl, ?_⟩
  rw [hw4, D.rel.len]
  first | refine WL.bin rfl rfl rfl rfl (int_eq_t rfl _ _ _) ?_ | refine WL.bin rfl rfl rfl rfl (int_eq_t ‹_› _ _ _) ?_ | refine WL.bin rfl rfl rfl rfl (int_eq_f ‹_› _ _ _) ?_ | refine WL.bin rfl rfl rfl rfl (int_eq_d _ _ _ _ _) ?_
  first | refine WL.assign rfl rfl rfl ?_
  refine WL.done ?_
  refine EW.on ?_
  refine EW.ret ?_
  refine pr_block ?_
  refine pr_then ?_
  exact EW.returns Tryd.results17 rfl ⟨rfl, E, c, v, L, D2⟩
set_option maxRecDepth 100000 in
set_option maxHeartbeats 16000000 in
theorem step2 {w0 w : World} {p r : Nat} {E : List Me} {c : Nat} {q : Nat} {v : Value} {L : List Rp} {most : Nat} (D : Dk w0 w p r E c q v L most) (a : List UInt8) (id : Nat) (hid : id < 4294967296) (bv : Value) (bs : List UInt8) (hb : Has w0 bv bs) (hl : bs.length ≤ 140737488355328) : Calls Tryd.prog 17 #[.pointer (some ⟨p, 0, none⟩), .pointer (some ⟨q, 0, none⟩), (Ox.mk 2 a id bv).v] w fun e w' => e = .returned (.bool true) ∧ ∃ E' c' v' L', Dk w0 w' p r E' c' q v' L' most := by
  refine calls_of_args [.pointer (some ⟨p, 0, none⟩), .pointer (some ⟨q, 0, none⟩), (Ox.mk 2 a id bv).v] Tryd.func17 rfl 214 Tryd.ntmps17 (by show 3 ≤ 214; decide) ?_
  refine EW.seq ?_
  refine EW.region ?_
  obtain ⟨w1, q5, rb5, b5, l1, hq5⟩ := box_any 51 (Ox.mk 2 a id bv).cs w
  refine WL.box rfl rfl rfl rb5 ?_
  have D1 := D.on l1
  have hb1 := hb.below D1.be
  first | refine WL.assign rfl rfl rfl ?_
  refine WL.done ?_
  refine EW.on ?_
  refine EW.seq ?_
  refine EW.region ?_
  refine WL.bslN [] rfl rfl rfl (bsl22n _) ?_
  have l15 := below_new w1 (.cells #[] 5)
  refine WL.field rfl rfl rfl (g51_3 _ _) ?_
  refine WL.load rfl rfl rfl (ldS (b5.on l15) rfl) ?_
  obtain ⟨ow, w2, r2, ow2, be2⟩ := copy_new hb1 hl 24
  refine WL.app rfl rfl rfl rfl r2 ?_
  have D2 := D1.on be2
  have b52 := b5.on be2
  have hb2 := hb.below D2.be
  have oo := ow2.ob
  have LL2 : L.length ≤ 64 := by rw [D.rel.len]; have := D.le; have := D.m64; omega
  first | refine WL.assign rfl rfl rfl ?_
  refine WL.done ?_
  refine EW.on ?_
  refine EW.seq ?_
  refine EW.seq ?_
  refine EW.region ?_
  refine WL.field rfl rfl rfl (g51_0 _ _) ?_
  refine WL.load rfl rfl rfl (ldI b52 rfl) ?_
  refine WL.done ?_
  refine EW.on ?_
  refine EW.block ?_
  refine EW.seq ?_
  refine EW.region ?_
  first | refine WL.bin rfl rfl rfl rfl (int_eq_t rfl _ _ _) ?_ | refine WL.bin rfl rfl rfl rfl (int_eq_t ‹_› _ _ _) ?_ | refine WL.bin rfl rfl rfl rfl (int_eq_f ‹_› _ _ _) ?_ | refine WL.bin rfl rfl rfl rfl (int_eq_d _ _ _ _ _) ?_
  first | refine WL.assign rfl rfl rfl ?_
  refine WL.done ?_
  refine EW.on ?_
  refine EW.cond_f rfl ?_
  refine EW.seq ?_
  refine EW.region ?_
  first | refine WL.bin rfl rfl rfl rfl (int_eq_t rfl _ _ _) ?_ | refine WL.bin rfl rfl rfl rfl (int_eq_t ‹_› _ _ _) ?_ | refine WL.bin rfl rfl rfl rfl (int_eq_f ‹_› _ _ _) ?_ | refine WL.bin rfl rfl rfl rfl (int_eq_d _ _ _ _ _) ?_
  first | refine WL.assign rfl rfl rfl ?_
  refine WL.done ?_
  refine EW.on ?_
  refine EW.cond_t rfl ?_
  refine EW.seq ?_
  refine EW.region ?_
  first | refine WL.move rfl rfl rfl ?_
  first | refine WL.field rfl rfl rfl (g51_1 _ _) ?_ | refine WL.skip _ rfl rfl rfl ?_
  first | refine WL.load rfl rfl rfl (ldTb b52 rfl) ?_ | refine WL.skip _ rfl rfl rfl ?_
  first | refine WL.field rfl rfl rfl (g51_2 _ _) ?_ | refine WL.skip _ rfl rfl rfl ?_
  first | refine WL.load rfl rfl rfl (ldU2 b52 rfl) ?_ | refine WL.skip _ rfl rfl rfl ?_
  refine WL.call [.pointer (some ⟨p, 0, none⟩), sv a, u32v id] enter12 rfl rfl rfl (take_any' p r most E c a id w2 D2.tr) ?_
  rintro _ w3 ⟨v3, rfl, tr3, o3, fx3⟩
  refine ⟨_, rfl, ?_⟩
  have b53 := b52.fx fx3 (b52.neM D2.tr.mp.hp)
  have rt3 := D2.rt.fxM D2.tr.mp.hp fx3
  first | refine WL.move rfl rfl rfl ?_
  first | refine WL.extract rfl rfl rfl (ext_2 _ _ _).1 ?_
  first | refine WL.extract rfl rfl rfl (ext_2 _ _ _).2 ?_
  first | refine WL.assign rfl rfl rfl ?_
  first | refine WL.assign rfl rfl rfl ?_
  refine WL.done ?_
  refine EW.on ?_
  refine EW.seq ?_
  refine EW.region ?_
  first | refine WL.move rfl rfl rfl ?_
  first | refine WL.field rfl rfl rfl (g51_1 _ _) ?_ | refine WL.skip _ rfl rfl rfl ?_
  first | refine WL.load rfl rfl rfl (ldTb b53 rfl) ?_ | refine WL.skip _ rfl rfl rfl ?_
  first | refine WL.field rfl rfl rfl (g51_2 _ _) ?_ | refine WL.skip _ rfl rfl rfl ?_
  first | refine WL.load rfl rfl rfl (ldU2 b53 rfl) ?_ | refine WL.skip _ rfl rfl rfl ?_
  refine WL.call [.pointer (some ⟨q, 0, none⟩), sv a, u32v id] enter32 rfl rfl rfl (doc_take D2.rel D2.tr.mp.nd D2.tr.sh q v most (by omega) a id w3 rt3) ?_
  rintro _ w4 ⟨u4, rfl, h4, v4, L4, rt4, rel4, nb4, f4⟩
  refine ⟨_, rfl, ?_⟩
  have D4 := D2.two tr3 fx3 (fun k _ hk => hk.sub (tk_sub E a id)) rt4 f4 nb4 rel4 (Nat.le_trans (tk_len E a id) D.le)
  have o4 := o3.fx f4 (fun k hk e => by
    rcases hk with e' | e'
    · rw [e'] at e; exact o3.neB rt3.bl (by decide) e
    · exact o3.neL rt3.ow (by decide) e' e)
  first | refine WL.move rfl rfl rfl ?_
  first | refine WL.extract rfl rfl rfl (ext_2 _ _ _).1 ?_
  first | refine WL.extract rfl rfl rfl (ext_2 _ _ _).2 ?_
  first | refine WL.assign rfl rfl rfl ?_
  first | refine WL.assign rfl rfl rfl ?_
  refine WL.done ?_
  refine EW.on ?_
  refine EW.seq ?_
  refine EW.region ?_
  first | refine WL.move rfl rfl rfl ?_
  refine WL.conv rfl rfl rfl (o4.has.convert) ?_
  first | refine WL.move rfl rfl rfl ?_
  refine WL.conv rfl rfl rfl (h4.convert) ?_
  refine WL.bin rfl rfl rfl rfl (str_eq_s _ _ _ _ _) ?_
  rw [show decide (tkT E a id = tkT E a id) = true by simp]
  first | refine WL.move rfl rfl rfl ?_
  first | refine WL.move rfl rfl rfl ?_ | refine WL.skip _ rfl rfl rfl ?_
  first | refine WL.move rfl rfl rfl ?_ | refine WL.skip _ rfl rfl rfl ?_
  first | refine WL.bin rfl rfl rfl rfl (int_eq_t rfl _ _ _) ?_ | refine WL.bin rfl rfl rfl rfl (int_eq_t ‹_› _ _ _) ?_ | refine WL.bin rfl rfl rfl rfl (int_eq_f ‹_› _ _ _) ?_ | refine WL.bin rfl rfl rfl rfl (int_eq_d _ _ _ _ _) ?_ | refine WL.skip _ rfl rfl rfl ?_
  first | refine WL.pick rfl rfl rfl rfl ?_
  first | refine WL.assign rfl rfl rfl ?_
  refine WL.done ?_
  refine EW.on ?_
  refine EW.ret ?_
  refine pr_block ?_
  refine pr_then ?_
  exact EW.returns Tryd.results17 rfl ⟨rfl, _, _, _, _, D4⟩
def msE (v3 u4 : Value) (i : Nat) : List (Nat × Value) := [(19, v3), (21, u4), (23, .int .i64 (i : Int))]
structure MsR (w : World) (n i : Nat) (W : World) : Prop where
  le : i ≤ n
  be : Below w.heap.size w W
set_option maxRecDepth 100000 in
set_option maxHeartbeats 16000000 in
theorem step3 {w0 w : World} {p r : Nat} {E : List Me} {c : Nat} {q : Nat} {v : Value} {L : List Rp} {most : Nat} (D : Dk w0 w p r E c q v L most) (a : List UInt8) (id : Nat) (hid : id < 4294967296) (bv : Value) (bs : List UInt8) (hb : Has w0 bv bs) (hl : bs.length ≤ 140737488355328) : Calls Tryd.prog 17 #[.pointer (some ⟨p, 0, none⟩), .pointer (some ⟨q, 0, none⟩), (Ox.mk 3 a id bv).v] w fun e w' => e = .returned (.bool true) ∧ ∃ E' c' v' L', Dk w0 w' p r E' c' q v' L' most := by
  refine calls_of_args [.pointer (some ⟨p, 0, none⟩), .pointer (some ⟨q, 0, none⟩), (Ox.mk 3 a id bv).v] Tryd.func17 rfl 214 Tryd.ntmps17 (by show 3 ≤ 214; decide) ?_
  refine EW.seq ?_
  refine EW.region ?_
  obtain ⟨w1, q5, rb5, b5, l1, hq5⟩ := box_any 51 (Ox.mk 3 a id bv).cs w
  refine WL.box rfl rfl rfl rb5 ?_
  have D1 := D.on l1
  have hb1 := hb.below D1.be
  first | refine WL.assign rfl rfl rfl ?_
  refine WL.done ?_
  refine EW.on ?_
  refine EW.seq ?_
  refine EW.region ?_
  refine WL.bslN [] rfl rfl rfl (bsl22n _) ?_
  have l15 := below_new w1 (.cells #[] 5)
  refine WL.field rfl rfl rfl (g51_3 _ _) ?_
  refine WL.load rfl rfl rfl (ldS (b5.on l15) rfl) ?_
  obtain ⟨ow, w2, r2, ow2, be2⟩ := copy_new hb1 hl 24
  refine WL.app rfl rfl rfl rfl r2 ?_
  have D2 := D1.on be2
  have b52 := b5.on be2
  have hb2 := hb.below D2.be
  have oo := ow2.ob
  have LL2 : L.length ≤ 64 := by rw [D.rel.len]; have := D.le; have := D.m64; omega
  first | refine WL.assign rfl rfl rfl ?_
  refine WL.done ?_
  refine EW.on ?_
  refine EW.seq ?_
  refine EW.seq ?_
  refine EW.region ?_
  refine WL.field rfl rfl rfl (g51_0 _ _) ?_
  refine WL.load rfl rfl rfl (ldI b52 rfl) ?_
  refine WL.done ?_
  refine EW.on ?_
  refine EW.block ?_
  refine EW.seq ?_
  refine EW.region ?_
  first | refine WL.bin rfl rfl rfl rfl (int_eq_t rfl _ _ _) ?_ | refine WL.bin rfl rfl rfl rfl (int_eq_t ‹_› _ _ _) ?_ | refine WL.bin rfl rfl rfl rfl (int_eq_f ‹_› _ _ _) ?_ | refine WL.bin rfl rfl rfl rfl (int_eq_d _ _ _ _ _) ?_
  first | refine WL.assign rfl rfl rfl ?_
  refine WL.done ?_
  refine EW.on ?_
  refine EW.cond_f rfl ?_
  refine EW.seq ?_
  refine EW.region ?_
  first | refine WL.bin rfl rfl rfl rfl (int_eq_t rfl _ _ _) ?_ | refine WL.bin rfl rfl rfl rfl (int_eq_t ‹_› _ _ _) ?_ | refine WL.bin rfl rfl rfl rfl (int_eq_f ‹_› _ _ _) ?_ | refine WL.bin rfl rfl rfl rfl (int_eq_d _ _ _ _ _) ?_
  first | refine WL.assign rfl rfl rfl ?_
  refine WL.done ?_
  refine EW.on ?_
  refine EW.cond_f rfl ?_
  refine EW.seq ?_
  refine EW.region ?_
  first | refine WL.bin rfl rfl rfl rfl (int_eq_t rfl _ _ _) ?_ | refine WL.bin rfl rfl rfl rfl (int_eq_t ‹_› _ _ _) ?_ | refine WL.bin rfl rfl rfl rfl (int_eq_f ‹_› _ _ _) ?_ | refine WL.bin rfl rfl rfl rfl (int_eq_d _ _ _ _ _) ?_
  first | refine WL.assign rfl rfl rfl ?_
  refine WL.done ?_
  refine EW.on ?_
  refine EW.cond_t rfl ?_
  refine EW.seq ?_
  refine EW.region ?_
  first | refine WL.move rfl rfl rfl ?_
  first | refine WL.field rfl rfl rfl (g51_1 _ _) ?_ | refine WL.skip _ rfl rfl rfl ?_
  first | refine WL.load rfl rfl rfl (ldTb b52 rfl) ?_ | refine WL.skip _ rfl rfl rfl ?_
  first | refine WL.field rfl rfl rfl (g51_2 _ _) ?_ | refine WL.skip _ rfl rfl rfl ?_
  first | refine WL.load rfl rfl rfl (ldU2 b52 rfl) ?_ | refine WL.skip _ rfl rfl rfl ?_
  refine WL.call [.pointer (some ⟨p, 0, none⟩), sv a, u32v id] enter11 rfl rfl rfl (missing_any p r most E c a id w2 D2.tr) ?_
  rintro _ w3 ⟨v3, rfl, m1, m2, l3⟩
  refine ⟨_, rfl, ?_⟩
  have b53 := b52.on l3
  obtain ⟨M, hM⟩ : ∃ M, M = (if (fdR E a id).2 = 0 then nI ((fdR E a id).1.mis (fdR E a id).1.n) else []) := ⟨_, rfl⟩
  have hi3 : Hi w3 v3 M := by
    rw [hM]
    by_cases e0 : (fdR E a id).2 = 0
    · rw [if_pos e0]; exact (m1 e0).hi
    · rw [if_neg e0, m2 e0]; exact Li.nil _ _
  have D3 := D2.on l3
  have hMl : M.length ≤ 64 := by
    rw [hM]
    split
    · rw [nI_len]; have := Pc.mis_len (fdR E a id).1 (fdR E a id).1.n; have := (fd_sh D2.tr a id).n2; omega
    · simp
  first | refine WL.move rfl rfl rfl ?_
  first | refine WL.extract rfl rfl rfl (ext_2 _ _ _).1 ?_
  first | refine WL.extract rfl rfl rfl (ext_2 _ _ _).2 ?_
  first | refine WL.assign rfl rfl rfl ?_
  first | refine WL.assign rfl rfl rfl ?_
  refine WL.done ?_
  refine EW.on ?_
  refine EW.seq ?_
  refine EW.region ?_
  first | refine WL.move rfl rfl rfl ?_
  first | refine WL.field rfl rfl rfl (g51_1 _ _) ?_ | refine WL.skip _ rfl rfl rfl ?_
  first | refine WL.load rfl rfl rfl (ldTb b53 rfl) ?_ | refine WL.skip _ rfl rfl rfl ?_
  first | refine WL.field rfl rfl rfl (g51_2 _ _) ?_ | refine WL.skip _ rfl rfl rfl ?_
  first | refine WL.load rfl rfl rfl (ldU2 b53 rfl) ?_ | refine WL.skip _ rfl rfl rfl ?_
  refine WL.call [.pointer (some ⟨q, 0, none⟩), sv a, u32v id] enter33 rfl rfl rfl (doc_miss D3.rel q v most (by omega) a id w3 D3.rt) ?_
  rintro _ w4 ⟨u4, rfl, h4, l4⟩
  refine ⟨_, rfl, ?_⟩
  rw [← hM] at h4
  have hi4 := hi3.on l4
  have D4 := D3.on l4
  first | refine WL.move rfl rfl rfl ?_
  first | refine WL.extract rfl rfl rfl (ext_2 _ _ _).1 ?_
  first | refine WL.extract rfl rfl rfl (ext_2 _ _ _).2 ?_
  first | refine WL.assign rfl rfl rfl ?_
  first | refine WL.assign rfl rfl rfl ?_
  refine WL.done ?_
  refine EW.on ?_
  refine EW.seq ?_
  refine EW.seq ?_
  refine EW.region ?_
  first | refine WL.move rfl rfl rfl ?_
  refine WL.len rfl rfl rfl (hi4.len _ _) ?_
  first | refine WL.move rfl rfl rfl ?_
  refine WL.len rfl rfl rfl (h4.len _ _) ?_
  first | refine WL.bin rfl rfl rfl rfl (int_ne_f rfl _ _ _) ?_ | refine WL.bin rfl rfl rfl rfl (int_ne_t ‹_› _ _ _) ?_ | refine WL.bin rfl rfl rfl rfl (int_ne_f ‹_› _ _ _) ?_ | refine WL.bin rfl rfl rfl rfl (int_ne_t (by decide) _ _ _) ?_ | refine WL.bin rfl rfl rfl rfl (int_ne_d _ _ _ _ _) ?_
  first | refine WL.move rfl rfl rfl ?_
  first | refine WL.move rfl rfl rfl ?_ | refine WL.skip _ rfl rfl rfl ?_
  first | refine WL.move rfl rfl rfl ?_ | refine WL.skip _ rfl rfl rfl ?_
  first | refine WL.bin rfl rfl rfl rfl (int_ne_f rfl _ _ _) ?_ | refine WL.bin rfl rfl rfl rfl (int_ne_t ‹_› _ _ _) ?_ | refine WL.bin rfl rfl rfl rfl (int_ne_f ‹_› _ _ _) ?_ | refine WL.bin rfl rfl rfl rfl (int_ne_t (by decide) _ _ _) ?_ | refine WL.bin rfl rfl rfl rfl (int_ne_d _ _ _ _ _) ?_ | refine WL.skip _ rfl rfl rfl ?_
  first | refine WL.pick rfl rfl rfl rfl ?_
  refine WL.done ?_
  refine EW.on ?_
  refine EW.cond_f rfl ?_
  refine EW.skip ?_
  refine EW.on ?_
  refine EW.seq ?_
  refine EW.region ?_
  first | refine WL.assign rfl rfl rfl ?_
  refine WL.done ?_
  refine EW.on ?_
  refine EW.block ?_
  refine EW.loop (msE v3 u4) (MsR w4 M.length) (fun i => M.length - i) 0 [19, 21, 23] rfl ⟨Nat.zero_le _, Below.refl _ _⟩ ?_
  rintro i W hR
  show EW _ _ _ _ [(19, v3), (21, u4), (23, .int .i64 (i : Int))] _
  have hle := hR.le
  have s1 : IntKind.i64.wrap ((i : Int) + 1) = ((i + 1 : Nat) : Int) := by rw [IntKind.wrap_i64]; omega
  refine EW.seq ?_
  refine EW.seq ?_
  refine EW.region ?_
  first | refine WL.move rfl rfl rfl ?_
  first | refine WL.move rfl rfl rfl ?_
  refine WL.len rfl rfl rfl (hi4.len _ _) ?_
  refine WL.bin rfl rfl rfl rfl (int_lt_d _ _ _ _ _) ?_
  refine WL.done ?_
  refine EW.on ?_
  refine EW.cond_d rfl (fun h151 => ?_) (fun h151 => ?_)
  · have ht : i < M.length := by omega
    obtain ⟨z, hz⟩ : ∃ z, M[i]? = some z := ⟨_, List.getElem?_eq_getElem ht⟩
    obtain ⟨ada, xa1, xa2⟩ := (hi4.on hR.be).getB hz
    obtain ⟨adb, xb1, xb2⟩ := (h4.on hR.be).getB hz
    refine EW.skip ?_
    refine EW.on ?_
    refine EW.seq ?_
    refine EW.block ?_
    refine EW.seq ?_
    refine EW.ordB [(0, 0, 0), (1, 0, 0), (2, 0, 0), (3, 0, 1), (4, 0, 0), (5, 0, 0), (6, 0, 0), (7, 0, 1), (8, 0, 0)] (by kernel_rfl) rfl (by kernel_rfl) ?_
    simp only [opsZ, List.getD_cons_zero, List.getD_cons_succ]
    first | refine ZE.move rfl rfl rfl rfl sz0 ?_
    first | refine ZE.move rfl rfl rfl rfl sz0 ?_
    refine ZE.index rfl rfl rfl rfl rfl sz0 (fun W => xa1 W) ?_
    refine ZE.load rfl rfl rfl rfl sz1 (fun W hW => xa2 W (hW.resolve_left (by decide))) ?_
    first | refine ZE.move rfl rfl rfl rfl sz0 ?_
    first | refine ZE.move rfl rfl rfl rfl sz0 ?_
    refine ZE.index rfl rfl rfl rfl rfl sz0 (fun W => xb1 W) ?_
    refine ZE.load rfl rfl rfl rfl sz1 (fun W hW => xb2 W (hW.resolve_left (by decide))) ?_
    refine ZE.bin rfl rfl rfl rfl rfl sz0 (fun W => int_ne_f rfl W _ _) ?_
    rintro W24 l24
    refine EW.on ?_
    refine EW.cond_f rfl ?_
    refine EW.skip ?_
    refine pn_block ?_
    refine EW.on ?_
    refine EW.region ?_
    first | refine WL.move rfl rfl rfl ?_
    first | refine WL.bin rfl rfl rfl rfl (int_add ‹_› _ _ _) ?_
    first | refine WL.assign rfl rfl rfl ?_
    refine WL.done ?_
    exact EW.again (i + 1) [19, 21, 23] rfl ⟨by omega, bt hR.be l24⟩ (by omega)
  · skip
    refine EW.exit ?_
    refine px_then ?_
    refine px_then ?_
    refine px_block ?_
    refine pn_block ?_
    refine EW.on ?_
    refine EW.seq ?_
    refine EW.region ?_
    first | refine WL.assign rfl rfl rfl ?_
    refine WL.done ?_
    refine EW.on ?_
    refine EW.ret ?_
    exact EW.returns Tryd.results17 rfl ⟨rfl, E, c, v, L, D4.on hR.be⟩
set_option maxRecDepth 100000 in
set_option maxHeartbeats 16000000 in
theorem step4 {w0 w : World} {p r : Nat} {E : List Me} {c : Nat} {q : Nat} {v : Value} {L : List Rp} {most : Nat} (D : Dk w0 w p r E c q v L most) (a : List UInt8) (id : Nat) (hid : id < 4294967296) (bv : Value) (bs : List UInt8) (hb : Has w0 bv bs) (hl : bs.length ≤ 140737488355328) : Calls Tryd.prog 17 #[.pointer (some ⟨p, 0, none⟩), .pointer (some ⟨q, 0, none⟩), (Ox.mk 4 a id bv).v] w fun e w' => e = .returned (.bool true) ∧ ∃ E' c' v' L', Dk w0 w' p r E' c' q v' L' most := by
  refine calls_of_args [.pointer (some ⟨p, 0, none⟩), .pointer (some ⟨q, 0, none⟩), (Ox.mk 4 a id bv).v] Tryd.func17 rfl 214 Tryd.ntmps17 (by show 3 ≤ 214; decide) ?_
  refine EW.seq ?_
  refine EW.region ?_
  obtain ⟨w1, q5, rb5, b5, l1, hq5⟩ := box_any 51 (Ox.mk 4 a id bv).cs w
  refine WL.box rfl rfl rfl rb5 ?_
  have D1 := D.on l1
  have hb1 := hb.below D1.be
  first | refine WL.assign rfl rfl rfl ?_
  refine WL.done ?_
  refine EW.on ?_
  refine EW.seq ?_
  refine EW.region ?_
  refine WL.bslN [] rfl rfl rfl (bsl22n _) ?_
  have l15 := below_new w1 (.cells #[] 5)
  refine WL.field rfl rfl rfl (g51_3 _ _) ?_
  refine WL.load rfl rfl rfl (ldS (b5.on l15) rfl) ?_
  obtain ⟨ow, w2, r2, ow2, be2⟩ := copy_new hb1 hl 24
  refine WL.app rfl rfl rfl rfl r2 ?_
  have D2 := D1.on be2
  have b52 := b5.on be2
  have hb2 := hb.below D2.be
  have oo := ow2.ob
  have LL2 : L.length ≤ 64 := by rw [D.rel.len]; have := D.le; have := D.m64; omega
  first | refine WL.assign rfl rfl rfl ?_
  refine WL.done ?_
  refine EW.on ?_
  refine EW.seq ?_
  refine EW.seq ?_
  refine EW.region ?_
  refine WL.field rfl rfl rfl (g51_0 _ _) ?_
  refine WL.load rfl rfl rfl (ldI b52 rfl) ?_
  refine WL.done ?_
  refine EW.on ?_
  refine EW.block ?_
  refine EW.seq ?_
  refine EW.region ?_
  first | refine WL.bin rfl rfl rfl rfl (int_eq_t rfl _ _ _) ?_ | refine WL.bin rfl rfl rfl rfl (int_eq_t ‹_› _ _ _) ?_ | refine WL.bin rfl rfl rfl rfl (int_eq_f ‹_› _ _ _) ?_ | refine WL.bin rfl rfl rfl rfl (int_eq_d _ _ _ _ _) ?_
  first | refine WL.assign rfl rfl rfl ?_
  refine WL.done ?_
  refine EW.on ?_
  refine EW.cond_f rfl ?_
  refine EW.seq ?_
  refine EW.region ?_
  first | refine WL.bin rfl rfl rfl rfl (int_eq_t rfl _ _ _) ?_ | refine WL.bin rfl rfl rfl rfl (int_eq_t ‹_› _ _ _) ?_ | refine WL.bin rfl rfl rfl rfl (int_eq_f ‹_› _ _ _) ?_ | refine WL.bin rfl rfl rfl rfl (int_eq_d _ _ _ _ _) ?_
  first | refine WL.assign rfl rfl rfl ?_
  refine WL.done ?_
  refine EW.on ?_
  refine EW.cond_f rfl ?_
  refine EW.seq ?_
  refine EW.region ?_
  first | refine WL.bin rfl rfl rfl rfl (int_eq_t rfl _ _ _) ?_ | refine WL.bin rfl rfl rfl rfl (int_eq_t ‹_› _ _ _) ?_ | refine WL.bin rfl rfl rfl rfl (int_eq_f ‹_› _ _ _) ?_ | refine WL.bin rfl rfl rfl rfl (int_eq_d _ _ _ _ _) ?_
  first | refine WL.assign rfl rfl rfl ?_
  refine WL.done ?_
  refine EW.on ?_
  refine EW.cond_f rfl ?_
  refine EW.seq ?_
  refine EW.region ?_
  first | refine WL.bin rfl rfl rfl rfl (int_eq_t rfl _ _ _) ?_ | refine WL.bin rfl rfl rfl rfl (int_eq_t ‹_› _ _ _) ?_ | refine WL.bin rfl rfl rfl rfl (int_eq_f ‹_› _ _ _) ?_ | refine WL.bin rfl rfl rfl rfl (int_eq_d _ _ _ _ _) ?_
  first | refine WL.assign rfl rfl rfl ?_
  refine WL.done ?_
  refine EW.on ?_
  refine EW.cond_t rfl ?_
  refine EW.seq ?_
  refine EW.ordZ [(0, 0, 0), (1, 0, 0), (2, 0, 1), (4, 0, 0), (5, 0, 0), (6, 0, 1), (3, 1, 1), (7, 1, 1), (8, 0, 0), (9, 0, 0)] (SQ (fun W => Blk W q5 (Ox.mk 4 a id bv).cs 51)) (fun W => Below w2.heap.size w2 W) (by kernel_rfl) rfl (by kernel_rfl) (sq_anti _) (below_drawn w2) ?_
  simp only [opsZ, List.getD_cons_zero, List.getD_cons_succ]
  refine ZE.move rfl rfl rfl rfl sq0 ?_
  refine ZE.field rfl rfl rfl rfl sq0 (fun W => g51_1 _ W) ?_
  refine ZE.load rfl rfl rfl rfl (fun W hW => .inr (b52.on hW)) (fun W hW => ldTb (sq_of hW) rfl) ?_
  refine ZE.move rfl rfl rfl rfl sq0 ?_
  refine ZE.field rfl rfl rfl rfl sq0 (fun W => g51_1 _ W) ?_
  refine ZE.load rfl rfl rfl rfl (fun W hW => .inr (b52.on hW)) (fun W hW => ldTb (sq_of hW) rfl) ?_
  refine ZE.callV [.pointer (some ⟨p, 0, none⟩), sv a] (.int .i64 ((E.length - (dropE E a).length : Nat) : Int)) (fun W => Blk W q5 (Ox.mk 4 a id bv).cs 51 ∧ ∃ W0 c1, Dk w0 W0 p r E c q v L most ∧ Tr W p r most (dropE E a) c1 ∧ Fx (fun k => k = r) W0 W) enter14 rfl rfl rfl (fun _ h => .inr h.1) (fun W hW => (drop_any p r most E c a W (D2.on hW).tr (by have := D.le; have := D.m64; omega)).mono fun e w' ⟨c1, h1, h2, h3⟩ => ⟨h1, (b52.on hW).fx h3 ((b52.on hW).neM (D2.on hW).tr.mp.hp), W, c1, D2.on hW, h2, h3⟩) ?_
  refine ZE.callV [.pointer (some ⟨q, 0, none⟩), sv a] (.int .i64 ((E.length - (dropE E a).length : Nat) : Int)) (fun W => Blk W q5 (Ox.mk 4 a id bv).cs 51 ∧ ∃ c1 v' L', Dk w0 W p r (dropE E a) c1 q v' L' most) enter34 rfl rfl rfl (fun _ h => .inr h.1) (fun W hW => ?_) ?_
  · obtain ⟨b5W, W0, c1, d0, t1, f1⟩ := hW
    have rel' : Rel (dropE E a) (dpL L a 0) := by rw [dp_0]; exact d0.rel.drop a
    refine (rdrop_any q v most L (by omega) a W (d0.rt.fxM d0.tr.mp.hp f1)).mono fun e w' ⟨v', h1, h2, h3, h4⟩ => ⟨by rw [← rel'.len, ← d0.rel.len]; exact h1, b5W.fx h3 (fun e => b5W.neT (d0.rt.fxM d0.tr.mp.hp f1).bl (by decide) e), c1, v', _, d0.two t1 f1 (fun k _ hk => hk.sub (fun m hm => (List.filter_sublist).subset hm)) h2 h3.orQ h4 rel' (Nat.le_trans (List.length_filter_le _ _) d0.le)⟩
  refine ZE.bin rfl rfl rfl rfl rfl sq0 (fun W => int_eq_t rfl W _ _) ?_
  refine ZE.assign rfl rfl rfl rfl sq0 ?_
  rintro w27 ⟨_, c27, v27, L27, D27⟩
  refine EW.on ?_
  refine EW.ret ?_
  refine pr_block ?_
  refine pr_then ?_
  exact EW.returns Tryd.results17 rfl ⟨rfl, _, _, _, _, D27⟩
end Go.Proofs.YtiefgmgjlhjjhaaDoor
