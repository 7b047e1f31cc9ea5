import Derived.Test.YtgfgabgnejnipaaReader
namespace Go.Proofs.Ytgfgabgnejnipaa
open Go.RowKit

set_option maxRecDepth 100000 in
set_option maxHeartbeats 1000000 in
theorem rrun_ok (p : Nat) (v : Value) (all : List UInt8) (a : Nat) (most : Int) (w : World) (h : Rd w p v all a 0) (m : Nat) (hm : beval ((all.drop a).take 2) = m) (hs : a + 2 + m ≤ all.length) (hb : (m : Int) ≤ most) (hl : all.length ≤ 150000000000000) :
    Calls Try.prog 26 #[.pointer (some ⟨p, 0, none⟩), .int .i64 most] w fun e w' => ∃ ao cap, e = .returned (.slice ao ((all.drop (a + 2)).take m).length cap) ∧ Own w' w.heap.size (.slice ao ((all.drop (a + 2)).take m).length cap) ((all.drop (a + 2)).take m) ∧ Rd w' p v all (a + 2 + m) 0 ∧ Frm p w w' := by
  obtain ⟨h0, h1, h2, h3⟩ := h.cells
  have h3' := h3 1
  have HR := hide h
  have hcut := h.2.1.cutLH a (a + 2) (by omega) (by omega)
  obtain ⟨ao, cp, hcs⟩ := cut_shape h.2.1 a (a + 2)
  rw [hcs] at hcut
  rw [Nat.add_sub_cancel_left] at hcut hcs
  have HC : Hid (∀ W, Has W v all → Has W (.slice ao 2 cp) ((all.drop a).take 2)) := fun W hW => by
    have := hW.cut a (a + 2) (by omega) (by omega)
    rw [hcs, Nat.add_sub_cancel_left] at this
    exact this
  simp only [Int.natCast_add] at hcut
  have hcut' : ∀ W, (Instr.slice 22 v (some (.int .i64 (a : Int))) (some (.int .i64 ((a : Int) + 2))) none).run Try.prog W = .ok (.slice ao 2 cp) W := hcut
  have hs0 : (2 : Int) ≤ (all.length : Int) - a := by omega
  have hm2 : m < 65536 := by rw [← hm]; exact beval_lt 2 _ (by simp; omega)
  have HM2 := hide hm
  have hmm : (m : Int) ≤ 70000 := by omega
  have HMM := hide hmm
  clear hm2 hmm
  have hb2 : (m : Int) ≤ (all.length : Int) - a - 2 := by omega
  have dcut := h.2.1.cutLH (a + 2) (a + 2 + m) (by omega) hs
  obtain ⟨bo, bp, dcs⟩ := cut_shape h.2.1 (a + 2) (a + 2 + m)
  rw [dcs] at dcut
  rw [Nat.add_sub_cancel_left] at dcut dcs
  obtain ⟨ts, ht⟩ : ∃ ts, (all.drop (a + 2)).take m = ts := ⟨_, rfl⟩
  have htl : ts.length = m := by rw [← ht]; simp; omega
  have HTL := hide htl
  have HD : Hid (∀ W, Has W v all → Has W (.slice bo m bp) ts) := fun W hW => by
    have := hW.cut (a + 2) (a + 2 + m) (by omega) hs
    rw [dcs, Nat.add_sub_cancel_left, ht] at this
    exact this
  simp only [Int.natCast_add] at dcut
  have DC := hide dcut
  have HMv : Hid (∀ W, Lik w W → Rd (W.setCell ⟨p, 1, none⟩ (.int .i64 ((a : Int) + (2 + m)))) p v all (a + 2 + m) 0) := fun W hW => by
    have := (h.below (hW.below _)).move (a + 2 + m) hs
    rw [show ((a + 2 + m : Nat) : Int) = (a : Int) + (2 + m) by omega] at this
    exact this
  have HFv : Hid (∀ W, Lik w W → Frm p w (W.setCell ⟨p, 1, none⟩ (.int .i64 ((a : Int) + (2 + m))))) := fun W hW => (Frm.of_below (hW.below _)).trans (Frm.setCell _ _ _ _)
  rw [ht]
  clear hm hcs hcut h h3 dcs dcut htl ht
  go_enter Try.func26, Try.ntmps26
  go_wp2
  go_step3
  go_wp2_with fail
  refine (left_any p v all a 0 _ HR.out hl).mono ?_
  rintro e w1 ⟨rfl, q, rfl⟩
  go_wp2_with fail
  have hmm := HMM.out
  have hcut2 : ∀ W, (Instr.slice 22 v (some (.int .i64 (a : Int))) (some (.int .i64 (IntKind.i64.wrap ((a : Int) + 2)))) none).run Try.prog W = .ok (.slice ao 2 cp) W := by
    rw [show IntKind.i64.wrap ((a : Int) + 2) = (a : Int) + 2 by rw [IntKind.wrap_i64]; omega]
    exact hcut'
  go_region_held3 (fun w' => w'.cell? ⟨p, 0, none⟩ = some v ∧ w'.cell? ⟨p, 1, none⟩ = some (.int .i64 (a : Int))) (first | go_keep | (simp; exact ⟨h0, h1⟩)) ((go_at_call 44; refine (number_any _ ((all.drop a).take 2) _ ?_ ?_).mono ?_; exact HC.out _ (Lik.has ⟨rfl, rfl, rfl, rfl⟩ HR.out.2.1); (simp; omega); (rw [HM2.out]); rintro e w2 ⟨rfl, rfl⟩))
  go_wp2_with fail
  refine (left_any p v all a 0 _ (by exact HR.out.below (bel_drewN (Below.refl _ _) _)) hl).mono ?_
  rintro e w3 ⟨rfl, q3, rfl⟩
  go_wp2_with fail
  have hrd := HMv.out (w.drewN (q + 1 + q3)) ⟨rfl, rfl, rfl, rfl⟩
  have hfr := HFv.out (w.drewN (q + 1 + q3)) ⟨rfl, rfl, rfl, rfl⟩
  generalize (w.drewN (q + 1 + q3)).setCell ⟨p, 1, none⟩ (.int .i64 ((a : Int) + (2 + m))) = W at *
  obtain ⟨g0, g1, _, _⟩ := hrd.cells
  rw [show ((a + 2 + m : Nat) : Int) = (a : Int) + (2 + m) by omega] at g1
  have HRD := hide hrd
  have HFq := hide hfr
  have HSZ := hide hfr.size
  have dcut2 : ∀ W, (Instr.slice 22 v (some (.int .i64 (IntKind.i64.wrap ((a : Int) + (2 + m) - IntKind.i64.wrap (m : Int))))) (some (.int .i64 ((a : Int) + (2 + m)))) none).run Try.prog W = .ok (.slice bo m bp) W := by
    intro W'
    have h1 := DC.out W'
    have e1 : IntKind.i64.wrap (m : Int) = (m : Int) := by rw [IntKind.wrap_i64]; omega
    have e2 : IntKind.i64.wrap ((a : Int) + (2 + m) - m) = (a : Int) + ((2 : Nat) : Int) := by rw [IntKind.wrap_i64]; omega
    rw [e1, e2, show (a : Int) + (2 + m) = (a : Int) + ((2 : Nat) : Int) + m by omega]
    exact h1
  clear hrd hfr HMv HFv h0 h1 h2 h3' HR hcut' hcut2 HC
  go_region_held3 (fun w' => w'.cell? ⟨p, 0, none⟩ = some v ∧ w'.cell? ⟨p, 1, none⟩ = some (.int .i64 ((a : Int) + (2 + m)))) (first | go_keep | exact ⟨at_below hb2 g0, at_below hb2 g1⟩) ((go_at_call 43; refine (clone_any _ ts _ ?_ ?_).mono ?_; exact HD.out _ (Lik.has ⟨rfl, rfl, rfl, rfl⟩ HRD.out.2.1); (have := HTL.out; omega); rintro e w2 ⟨co, cc, rfl, ho2, hb2'⟩; have hb2 : Below W.heap.size W w2 := ((Below.refl W.heap.size W).drew).trans hb2'))
  have HO := hide (ho2.weaken HSZ.out)
  have HR2 := hide (HRD.out.below hb2)
  have HF2 := hide (HFq.out.trans (Frm.of_below hb2))
  clear ho2 hb2' hb2 g0 g1 HRD HFq HSZ dcut2 HD DC
  go_wp2
  rw [Exit.noGoto_ret]
  go_ret
  exact ⟨co, cc, rfl, HO.out, HR2.out, HF2.out⟩

/-- What Run(most) reads. -/
def rrun (all : List UInt8) (a : Nat) (f most : Int) : List UInt8 × Nat × Int :=
  if f ≠ 0 then ([], a, f) else if (all.length : Int) - a < 2 then ([], a, 10)
  else if most < (beval ((all.drop a).take 2) : Int) then ([], a, 12)
  else if (all.length : Int) - a - 2 < (beval ((all.drop a).take 2) : Int) then ([], a, 10)
  else ((all.drop (a + 2)).take (beval ((all.drop a).take 2)), a + 2 + beval ((all.drop a).take 2), 0)

theorem rrun_any (p : Nat) (v : Value) (all : List UInt8) (a : Nat) (f most : Int) (w : World) (h : Rd w p v all a f) (hl : all.length ≤ 150000000000000) :
    Calls Try.prog 26 #[.pointer (some ⟨p, 0, none⟩), .int .i64 most] w fun e w' => ∃ ao cap, e = .returned (.slice ao (rrun all a f most).1.length cap) ∧ Own w' w.heap.size (.slice ao (rrun all a f most).1.length cap) (rrun all a f most).1 ∧ Rd w' p v all (rrun all a f most).2.1 (rrun all a f most).2.2 ∧ Frm p w w' := by
  unfold rrun
  by_cases hf : f = 0
  · subst hf
    rw [if_neg (by simp)]
    by_cases hn : (all.length : Int) - a < 2
    · rw [if_pos hn]
      exact (rrun_none p v all a most w h hn hl).mono fun e w' ⟨h1, h2, h3⟩ => ⟨none, 0, h1, Own.nil _ _, h2, h3⟩
    · rw [if_neg hn]
      by_cases hb : most < (beval ((all.drop a).take 2) : Int)
      · rw [if_pos hb]
        exact (rrun_big p v all a most w h (by omega) hb hl).mono fun e w' ⟨h1, h2, h3⟩ => ⟨none, 0, h1, Own.nil _ _, h2, h3⟩
      · rw [if_neg hb]
        by_cases hs : (all.length : Int) - a - 2 < (beval ((all.drop a).take 2) : Int)
        · rw [if_pos hs]
          exact (rrun_short p v all a most w h (by omega) (by omega) hs hl).mono fun e w' ⟨h1, h2, h3⟩ => ⟨none, 0, h1, Own.nil _ _, h2, h3⟩
        · rw [if_neg hs]
          exact rrun_ok p v all a most w h _ rfl (by omega) (by omega) hl
  · rw [if_pos hf]
    exact (rrun_fault p v all a f most w h (beq_eq_false_iff_ne.2 hf)).mono fun e w' ⟨h1, h2⟩ => ⟨none, 0, h1, Own.nil _ _, by subst h2; exact h, by subst h2; exact Frm.refl _ _⟩

theorem rfix_len (all : List UInt8) (a : Nat) (f : Int) (n : Nat) : (rfix all a f n).1.length ≤ n := by
  unfold rfix
  split
  · simp
  · split
    · simp
    · split
      · simp
      · simp; omega

set_option maxRecDepth 100000 in
set_option maxHeartbeats 400000 in
theorem ru8_any (p : Nat) (v : Value) (all : List UInt8) (a : Nat) (f : Int) (w : World) (h : Rd w p v all a f) (hl : all.length ≤ 150000000000000) :
    Calls Try.prog 28 #[.pointer (some ⟨p, 0, none⟩)] w fun e w' => e = .returned (.int .i64 (beval (rfix all a f 1).1 : Int)) ∧ Rd w' p v all (rfix all a f 1).2.1 (rfix all a f 1).2.2 ∧ Frm p w w' := by
  have hlen := rfix_len all a f 1
  have hlt : beval (rfix all a f 1).1 < 4294967296 := by
    have h1 := beval_lt _ (rfix all a f 1).1 rfl
    have : 256 ^ (rfix all a f 1).1.length ≤ 256 ^ 4 := Nat.pow_le_pow_right (by decide) (by have : (rfix all a f 1).1.length ≤ 1 := hlen; omega)
    omega
  have HLT := hide hlt
  have HL := hide hlen
  have HC := hide (rfixed_any p v all a f 1 w h hl)
  clear hlt hlen h
  generalize hr : rfix all a f 1 = r at *
  clear hr
  obtain ⟨rb, ra, rf⟩ := r
  dsimp only at *
  go_enter Try.func28, Try.ntmps28
  go_wp2_with fail
  refine HC.out.mono ?_
  rintro e w1 ⟨ao, cap, rfl, h1, h2, h3⟩
  have H1 := hide h1.has
  have H2 := hide h2
  have H3 := hide h3
  clear h1 h2 h3 HC
  go_wp2_with fail
  refine (number_any _ rb _ H1.out (by have : rb.length ≤ 1 := HL.out; omega)).mono ?_
  rintro e w2 ⟨rfl, rfl⟩
  have hlt : (beval rb : Int) ≤ 4294967295 := by have := HLT.out; omega
  generalize hmb : beval rb = m at *
  have HMB := hide hmb
  clear hmb
  go_wp2
  go_ret
  exact ⟨by rw [HMB.out]; rfl, H2.out, H3.out⟩

set_option maxRecDepth 100000 in
set_option maxHeartbeats 400000 in
theorem ru16_any (p : Nat) (v : Value) (all : List UInt8) (a : Nat) (f : Int) (w : World) (h : Rd w p v all a f) (hl : all.length ≤ 150000000000000) :
    Calls Try.prog 29 #[.pointer (some ⟨p, 0, none⟩)] w fun e w' => e = .returned (.int .i64 (beval (rfix all a f 2).1 : Int)) ∧ Rd w' p v all (rfix all a f 2).2.1 (rfix all a f 2).2.2 ∧ Frm p w w' := by
  have hlen := rfix_len all a f 2
  have hlt : beval (rfix all a f 2).1 < 4294967296 := by
    have h1 := beval_lt _ (rfix all a f 2).1 rfl
    have : 256 ^ (rfix all a f 2).1.length ≤ 256 ^ 4 := Nat.pow_le_pow_right (by decide) (by have : (rfix all a f 2).1.length ≤ 2 := hlen; omega)
    omega
  have HLT := hide hlt
  have HL := hide hlen
  have HC := hide (rfixed_any p v all a f 2 w h hl)
  clear hlt hlen h
  generalize hr : rfix all a f 2 = r at *
  clear hr
  obtain ⟨rb, ra, rf⟩ := r
  dsimp only at *
  go_enter Try.func29, Try.ntmps29
  go_wp2_with fail
  refine HC.out.mono ?_
  rintro e w1 ⟨ao, cap, rfl, h1, h2, h3⟩
  have H1 := hide h1.has
  have H2 := hide h2
  have H3 := hide h3
  clear h1 h2 h3 HC
  go_wp2_with fail
  refine (number_any _ rb _ H1.out (by have : rb.length ≤ 2 := HL.out; omega)).mono ?_
  rintro e w2 ⟨rfl, rfl⟩
  have hlt : (beval rb : Int) ≤ 4294967295 := by have := HLT.out; omega
  generalize hmb : beval rb = m at *
  have HMB := hide hmb
  clear hmb
  go_wp2
  go_ret
  exact ⟨by rw [HMB.out]; rfl, H2.out, H3.out⟩

set_option maxRecDepth 100000 in
set_option maxHeartbeats 400000 in
theorem ru32_any (p : Nat) (v : Value) (all : List UInt8) (a : Nat) (f : Int) (w : World) (h : Rd w p v all a f) (hl : all.length ≤ 150000000000000) :
    Calls Try.prog 30 #[.pointer (some ⟨p, 0, none⟩)] w fun e w' => e = .returned (.int .u32 (beval (rfix all a f 4).1 : Int)) ∧ Rd w' p v all (rfix all a f 4).2.1 (rfix all a f 4).2.2 ∧ Frm p w w' := by
  have hlen := rfix_len all a f 4
  have hlt : beval (rfix all a f 4).1 < 4294967296 := by
    have h1 := beval_lt _ (rfix all a f 4).1 rfl
    have : 256 ^ (rfix all a f 4).1.length ≤ 256 ^ 4 := Nat.pow_le_pow_right (by decide) (by have : (rfix all a f 4).1.length ≤ 4 := hlen; omega)
    omega
  have HLT := hide hlt
  have HL := hide hlen
  have HC := hide (rfixed_any p v all a f 4 w h hl)
  clear hlt hlen h
  generalize hr : rfix all a f 4 = r at *
  clear hr
  obtain ⟨rb, ra, rf⟩ := r
  dsimp only at *
  go_enter Try.func30, Try.ntmps30
  go_wp2_with fail
  refine HC.out.mono ?_
  rintro e w1 ⟨ao, cap, rfl, h1, h2, h3⟩
  have H1 := hide h1.has
  have H2 := hide h2
  have H3 := hide h3
  clear h1 h2 h3 HC
  go_wp2_with fail
  refine (number_any _ rb _ H1.out (by have : rb.length ≤ 4 := HL.out; omega)).mono ?_
  rintro e w2 ⟨rfl, rfl⟩
  have hlt : (beval rb : Int) ≤ 4294967295 := by have := HLT.out; omega
  generalize hmb : beval rb = m at *
  have HMB := hide hmb
  clear hmb
  go_wp2
  go_ret
  exact ⟨by rw [HMB.out]; rfl, H2.out, H3.out⟩

theorem jump_normal (l : Nat) (J : Act → World → Prop) (Q : Exit → Act → World → Prop) (a : Act) (w : World) : Exit.jump l J Q .normal a w = Q .normal a w := rfl

set_option maxRecDepth 100000 in
set_option maxHeartbeats 400000 in
theorem end_tail (p : Nat) (v : Value) (all : List UInt8) (a : Nat) (w : World) (h : Rd w p v all a 0) (hl : all.length ≤ 150000000000000) (hs : a < all.length) :
    Calls Try.prog 27 #[.pointer (some ⟨p, 0, none⟩)] w fun e w' => e = .returned (.tuple #[]) ∧ Rd w' p v all a 11 ∧ Frm p w w' := by
  obtain ⟨_, _, h2, h3⟩ := h.cells
  have h3' := h3 2
  have hs' : (0 : Int) < (all.length : Int) - a := by omega
  have HR := hide h
  have HF : Hid (∀ W, Lik w W → Rd (W.setCell ⟨p, 2, none⟩ (.int .i64 11)) p v all a 11) := fun W hW => (h.below (hW.below _)).fault 11
  have HM : Hid (∀ W, Lik w W → Frm p w (W.setCell ⟨p, 2, none⟩ (.int .i64 11))) := fun W hW => (Frm.of_below (hW.below _)).trans (Frm.setCell _ _ _ _)
  clear h h3
  go_enter Try.func27, Try.ntmps27
  go_wp2
  refine wp_scope_jumps 0 (fun a' w' => Lik w w' ∧ ∃ (u2 u3 u4 u5 u6 u7 u8 u9 u10 u11 : Value), a' = { tmps := #[.pointer (some ⟨p, 0, none⟩), undef, u2, u3, u4, u5, u6, u7, u8, u9, u10, u11, undef, undef, undef], defers := [] }) (fun _ _ => 0) rfl ?_ ?_
  · go_wp2_with fail
    refine (left_any p v all a 0 _ HR.out hl).mono ?_
    rintro e w1 ⟨rfl, q, rfl⟩
    go_wp2
    go_step3
    exact ⟨rfl, ⟨rfl, rfl, rfl, rfl⟩, _, _, _, _, _, _, _, _, _, _, rfl⟩
  · rintro a' w' ⟨hlik, u2, u3, u4, u5, u6, u7, u8, u9, u10, u11, rfl⟩
    have HL := hide hlik
    have k2 : w'.cell? ⟨p, 2, none⟩ = some (.int .i64 0) := by rw [hlik.cell]; exact h2
    have k3 : w'.frozen? ⟨p, 2, none⟩ = false := by rw [hlik.frozen]; exact h3'
    clear h2 h3' hlik
    go_wp2
    rw [jump_normal]
    go_end0
    exact ⟨rfl, HF.out w' HL.out, HM.out w' HL.out⟩

set_option maxRecDepth 100000 in
set_option maxHeartbeats 400000 in
theorem end_any (p : Nat) (v : Value) (all : List UInt8) (a : Nat) (f : Int) (w : World) (h : Rd w p v all a f) (hl : all.length ≤ 150000000000000) :
    Calls Try.prog 27 #[.pointer (some ⟨p, 0, none⟩)] w fun e w' => e = .returned (.tuple #[]) ∧ Rd w' p v all a (if f = 0 ∧ a < all.length then 11 else f) ∧ Frm p w w' := by
  obtain ⟨_, _, h2, h3⟩ := h.cells
  have hle := h.2.2
  by_cases hf : f = 0
  · subst hf
    by_cases hs : a < all.length
    · rw [if_pos ⟨rfl, hs⟩]
      exact end_tail p v all a w h hl hs
    · rw [if_neg (fun e => hs e.2)]
      have hs' : ¬ (0 : Int) < (all.length : Int) - a := by omega
      have HR := hide h
      clear h h3
      go_enter Try.func27, Try.ntmps27
      go_wp2
      go_step3
      go_wp2_with fail
      refine (left_any p v all a 0 _ HR.out hl).mono ?_
      rintro e w1 ⟨rfl, q, rfl⟩
      go_wp2
      rw [Exit.noGoto_ret]
      exact bodyPost_ret (v := .tuple #[]) (by simp [results, Try.results27, go_sem]) rfl ⟨rfl, HR.out.below (bel_drewN (Below.refl _ _) _), Frm.of_below (bel_drewN (Below.refl _ _) _)⟩
  · rw [if_neg (fun e => hf e.1)]
    have hf' : (f == 0) = false := beq_eq_false_iff_ne.2 hf
    have HR := hide h
    clear h h3 hf
    go_enter Try.func27, Try.ntmps27
    go_wp2
    go_step3
    go_wp2
    rw [Exit.noGoto_ret]
    exact bodyPost_ret (v := .tuple #[]) (by simp [results, Try.results27, go_sem]) rfl ⟨rfl, HR.out, Frm.refl _ _⟩

set_option maxRecDepth 100000 in
set_option maxHeartbeats 400000 in
theorem fault_ok (p : Nat) (v : Value) (all : List UInt8) (a : Nat) (w : World) (h : Rd w p v all a 0) :
    Calls Try.prog 31 #[.pointer (some ⟨p, 0, none⟩)] w fun e w' => e = .returned (.tuple #[.int .i64 0, .int .i64 0]) ∧ w = w' := by
  obtain ⟨_, _, h2, h3⟩ := h.cells
  clear h
  go_enter Try.func31, Try.ntmps31
  go_wp2
  go_ret2
  exact ⟨rfl, rfl⟩

set_option maxRecDepth 100000 in
set_option maxHeartbeats 400000 in
theorem fault_is (p : Nat) (v : Value) (all : List UInt8) (a : Nat) (f : Int) (w : World) (h : Rd w p v all a f) (hf : (f == 0) = false) :
    Calls Try.prog 31 #[.pointer (some ⟨p, 0, none⟩)] w fun e w' => e = .returned (.tuple #[.int .i64 a, .int .i64 f]) ∧ ∃ q, w' = w.drewN q := by
  obtain ⟨_, h1, h2, h3⟩ := h.cells
  clear h
  go_enter Try.func31, Try.ntmps31
  go_wp2
  go_quiet (fail)
  go_wp2
  go_ret2
  exact ⟨rfl, _, rfl⟩

end Go.Proofs.Ytgfgabgnejnipaa
