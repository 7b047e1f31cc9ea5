import Derived.Test.YtiefgmgjlhjjhaaDoorDe
set_option linter.unusedVariables false
set_option linter.unusedSimpArgs false
namespace Go.Proofs.YtiefgmgjlhjjhaaDoor
open Go.RowKit

attribute [local irreducible] sm sumOf cnt chk partB ptB lgL
def vr (vs : List Value) : List (List Value) := vs.map fun v => [v]
theorem vr_len (vs : List Value) : (vr vs).length = vs.length := by simp [vr]
theorem vr_app (a b : List Value) : vr (a ++ b) = vr a ++ vr b := by simp [vr]
theorem head7 (id n i : Nat) (s d : List UInt8) : (([] : List UInt8) ++ [5, shB id 16777216, shB id 65536, shB id 256, shB id 1, UInt8.ofNat n, UInt8.ofNat i]) ++ s ++ d = partB id n i s d := by
  unfold partB; simp [be32]
def rsE (id : Nat) (v : Value) (T : List UInt8) (y : Nat × Value × List Value) : List (Nat × Value) := [(0, u32v id), (1, v), (6, .int .i64 (cnt T : Int)), (7, sv (sm T)), (8, y.2.1), (9, .int .i64 (y.1 : Int))]
structure RsR (w : World) (id : Nat) (T : List UInt8) (y : Nat × Value × List Value) (W : World) : Prop where
  le : y.1 ≤ cnt T
  ow : Lb 24 1 W w.heap.size y.2.1 (vr y.2.2)
  ln : y.2.2.length = y.1
  hs : ∀ (i : Nat) x, y.2.2[i]? = some x → Ob W w.heap.size x (ptB id T i)
  be : Below w.heap.size w W
set_option maxRecDepth 100000 in
set_option maxHeartbeats 16000000 in
theorem rsplit_ok (id : Nat) (v : Value) (T : List UInt8) (w : World) (hv : Has w v T) (hT : T.length ≤ 31808) (hRs : Rst w) (hBs : Bst w) : Calls Tryd.prog 35 #[u32v id, v] w fun e w' => ∃ u vs, e = .returned (.tuple #[u, .int .i64 0]) ∧ Lb 24 1 w' w.heap.size u (vr vs) ∧ vs.length = cnt T ∧ (∀ (i : Nat) x, vs[i]? = some x → Ob w' w.heap.size x (ptB id T i)) ∧ Below w.heap.size w w' := by
  obtain ⟨ao, cp, rfl⟩ := hv.slice
  have hTc := hv.cap
  have h31 : ¬ (31808 : Int) < (T.length : Int) := by omega
  have hc64 := cnt_le hT
  have sA : IntKind.i64.wrap ((T.length : Int) + 497) = (T.length : Int) + 497 := by rw [IntKind.wrap_i64]; omega
  have sB : IntKind.i64.wrap ((T.length : Int) + 497 - 1) = ((T.length + 496 : Nat) : Int) := by rw [IntKind.wrap_i64]; omega
  refine calls_of_args [u32v id, .slice ao T.length cp] Tryd.func35 rfl 65 Tryd.ntmps35 (by show 2 ≤ 65; decide) ?_
  refine EW.seq ?_
  refine EW.region ?_
  first | refine WL.assign rfl rfl rfl ?_
  first | refine WL.assign rfl rfl rfl ?_
  refine WL.done ?_
  refine EW.on ?_
  refine EW.seq ?_
  refine EW.seq ?_
  refine EW.region ?_
  first | refine WL.move rfl rfl rfl ?_
  refine WL.len rfl rfl rfl (len24 _ _ _ _ _) ?_
  first | refine WL.bin rfl rfl rfl rfl (int_gt_t ‹_› _ _ _) ?_ | refine WL.bin rfl rfl rfl rfl (int_gt_f ‹_› _ _ _) ?_ | refine WL.bin rfl rfl rfl rfl (int_gt_d _ _ _ _ _) ?_
  refine WL.done ?_
  refine EW.on ?_
  refine EW.cond_f rfl ?_
  refine EW.skip ?_
  refine EW.on ?_
  refine EW.seq ?_
  refine EW.region ?_
  first | refine WL.move rfl rfl rfl ?_
  refine WL.len rfl rfl rfl (len24 _ _ _ _ _) ?_
  refine WL.bin rfl rfl rfl rfl (int_add sA _ _ _) ?_
  refine WL.bin rfl rfl rfl rfl (int_sub sB _ _ _) ?_
  refine WL.bin rfl rfl rfl rfl (quo_n (T.length + 496) 497 (by decide) (by omega) _ _ _) ?_
  refine WL.max rfl rfl rfl rfl (max_i _ _ _ _) ?_
  rw [show max (1 : Int) (((T.length + 496) / 497 : Nat) : Int) = (cnt T : Int) by unfold cnt; omega]
  first | refine WL.assign rfl rfl rfl ?_
  refine WL.done ?_
  refine EW.on ?_
  refine EW.seq ?_
  refine EW.region ?_
  first | refine WL.move rfl rfl rfl ?_
  refine WL.call [.slice ao T.length cp] enter54 rfl rfl rfl (rsum_any _ T w hv (by omega) hRs hBs) ?_
  rintro _ w1 ⟨rfl, l1⟩
  refine ⟨_, rfl, ?_⟩
  first | refine WL.assign rfl rfl rfl ?_
  refine WL.done ?_
  refine EW.on ?_
  refine EW.seq ?_
  refine EW.region ?_
  first | refine WL.assign rfl rfl rfl ?_
  refine WL.done ?_
  refine EW.on ?_
  refine EW.seq ?_
  refine EW.seq ?_
  refine EW.region ?_
  first | refine WL.assign rfl rfl rfl ?_
  refine WL.done ?_
  refine EW.on ?_
  refine EW.block ?_
  refine EW.loop (rsE id (.slice ao T.length cp) T) (RsR w1 id T) (fun y => cnt T - y.1) (0, .slice none 0 0, []) [0, 1, 6, 7, 8, 9] rfl ⟨Nat.zero_le _, Lb.nil _ _ _ _, rfl, fun i x h => (by cases h), Below.refl _ _⟩ ?_
  rintro y W hR
  show EW _ _ _ _ [(0, u32v id), (1, .slice ao T.length cp), (6, .int .i64 (cnt T : Int)), (7, sv (sm T)), (8, y.2.1), (9, .int .i64 (y.1 : Int))] _
  have hle := hR.le
  have s1 : IntKind.i64.wrap ((y.1 : Int) + 1) = ((y.1 + 1 : Nat) : Int) := by rw [IntKind.wrap_i64]; omega
  have sC : IntKind.i64.wrap (((y.1 * 497 : Nat) : Int) + 497) = ((y.1 * 497 + 497 : Nat) : Int) := by rw [IntKind.wrap_i64]; omega
  refine EW.seq ?_
  refine EW.seq ?_
  refine EW.region ?_
  first | refine WL.move rfl rfl rfl ?_
  first | refine WL.move rfl rfl rfl ?_
  refine WL.bin rfl rfl rfl rfl (int_lt_d _ _ _ _ _) ?_
  refine WL.done ?_
  refine EW.on ?_
  refine EW.cond_d rfl (fun h24 => ?_) (fun h24 => ?_)
  · have ht : y.1 < cnt T := by omega
    have hlo : y.1 * 497 ≤ min ((y.1 + 1) * 497) T.length := by
      have := ht
      unfold cnt at this
      omega
    refine EW.skip ?_
    refine EW.on ?_
    refine EW.seq ?_
    refine EW.block ?_
    refine EW.seq ?_
    refine EW.region ?_
    first | refine WL.assign rfl rfl rfl ?_
    refine WL.done ?_
    refine EW.on ?_
    refine EW.seq ?_
    refine EW.region ?_
    first | refine WL.move rfl rfl rfl ?_
    first | refine WL.move rfl rfl rfl ?_
    refine WL.bin rfl rfl rfl rfl (shr24 _ _ _ _) ?_
    refine WL.conv rfl rfl rfl (conv_u _ _) ?_
    first | refine WL.move rfl rfl rfl ?_
    refine WL.bin rfl rfl rfl rfl (shr16 _ _ _ _) ?_
    refine WL.conv rfl rfl rfl (conv_u _ _) ?_
    first | refine WL.move rfl rfl rfl ?_
    refine WL.bin rfl rfl rfl rfl (shr8u _ _ _ _) ?_
    refine WL.conv rfl rfl rfl (conv_u _ _) ?_
    first | refine WL.move rfl rfl rfl ?_
    refine WL.conv rfl rfl rfl (conv_u _ _) ?_
    first | refine WL.move rfl rfl rfl ?_
    refine WL.conv rfl rfl rfl (conv_b (x := cnt T) (by omega) _) ?_
    first | refine WL.move rfl rfl rfl ?_
    refine WL.conv rfl rfl rfl (conv_b (x := y.1) (by omega) _) ?_
    refine WL.bslN [(0, byt 5), (1, byt (shB id 16777216)), (2, byt (shB id 65536)), (3, byt (shB id 256)), (4, byt (shB id 1)), (5, byt (UInt8.ofNat (cnt T))), (6, byt (UInt8.ofNat y.1))] rfl rfl (by rw [show shB id 1 = UInt8.ofNat (id % 256) by unfold shB; rw [Nat.div_one]]; rfl) (bsl24_7 _ _ _ _ _ _ _ _) ?_
    have l2 := below_new W (.cells ([5, shB id 16777216, shB id 65536, shB id 256, shB id 1, UInt8.ofNat (cnt T), UInt8.ofNat y.1].map byt).toArray 5)
    have hb7 := (Blk.new W ([5, shB id 16777216, shB id 65536, shB id 256, shB id 1, UInt8.ofNat (cnt T), UInt8.ofNat y.1].map byt) 5).hasA (a := []) (K := [5, shB id 16777216, shB id 65536, shB id 256, shB id 1, UInt8.ofNat (cnt T), UInt8.ofNat y.1]) (b := []) (o := 0) (by simp) rfl 7 (by show 7 ≤ 7; decide)
    replace hb7 : Has (W.alloc (.cells ([5, shB id 16777216, shB id 65536, shB id 256, shB id 1, UInt8.ofNat (cnt T), UInt8.ofNat y.1].map byt).toArray 5)) (.slice (some ⟨W.heap.size, 0, none⟩) 7 7) [5, shB id 16777216, shB id 65536, shB id 256, shB id 1, UInt8.ofNat (cnt T), UInt8.ofNat y.1] := hb7
    generalize W.alloc (.cells ([5, shB id 16777216, shB id 65536, shB id 256, shB id 1, UInt8.ofNat (cnt T), UInt8.ofNat y.1].map byt).toArray 5) = W1 at l2 hb7 ⊢
    obtain ⟨p1, W2, ra1, o1, be1, _⟩ := (Own.nil' W1 W1.heap.size).app hb7 (by show 0 + 7 ≤ _; decide) (Nat.le_refl _) 24
    refine WL.app rfl rfl rfl rfl ra1 ?_
    first | refine WL.assign rfl rfl rfl ?_
    refine WL.done ?_
    refine EW.on ?_
    refine EW.seq ?_
    refine EW.region ?_
    first | refine WL.move rfl rfl rfl ?_
    first | refine WL.move rfl rfl rfl ?_
    obtain ⟨p2, W3, ra2, o2, be2⟩ := o1.appS (sm T) (by rw [sm_len]; show 0 + 7 + 8 ≤ _; decide) be1.size 24
    refine WL.appS rfl rfl rfl rfl ra2 ?_
    have L3 := be1.trans be2
    have hW3 : Below W.heap.size W W3 := l2.trans (L3.mono l2.size)
    first | refine WL.assign rfl rfl rfl ?_
    refine WL.done ?_
    refine EW.on ?_
    refine EW.seq ?_
    refine EW.region ?_
    first | refine WL.move rfl rfl rfl ?_
    first | refine WL.move rfl rfl rfl ?_
    first | refine WL.move rfl rfl rfl ?_
    refine WL.bin rfl rfl rfl rfl (mul_n y.1 497 (by omega) _ _ _) ?_
    first | refine WL.move rfl rfl rfl ?_
    refine WL.len rfl rfl rfl (len24 _ _ _ _ _) ?_
    first | refine WL.move rfl rfl rfl ?_
    refine WL.bin rfl rfl rfl rfl (mul_n y.1 497 (by omega) _ _ _) ?_
    refine WL.bin rfl rfl rfl rfl (int_add sC _ _ _) ?_
    refine WL.min rfl rfl rfl rfl (min_i _ _ _ _) ?_
    rw [show min (T.length : Int) ((y.1 * 497 + 497 : Nat) : Int) = ((min ((y.1 + 1) * 497) T.length : Nat) : Int) by omega]
    refine WL.slice2 rfl rfl rfl rfl rfl (cut24 ao T.length cp (y.1 * 497) (min ((y.1 + 1) * 497) T.length) hlo (Nat.min_le_right _ _) hTc _) ?_
    have hcut := ((hv.below (bt l1 hR.be)).below hW3).cut (y.1 * 497) (min ((y.1 + 1) * 497) T.length) hlo (Nat.min_le_right _ _)
    obtain ⟨p3, W4, ra3, o3, be3, _⟩ := o2.app hcut (by simp [sm_len]; omega) L3.size 24
    refine WL.app rfl rfl rfl rfl ra3 ?_
    rw [show (T.drop (y.1 * 497)).take (min ((y.1 + 1) * 497) T.length - y.1 * 497) = chk T y.1 by unfold chk; rfl, head7] at o3
    have hW4 : Below W.heap.size W W4 := hW3.trans (be3.mono l2.size)
    first | refine WL.assign rfl rfl rfl ?_
    refine WL.done ?_
    refine EW.on ?_
    refine EW.region ?_
    first | refine WL.move rfl rfl rfl ?_
    first | refine WL.move rfl rfl rfl ?_
    refine WL.bslN [(0, p3)] rfl rfl rfl (bsl74_1 _ o3.has.sl W4) ?_
    have l5 := below_new W4 (.cells [p3].toArray 24)
    have nw := new1 (e := 24) W4 p3
    replace nw : Ow 24 1 (W4.alloc (.cells [p3].toArray 24)) (.slice (some ⟨W4.heap.size, 0, none⟩) 1 1) [[p3]] := nw
    generalize W4.alloc (.cells [p3].toArray 24) = W5 at l5 nw ⊢
    have hW5 := bt hW4 l5
    obtain ⟨v6, W6, ra6, o6, be6, f6, _⟩ := (hR.ow.on hW5).app el24 (by have := hR.be.size; have := hW5.size; omega) nw.li (fun x hx cc hc => by rw [List.mem_singleton.1 hx] at hc; rw [List.mem_singleton.1 hc]; exact o3.has.one) (by rw [vr_len, hR.ln, List.length_singleton]; omega) 26
    refine WL.app rfl rfl rfl rfl ra6 ?_
    first | refine WL.assign rfl rfl rfl ?_
    refine WL.done ?_
    refine pn_block ?_
    refine EW.on ?_
    refine EW.region ?_
    first | refine WL.move rfl rfl rfl ?_
    first | refine WL.bin rfl rfl rfl rfl (int_add ‹_› _ _ _) ?_
    first | refine WL.assign rfl rfl rfl ?_
    refine WL.done ?_
    refine EW.again (y.1 + 1, v6, y.2.2 ++ [p3]) [0, 1, 6, 7, 8, 9] rfl ⟨by show y.1 + 1 ≤ cnt T; omega, by show Lb 24 1 W6 _ v6 (vr (y.2.2 ++ [p3])); rw [vr_app]; exact o6, by show (y.2.2 ++ [p3]).length = y.1 + 1; rw [List.length_append, hR.ln]; rfl, fun i x hx => ?_, (bt hR.be hW5).trans be6⟩ (by show cnt T - (y.1 + 1) < cnt T - y.1; omega)
    have hx' : (y.2.2 ++ [p3])[i]? = some x := hx
    have oldB : ∀ k, y.2.1.ownBlock = some k → ∀ (b0 : Nat) (z : Value) (zs : List UInt8), Ob W5 b0 z zs → z.ownBlock ≠ some k := fun k hk b0 z zs hz e => by
      obtain ⟨_, cur, hcz⟩ := hz.lt e
      obtain ⟨hxx, ⟨e0, _⟩ | ⟨g, cp2, cur2, e0, hg, hh2, _⟩⟩ := (hR.ow.on hW5).ow.row
      · rw [e0] at hk; cases hk
      · rw [e0] at hk
        simp only [Value.ownBlock, Option.some.injEq] at hk
        rw [hk] at hh2
        rw [hh2] at hcz
        cases hcz
    rcases Nat.lt_or_ge i y.1 with hi | hi
    · rw [List.getElem?_append_left (by rw [hR.ln]; exact hi)] at hx'
      have o5 := (hR.hs i x hx').below hW5
      exact o5.fx f6 (fun k hk e => oldB k hk _ _ _ o5 e)
    · rw [List.getElem?_append_right (by rw [hR.ln]; exact hi), hR.ln] at hx'
      have hi0 : i = y.1 := by
        have := (List.getElem?_eq_some_iff.1 hx').1
        simp at this; omega
      subst hi0
      rw [Nat.sub_self] at hx'
      cases hx'
      have o5 := (o3.below l5).ob
      have o5' : Ob W5 w1.heap.size p3 (ptB id T y.1) := by
        have := o5.lower (b' := w1.heap.size) (by have := hR.be.size; have := l2.size; omega)
        unfold ptB; exact this
      exact o5'.fx f6 (fun k hk e => oldB k hk _ _ _ o5' e)
  · skip
    refine EW.exit ?_
    refine px_then ?_
    refine px_then ?_
    refine px_block ?_
    refine EW.on ?_
    refine EW.seq ?_
    refine EW.region ?_
    first | refine WL.move rfl rfl rfl ?_
    first | refine WL.assign rfl rfl rfl ?_
    first | refine WL.assign rfl rfl rfl ?_
    refine WL.done ?_
    refine EW.on ?_
    refine EW.ret ?_
    exact EW.returns2 Tryd.results35 rfl rfl ⟨y.2.1, y.2.2, rfl, ⟨hR.ow.ow, fun j hj => by have := hR.ow.base j hj; have := l1.size; omega⟩, by rw [hR.ln]; omega, fun i z hz => (hR.hs i z hz).lower l1.size, bt l1 hR.be⟩
set_option maxRecDepth 100000 in
set_option maxHeartbeats 1000000 in
theorem rsplit_no (id : Nat) (v : Value) (T : List UInt8) (w : World) (hv : Has w v T) (hT : 31808 < T.length) : Calls Tryd.prog 35 #[u32v id, v] w fun e w' => e = .returned (.tuple #[.slice none 0 0, .int .i64 5]) ∧ w' = w := by
  obtain ⟨ao, cp, rfl⟩ := hv.slice
  have h31 : (31808 : Int) < (T.length : Int) := by omega
  refine calls_of_args [u32v id, .slice ao T.length cp] Tryd.func35 rfl 65 Tryd.ntmps35 (by show 2 ≤ 65; decide) ?_
  refine EW.seq ?_
  refine EW.region ?_
  first | refine WL.assign rfl rfl rfl ?_
  first | refine WL.assign rfl rfl rfl ?_
  refine WL.done ?_
  refine EW.on ?_
  refine EW.seq ?_
  refine EW.seq ?_
  refine EW.region ?_
  first | refine WL.move rfl rfl rfl ?_
  refine WL.len rfl rfl rfl (len24 _ _ _ _ _) ?_
  first | refine WL.bin rfl rfl rfl rfl (int_gt_t ‹_› _ _ _) ?_ | refine WL.bin rfl rfl rfl rfl (int_gt_f ‹_› _ _ _) ?_ | refine WL.bin rfl rfl rfl rfl (int_gt_d _ _ _ _ _) ?_
  refine WL.done ?_
  refine EW.on ?_
  refine EW.cond_t rfl ?_
  refine EW.seq ?_
  refine EW.region ?_
  first | refine WL.assign rfl rfl rfl ?_
  first | refine WL.assign rfl rfl rfl ?_
  refine WL.done ?_
  refine EW.on ?_
  refine EW.ret ?_
  refine pr_then ?_
  exact EW.returns2 Tryd.results35 rfl rfl ⟨rfl, rfl⟩
end Go.Proofs.YtiefgmgjlhjjhaaDoor
