import Derived.Test.YtiefgmgjlhjjhaaDoorRefbG
namespace Go.Proofs.YtiefgmgjlhjjhaaDoor
open Go.RowKit

/-- The tail of the padded message, from its end. -/
def tl (x : Nat) : Nat → List UInt8
  | 0 => List.replicate 8 0
  | j + 1 => (tl x j).set (7 - j) (UInt8.ofNat (x / 256 ^ j))
theorem tl_length (x : Nat) : ∀ j, (tl x j).length = 8
  | 0 => by rw [tl, List.length_replicate]
  | j + 1 => by rw [tl, List.length_set, tl_length x j]
theorem tl8 (x : Nat) : tl x 8 = be8 x := rfl
def z8b : List UInt8 := List.replicate 8 0
theorem zero84 (w : World) : (zeroValue 53).run Tryd.prog w = .ok (.agg (z8b.map byt).toArray) w := by
  rw [Tryd.zeroValue53]; rfl

/-- What is left of the number. -/
def nq (x j : Nat) : Int := ((x / 256 ^ j : Nat) : Int)
theorem nq_rem (x j : Nat) : (nq x j).tmod 256 = ((UInt8.ofNat (x / 256 ^ j)).toNat : Int) := by
  unfold nq
  rw [Int.tmod_eq_emod_of_nonneg (Int.natCast_nonneg _), UInt8.toNat_ofNat']
  rfl
theorem nq_quo (x j : Nat) : (nq x j).tdiv 256 = nq x (j + 1) := by
  unfold nq
  rw [Int.tdiv_eq_ediv_of_nonneg (Int.natCast_nonneg _), Nat.pow_succ, ← Nat.div_div_eq_div_mul]
  rfl
theorem nq_nonneg (x j : Nat) : 0 ≤ nq x j := Int.natCast_nonneg _
theorem nq_lt (x j : Nat) (h : x < 9000000000000000000) : nq x j < 9000000000000000000 := by
  unfold nq
  have := Nat.div_le_self x (256 ^ j)
  omega

/-- The padded bytes so far, and the tail. -/
structure Pd (w x : World) (v : Value) (d : Nat) (M L : List UInt8) : Prop where
  ow : Own x w.heap.size v M
  bl : Blk x d (L.map byt) 53
  be : Below w.heap.size w x
  ld : w.heap.size ≤ d
  ne : ∀ k, v.ownBlock = some k → k ≠ d
theorem Pd.set {w x : World} {v : Value} {d : Nat} {M L : List UInt8} (h : Pd w x v d M L) (j : Nat) (u : UInt8) : Pd w (x.setCell ⟨d, j, none⟩ (.int .u8 (u.toNat : Int))) v d M (L.set j u) := by
  refine ⟨?_, by rw [← byts_set]; exact h.bl.set j _, h.be.setCell h.ld _, h.ld, h.ne⟩
  obtain ⟨h1, h2 | ⟨g, cap, cur, hv, hg, hh, r⟩⟩ := h.ow
  · exact ⟨h1, .inl h2⟩
  · refine ⟨h1, .inr ⟨g, cap, cur, hv, hg, ?_, r⟩⟩
    rw [← hh]
    exact Below.heap_setCell _ _ _ _ (fun e => h.ne g (by rw [hv]; rfl) e)

set_option maxHeartbeats 400000 in
set_option maxRecDepth 100000 in
theorem padded_any (v : Value) (M : List UInt8) (w : World) (hv : Has w v M) (hM : M.length ≤ 100000000000000) :
    Calls Tryd.prog 68 #[v] w fun e w' => ∃ ao cap, e = .returned (.slice ao (M.length + (padOf M.length).length) cap) ∧ Own w' w.heap.size (.slice ao (M.length + (padOf M.length).length) cap) (M ++ padOf M.length) ∧ Below w.heap.size w w' := by
  obtain ⟨am, cm, rfl⟩ := hv.slice
  obtain ⟨nM, hnM⟩ : ∃ n, n = M.length := ⟨_, rfl⟩
  rw [← hnM] at hv hM ⊢
  have UM := hide hv
  have HnM : Lk nM M.length := ⟨hnM⟩
  clear hnM hv
  obtain ⟨z, hz⟩ : ∃ z, z = (119 - nM % 64) % 64 := ⟨_, rfl⟩
  have hz64 : z < 64 := by omega
  have hzm : (nM + 1 + z) % 64 = 56 := by omega
  have hzn : ∀ k, k < z → (nM + 1 + k) % 64 ≠ 56 := by intro k hk; omega
  have Hz : Lk z ((119 - nM % 64) % 64) := ⟨hz⟩
  have HZm := hide hzm
  have HZn := hide hzn
  clear hz hzm hzn
  have hla : Hid (([] : List UInt8).length + M.length ≤ 150000000000000) := by have := HnM.h; show _ ≤ _; simp; omega
  have L2 : Hid ((M ++ [128]).length = nM + 1) := by show _ = _; rw [List.length_append, ← HnM.h]; rfl
  go_enter Tryd.func68, Tryd.ntmps68
  go_wp2_with (first
    | (refine wpList_app rfl (.const (.slice none 0 0)) (.tmp 7) rfl w.heap.size (.slice none 0 0) [] rfl (Own.nil _ _) (.slice am nM cm) M rfl UM.out hla.out (Nat.le_refl _) ?_; intro v1 w2 ho1 hg1; rw [List.nil_append] at ho1; obtain ⟨a1, c1, rfl⟩ := ho1.slice; rw [← HnM.h] at ho1 ⊢; have O1 := hide ho1; have B2 : Hid (Below w.heap.size w w2) := (Below.refl _ _).grown hg1 (Nat.le_refl _) (fun k hk => by cases hk); clear ho1 hg1)
    | (refine wpList_app rfl (.tmp 9) (.tmp 10) rfl w.heap.size (.slice a1 nM c1) M rfl (O1.out.below (below_new w2 _)) _ [128] rfl (has_news w2 [128]) (by have := HnM.h; simp; omega) (Nat.le_trans B2.out.size (below_new w2 _).size) ?_; intro v2 w3 ho2 hg2; obtain ⟨a2, c2, rfl⟩ := ho2.slice; rw [L2.out] at ho2 ⊢; have O2 := hide ho2; have B3 : Hid (Below w.heap.size w w3) := (B2.out.trans ((below_new w2 _).mono B2.out.size)).grown hg2 (Nat.le_trans B2.out.size (below_new w2 _).size) O1.out.ownBlock; clear ho2 hg2)
    | fail)
  go_loopw [3] (fun t wr => ∃ k n : Nat, k ≤ z ∧ Lk n (nM + 1 + k) ∧ n ≤ 100000000000100 ∧ ∃ ao cap, t = .slice ao n cap ∧ Hid (Own wr w.heap.size t (M ++ 128 :: List.replicate k 0)) ∧ Hid (Below w.heap.size w wr)) (fun t _ => 100000000000100 - sLen t)
  case atStart => exact ⟨0, nM + 1, by omega, ⟨rfl⟩, by omega, a2, c2, rfl, O2, B3⟩
  case round =>
    obtain ⟨k, n, hk, Hn, hn3, ao, cap, rfl, ho, hb⟩ := hrel
    have hln : Hid ((M ++ 128 :: List.replicate k 0).length = n) := by
      show _ = _
      rw [Hn.h, List.length_append, List.length_cons, List.length_replicate, ← HnM.h]
      omega
    by_cases hkz : k < z
    · have hmod : (((n : Int) % 64) == 56) = false := by
        have h1 := HZn.out k hkz
        have h2 := Hn.h
        rw [h2]
        simp
        omega
      have hl2 : Hid ((M ++ 128 :: List.replicate k 0 ++ [(0 : UInt8)]).length = n + 1) := by
        show _ = _
        rw [List.length_append, hln.out]
        rfl
      have hap : Hid (M ++ 128 :: List.replicate k 0 ++ [(0 : UInt8)] = M ++ 128 :: List.replicate (k + 1) 0) := by
        show _ = _
        rw [List.replicate_succ', List.append_assoc]
        rfl
      go_wp2_with (refine wpList_app rfl (.tmp 16) (.tmp 17) rfl w.heap.size (.slice ao n cap) (M ++ 128 :: List.replicate k 0) rfl (ho.out.below (below_new wr _)) _ [0] rfl (has_news wr [0]) (by rw [hln.out]; simp; omega) (Nat.le_trans hb.out.size (below_new wr _).size) ?_; intro v' w2' ho' hg'; obtain ⟨ao', cap', rfl⟩ := ho'.slice; rw [hl2.out] at ho' ⊢; rw [hap.out] at ho'; have HO' := hide ho'; have HB' : Hid (Below w.heap.size w w2') := (hb.out.trans ((below_new wr _).mono hb.out.size)).grown hg' (Nat.le_trans hb.out.size (below_new wr _).size) ho.out.ownBlock; clear ho' hg')
      go_roundw
      case rel => exact ⟨k + 1, n + 1, by omega, ⟨by have := Hn.h; omega⟩, by have := Hn.h; omega, ao', cap', rfl, HO', HB'⟩
      case measure => show 100000000000100 - (n + 1) < 100000000000100 - n; have := Hn.h; omega
    · obtain rfl : k = z := by omega
      have hmod : (((n : Int) % 64) == 56) = true := by
        have h1 := HZm.out
        have h2 := Hn.h
        rw [h2]
        simp
        omega
      obtain ⟨X, hX⟩ : ∃ X, X = 8 * nM := ⟨_, rfl⟩
      have hXz : Hid ((nM : Int) * 8 = nq X 0) := hide (by unfold nq; rw [hX]; simp; omega)
      have hX9 : Hid (X < 9000000000000000000) := hide (by omega)
      have HX : Lk X (8 * nM) := ⟨hX⟩
      clear hX
      have hn8 : (nM : Int) * 8 < 9000000000000000000 := by omega
      have hP : Hid (Pd w (wr.alloc (.cells (z8b.map byt).toArray 53)) (.slice ao n cap) wr.heap.size (M ++ 128 :: List.replicate k 0) (tl X 0)) := ⟨ho.out.below (below_new wr _), Blk.new wr _ _, hb.out.alloc hb.out.size _, hb.out.size, fun j hj e => by
        obtain ⟨_, h | ⟨g, cp, cur, hv, hg, hh, _⟩⟩ := ho.out
        · rw [h.1] at hj; cases hj
        · rw [hv] at hj
          have hlt : g < wr.heap.size := Blk.lt (cs := cur.toList) (t := 5) (by unfold Blk; simpa using hh)
          simp [Value.ownBlock] at hj
          omega⟩
      have cv1 : IntKind.u64.wrap (nM : Int) = (nM : Int) := by rw [IntKind.wrap_u64]; omega
      have cv2 : IntKind.u64.wrap ((nM : Int) * 8) = (nM : Int) * 8 := by rw [IntKind.wrap_u64]; omega
      have hn9 : Hid (n ≤ 100000000000100) := hide hn3
      clear hn3 hM hn8
      go_upto_region 6 with fail
      rw [hXz.out]
      clear cv1 cv2 hmod
      go_wp2_with (first
        | (refine wpList_newAt rfl 53 rfl (z8b.map byt) zero84 wr.heap.size rfl ?_; generalize wr.alloc (.cells (z8b.map byt).toArray 53) = w4 at hP ⊢; generalize wr.heap.size = d at hP ⊢)
        | fail)
      obtain ⟨MM, hMM⟩ : ∃ MM, M ++ 128 :: List.replicate k 0 = MM := ⟨_, rfl⟩
      rw [hMM] at hP hln
      have HMM : Lk (M ++ 128 :: List.replicate k 0) MM := ⟨hMM⟩
      clear hMM ho hb
      go_loopw [4, 6] (fun v i wx => ∃ j : Nat, j ≤ 8 ∧ i = .int .i64 (7 - (j : Int)) ∧ v = .int .u64 (nq X j) ∧ Hid (Pd w wx (.slice ao n cap) d MM (tl X j))) (fun _ i _ => (intOf i + 1).toNat)
      case atStart => exact ⟨0, by omega, rfl, rfl, hP⟩
      case round =>
        obtain ⟨j, hj, rfl, rfl, hy⟩ := hrel
        by_cases hj8 : j < 8
        · have hz0 : (0 : Int) ≤ 7 - (j : Int) := by omega
          obtain ⟨p, hp⟩ : ∃ p, 7 - j = p := ⟨_, rfl⟩
          have hpz : 7 - (j : Int) = (p : Int) := by omega
          have hp8 : p < 8 := by omega
          have hpi : (p : Int) < 8 := by omega
          have hr := nq_rem X j
          have hq := nq_quo X j
          have hv0 := nq_nonneg X j
          have hv1 := nq_lt X j hX9.out
          have hu0 : IntKind.u8.wrap ((UInt8.ofNat (X / 256 ^ j)).toNat : Int) = ((UInt8.ofNat (X / 256 ^ j)).toNat : Int) := wraps_u8 _ (Int.natCast_nonneg _) (by have := (UInt8.ofNat (X / 256 ^ j)).toNat_lt; omega)
          have hc2 : ∃ v, wr.cell? ⟨d, p, none⟩ = some v := ⟨_, by rw [hy.out.bl.cell, byts_at _ _ (by rw [tl_length]; exact hp8)]⟩
          obtain ⟨v2, hc2⟩ := hc2
          have hfz := hy.out.bl.frozen p
          have hnx : Hid (Pd w (wr.setCell ⟨d, p, none⟩ (.int .u8 ((UInt8.ofNat (X / 256 ^ j)).toNat : Int))) (.slice ao n cap) d MM (tl X (j + 1))) := by
            have := hy.out.set p (UInt8.ofNat (X / 256 ^ j))
            rw [← hp] at this ⊢
            exact this
          have hwv : IntKind.u64.wrap (nq X (j + 1)) = nq X (j + 1) := by
            have h1 := nq_nonneg X (j + 1)
            have h2 := nq_lt X (j + 1) hX9.out
            rw [IntKind.wrap_u64]; omega
          generalize UInt8.ofNat (X / 256 ^ j) = u at *
          generalize nq X j = V0 at *
          obtain ⟨V1, HV1⟩ : ∃ V1, Lk (nq X (j + 1)) V1 := ⟨_, ⟨rfl⟩⟩
          rw [HV1.h] at hq hwv
          have HPZ : Lk (7 - (j : Int)) (p : Int) := ⟨hpz⟩
          rw [hpz] at hz0 ⊢
          have hj0 : Hid (j < 8) := hide hj8
          clear hp hpz hj hj8
          go_wp2
          go_roundw
          case rel => exact ⟨j + 1, by have := hj0.out; omega, by rw [← HPZ.h]; go_num, by rw [HV1.h], hnx⟩
          case measure => simp [intOf]
        · obtain rfl : j = 8 := by omega
          rw [tl8] at hy
          obtain ⟨t0, t1, t2, t3, t4, t5, t6, t7, hT⟩ : ∃ t0 t1 t2 t3 t4 t5 t6 t7, be8 X = [t0, t1, t2, t3, t4, t5, t6, t7] := ⟨_, _, _, _, _, _, _, _, rfl⟩
          have HFIN : Lk (MM ++ [t0, t1, t2, t3, t4, t5, t6, t7]) (M ++ padOf nM) := ⟨by
            rw [← hT, ← HMM.h, HX.h, Hz.h]
            unfold padOf
            rw [List.append_assoc]⟩
          rw [hT] at hy
          have HLN : Lk (MM ++ [t0, t1, t2, t3, t4, t5, t6, t7]).length (nM + (padOf nM).length) := ⟨by rw [HFIN.h, List.length_append, ← HnM.h]⟩
          have HLN8 : Lk (MM ++ [t0, t1, t2, t3, t4, t5, t6, t7]).length (n + 8) := ⟨by rw [List.length_append, hln.out]; rfl⟩
          clear hT
          have c0 := hy.out.bl.cell 0
          have c1 := hy.out.bl.cell 1
          have c2 := hy.out.bl.cell 2
          have c3 := hy.out.bl.cell 3
          have c4 := hy.out.bl.cell 4
          have c5 := hy.out.bl.cell 5
          have c6 := hy.out.bl.cell 6
          have c7 := hy.out.bl.cell 7
          simp only [List.map_cons, List.map_nil, List.getElem?_cons_zero, List.getElem?_cons_succ, byt] at c0 c1 c2 c3 c4 c5 c6 c7
          generalize nq X 8 = V8
          rw [show (7 : Int) - ((8 : Nat) : Int) = -1 from rfl]
          go_wp2_with (refine wpList_app rfl (.tmp 34) (.tmp 51) rfl w.heap.size (.slice ao n cap) MM rfl (hy.out.ow.below (below_new wr _)) _ [t0, t1, t2, t3, t4, t5, t6, t7] rfl (has_news wr [t0, t1, t2, t3, t4, t5, t6, t7]) (by rw [hln.out]; have := hn9.out; simp; omega) (Nat.le_trans hy.out.be.size (below_new wr _).size) ?_; intro v5 w5 ho5 hg5; obtain ⟨a5, c5', rfl⟩ := ho5.slice; rw [HLN8.h] at ho5 ⊢; have O5 := hide ho5; have B5 : Hid (Below w.heap.size w w5) := (hy.out.be.trans ((below_new wr _).mono hy.out.be.size)).grown hg5 (Nat.le_trans hy.out.be.size (below_new wr _).size) hy.out.ow.ownBlock; clear ho5 hg5)
          go_ret
          have e : n + 8 = nM + (padOf nM).length := by rw [← HLN8.h, HLN.h]
          exact ⟨a5, c5', by rw [e]; rfl, by rw [← e, ← HFIN.h]; exact O5.out, B5.out⟩
end Go.Proofs.YtiefgmgjlhjjhaaDoor
