import Derived.Test.YtoceepmehmacbaaDoorRefbG
namespace Go.Proofs.YtoceepmehmacbaaDoor
open Go.RowKit

/-- The tail of the padded message, from its end. -/
def tl (x : Nat) : Nat → List UInt8
  | 0 => List.replicate 8 0
  | j + 1 => (tl x j).set (7 - j) (UInt8.ofNat (x / 256 ^ j))
theorem tl_length (x : Nat) : ∀ j, (tl x j).length = 8
  | 0 => by rw [tl, List.length_replicate]
  | j + 1 => by rw [tl, List.length_set, tl_length x j]
theorem tl8 (x : Nat) : tl x 8 = be8 x := rfl
def z8b : List UInt8 := List.replicate 8 0
theorem zero84 (w : World) : (zeroValue 148).run Tryd.prog w = .ok (.agg (z8b.map byt).toArray) w := by
  rw [Tryd.zeroValue148]; rfl

/-- What is left of the number. -/
def nq (x j : Nat) : Int := ((x / 256 ^ j : Nat) : Int)
theorem nq_rem (x j : Nat) : (nq x j).tmod 256 = ((UInt8.ofNat (x / 256 ^ j)).toNat : Int) := by
  unfold nq
  rw [Int.tmod_eq_emod_of_nonneg (Int.natCast_nonneg _), UInt8.toNat_ofNat']
  rfl
theorem nq_quo (x j : Nat) : (nq x j).tdiv 256 = nq x (j + 1) := by
  unfold nq
  rw [Int.tdiv_eq_ediv_of_nonneg (Int.natCast_nonneg _), Nat.pow_succ, ← Nat.div_div_eq_div_mul]
  rfl
theorem nq_nonneg (x j : Nat) : 0 ≤ nq x j := Int.natCast_nonneg _
theorem nq_lt (x j : Nat) (h : x < 9000000000000000000) : nq x j < 9000000000000000000 := by
  unfold nq
  have := Nat.div_le_self x (256 ^ j)
  omega

/-- The padded bytes so far, and the tail. -/
structure Pd (w x : World) (v : Value) (d : Nat) (M L : List UInt8) : Prop where
  ow : Own x w.heap.size v M
  bl : Blk x d (L.map byt) 148
  be : Below w.heap.size w x
  ld : w.heap.size ≤ d
  ne : ∀ k, v.ownBlock = some k → k ≠ d
theorem Pd.set {w x : World} {v : Value} {d : Nat} {M L : List UInt8} (h : Pd w x v d M L) (j : Nat) (u : UInt8) : Pd w (x.setCell ⟨d, j, none⟩ (.int .u8 (u.toNat : Int))) v d M (L.set j u) := by
  refine ⟨?_, by rw [← byts_set]; exact h.bl.set j _, h.be.setCell h.ld _, h.ld, h.ne⟩
  obtain ⟨h1, h2 | ⟨g, cap, cur, hv, hg, hh, r⟩⟩ := h.ow
  · exact ⟨h1, .inl h2⟩
  · refine ⟨h1, .inr ⟨g, cap, cur, hv, hg, ?_, r⟩⟩
    rw [← hh]
    exact Below.heap_setCell _ _ _ _ (fun e => h.ne g (by rw [hv]; rfl) e)

set_option maxHeartbeats 400000 in
set_option maxRecDepth 100000 in
theorem padded_any (v : Value) (M : List UInt8) (w : World) (hv : Has w v M) (hM : M.length ≤ 100000000000000) :
    Calls Tryd.prog 91 #[v] w fun e w' => ∃ ao cap, e = .returned (.slice ao (M.length + (padOf M.length).length) cap) ∧ Own w' w.heap.size (.slice ao (M.length + (padOf M.length).length) cap) (M ++ padOf M.length) ∧ Below w.heap.size w w' := by
  obtain ⟨am, cm, rfl⟩ := hv.slice
  obtain ⟨nM, hnM⟩ : ∃ n, n = M.length := ⟨_, rfl⟩
  rw [← hnM] at hv hM ⊢
  have UM := hide hv
  have HnM : Lk nM M.length := ⟨hnM⟩
  clear hnM hv
  obtain ⟨z, hz⟩ : ∃ z, z = (119 - nM % 64) % 64 := ⟨_, rfl⟩
  have hz64 : z < 64 := by omega
  have hzm : (nM + 1 + z) % 64 = 56 := by omega
  have hzn : ∀ k, k < z → (nM + 1 + k) % 64 ≠ 56 := by intro k hk; omega
  have Hz : Lk z ((119 - nM % 64) % 64) := ⟨hz⟩
  have HZm := hide hzm
  have HZn := hide hzn
  clear hz hzm hzn
  have hla : Hid (([] : List UInt8).length + M.length ≤ 150000000000000) := by have := HnM.h; show _ ≤ _; simp; omega
  have L2 : Hid ((M ++ [128]).length = nM + 1) := by show _ = _; rw [List.length_append, ← HnM.h]; rfl
  go_enter Tryd.func91, Tryd.ntmps91
  go_wp2_with (first
    | (refine wpList_app rfl (.const (.slice none 0 0)) (.tmp 7) rfl w.heap.size (.slice none 0 0) [] rfl (Own.nil _ _) (.slice am nM cm) M rfl UM.out hla.out (Nat.le_refl _) ?_; intro v1 w2 ho1 hg1; rw [List.nil_append] at ho1; obtain ⟨a1, c1, rfl⟩ := ho1.slice; rw [← HnM.h] at ho1 ⊢; have O1 := hide ho1; have B2 : Hid (Below w.heap.size w w2) := (Below.refl _ _).grown hg1 (Nat.le_refl _) (fun k hk => by cases hk); clear ho1 hg1)
    | (refine wpList_app rfl (.tmp 9) (.tmp 10) rfl w.heap.size (.slice a1 nM c1) M rfl (O1.out.below (below_new w2 _)) _ [128] rfl (has_news w2 [128]) (by have := HnM.h; simp; omega) (Nat.le_trans B2.out.size (below_new w2 _).size) ?_; intro v2 w3 ho2 hg2; obtain ⟨a2, c2, rfl⟩ := ho2.slice; rw [L2.out] at ho2 ⊢; have O2 := hide ho2; have B3 : Hid (Below w.heap.size w w3) := (B2.out.trans ((below_new w2 _).mono B2.out.size)).grown hg2 (Nat.le_trans B2.out.size (below_new w2 _).size) O1.out.ownBlock; clear ho2 hg2)
    | fail)
  go_loopw [3] (fun t wr => ∃ k n : Nat, k ≤ z ∧ Lk n (nM + 1 + k) ∧ n ≤ 100000000000100 ∧ ∃ ao cap, t = .slice ao n cap ∧ Hid (Own wr w.heap.size t (M ++ 128 :: List.replicate k 0)) ∧ Hid (Below w.heap.size w wr)) (fun t _ => 100000000000100 - sLen t)
  case atStart => exact ⟨0, nM + 1, by omega, ⟨rfl⟩, by omega, a2, c2, rfl, O2, B3⟩
  case round =>
    obtain ⟨k, n, hk, Hn, hn3, ao, cap, rfl, ho, hb⟩ := hrel
    have hln : Hid ((M ++ 128 :: List.replicate k 0).length = n) := by
      show _ = _
      rw [Hn.h, List.length_append, List.length_cons, List.length_replicate, ← HnM.h]
      omega
    by_cases hkz : k < z
    · have hmod : (((n : Int) % 64) == 56) = false := by
        have h1 := HZn.out k hkz
        have h2 := Hn.h
        rw [h2]
        simp
        omega
      have hl2 : Hid ((M ++ 128 :: List.replicate k 0 ++ [(0 : UInt8)]).length = n + 1) := by
        show _ = _
        rw [List.length_append, hln.out]
        rfl
      have hap : Hid (M ++ 128 :: List.replicate k 0 ++ [(0 : UInt8)] = M ++ 128 :: List.replicate (k + 1) 0) := by
        show _ = _
        rw [List.replicate_succ', List.append_assoc]
        rfl
      go_wp2_with (refine wpList_app rfl (.tmp 16) (.tmp 17) rfl w.heap.size (.slice ao n cap) (M ++ 128 :: List.replicate k 0) rfl (ho.out.below (below_new wr _)) _ [0] rfl (has_news wr [0]) (by rw [hln.out]; simp; omega) (Nat.le_trans hb.out.size (below_new wr _).size) ?_; intro v' w2' ho' hg'; obtain ⟨ao', cap', rfl⟩ := ho'.slice; rw [hl2.out] at ho' ⊢; rw [hap.out] at ho'; have HO' := hide ho'; have HB' : Hid (Below w.heap.size w w2') := (hb.out.trans ((below_new wr _).mono hb.out.size)).grown hg' (Nat.le_trans hb.out.size (below_new wr _).size) ho.out.ownBlock; clear ho' hg')
      go_roundw
      case rel => exact ⟨k + 1, n + 1, by omega, ⟨by have := Hn.h; omega⟩, by have := Hn.h; omega, ao', cap', rfl, HO', HB'⟩
      case measure => show 100000000000100 - (n + 1) < 100000000000100 - n; have := Hn.h; omega
    · obtain rfl : k = z := by omega
      have hmod : (((n : Int) % 64) == 56) = true := by
        have h1 := HZm.out
        have h2 := Hn.h
        rw [h2]
        simp
        omega
      obtain ⟨X, hX⟩ : ∃ X, X = 8 * nM := ⟨_, rfl⟩
      have hXz : Hid ((nM : Int) * 8 = nq X 0) := hide (by unfold nq; rw [hX]; simp; omega)
      have hX9 : Hid (X < 9000000000000000000) := hide (by omega)
      have HX : Lk X (8 * nM) := ⟨hX⟩
      clear hX
      have hn8 : (nM : Int) * 8 < 9000000000000000000 := by omega
      have hP : Hid (Pd w (wr.alloc (.cells (z8b.map byt).toArray 148)) (.slice ao n cap) wr.heap.size (M ++ 128 :: List.replicate k 0) (tl X 0)) := ⟨ho.out.below (below_new wr _), Blk.new wr _ _, hb.out.alloc hb.out.size _, hb.out.size, fun j hj e => by
        obtain ⟨_, h | ⟨g, cp, cur, hv, hg, hh, _⟩⟩ := ho.out
        · rw [h.1] at hj; cases hj
        · rw [hv] at hj
          have hlt : g < wr.heap.size := Blk.lt (cs := cur.toList) (t := 5) (by unfold Blk; simpa using hh)
          simp [Value.ownBlock] at hj
          omega⟩
      have cv1 : IntKind.u64.wrap (nM : Int) = (nM : Int) := by rw [IntKind.wrap_u64]; omega
      have cv2 : IntKind.u64.wrap ((nM : Int) * 8) = (nM : Int) * 8 := by rw [IntKind.wrap_u64]; omega
      have hn9 : Hid (n ≤ 100000000000100) := hide hn3
      clear hn3 hM hn8
      go_upto_region 6 with fail
      rw [hXz.out]
      clear cv1 cv2 hmod
      go_wp2_with (first
        | (refine wpList_newAt rfl 148 rfl (z8b.map byt) zero84 wr.heap.size rfl ?_; generalize wr.alloc (.cells (z8b.map byt).toArray 148) = w4 at hP ⊢; generalize wr.heap.size = d at hP ⊢)
        | fail)
      obtain ⟨MM, hMM⟩ : ∃ MM, M ++ 128 :: List.replicate k 0 = MM := ⟨_, rfl⟩
      rw [hMM] at hP hln
      have HMM : Lk (M ++ 128 :: List.replicate k 0) MM := ⟨hMM⟩
      clear hMM ho hb
      go_loopw [4, 6] (fun v i wx => ∃ j : Nat, j ≤ 8 ∧ i = .int .i64 (7 - (j : Int)) ∧ v = .int .u64 (nq X j) ∧ Hid (Pd w wx (.slice ao n cap) d MM (tl X j))) (fun _ i _ => (intOf i + 1).toNat)
      case atStart => exact ⟨0, by omega, rfl, rfl, hP⟩
      case round =>
        obtain ⟨j, hj, rfl, rfl, hy⟩ := hrel
        by_cases hj8 : j < 8
        · have hz0 : (0 : Int) ≤ 7 - (j : Int) := by omega
          obtain ⟨p, hp⟩ : ∃ p, 7 - j = p := ⟨_, rfl⟩
          have hpz : 7 - (j : Int) = (p : Int) := by omega
          have hp8 : p < 8 := by omega
          have hpi : (p : Int) < 8 := by omega
          have hr := nq_rem X j
          have hq := nq_quo X j
          have hv0 := nq_nonneg X j
          have hv1 := nq_lt X j hX9.out
          have hu0 : IntKind.u8.wrap ((UInt8.ofNat (X / 256 ^ j)).toNat : Int) = ((UInt8.ofNat (X / 256 ^ j)).toNat : Int) := wraps_u8 _ (Int.natCast_nonneg _) (by have := (UInt8.ofNat (X / 256 ^ j)).toNat_lt; omega)
          have hc2 : ∃ v, wr.cell? ⟨d, p, none⟩ = some v := ⟨_, by rw [hy.out.bl.cell, byts_at _ _ (by rw [tl_length]; exact hp8)]⟩
          obtain ⟨v2, hc2⟩ := hc2
          have hfz := hy.out.bl.frozen p
          have hnx : Hid (Pd w (wr.setCell ⟨d, p, none⟩ (.int .u8 ((UInt8.ofNat (X / 256 ^ j)).toNat : Int))) (.slice ao n cap) d MM (tl X (j + 1))) := by
            have := hy.out.set p (UInt8.ofNat (X / 256 ^ j))
            rw [← hp] at this ⊢
            exact this
          have hwv : IntKind.u64.wrap (nq X (j + 1)) = nq X (j + 1) := by
            have h1 := nq_nonneg X (j + 1)
            have h2 := nq_lt X (j + 1) hX9.out
            rw [IntKind.wrap_u64]; omega
          generalize UInt8.ofNat (X / 256 ^ j) = u at *
          generalize nq X j = V0 at *
          obtain ⟨V1, HV1⟩ : ∃ V1, Lk (nq X (j + 1)) V1 := ⟨_, ⟨rfl⟩⟩
          rw [HV1.h] at hq hwv
          have HPZ : Lk (7 - (j : Int)) (p : Int) := ⟨hpz⟩
          rw [hpz] at hz0 ⊢
          have hj0 : Hid (j < 8) := hide hj8
          clear hp hpz hj hj8
          go_wp2
          go_roundw
          case rel => exact ⟨j + 1, by have := hj0.out; omega, by rw [← HPZ.h]; go_num, by rw [HV1.h], hnx⟩
          case measure => simp [intOf]
        · obtain rfl : j = 8 := by omega
          rw [tl8] at hy
          obtain ⟨t0, t1, t2, t3, t4, t5, t6, t7, hT⟩ : ∃ t0 t1 t2 t3 t4 t5 t6 t7, be8 X = [t0, t1, t2, t3, t4, t5, t6, t7] := ⟨_, _, _, _, _, _, _, _, rfl⟩
          have HFIN : Lk (MM ++ [t0, t1, t2, t3, t4, t5, t6, t7]) (M ++ padOf nM) := ⟨by
            rw [← hT, ← HMM.h, HX.h, Hz.h]
            unfold padOf
            rw [List.append_assoc]⟩
          rw [hT] at hy
          have HLN : Lk (MM ++ [t0, t1, t2, t3, t4, t5, t6, t7]).length (nM + (padOf nM).length) := ⟨by rw [HFIN.h, List.length_append, ← HnM.h]⟩
          have HLN8 : Lk (MM ++ [t0, t1, t2, t3, t4, t5, t6, t7]).length (n + 8) := ⟨by rw [List.length_append, hln.out]; rfl⟩
          clear hT
          have c0 := hy.out.bl.cell 0
          have c1 := hy.out.bl.cell 1
          have c2 := hy.out.bl.cell 2
          have c3 := hy.out.bl.cell 3
          have c4 := hy.out.bl.cell 4
          have c5 := hy.out.bl.cell 5
          have c6 := hy.out.bl.cell 6
          have c7 := hy.out.bl.cell 7
          simp only [List.map_cons, List.map_nil, List.getElem?_cons_zero, List.getElem?_cons_succ, byt] at c0 c1 c2 c3 c4 c5 c6 c7
          generalize nq X 8 = V8
          rw [show (7 : Int) - ((8 : Nat) : Int) = -1 from rfl]
          go_wp2_with (refine wpList_app rfl (.tmp 34) (.tmp 51) rfl w.heap.size (.slice ao n cap) MM rfl (hy.out.ow.below (below_new wr _)) _ [t0, t1, t2, t3, t4, t5, t6, t7] rfl (has_news wr [t0, t1, t2, t3, t4, t5, t6, t7]) (by rw [hln.out]; have := hn9.out; simp; omega) (Nat.le_trans hy.out.be.size (below_new wr _).size) ?_; intro v5 w5 ho5 hg5; obtain ⟨a5, c5', rfl⟩ := ho5.slice; rw [HLN8.h] at ho5 ⊢; have O5 := hide ho5; have B5 : Hid (Below w.heap.size w w5) := (hy.out.be.trans ((below_new wr _).mono hy.out.be.size)).grown hg5 (Nat.le_trans hy.out.be.size (below_new wr _).size) hy.out.ow.ownBlock; clear ho5 hg5)
          go_ret
          have e : n + 8 = nM + (padOf nM).length := by rw [← HLN8.h, HLN.h]
          exact ⟨a5, c5', by rw [e]; rfl, by rw [← e, ← HFIN.h]; exact O5.out, B5.out⟩
theorem at_is (v : Value) (B K : List UInt8) (i : Nat) (hK : blk B i = K) (w : World) (hv : Has w v B) (hi : 64 * i + 64 ≤ B.length) (hl : B.length ≤ 1152921504606846976) :
    Calls Tryd.prog 94 #[v, .int .i64 (i : Int)] w fun e w' => e = .returned (.agg (K.map byt).toArray) ∧ Below w.heap.size w w' := by
  subst hK
  exact at_any v B i w hv hi hl
theorem block_is (s : List (BitVec 32)) (b : List UInt8) (S : List (BitVec 32)) (hS : comp s b = S) (hs : s.length = 8) (hb : b.length = 64) (w : World) (hk : Rst w) :
    Calls Tryd.prog 93 #[.agg (wvs s).toArray, .agg (b.map byt).toArray] w fun e w' => e = .returned (.agg (wvs S).toArray) ∧ Below w.heap.size w w' := by
  subst hS
  exact rblock_any s hs b hb w hk
theorem rbytes_is (s : List (BitVec 32)) (D : List UInt8) (hD : digOf s = D) (hs : s.length = 8) (w : World) : Calls Tryd.prog 95 #[.agg (wvs s).toArray] w fun e w' => e = .returned (.agg (D.map byt).toArray) ∧ Below w.heap.size w w' := by
  subst hD
  exact rbytes_any s hs w

/-- The state of the document's 'Sum' at d, beside the padded bytes and the result. -/
structure Rs (w x : World) (d : Nat) (S : List (BitVec 32)) (PM : List UInt8) (v : Value) : Prop where
  re : Blk x w.heap.size (z32.map byt) 22
  st : Blk x d (wvs S) 117
  ha : Has x v PM
  be : Below w.heap.size w x
  ld : w.heap.size < d
  ne : PM = [] ∨ v.ownBlock ≠ some d
theorem Rs.below {w x y : World} {d : Nat} {S : List (BitVec 32)} {PM : List UInt8} {v : Value} (h : Rs w x d S PM v) (hb : Below x.heap.size x y) : Rs w y d S PM v :=
  ⟨h.re.below hb h.re.lt, h.st.below hb h.st.lt, h.ha.below hb, h.be.trans (hb.mono h.be.size), h.ld, h.ne⟩
theorem Rs.rg {w x : World} {d : Nat} {S : List (BitVec 32)} {PM : List UInt8} {v : Value} (h : Rs w x d S PM v) : x.rangeAt d 0 (wvs S) := fun j v hv => by
  rw [Nat.zero_add, h.st.cell]; exact hv
theorem Has.fx2 {S : Nat → Prop} {w w' : World} {v : Value} {bs : List UInt8} (h : Has w v bs) (hf : Fx S w w') (hd : bs = [] ∨ ∀ k, v.ownBlock = some k → ¬ S k) : Has w' v bs := by
  rcases hd with rfl | hd
  · rcases h with h | ⟨ad, cap, rfl, h2, h3⟩
    · exact .inl h
    · exact .inr ⟨ad, cap, rfl, h2, fun i u hu => by simp at hu⟩
  · exact h.fx hf hd
theorem Rs.put {w x : World} {d : Nat} {S : List (BitVec 32)} {PM : List UInt8} {v : Value} (h : Rs w x d S PM v) (T : List (BitVec 32)) (ht : (wvs T).length = (wvs S).length) : Rs w (x.setCells d 0 (wvs T)) d T PM v := by
  have hf : Fx (One d) x (x.setCells d 0 (wvs T)) := Fx.setCells (S := One d) d rfl _ _ _
  refine ⟨h.re.fx hf (fun e : w.heap.size = d => by have := h.ld; omega), h.st.all _ ht, h.ha.fx2 hf ?_, h.be.trans (hf.below (fun k hk (e : k = d) => by have := h.ld; omega) h.be.size), h.ld, h.ne⟩
  rcases h.ne with e | e
  · exact .inl e
  · exact .inr (fun k hk (q : k = d) => e (by rw [hk, q]))

set_option maxHeartbeats 400000 in
set_option maxRecDepth 100000 in
theorem refsum_any (v : Value) (M : List UInt8) (w : World) (hv : Has w v M) (hM : M.length ≤ 100000000000000) (hR : Rst w) (hB : Bst w) :
    Calls Tryd.prog 89 #[v] w fun e w' => e = .returned (.agg ((sumOf M).map byt).toArray) ∧ Below w.heap.size w w' := by
  have UM := hide hv
  have HR := hide hR
  have HB := hide hB
  have HML := hide hM
  obtain ⟨D, hD⟩ : ∃ D, sumOf M = D := ⟨_, rfl⟩
  have HD : Lk (sumOf M) D := ⟨hD⟩
  have DL : Lk D.length 32 := ⟨by rw [← hD]; exact sumOf_length M⟩
  rw [hD]
  have i41 := info41 D DL.h
  clear hv hR hB hM hD
  go_enter Tryd.func89, Tryd.ntmps89
  go_wp2_with (first
    | (refine wpList_newAt rfl 22 rfl (z32.map byt) zero41 w.heap.size rfl ?_)
    | fail)
  have B0 : Hid (Below w.heap.size w (w.alloc (.cells (z32.map byt).toArray 22))) := below_new w _
  have R0 : Hid (Blk (w.alloc (.cells (z32.map byt).toArray 22)) w.heap.size (z32.map byt) 22) := Blk.new w _ _
  generalize w.alloc (.cells (z32.map byt).toArray 22) = w0 at B0 R0 ⊢
  refine (padded_any v M w0 (UM.out.below B0.out) HML.out).mono ?_
  rintro e w1 ⟨ap, cp, rfl, ho1, hb1⟩
  obtain ⟨PM, hPM⟩ : ∃ PM, M ++ padOf M.length = PM := ⟨_, rfl⟩
  obtain ⟨nP, hnP⟩ : ∃ n, M.length + (padOf M.length).length = n := ⟨_, rfl⟩
  have PL : Lk PM.length nP := ⟨by rw [← hPM, ← hnP, List.length_append]⟩
  have hp64 : ∃ q, nP = 64 * q := ⟨nP / 64, by have := padOf_length M.length; omega⟩
  have HnP : Hid (nP ≤ 100000000000200) := hide (by have := padOf_length M.length; have := HML.out; omega)
  rw [hPM, hnP] at ho1
  rw [hnP]
  obtain ⟨q, hq⟩ := hp64
  have HDD : Lk (digOf (stN PM q)) D := ⟨by
    rw [← HD.h]
    unfold sumOf stt
    rw [hPM, PL.h, hq, Nat.mul_div_cancel_left q (by decide)]⟩
  have HQ : Lk nP (64 * q) := ⟨hq⟩
  have hqb : q ≤ 10000000000000 := by have := HnP.out; omega
  clear hq
  have HP1 : Hid (Has w1 (.slice ap nP cp) PM) := hide ho1.has
  have HNE : Hid (PM = [] ∨ ∀ j, (Value.slice ap nP cp).ownBlock = some j → j < w1.heap.size) := hide (.inr (fun j hj => by
    obtain ⟨_, h | ⟨g, cq, cur, hv, hg, hh, _⟩⟩ := ho1
    · rw [h.1] at hj; cases hj
    · rw [hv] at hj
      have hlt : g < w1.heap.size := Blk.lt (cs := cur.toList) (t := 5) (by unfold Blk; simpa using hh)
      simp [Value.ownBlock] at hj
      omega))
  have B1 : Hid (Below w.heap.size w w1) := B0.out.trans (hb1.mono B0.out.size)
  have R1 : Hid (Blk w1 w.heap.size (z32.map byt) 22) := R0.out.below hb1 R0.out.lt
  clear ho1 hb1 hPM hnP
  go_wp2_with fail
  refine (rbegin_any w1 (HB.out.below B1.out HB.out.lt)).mono ?_
  rintro e w2 ⟨rfl, hb2⟩
  have X3 : Hid (Rs w ((w2.alloc (.cells (wvs z8).toArray 117)).setRow w2.heap.size (wvs iv).toArray) w2.heap.size (stN PM 0) PM (.slice ap nP cp)) := by
    have s2 := hb2.size
    have l1 := R1.out.lt
    have B2 : Below w.heap.size w w2 := B1.out.trans (hb2.mono B1.out.size)
    have bel : Below w2.heap.size w2 ((w2.alloc (.cells (wvs z8).toArray 117)).setRow w2.heap.size (wvs iv).toArray) := below_setRow (below_new w2 _) _ _ (Nat.le_refl _)
    refine ⟨((R1.out.below hb2 l1).alloc _).setRowOther _ _ (by omega), (Blk.new w2 (wvs z8) 117).setRow (wvs iv), (HP1.out.below hb2).below bel, B2.trans (bel.mono B2.size), by omega, ?_⟩
    rcases HNE.out with e | e
    · exact .inl e
    · exact .inr (fun h => by have := e _ h; omega)
  clear hb2 HP1 HNE R1 B1
  go_wp2_with (first
    | (refine wpList_newAt rfl 117 rfl (wvs z8) zero39 w2.heap.size rfl ?_)
    | (refine wpList_store_row rfl 117 (.tmp 4) (.tmp 8) rfl w2.heap.size (wvs iv).toArray rfl rfl 117 (wvs z8).toArray (Blk.new w2 _ _) (info39 iv iv_length) rfl (wvs_one _) ?_; generalize (w2.alloc (.cells (wvs z8).toArray 117)).setRow w2.heap.size (wvs iv).toArray = w3 at X3 ⊢; generalize w2.heap.size = d at X3 ⊢)
    | fail)
  go_loopw [5] (fun i wr => ∃ k : Nat, k ≤ q ∧ i = .int .i64 (k : Int) ∧ Hid (Rs w wr d (stN PM k) PM (.slice ap nP cp))) (fun i _ => q - (intOf i).toNat)
  case atStart => exact ⟨0, by omega, rfl, X3⟩
  case round =>
    obtain ⟨k, hk, rfl, hx⟩ := hrel
    have hqz : ((nP : Int)).tdiv 64 = (q : Int) := by rw [Int.tdiv_eq_ediv_of_nonneg (by omega)]; have := HQ.h; omega
    have hqe : (nP : Int) / 64 = (q : Int) := by have := HQ.h; omega
    by_cases hlt : k < q
    · have hlz : (k : Int) < (q : Int) := by omega
      go_upto_region 6 with fail
      obtain ⟨SK, hSK⟩ : ∃ S, stN PM k = S := ⟨_, rfl⟩
      obtain ⟨BK, hBK⟩ : ∃ B, blk PM k = B := ⟨_, rfl⟩
      obtain ⟨SN, hSN⟩ : ∃ S, comp SK BK = S := ⟨_, rfl⟩
      have HSS : Lk (stN PM (k + 1)) SN := ⟨by rw [← hSN, ← hSK, ← hBK]; rfl⟩
      have SL : Lk SK.length 8 := ⟨by rw [← hSK]; exact stN_length PM k⟩
      have BL : Lk BK.length 64 := ⟨by rw [← hBK]; unfold blk; rw [List.length_take, List.length_drop, PL.h]; have := HQ.h; omega⟩
      have SNL : Lk SN.length 8 := ⟨by rw [← hSN, comp_length]; exact SL.h⟩
      have HBK : Lk (blk PM k) BK := ⟨hBK⟩
      have HSN : Lk (comp SK BK) SN := ⟨hSN⟩
      rw [hSK] at hx
      clear hSK hBK hSN
      have h34l : (Tryd.prog.info? 117).map (·.size) = some (wvs SK).length := by rw [wvs_length, SL.h]; kernel_rfl
      refine wp_region_noPanic ?_; refine wp_region_any (by kernel_rfl) ?_
      have Rwz : Rs w { wr with drawn := wr.drawn + 1 } d SK PM (.slice ap nP cp) := hx.out.below (Below.refl _ _).drew
      generalize { wr with drawn := wr.drawn + 1 } = wz at Rwz ⊢
      refine take_any (i := 1) rfl rfl (.move (.tmp 3)) rfl 17 rfl (v := (.slice ap nP cp)) (by kernel_rfl) (by kernel_rfl) (by kernel_rfl) (fun _ _ _ h => h) (fun o' ho w => by go_simp) ?_
      simp only [Act.put, List.setIfInBounds_toArray, List.set_cons_zero, List.set_cons_succ]
      refine take_any (i := 2) rfl rfl (.move (.tmp 5)) rfl 18 rfl (v := (.int .i64 (k : Int))) (by kernel_rfl) (by kernel_rfl) (by kernel_rfl) (fun _ _ _ h => h) (fun o' ho w => by go_simp) ?_
      simp only [Act.put, List.setIfInBounds_toArray, List.set_cons_zero, List.set_cons_succ]
      refine either (i := 0) (j := 3) (by kernel_rfl) ?_ ?_
      · skip
        refine op_load rfl rfl 16 rfl 117 (.tmp 4) rfl d 0 rfl (wvs SK) _ (Rwz.rg) Tryd.underlying117 rfl h34l ?_
        simp only [Act.put, List.setIfInBounds_toArray, List.set_cons_zero, List.set_cons_succ]
        refine only_one (i := 3) (by kernel_rfl) ?_; refine op_call (R := fun v wx => v = .agg (BK.map byt).toArray ∧ Rs w wx d SK PM (.slice ap nP cp)) rfl rfl (.call { callee := .value (.func 94), args := #[.tmp 17, .tmp 18], argTypes := #[40, 3] }) rfl 19 rfl 94 #[.slice ap nP cp, .int .i64 (k : Int)] (fun o' ho => by go_simp) ((at_is (.slice ap nP cp) PM BK k HBK.h wz Rwz.ha (by rw [PL.h]; have := HQ.h; omega) (by rw [PL.h]; have := HnP.out; omega)).mono fun e wx ⟨h1, h2⟩ => ⟨_, h1, rfl, Rwz.below h2⟩) ?_
        rintro v x1 ⟨rfl, Rx1⟩
        simp only [Act.put, List.setIfInBounds_toArray, List.set_cons_zero, List.set_cons_succ]
        refine only_one (i := 4) (by kernel_rfl) ?_; refine op_call (R := fun v wx => v = .agg (wvs SN).toArray ∧ Rs w wx d SK PM (.slice ap nP cp)) rfl rfl (.call { callee := .value (.func 93), args := #[.tmp 16, .tmp 19], argTypes := #[117, 31] }) rfl 20 rfl 93 #[.agg (wvs SK).toArray, .agg (BK.map byt).toArray] (fun o' ho => by go_simp) ((block_is SK BK SN HSN.h SL.h BL.h x1 (HR.out.below Rx1.be HR.out.lt)).mono fun e wx ⟨h1, h2⟩ => ⟨_, h1, rfl, Rx1.below h2⟩) ?_
        rintro v x2 ⟨rfl, Rx2⟩
        simp only [Act.put, List.setIfInBounds_toArray, List.set_cons_zero, List.set_cons_succ]
        refine only_one (i := 5) (by kernel_rfl) ?_; refine op_store rfl rfl rfl 117 (.tmp 4) (.tmp 20) rfl d 0 (wvs SN).toArray rfl rfl (Rx2.st.there _ (by simp [wvs_length, SL.h, SNL.h])) (info39 SN SNL.h) (wvs_one _) ?_
        have F : Rs w (x2.setCells d 0 (wvs SN)) d SN PM (.slice ap nP cp) := Rx2.put SN (by rw [wvs_length, wvs_length, SL.h, SNL.h])
        refine wpAny_done (by kernel_rfl) (NoPanic.normal ?_) _
        have HF := hide F
        clear F
        generalize x2.setCells d 0 (wvs SN) = wf at HF ⊢
        go_wp2
        go_roundw
        case rel => exact ⟨k + 1, by omega, by go_num, by rw [HSS.h]; exact HF⟩
        case measure => simp [intOf]; omega
      · skip
        refine op_call (R := fun v wx => v = .agg (BK.map byt).toArray ∧ Rs w wx d SK PM (.slice ap nP cp)) rfl rfl (.call { callee := .value (.func 94), args := #[.tmp 17, .tmp 18], argTypes := #[40, 3] }) rfl 19 rfl 94 #[.slice ap nP cp, .int .i64 (k : Int)] (fun o' ho => by go_simp) ((at_is (.slice ap nP cp) PM BK k HBK.h wz Rwz.ha (by rw [PL.h]; have := HQ.h; omega) (by rw [PL.h]; have := HnP.out; omega)).mono fun e wx ⟨h1, h2⟩ => ⟨_, h1, rfl, Rwz.below h2⟩) ?_
        rintro v x1 ⟨rfl, Rx1⟩
        simp only [Act.put, List.setIfInBounds_toArray, List.set_cons_zero, List.set_cons_succ]
        refine only_one (i := 0) (by kernel_rfl) ?_; refine op_load rfl rfl 16 rfl 117 (.tmp 4) rfl d 0 rfl (wvs SK) _ (Rx1.rg) Tryd.underlying117 rfl h34l ?_
        simp only [Act.put, List.setIfInBounds_toArray, List.set_cons_zero, List.set_cons_succ]
        refine only_one (i := 4) (by kernel_rfl) ?_; refine op_call (R := fun v wx => v = .agg (wvs SN).toArray ∧ Rs w wx d SK PM (.slice ap nP cp)) rfl rfl (.call { callee := .value (.func 93), args := #[.tmp 16, .tmp 19], argTypes := #[117, 31] }) rfl 20 rfl 93 #[.agg (wvs SK).toArray, .agg (BK.map byt).toArray] (fun o' ho => by go_simp) ((block_is SK BK SN HSN.h SL.h BL.h x1 (HR.out.below Rx1.be HR.out.lt)).mono fun e wx ⟨h1, h2⟩ => ⟨_, h1, rfl, Rx1.below h2⟩) ?_
        rintro v x2 ⟨rfl, Rx2⟩
        simp only [Act.put, List.setIfInBounds_toArray, List.set_cons_zero, List.set_cons_succ]
        refine only_one (i := 5) (by kernel_rfl) ?_; refine op_store rfl rfl rfl 117 (.tmp 4) (.tmp 20) rfl d 0 (wvs SN).toArray rfl rfl (Rx2.st.there _ (by simp [wvs_length, SL.h, SNL.h])) (info39 SN SNL.h) (wvs_one _) ?_
        have F : Rs w (x2.setCells d 0 (wvs SN)) d SN PM (.slice ap nP cp) := Rx2.put SN (by rw [wvs_length, wvs_length, SL.h, SNL.h])
        refine wpAny_done (by kernel_rfl) (NoPanic.normal ?_) _
        have HF := hide F
        clear F
        generalize x2.setCells d 0 (wvs SN) = wf at HF ⊢
        go_wp2
        go_roundw
        case rel => exact ⟨k + 1, by omega, by go_num, by rw [HSS.h]; exact HF⟩
        case measure => simp [intOf]; omega
    · obtain rfl : k = q := by omega
      have HX : Lk (stN PM k) (stN PM k) := ⟨rfl⟩
      obtain ⟨SK, hSK⟩ : ∃ S, stN PM k = S := ⟨_, rfl⟩
      rw [hSK] at hx HDD
      have SL : Lk SK.length 8 := ⟨by rw [← hSK]; exact stN_length PM k⟩
      clear hSK HX
      have h34 := info39 SK SL.h
      go_wp2_with (first
        | (refine wpList_load_row rfl 117 (.tmp 4) rfl d rfl 117 (wvs SK).toArray (0, 0) _ hx.out.st Tryd.underlying117 rfl h34 ?_)
        | (go_at_call 95; refine (rbytes_is SK D HDD.h SL.h _).mono ?_; rintro e w8 ⟨rfl, hb8⟩; have X8 := hide (hx.out.below hb8); clear hb8)
        | (refine wpList_store_row rfl 22 (.tmp 2) (.tmp 22) rfl w.heap.size (D.map byt).toArray rfl rfl 22 (z32.map byt).toArray X8.out.re i41 (by rw [List.size_toArray, List.size_toArray, List.length_map, List.length_map, DL.h]; rfl) (byts_one _) ?_)
        | fail)
      refine bodyPost_ret (v := .agg (D.map byt).toArray) ?_ rfl ⟨rfl, below_setRow X8.out.be _ _ (Nat.le_refl _)⟩
      exact results_cell_row Tryd.results89 _ _ w.heap.size 22 _ (0, 0) _ rfl (X8.out.re.setRow _) Tryd.underlying22 rfl i41
theorem idx24 (ad : Addr) (n cap m : Nat) (h : m < n) (W : World) : (Instr.indexAt 95 (.slice (some ad) n cap) (.int .i64 (m : Int))).run Tryd.prog W = .ok (.pointer (some (ad.add m))) W := by
  have hm : (m : Int) < (n : Int) := by omega
  go_simp

set_option maxHeartbeats 400000 in
set_option maxRecDepth 100000 in
/-- The document's 'Joined'. -/
theorem joined_any (v : Value) (ps : List (Value × List UInt8)) (M : List UInt8) (hM : ps.flatMap (·.2) = M) (w : World) (hP : Parts w v ps) (hn : M.length ≤ 100000000) (hl : ps.length ≤ 1000) :
    Calls Tryd.prog 48 #[v] w fun e w' => ∃ u, e = .returned u ∧ Own w' w.heap.size u M ∧ Below w.heap.size w w' := by
  obtain ⟨ao, cap, rfl, hcell⟩ := hP.shape
  subst hM
  have HC := hide hcell
  have HN := hide hn
  clear hcell hn hP
  obtain ⟨M, hM⟩ : ∃ M, M = ps.flatMap (·.2) := ⟨_, rfl⟩
  rw [← hM]
  have HM := hide hM
  clear hM
  go_enter Tryd.func48, Tryd.ntmps48
  go_wp2
  go_loopw [3, 4] (fun t i wr => ∃ k : Nat, k ≤ ps.length ∧ i = .int .i64 k ∧ Hid (Own wr w.heap.size t ((ps.take k).flatMap (·.2))) ∧ Hid (Below w.heap.size w wr)) (fun _ i _ => ps.length - (intOf i).toNat)
  case atStart => exact ⟨0, by omega, rfl, hide (Own.nil _ _), hide (Below.refl _ _)⟩
  case round =>
    obtain ⟨k, hk, rfl, hy, hf⟩ := hrel
    by_cases hlt : k < ps.length
    · have hlz : (k : Int) < (ps.length : Int) := by omega
      obtain ⟨ad, rfl, hc, hh⟩ := HC.out k ps[k] (List.getElem?_eq_getElem hlt)
      have hc' : wr.cell? (ad.add k) = some ps[k].1 := (hf.out.cell (cell_lt hc)).trans hc
      have hi := fun W => idx24 ad ps.length cap k hlt W
      have HHAS : Hid (Has wr ps[k].1 ps[k].2) := hh.below (by exact ⟨hf.out.os, hf.out.tape, hf.out.output, hf.out.size, hf.out.block⟩)
      have HF := hide (flat_take ps k hlt)
      have HLn : Hid (((ps.take k).flatMap (·.2)).length + ps[k].2.length ≤ 150000000000000) := by
        have e1 := flat_take ps k hlt
        have e2 := flat_len ps (k + 1)
        have := HN.out
        rw [e1, List.length_append] at e2
        show _ ≤ _
        omega
      clear hc hh
      generalize ps[k].2 = py at *
      generalize ps[k].1 = pv at *
      go_wp2_with (refine wpList_app rfl (.tmp 11) (.tmp 15) rfl w.heap.size u3 ((ps.take k).flatMap (·.2)) rfl hy.out pv py rfl HHAS.out HLn.out hf.out.size ?_; intro v' w' ho hg; have HO := hide ho; have HB : Hid (Below w.heap.size w w') := hf.out.grown hg hf.out.size hy.out.ownBlock; clear ho hg)
      go_roundw
      case rel => exact ⟨k + 1, by omega, by go_num, by rw [HF.out]; exact HO, HB⟩
      case measure => simp [intOf]; omega
    · obtain rfl : k = ps.length := by omega
      have hz : ¬ ((ps.length : Int) < (ps.length : Int)) := by omega
      have hy' := hy.out
      rw [List.take_length, ← HM.out] at hy'
      have HY := hide hy'
      clear hy hy'
      go_wp2
      go_ret
      exact ⟨_, rfl, HY.out, hf.out⟩

theorem joined_at (W : World) (n : Nat) (hW : n = W.heap.size) (ps : List (Value × List UInt8)) (M : List UInt8) (hM : ps.flatMap (·.2) = M) (h : ∀ p ∈ ps, Has W p.1 p.2) (hm : M.length ≤ 100000000) (hl : ps.length ≤ 1000) :
    Calls Tryd.prog 48 #[.slice (some ⟨n, 0, none⟩) ps.length ps.length] (W.alloc (.cells (ps.map (·.1)).toArray 40)) fun e w' => ∃ u, e = .returned u ∧ Has w' u M ∧ Below W.heap.size W w' := by
  subst hW
  exact (joined_any _ ps M hM _ (parts_new W ps h) hm hl).mono fun e w' ⟨u, h1, h2, h3⟩ => ⟨u, h1, h2.has, (below_new W _).trans (h3.mono (below_new W _).size)⟩

/-- What the document's 'turned' has written behind k bytes. -/
def tnk (x : UInt8) (KB : List UInt8) (k : Nat) : List UInt8 := (xr x KB).take k ++ List.replicate (64 - k) 0
theorem tnk_length (x : UInt8) (KB : List UInt8) (h : KB.length = 64) (k : Nat) (hk : k ≤ 64) : (tnk x KB k).length = 64 := by
  unfold tnk xr
  rw [List.length_append, List.length_take, List.length_map, List.length_replicate]; omega
theorem tnk_all (x : UInt8) (KB : List UInt8) (h : KB.length = 64) : tnk x KB 64 = xr x KB := by
  unfold tnk xr
  rw [List.take_of_length_le (by rw [List.length_map]; omega)]; simp
theorem tnk_succ (x : UInt8) (KB : List UInt8) (h : KB.length = 64) (k : Nat) (hk : k < 64) : (tnk x KB k).set k (KB.getD k 0 ^^^ x) = tnk x KB (k + 1) := by
  have hl : (xr x KB).length = 64 := by unfold xr; rw [List.length_map]; exact h
  unfold tnk
  rw [List.set_append_right _ _ (by rw [List.length_take]; omega), List.length_take, hl, Nat.min_eq_left (by omega), Nat.sub_self, show 64 - k = (64 - (k + 1)) + 1 by omega, List.replicate_succ, List.set_cons_zero, List.take_succ_eq_append_getElem (by omega)]
  simp only [List.append_assoc, List.cons_append, List.nil_append]
  congr 2
  unfold xr
  rw [List.getElem_map, List.getD_eq_getElem?_getD, List.getElem?_eq_getElem (by omega)]
  rfl
/-- The bits, one behind the other. -/
theorem bit_step : ((List.range 256).all fun u => (List.range 8).all fun j => [54, 92].all fun x => decide ((u ^^^ x) % 2 ^ (j + 1) = if u / 2 ^ j % 2 = x / 2 ^ j % 2 then (u ^^^ x) % 2 ^ j else (u ^^^ x) % 2 ^ j + 2 ^ j)) = true := by decide +kernel
theorem bit_at (u j x : Nat) (hu : u < 256) (hj : j < 8) (hx : x = 54 ∨ x = 92) : (u ^^^ x) % 2 ^ (j + 1) = if u / 2 ^ j % 2 = x / 2 ^ j % 2 then (u ^^^ x) % 2 ^ j else (u ^^^ x) % 2 ^ j + 2 ^ j := by
  have h1 := List.all_eq_true.1 bit_step u (List.mem_range.2 hu)
  have h2 := List.all_eq_true.1 h1 j (List.mem_range.2 hj)
  have h3 := List.all_eq_true.1 h2 x (by rcases hx with rfl | rfl <;> simp)
  exact of_decide_eq_true h3
end Go.Proofs.YtoceepmehmacbaaDoor
