import Derived.Test.YtdkgngmbohdmdaaDoorLaw
namespace Go.Proofs.YtdkgngmbohdmdaaDoor
open Go.RowKit

theorem sum_new (W : World) (ps : List (Value × List UInt8)) (M : List UInt8) (h : ∀ p ∈ ps, Has W p.1 p.2) (hK : Kst W) (hM : ps.flatMap (·.2) = M) (hn : M.length ≤ 1152921504606846976) (hl : ps.length ≤ 1000) :
    Calls Tryd.prog 9 #[.slice (some ⟨W.heap.size, 0, none⟩) ps.length ps.length] (W.alloc (.cells (ps.map (·.1)).toArray 26)) fun e w' => e = .returned (.agg ((sumOf M).map byt).toArray) ∧ Below W.heap.size W w' := by
  subst hM
  refine (sum_any _ ps _ (parts_new' W ps h) (hK.below (below_new W _) hK.lt) hn (by omega)).mono fun e w' ⟨h1, h2⟩ => ⟨h1, (below_new W _).trans (h2.mono (below_new W _).size)⟩

/-- Two hashes of the call's own. -/
structure Two (w x : World) (g k : Nat) (mg mk : List UInt8) : Prop where
  hg : HAt x g mg
  hk : HAt x k mk
  lg : w.heap.size ≤ g
  lk : w.heap.size ≤ k
  ne : g ≠ k
  be : Below w.heap.size w x
theorem Two.below {w x y : World} {g k : Nat} {mg mk : List UInt8} (h : Two w x g k mg mk) (hb : Below x.heap.size x y) : Two w y g k mg mk :=
  ⟨Blk.below h.hg hb (Blk.lt h.hg), Blk.below h.hk hb (Blk.lt h.hk), h.lg, h.lk, h.ne, h.be.trans (hb.mono h.be.size)⟩
theorem Two.putG {w x y : World} {g k : Nat} {mg mk m : List UInt8} (h : Two w x g k mg mk) (hh : HAt y g m) (hf : Fx (One g) x y) : Two w y g k m mk :=
  ⟨hh, Blk.fx h.hk hf (fun e => h.ne e.symm), h.lg, h.lk, h.ne, h.be.trans (hf.below (fun j hj (e : j = g) => by have := h.lg; omega) h.be.size)⟩
theorem Two.putK {w x y : World} {g k : Nat} {mg mk m : List UInt8} (h : Two w x g k mg mk) (hh : HAt y k m) (hf : Fx (One k) x y) : Two w y g k mg m :=
  ⟨Blk.fx h.hg hf (fun e => h.ne e), hh, h.lg, h.lk, h.ne, h.be.trans (hf.below (fun j hj (e : j = k) => by have := h.lk; omega) h.be.size)⟩

theorem lens_two (A B : List UInt8) : ((A ++ B).length : Int) = (A.length : Int) + (B.length : Int) := by rw [List.length_append]; omega
theorem has_bel {w x : World} {v : Value} {bs : List UInt8} (h : Has w v bs) (hb : Below w.heap.size w x) : Has x v bs := h.below hb

set_option maxHeartbeats 4000000 in
set_option maxRecDepth 100000 in
theorem apart_any (va vb vc : Value) (la lb lc : List UInt8) (w : World) (ha : Has w va la) (hb : Has w vb lb) (hc : Has w vc lc) (na : la.length ≤ 9223372036854775807) (nb : lb.length ≤ 9223372036854775807) (nc : lc.length ≤ 9223372036854775807) (hK : Kst w) :
    Calls Tryd.prog 5 #[va, vb, vc] w fun e w' => e = .returned (.bool true) ∧ Below w.heap.size w w' := by
  have HA := hide ha
  have HB := hide hb
  have HC := hide hc
  have NA := hide na
  have NB := hide nb
  have NC := hide nc
  have HK := hide hK
  clear ha hb hc na nb nc hK
  go_enter Tryd.func5, Tryd.ntmps5
  go_wp2_with fail
  refine (moves_any _ HK.out).mono ?_
  rintro e w1 ⟨rfl, hb1⟩
  have B1 := hide hb1
  clear hb1
  go_wp2_with fail
  refine (short_any va la 500 w1 (HA.out.below B1.out) (by decide) NA.out).mono ?_
  rintro e w' ⟨⟨ua, rfl, hua⟩, rfl⟩
  have UA := hide hua
  clear hua
  go_wp2_with fail
  refine (short_any vb lb 500 w' (HB.out.below B1.out) (by decide) NB.out).mono ?_
  rintro e w' ⟨⟨ub, rfl, hub⟩, rfl⟩
  have UB := hide hub
  clear hub
  go_wp2_with fail
  refine (short_any vc lc 500 w' (HC.out.below B1.out) (by decide) NC.out).mono ?_
  rintro e w' ⟨⟨uc, rfl, huc⟩, rfl⟩
  have UC := hide huc
  clear huc
  have KK : Hid (Kst w') := HK.out.below B1.out HK.out.lt
  obtain ⟨A, hA⟩ : ∃ A, A = la.take 500 := ⟨_, rfl⟩
  obtain ⟨B, hB⟩ : ∃ A, A = lb.take 500 := ⟨_, rfl⟩
  obtain ⟨C, hC⟩ : ∃ A, A = lc.take 500 := ⟨_, rfl⟩
  have LA : Hid (A.length ≤ 500) := by rw [hA]; show _ ≤ _; rw [List.length_take]; omega
  have LB : Hid (B.length ≤ 500) := by rw [hB]; show _ ≤ _; rw [List.length_take]; omega
  have LC : Hid (C.length ≤ 500) := by rw [hC]; show _ ≤ _; rw [List.length_take]; omega
  rw [← hA] at UA
  rw [← hB] at UB
  rw [← hC] at UC
  clear hA hB hC HA HB HC
  go_wp2_with fail
  refine (new_any _).mono ?_
  rintro e w2 ⟨g, rfl, hg2, hh2, hb2⟩
  have HG := hide hg2
  have HH := hide hh2
  have B2 := hide hb2
  clear hg2 hh2 hb2
  go_wp2_with fail
  refine (write_any g [] A ua w2 HH.out (UA.out.below B2.out) (has_lt UA.out g HG.out) (KK.out.below B2.out KK.out.lt) (by have := HG.out; have := KK.out.lt; omega) (by have := LA.out; simp; omega)).mono ?_
  rintro e w3 ⟨rfl, hh3, hf3⟩
  have B3 : Hid (Below w'.heap.size w' w3) := B2.out.trans (hf3.below (fun k hk (e : k = g) => by have := HG.out; omega) B2.out.size)
  have HH3 := hide hh3
  clear hh3 hf3
  go_wp2_with fail
  refine (copy_any g _ w3 HH3.out).mono ?_
  rintro e w4 ⟨k, rfl, hk4, hh4, hb4⟩
  have T4 : Hid (Two w' w4 g k A A) := ⟨Blk.below HH3.out hb4 (Blk.lt HH3.out), hh4, HG.out, Nat.le_trans B3.out.size hk4, by have := Blk.lt HH3.out; omega, B3.out.trans (hb4.mono B3.out.size)⟩
  clear hk4 hh4 hb4
  -- GEN
  obtain ⟨aa, ca, rfl⟩ := UA.out.slice
  obtain ⟨ab, cb, rfl⟩ := UB.out.slice
  obtain ⟨ac, cc, rfl⟩ := UC.out.slice
  have hla := UA.out.len
  have hlb := UB.out.len
  have hlc := UC.out.len
  have hEQ : ∀ (M : List UInt8) (W : World), (Op.equalIn 10000 24 (.agg ((sumOf M).map byt).toArray) (.agg ((sumOf M).map byt).toArray)).run Tryd.prog W = .ok true W := fun M W => eq24 _ (sumOf_length M) W
  have hGD := guard24
  have lA := LA.out
  have lB := LB.out
  have lC := LC.out
  go_wp2_with fail
  refine (write_any g (A) B (Value.slice ab B.length cb) _ T4.out.hg (UB.out.below T4.out.be) (has_lt UB.out g T4.out.lg) (KK.out.below T4.out.be KK.out.lt) (by have := T4.out.lg; have := KK.out.lt; omega) (by have h1 := LA.out; have h2 := LB.out; have h3 := LC.out; simp; omega)).mono ?_
  rintro e x5 ⟨rfl, hh, hf⟩
  have T5 : Hid (Two w' _ g k (A ++ B) (A)) := T4.out.putG hh hf
  clear hh hf
  go_wp2_with fail
  refine (write_any k (A) C (Value.slice ac C.length cc) _ T5.out.hk (UC.out.below T5.out.be) (has_lt UC.out k T5.out.lk) (KK.out.below T5.out.be KK.out.lt) (by have := T5.out.lk; have := KK.out.lt; omega) (by have h1 := LA.out; have h2 := LB.out; have h3 := LC.out; simp; omega)).mono ?_
  rintro e x6 ⟨rfl, hh, hf⟩
  have T6 : Hid (Two w' _ g k (A ++ B) (A ++ C)) := T5.out.putK hh hf
  clear hh hf
  go_wp2_with fail
  refine (hsum_any g (A ++ B) _ T6.out.hg (KK.out.below T6.out.be KK.out.lt) (by have h1 := LA.out; have h2 := LB.out; have h3 := LC.out; simp; omega)).mono ?_
  rintro e x7 ⟨rfl, hb⟩
  have T7 : Hid (Two w' _ g k (A ++ B) (A ++ C)) := T6.out.below hb
  clear hb
  go_wp2_with fail
  refine (sum_new _ [((Value.slice aa A.length ca), A), ((Value.slice ab B.length cb), B)] (A ++ B) (by intro p hp; simp only [List.mem_cons, List.not_mem_nil, or_false] at hp; rcases hp with rfl | rfl <;> first | exact UA.out.below T7.out.be | exact UB.out.below T7.out.be) (KK.out.below T7.out.be KK.out.lt) (by simp) (by have h1 := LA.out; have h2 := LB.out; have h3 := LC.out; simp; omega) (by simp)).mono ?_
  rintro e x8 ⟨rfl, hb⟩
  have T8 : Hid (Two w' _ g k (A ++ B) (A ++ C)) := T7.out.below hb
  clear hb
  go_wp2_with fail
  refine (hsum_any k (A ++ C) _ T8.out.hk (KK.out.below T8.out.be KK.out.lt) (by have h1 := LA.out; have h2 := LB.out; have h3 := LC.out; simp; omega)).mono ?_
  rintro e x9 ⟨rfl, hb⟩
  have T9 : Hid (Two w' _ g k (A ++ B) (A ++ C)) := T8.out.below hb
  clear hb
  go_wp2_with fail
  refine (sum_new _ [((Value.slice aa A.length ca), A), ((Value.slice ac C.length cc), C)] (A ++ C) (by intro p hp; simp only [List.mem_cons, List.not_mem_nil, or_false] at hp; rcases hp with rfl | rfl <;> first | exact UA.out.below T9.out.be | exact UC.out.below T9.out.be) (KK.out.below T9.out.be KK.out.lt) (by simp) (by have h1 := LA.out; have h2 := LB.out; have h3 := LC.out; simp; omega) (by simp)).mono ?_
  rintro e x10 ⟨rfl, hb⟩
  have T10 : Hid (Two w' _ g k (A ++ B) (A ++ C)) := T9.out.below hb
  clear hb
  go_wp2_with fail
  refine (len_any g (A ++ B) _ T10.out.hg).mono ?_
  rintro e x11 ⟨rfl, hx11⟩
  subst hx11
  rw [lens_two]
  have T11 := T10
  go_wp2_with fail
  refine (len_any k (A ++ C) _ T11.out.hk).mono ?_
  rintro e x12 ⟨rfl, hx12⟩
  subst hx12
  rw [lens_two]
  have T12 := T11
  go_wp2_with fail
  refine (wipe_any g (A ++ B) _ T12.out.hg).mono ?_
  rintro e x13 ⟨rfl, hh, hf⟩
  have T13 : Hid (Two w' _ g k ([]) (A ++ C)) := T12.out.putG hh hf
  clear hh hf
  go_wp2_with fail
  refine (write_any k (A ++ C) B (Value.slice ab B.length cb) _ T13.out.hk (UB.out.below T13.out.be) (has_lt UB.out k T13.out.lk) (KK.out.below T13.out.be KK.out.lt) (by have := T13.out.lk; have := KK.out.lt; omega) (by have h1 := LA.out; have h2 := LB.out; have h3 := LC.out; simp; omega)).mono ?_
  rintro e x14 ⟨rfl, hh, hf⟩
  have T14 : Hid (Two w' _ g k ([]) (A ++ C ++ B)) := T13.out.putK hh hf
  clear hh hf
  go_wp2_with fail
  refine (write_any g ([]) C (Value.slice ac C.length cc) _ T14.out.hg (UC.out.below T14.out.be) (has_lt UC.out g T14.out.lg) (KK.out.below T14.out.be KK.out.lt) (by have := T14.out.lg; have := KK.out.lt; omega) (by have h1 := LA.out; have h2 := LB.out; have h3 := LC.out; simp; omega)).mono ?_
  rintro e x15 ⟨rfl, hh, hf⟩
  have T15 : Hid (Two w' _ g k (C) (A ++ C ++ B)) := T14.out.putG hh hf
  clear hh hf
  go_wp2_with fail
  refine (hsum_any g (C) _ T15.out.hg (KK.out.below T15.out.be KK.out.lt) (by have h1 := LA.out; have h2 := LB.out; have h3 := LC.out; simp; omega)).mono ?_
  rintro e x16 ⟨rfl, hb⟩
  have T16 : Hid (Two w' _ g k (C) (A ++ C ++ B)) := T15.out.below hb
  clear hb
  go_wp2_with fail
  refine (sum_new _ [((Value.slice ac C.length cc), C)] (C) (by intro p hp; simp only [List.mem_cons, List.not_mem_nil, or_false] at hp; rcases hp with rfl; exact UC.out.below T16.out.be) (KK.out.below T16.out.be KK.out.lt) (by simp) (by have h1 := LA.out; have h2 := LB.out; have h3 := LC.out; simp; omega) (by simp)).mono ?_
  rintro e x17 ⟨rfl, hb⟩
  have T17 : Hid (Two w' _ g k (C) (A ++ C ++ B)) := T16.out.below hb
  clear hb
  go_wp2_with fail
  refine (len_any g (C) _ T17.out.hg).mono ?_
  rintro e x18 ⟨rfl, hx18⟩
  subst hx18
  have T18 := T17
  go_wp2_with fail
  refine (hsum_any k (A ++ C ++ B) _ T18.out.hk (KK.out.below T18.out.be KK.out.lt) (by have h1 := LA.out; have h2 := LB.out; have h3 := LC.out; simp; omega)).mono ?_
  rintro e x19 ⟨rfl, hb⟩
  have T19 : Hid (Two w' _ g k (C) (A ++ C ++ B)) := T18.out.below hb
  clear hb
  go_wp2_with fail
  refine (sum_new _ [((Value.slice aa A.length ca), A), ((Value.slice ac C.length cc), C), ((Value.slice ab B.length cb), B)] (A ++ C ++ B) (by intro p hp; simp only [List.mem_cons, List.not_mem_nil, or_false] at hp; rcases hp with rfl | rfl | rfl <;> first | exact UA.out.below T19.out.be | exact UC.out.below T19.out.be | exact UB.out.below T19.out.be) (KK.out.below T19.out.be KK.out.lt) (by simp) (by have h1 := LA.out; have h2 := LB.out; have h3 := LC.out; simp; omega) (by simp)).mono ?_
  rintro e x20 ⟨rfl, hb⟩
  have T20 : Hid (Two w' _ g k (C) (A ++ C ++ B)) := T19.out.below hb
  clear hb
  go_wp2_with fail
  refine (new_any _).mono ?_
  rintro e x21 ⟨gn, rfl, hgn, hhn, hb⟩
  have T21 : Hid (Two w' _ g k (C) (A ++ C ++ B)) := T20.out.below hb
  clear hb
  have HN := hide hhn
  clear hhn hgn
  go_wp2_with fail
  refine (len_any gn [] _ HN.out).mono ?_
  rintro e xe ⟨rfl, hxe⟩
  subst hxe
  go_wp2
  go_ret
  exact ⟨rfl, B1.out.trans (T21.out.be.mono B1.out.size)⟩
end Go.Proofs.YtdkgngmbohdmdaaDoor
