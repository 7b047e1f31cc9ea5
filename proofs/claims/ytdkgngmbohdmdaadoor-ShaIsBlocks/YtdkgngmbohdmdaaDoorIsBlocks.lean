import Derived.Test.YtdkgngmbohdmdaaDoorBlocks
import Derived.Test.YtdkgngmbohdmdaaDoorApart
namespace Go.Proofs.YtdkgngmbohdmdaaDoor
open Go.RowKit

theorem own_shape {w : World} {base : Nat} {v : Value} {bs : List UInt8} (h : Own w base v bs) (hn : 0 < bs.length) : ∃ g cap, v = .slice (some ⟨g, 0, none⟩) bs.length cap ∧ base ≤ g ∧ bs.length ≤ cap ∧ g < w.heap.size := by
  obtain ⟨_, ⟨rfl, hz⟩ | ⟨g, cap, cur, rfl, hg, hh, hc, _⟩⟩ := h
  · omega
  · exact ⟨g, cap, rfl, hg, hc, Blk.lt (cs := cur.toList) (t := 5) (by unfold Blk; simpa using hh)⟩

/-- The padded message at gb, the state at sb. -/
structure BS (w x : World) (gb cb sb : Nat) (PB : List UInt8) (st : List (BitVec 32)) : Prop where
  ob : Own x w.heap.size (.slice (some ⟨gb, 0, none⟩) PB.length cb) PB
  ss : Blk x sb (wvs st) 39
  ne : gb ≠ sb
  ls : w.heap.size ≤ sb
  be : Below w.heap.size w x
theorem BS.below {w x y : World} {gb cb sb : Nat} {PB : List UInt8} {st : List (BitVec 32)} (h : BS w x gb cb sb PB st) (hb : Below x.heap.size x y) : BS w y gb cb sb PB st :=
  ⟨h.ob.below hb, h.ss.below hb h.ss.lt, h.ne, h.ls, h.be.trans (hb.mono h.be.size)⟩
theorem BS.rb {w x : World} {gb cb sb : Nat} {PB : List UInt8} {st : List (BitVec 32)} (h : BS w x gb cb sb PB st) (k : Nat) : x.rangeAt gb (64 * k) ((blk PB k).map byt) := fun j v hv => by
  rw [List.getElem?_map, Option.map_eq_some_iff] at hv
  obtain ⟨u, hu, rfl⟩ := hv
  have hj : j < 64 := by
    have := (List.getElem?_eq_some_iff.1 hu).1
    unfold blk at this
    rw [List.length_take] at this
    omega
  unfold blk at hu
  rw [List.getElem?_take_of_lt hj, List.getElem?_drop] at hu
  obtain ⟨ad, cap, hv, _, hc⟩ : ∃ ad cap, Value.slice (some ⟨gb, 0, none⟩) PB.length cb = .slice (some ad) PB.length cap ∧ True ∧ ∀ i u, PB[i]? = some u → x.cell? (ad.add i) = some (byt u) := by
    rcases h.ob.has with ⟨h0, _⟩ | ⟨ad, cap, h1, _, h3⟩
    · cases h0
    · exact ⟨ad, cap, h1, trivial, h3⟩
  cases hv
  have := hc (64 * k + j) u hu
  rwa [add_plain] at this
theorem BS.rs {w x : World} {gb cb sb : Nat} {PB : List UInt8} {st : List (BitVec 32)} (h : BS w x gb cb sb PB st) : x.rangeAt sb 0 (wvs st) := fun j v hv => by
  rw [Nat.zero_add, h.ss.cell]; exact hv
theorem BS.put {w x : World} {gb cb sb : Nat} {PB : List UInt8} {st t : List (BitVec 32)} (h : BS w x gb cb sb PB st) (hl : st.length = 8) (ht : t.length = 8) : BS w (x.setCells sb 0 (wvs t)) gb cb sb PB t := by
  have hf := Fx.setCells (S := One sb) sb rfl (wvs t) 0 x
  have hs := Blk.setCells (wvs t) 0 x (wvs st) h.ss (by rw [wvs_length, wvs_length]; omega)
  rw [List.take_zero, List.nil_append, Nat.zero_add, show (wvs st).drop (wvs t).length = [] from List.drop_of_length_le (by rw [wvs_length, wvs_length]; omega), List.append_nil] at hs
  refine ⟨?_, hs, h.ne, h.ls, h.be.trans (hf.below (fun j hj (e : j = sb) => by have := h.ls; omega) h.be.size)⟩
  obtain ⟨h1, h2 | ⟨g, cap, cur, hv, hg, hh, r⟩⟩ := h.ob
  · cases h2.1
  · cases hv
    refine ⟨h1, .inr ⟨gb, cb, cur, rfl, hg, ?_, r⟩⟩
    rw [hf.block gb (Blk.lt (cs := cur.toList) (t := 5) (by unfold Blk; simpa using hh)) (fun e => h.ne e)]
    exact hh

theorem one_all' {W : World} {v : Value} {bs : List UInt8} (h : Has W v bs) : ∀ p ∈ [(v, bs)], Has W p.1 p.2 := by
  intro p hp
  simp only [List.mem_cons, List.not_mem_nil, or_false] at hp
  subst hp
  exact h

set_option maxHeartbeats 4000000 in
set_option maxRecDepth 100000 in
theorem blocks_any (vm : Value) (lm : List UInt8) (w : World) (hm : Has w vm lm) (nm : lm.length ≤ 9223372036854775807) (hK : Kst w) :
    Calls Tryd.prog 6 #[vm] w fun e w' => e = .returned (.bool true) ∧ Below w.heap.size w w' := by
  have HM := hide hm
  have NM := hide nm
  have HK := hide hK
  clear hm nm hK
  go_enter Tryd.func6, Tryd.ntmps6
  go_wp2_with fail
  refine (moves_any _ HK.out).mono ?_
  rintro e w1 ⟨rfl, hb1⟩
  have B1 := hide hb1
  clear hb1
  go_wp2_with fail
  refine (short_any vm lm 2000 w1 (HM.out.below B1.out) (by decide) NM.out).mono ?_
  rintro e w' ⟨⟨um, rfl, hum⟩, hw'⟩
  subst hw'
  obtain ⟨M, hM⟩ : ∃ M, M = lm.take 2000 := ⟨_, rfl⟩
  rw [← hM] at hum
  have lM : M.length ≤ 2000 := by rw [hM, List.length_take]; omega
  clear hM
  obtain ⟨am, cm, rfl⟩ := hum.slice
  obtain ⟨nM, hnM⟩ : ∃ n, n = M.length := ⟨_, rfl⟩
  rw [← hnM] at hum lM ⊢
  have HnM := hide hnM
  have UM := hide hum
  clear hum hnM
  have KK : Hid (Kst w') := HK.out.below B1.out HK.out.lt
  obtain ⟨z, hz⟩ : ∃ z, z = (119 - nM % 64) % 64 := ⟨_, rfl⟩
  have hz64 : z < 64 := by omega
  have hzm : (nM + 1 + z) % 64 = 56 := by omega
  have hzn : ∀ k, k < z → (nM + 1 + k) % 64 ≠ 56 := by intro k hk; omega
  have Hz := hide hz
  have HZm := hide hzm
  have HZn := hide hzn
  clear hz hzm hzn
  have hla : Hid (([] : List UInt8).length + M.length ≤ 150000000000000) := by have := HnM.out; show _ ≤ _; simp; omega
  have L2 : Hid ((M ++ [128]).length = nM + 1) := by show _ = _; rw [List.length_append, ← HnM.out]; rfl
  go_wp2_with (first
    | (refine wpList_app rfl (.const (.slice none 0 0)) (.tmp 11) rfl w'.heap.size (.slice none 0 0) [] rfl (Own.nil _ _) (.slice am nM cm) M rfl UM.out hla.out (Nat.le_refl _) ?_; intro v1 w2 ho1 hg1; rw [List.nil_append] at ho1; obtain ⟨a1, c1, rfl⟩ := ho1.slice; rw [← HnM.out] at ho1 ⊢; have O1 := hide ho1; have B2 : Hid (Below w'.heap.size w' w2) := (Below.refl _ _).grown hg1 (Nat.le_refl _) (fun k hk => by cases hk); clear ho1 hg1)
    | (refine wpList_app rfl (.tmp 12) (.tmp 13) rfl w'.heap.size (.slice a1 nM c1) M rfl (O1.out.below (below_new w2 _)) _ [128] rfl (has_news w2 [128]) (by have := HnM.out; simp; omega) (Nat.le_trans B2.out.size (below_new w2 _).size) ?_; intro v2 w3 ho2 hg2; obtain ⟨a2, c2, rfl⟩ := ho2.slice; rw [L2.out] at ho2 ⊢; have O2 := hide ho2; have B3 : Hid (Below w'.heap.size w' w3) := (B2.out.trans ((below_new w2 _).mono B2.out.size)).grown hg2 (Nat.le_trans B2.out.size (below_new w2 _).size) O1.out.ownBlock; clear ho2 hg2))
  go_loopw [3] (fun t wr => ∃ k n : Nat, k ≤ z ∧ Hid (n = nM + 1 + k) ∧ n ≤ 3000 ∧ ∃ ao cap, t = .slice ao n cap ∧ Hid (Own wr w'.heap.size t (M ++ 128 :: List.replicate k 0)) ∧ Hid (Below w'.heap.size w' wr)) (fun t _ => 3000 - sLen t)
  case atStart => exact ⟨0, nM + 1, by omega, hide rfl, by omega, a2, c2, rfl, O2, B3⟩
  case round =>
    obtain ⟨k, n, hk, Hn, hn3, ao, cap, rfl, ho, hb⟩ := hrel
    by_cases hkz : k < z
    · have hmod : (((n : Int) % 64) == 56) = false := by
        have h1 := HZn.out k hkz
        have h2 := Hn.out
        rw [h2]
        simp
        omega
      have hln : Hid ((M ++ 128 :: List.replicate k 0).length = n) := by
        show _ = _
        rw [Hn.out, List.length_append, List.length_cons, List.length_replicate, ← HnM.out]
        omega
      have hl2 : Hid ((M ++ 128 :: List.replicate k 0 ++ [(0 : UInt8)]).length = n + 1) := by
        show _ = _
        rw [List.length_append, hln.out]
        rfl
      have hap : Hid (M ++ 128 :: List.replicate k 0 ++ [(0 : UInt8)] = M ++ 128 :: List.replicate (k + 1) 0) := by
        show _ = _
        rw [List.replicate_succ', List.append_assoc]
        rfl
      go_wp2_with (refine wpList_app rfl (.tmp 19) (.tmp 20) rfl w'.heap.size (.slice ao n cap) (M ++ 128 :: List.replicate k 0) rfl (ho.out.below (below_new wr _)) _ [0] rfl (has_news wr [0]) (by rw [hln.out]; simp; omega) (Nat.le_trans hb.out.size (below_new wr _).size) ?_; intro v' w2' ho' hg'; obtain ⟨ao', cap', rfl⟩ := ho'.slice; rw [hl2.out] at ho' ⊢; rw [hap.out] at ho'; have HO' := hide ho'; have HB' : Hid (Below w'.heap.size w' w2') := (hb.out.trans ((below_new wr _).mono hb.out.size)).grown hg' (Nat.le_trans hb.out.size (below_new wr _).size) ho.out.ownBlock; clear ho' hg')
      go_roundw
      case rel => exact ⟨k + 1, n + 1, by omega, hide (by have := Hn.out; omega), by have := Hn.out; omega, ao', cap', rfl, HO', HB'⟩
      case measure => show 3000 - (n + 1) < 3000 - n; have := Hn.out; omega
    · obtain rfl : k = z := by omega
      have hmod : (((n : Int) % 64) == 56) = true := by
        have h1 := HZm.out
        have h2 := Hn.out
        rw [h2]
        simp
        omega
      obtain ⟨u1, hu1⟩ : ∃ u, u = UInt8.ofNat (8 * nM / 65536) := ⟨_, rfl⟩
      obtain ⟨u2, hu2⟩ : ∃ u, u = UInt8.ofNat (8 * nM / 256) := ⟨_, rfl⟩
      obtain ⟨u3, hu3⟩ : ∃ u, u = UInt8.ofNat (8 * nM) := ⟨_, rfl⟩
      have b1 : 8 * (nM : Int) / (65536 : Int) = (u1.toNat : Int) := by rw [hu1, UInt8.toNat_ofNat']; omega
      have b2 : 8 * (nM : Int) / (256 : Int) = (u2.toNat : Int) := by rw [hu2, UInt8.toNat_ofNat']; omega
      have b3 : 8 * (nM : Int) % (256 : Int) = (u3.toNat : Int) := by rw [hu3, UInt8.toNat_ofNat']; omega
      have HPB : Hid (M ++ 128 :: List.replicate k 0 ++ [0, 0, 0, 0, 0, u1, u2, u3] = M ++ padOf nM) := by
        show _ = _
        rw [hu1, hu2, hu3, ← be8_small (8 * nM) (by omega), padOf, Hz.out, List.append_assoc]
      have hln : Hid ((M ++ 128 :: List.replicate k 0).length = n) := by
        show _ = _
        rw [Hn.out, List.length_append, List.length_cons, List.length_replicate, ← HnM.out]
        omega
      clear hu1 hu2 hu3
      obtain ⟨PB, hPB⟩ : ∃ PB, PB = M ++ padOf nM := ⟨_, rfl⟩
      rw [← hPB] at HPB
      have HPBd := hide hPB
      have HPBl : Hid (PB.length = n + 8) := by
        show _ = _
        rw [← HPB.out, List.length_append, hln.out]
        rfl
      obtain ⟨nb, hnb⟩ : ∃ nb, nb = (n + 8) / 64 := ⟨_, rfl⟩
      have hnb' : n + 8 = 64 * nb := by
        have h1 := HZm.out
        have h2 := Hn.out
        omega
      have Hnb := hide hnb
      clear hPB hnb
      go_wp2_with (first
        | (refine wpList_app rfl (.tmp 25) (.tmp 34) rfl w'.heap.size (.slice ao n cap) (M ++ 128 :: List.replicate k 0) rfl (ho.out.below (below_new wr _)) _ [0, 0, 0, 0, 0, u1, u2, u3] rfl (has_news wr [0, 0, 0, 0, 0, u1, u2, u3]) (by rw [hln.out]; simp; omega) (Nat.le_trans hb.out.size (below_new wr _).size) ?_; intro v' w4 ho' hg'; rw [HPB.out] at ho'; obtain ⟨gb, cb, rfl, hgb, hcb, hgl⟩ := own_shape ho' (by rw [HPBl.out]; omega); have HO4 := hide ho'; have HB4 : Hid (Below w'.heap.size w' w4) := (hb.out.trans ((below_new wr _).mono hb.out.size)).grown hg' (Nat.le_trans hb.out.size (below_new wr _).size) ho.out.ownBlock; have HGB := hide hgl; have HCB := hide hcb; clear ho' hg' hgb hcb hgl))
      refine (lbegin_any _).mono ?_
      rintro e w5 ⟨rfl, hb5⟩
      have S5 : Hid (BS w' ((w5.alloc (.cells (wvs z8).toArray 39)).setRow w5.heap.size (wvs iv).toArray) gb cb w5.heap.size PB (stN PB 0)) := by
        have hs := hb5.size
        have hl := HB4.out.size
        have h1 := HGB.out
        have b6 : Below w'.heap.size w' ((w5.alloc (.cells (wvs z8).toArray 39)).setRow w5.heap.size (wvs iv).toArray) := below_setRow ((HB4.out.trans (hb5.mono hl)).alloc (by omega) _) _ _ (by omega)
        have f6 : Fx (One w5.heap.size) (w5.alloc (.cells (wvs z8).toArray 39)) ((w5.alloc (.cells (wvs z8).toArray 39)).setRow w5.heap.size (wvs iv).toArray) := Fx.setRow _ _ _ rfl
        have o6 : Own (w5.alloc (.cells (wvs z8).toArray 39)) w'.heap.size (.slice (some ⟨gb, 0, none⟩) PB.length cb) PB := (HO4.out.below hb5).below (below_new w5 _)
        refine ⟨?_, (Blk.new w5 _ _).setRow _, by omega, by omega, b6⟩
        obtain ⟨q1, q2 | ⟨g, cap, cur, hv, hg, hh, r⟩⟩ := o6
        · cases q2.1
        · cases hv
          refine ⟨q1, .inr ⟨gb, cb, cur, rfl, hg, ?_, r⟩⟩
          rw [f6.block gb (Blk.lt (cs := cur.toList) (t := 5) (by unfold Blk; simpa using hh)) (fun e : gb = w5.heap.size => by omega)]
          exact hh
      obtain ⟨lb, hlb⟩ : ∃ lb, lb = 64 * nb := ⟨_, rfl⟩
      rw [HPBl.out, hnb', ← hlb]
      have HLB := hide hlb
      have hlb3 : lb ≤ 4000 := by omega
      have HCB' : Hid (lb ≤ cb) := by have := HCB.out; rw [HPBl.out] at this; show _ ≤ _; omega
      clear hlb
      go_wp2_with (first
        | (refine wpList_newAt rfl 39 rfl (wvs z8) zero39 w5.heap.size rfl ?_)
        | (refine wpList_store_row rfl 39 (.tmp 5) (.tmp 36) rfl w5.heap.size (wvs iv).toArray rfl rfl 39 (wvs z8).toArray (Blk.new w5 _ _) (info39 iv iv_length) rfl (wvs_one _) ?_))
      generalize (w5.alloc (.cells (wvs z8).toArray 39)).setRow w5.heap.size (wvs iv).toArray = w6 at S5 ⊢
      generalize w5.heap.size = sb at S5 ⊢
      clear hb5
      go_loopw [6] (fun i wr => ∃ j : Nat, j ≤ nb ∧ i = .int .i64 ((64 * j : Nat) : Int) ∧ Hid (BS w' wr gb cb sb PB (stN PB j))) (fun i _ => 4096 - (intOf i).toNat)
      case atStart => exact ⟨0, by omega, rfl, S5⟩
      case round =>
        obtain ⟨j, hj, rfl, hS⟩ := hrel
        obtain ⟨a0, ha0⟩ : ∃ a0, a0 = 64 * j := ⟨_, rfl⟩
        rw [← ha0]
        have Ha0 := hide ha0
        clear ha0
        by_cases hjn : j < nb
        · obtain ⟨a1, ha1⟩ : ∃ a1, a1 = a0 + 64 := ⟨_, rfl⟩
          have haz : (a0 : Int) + 64 = (a1 : Int) := by omega
          have hwr : IntKind.i64.wrap (a1 : Int) = (a1 : Int) := by
            have h1 := Ha0.out
            have h2 := HLB.out
            exact Go.IntWalk.i64_in (a1 : Int) (by omega)
          have Ha1 := hide ha1
          clear ha1
          have hlz : (a0 : Int) < (lb : Int) := by have := Ha0.out; have := HLB.out; omega
          have ha4 : a0 ≤ 4000 := by omega
          have h1lb : a1 ≤ lb := by have := Ha0.out; have := Ha1.out; have := HLB.out; omega
          have hcut : ∀ W : World, (Instr.slice 26 (.slice (some ⟨gb, 0, none⟩) lb cb) (some (.int .i64 (a0 : Int))) (some (.int .i64 (a1 : Int))) none).run Tryd.prog W = .ok (.slice (some ⟨gb, a0, none⟩) 64 (cb - a0)) W := by
            intro W
            have ht : Tryd.prog.underlying 26 = some (.slice (Tryd.prog.elem 26)) := by rw [elem26]; exact Tryd.underlying26
            have h1 := HCB'.out
            have h2 := Ha1.out
            rw [run_slice_lh W 26 _ _ cb ht .i64 .i64 a0 a1 (by omega) (by omega) (by omega), elem26, size5]
            simp only [Result.andThen, sliced, Int.toNat_natCast, Nat.mul_one]
            rw [if_neg (by omega), show a1 - a0 = 64 by omega]
            simp [add_plain]
          have harr : ∀ W : World, (Instr.arrayAt 42 (.slice (some ⟨gb, a0, none⟩) 64 (cb - a0))).run Tryd.prog W = .ok (.pointer (some ⟨gb, a0, none⟩)) W := by
            intro W
            simp [Instr.arrayAt, run_underlying Tryd.underlying42]
          have hSd : Hid (BS w' { wr with drawn := wr.drawn + 1 } gb cb sb PB (stN PB j)) := hS.out.below ⟨rfl, rfl, rfl, Nat.le_refl _, fun _ _ => rfl⟩
          have hst : { wr with drawn := wr.drawn + 1 }.rangeAt sb 0 (wvs (stN PB j)) := hSd.out.rs
          have hre : { wr with drawn := wr.drawn + 1 }.rangeAt gb a0 ((blk PB j).map byt) := by rw [Ha0.out]; exact hSd.out.rb j
          have hbl : Hid ((blk PB j).length = 64) := by
            show _ = _
            unfold blk
            rw [List.length_take, List.length_drop, HPBl.out]
            omega
          have i39 : (Tryd.prog.info? 39).map (·.size) = some (wvs (stN PB j)).length := by rw [wvs_length, stN_length]; kernel_rfl
          have i42 : (Tryd.prog.info? 42).map (·.size) = some ((blk PB j).map byt).length := by rw [List.length_map, hbl.out]; kernel_rfl
          have hcall : Hid (Calls Tryd.prog 19 #[.agg (wvs (stN PB j)).toArray, .agg ((blk PB j).map byt).toArray] { wr with drawn := wr.drawn + 1 } fun e w' => ∃ v, e = .returned v ∧ v = .agg (wvs (stN PB (j + 1))).toArray ∧ Below wr.heap.size { wr with drawn := wr.drawn + 1 } w') :=
            (comp_any (stN PB j) (stN_length PB j) (blk PB j) hbl.out _ (KK.out.below hSd.out.be KK.out.lt)).mono fun e w' ⟨h1, h2⟩ => ⟨_, h1, rfl, h2⟩
          go_wp2_with fail
          refine wp_region_noPanic ?_
          refine wp_region_any (by kernel_rfl) ?_
          refine take_any (i := 1) rfl rfl (.move (.tmp 3)) rfl 44 rfl (v := (.slice (some ⟨gb, 0, none⟩) lb cb)) (by kernel_rfl) (by kernel_rfl) (by kernel_rfl) (fun _ _ _ h => h) (fun o' ho w => by go_simp) ?_
          simp only [Act.put, List.setIfInBounds_toArray, List.set_cons_zero, List.set_cons_succ]
          refine take_any (i := 2) rfl rfl (.move (.tmp 6)) rfl 45 rfl (v := (.int .i64 (a0 : Int))) (by kernel_rfl) (by kernel_rfl) (by kernel_rfl) (fun _ _ _ h => h) (fun o' ho w => by go_simp) ?_
          simp only [Act.put, List.setIfInBounds_toArray, List.set_cons_zero, List.set_cons_succ]
          refine take_any (i := 3) rfl rfl (.move (.tmp 6)) rfl 46 rfl (v := (.int .i64 (a0 : Int))) (by kernel_rfl) (by kernel_rfl) (by kernel_rfl) (fun _ _ _ h => h) (fun o' ho w => by go_simp) ?_
          simp only [Act.put, List.setIfInBounds_toArray, List.set_cons_zero, List.set_cons_succ]
          refine take_any (i := 4) rfl rfl (.binOp .add 3 (.tmp 46) (.const (.int .i64 64)) 3) rfl 47 rfl (v := (.int .i64 (a1 : Int))) (by kernel_rfl) (by kernel_rfl) (by kernel_rfl) (fun _ _ _ h => h) (fun o' ho w => by go_simp) ?_
          simp only [Act.put, List.setIfInBounds_toArray, List.set_cons_zero, List.set_cons_succ]
          refine take_any (i := 5) rfl rfl (.slice 26 (.tmp 44) (some (.tmp 45)) (some (.tmp 47)) none) rfl 48 rfl (v := (.slice (some ⟨gb, a0, none⟩) 64 (cb - a0))) (by kernel_rfl) (by kernel_rfl) (by kernel_rfl) (fun _ _ _ h => h) (fun o' ho w => by go_simp) ?_
          simp only [Act.put, List.setIfInBounds_toArray, List.set_cons_zero, List.set_cons_succ]
          refine take_any (i := 6) rfl rfl (.sliceToArrayPointer 42 (.tmp 48)) rfl 49 rfl (v := (.pointer (some ⟨gb, a0, none⟩))) (by kernel_rfl) (by kernel_rfl) (by kernel_rfl) (fun _ _ _ h => h) (fun o' ho w => by go_simp) ?_
          simp only [Act.put, List.setIfInBounds_toArray, List.set_cons_zero, List.set_cons_succ]
          refine either (i := 0) (j := 7) (by kernel_rfl) ?_ ?_
          refine op_load rfl rfl 43 rfl 39 (.tmp 5) rfl sb 0 rfl (wvs (stN PB j)) _ hst Tryd.underlying39 rfl i39 ?_
          simp only [Act.put, List.setIfInBounds_toArray, List.set_cons_zero, List.set_cons_succ]
          refine only_one (i := 7) (by kernel_rfl) ?_
          refine op_load rfl rfl 50 rfl 42 (.tmp 49) rfl gb a0 rfl ((blk PB j).map byt) _ hre Tryd.underlying42 rfl i42 ?_
          simp only [Act.put, List.setIfInBounds_toArray, List.set_cons_zero, List.set_cons_succ]
          rotate_left
          refine op_load rfl rfl 50 rfl 42 (.tmp 49) rfl gb a0 rfl ((blk PB j).map byt) _ hre Tryd.underlying42 rfl i42 ?_
          simp only [Act.put, List.setIfInBounds_toArray, List.set_cons_zero, List.set_cons_succ]
          refine only_one (i := 0) (by kernel_rfl) ?_
          refine op_load rfl rfl 43 rfl 39 (.tmp 5) rfl sb 0 rfl (wvs (stN PB j)) _ hst Tryd.underlying39 rfl i39 ?_
          simp only [Act.put, List.setIfInBounds_toArray, List.set_cons_zero, List.set_cons_succ]
          all_goals
            refine only_one (i := 8) (by kernel_rfl) ?_
            refine op_call rfl rfl (.call { callee := .value (.func 19), args := #[.tmp 43, .tmp 50], argTypes := #[39, 42] }) rfl 51 rfl 19 #[.agg (wvs (stN PB j)).toArray, .agg ((blk PB j).map byt).toArray] (fun o' ho => by go_simp) hcall.out ?_
            rintro v w7 ⟨rfl, hb7⟩
            simp only [Act.put, List.setIfInBounds_toArray, List.set_cons_zero, List.set_cons_succ]
            refine only_one (i := 9) (by kernel_rfl) ?_
            have S7 : BS w' w7 gb cb sb PB (stN PB j) := hSd.out.below hb7
            refine op_store rfl rfl rfl 39 (.tmp 5) (.tmp 51) rfl sb 0 (wvs (stN PB (j + 1))).toArray rfl rfl (fun i hi => ⟨by rw [Nat.zero_add, S7.ss.cell, List.getElem?_eq_getElem (by rw [List.size_toArray, wvs_length, stN_length] at hi; rw [wvs_length, stN_length]; exact hi)]; rfl, S7.ss.frozen _⟩) (info39 _ (stN_length PB (j + 1))) (wvs_one _) ?_
            refine wpAny_done (by kernel_rfl) (NoPanic.normal ?_) _
            have S8' : Hid (BS w' (w7.setCells sb 0 (wvs (stN PB (j + 1))).toArray.toList) gb cb sb PB (stN PB (j + 1))) := S7.put (stN_length PB j) (stN_length PB (j + 1))
            generalize w7.setCells sb 0 (wvs (stN PB (j + 1))).toArray.toList = w8 at S8' ⊢
            clear S7 hb7
            go_wp2
            go_roundw
            case rel => exact ⟨j + 1, by omega, by rw [show 64 * (j + 1) = a1 by have := Ha0.out; have := Ha1.out; omega], S8'⟩
            case measure => simp [intOf]; have := Ha0.out; have := Ha1.out; omega
        · obtain rfl : j = nb := by omega
          have hlz : ¬ (a0 : Int) < (lb : Int) := by have := Ha0.out; have := HLB.out; omega
          have HDG : Hid (digOf (stN PB j) = sumOf M) := by
            show _ = _
            unfold sumOf stt
            rw [← HnM.out, ← HPBd.out, HPBl.out, ← Hnb.out]
          have hEQ : ∀ W : World, (Op.equalIn 10000 24 (.agg ((sumOf M).map byt).toArray) (.agg ((sumOf M).map byt).toArray)).run Tryd.prog W = .ok true W := fun W => eq24 _ (sumOf_length _) W
          have hGD := guard24
          have i39 : (Tryd.prog.info? 39).map (·.size) = some (wvs (stN PB j)).length := by rw [wvs_length, stN_length]; kernel_rfl
          go_wp2_with fail
          obtain ⟨x9, hx9⟩ : ∃ x : World, x = { wr with drawn := wr.drawn + 1 } := ⟨_, rfl⟩
          have SD : BS w' x9 gb cb sb PB (stN PB j) := by rw [hx9]; exact hS.out.below ⟨rfl, rfl, rfl, Nat.le_refl _, fun _ _ => rfl⟩
          refine wp_region_noPanic ?_
          refine wp_region_held (S := fun x => x.rangeAt sb 0 (wvs (stN PB j))) (by kernel_rfl) ?_
          rw [← hx9]
          clear hx9
          refine takeH (i := 0) rfl (.move (.tmp 0)) rfl 52 rfl (v := (.slice am nM cm)) (by kernel_rfl) (by kernel_rfl) (by kernel_rfl) (fun _ _ _ h => h) (by rfl) (fun o' ho W hW => by clear hW; go_simp) SD.rs ?_
          simp only [Act.put, List.setIfInBounds_toArray, List.set_cons_zero, List.set_cons_succ]
          refine takeH_load (i := 3) rfl 55 rfl 39 (.tmp 5) rfl (by kernel_rfl) (by kernel_rfl) (by kernel_rfl) (fun _ _ _ h => h) (by rfl) sb 0 rfl (wvs (stN PB j)) rfl (fun W hW => hW) Tryd.underlying39 rfl i39 SD.rs ?_
          simp only [Act.put, List.setIfInBounds_toArray, List.set_cons_zero, List.set_cons_succ]
          refine onlyH (i := 1) (by kernel_rfl) ?_
          refine opG_run rfl (by rfl) (.buildSlice 55 1 #[(0, .tmp 52)]) rfl 53 rfl (.slice (some ⟨x9.heap.size, 0, none⟩) 1 1) (x9.alloc (.cells #[.slice am nM cm] 26)) (fun o' ho => by go_simp) ?_
          refine ⟨(SD.below (below_new _ _)).rs, ?_⟩
          simp only [Act.put, List.setIfInBounds_toArray, List.set_cons_zero, List.set_cons_succ]
          refine onlyH (i := 2) (by kernel_rfl) ?_
          refine opG_call (R := fun v wz => v = .agg ((sumOf M).map byt).toArray ∧ BS w' wz gb cb sb PB (stN PB j)) rfl (by rfl) (.call { callee := .value (.func 9), args := #[.tmp 53], argTypes := #[55] }) rfl 54 rfl 9 #[.slice (some ⟨x9.heap.size, 0, none⟩) 1 1] (fun o' ho => by go_simp) ((sum_new x9 [(Value.slice am nM cm, M)] M (one_all' (UM.out.below SD.be)) (KK.out.below SD.be KK.out.lt) (by simp) (by have := HnM.out; omega) (by simp)).mono fun e wz ⟨h1, h2⟩ => ⟨_, h1, rfl, SD.below h2⟩) ?_
          rintro v z1 ⟨rfl, Sz1⟩
          refine ⟨Sz1.rs, ?_⟩
          simp only [Act.put, List.setIfInBounds_toArray, List.set_cons_zero, List.set_cons_succ]
          refine onlyH (i := 4) (by kernel_rfl) ?_
          refine opG_call (R := fun v wz => v = .agg ((sumOf M).map byt).toArray ∧ BS w' wz gb cb sb PB (stN PB j)) rfl (by rfl) (.call { callee := .value (.func 20), args := #[.tmp 55], argTypes := #[39] }) rfl 56 rfl 20 #[.agg (wvs (stN PB j)).toArray] (fun o' ho => by go_simp) ((ldigest_any (stN PB j) (stN_length PB j) z1).mono fun e wz ⟨h1, h2⟩ => ⟨_, h1, by rw [HDG.out], Sz1.below h2⟩) ?_
          rintro v z2 ⟨rfl, Sz2⟩
          refine ⟨Sz2.rs, ?_⟩
          simp only [Act.put, List.setIfInBounds_toArray, List.set_cons_zero, List.set_cons_succ]
          refine takeH (i := 5) rfl (.binOp .eql 24 (.tmp 54) (.tmp 56) 24) rfl 57 rfl (v := (.bool true)) (by kernel_rfl) (by kernel_rfl) (by kernel_rfl) (fun _ _ _ h => h) (by rfl) (fun o' ho W hW => by clear hW; go_simp) Sz2.rs ?_
          simp only [Act.put, List.setIfInBounds_toArray, List.set_cons_zero, List.set_cons_succ]
          refine takeH (i := 6) rfl (.assign (.tmp 57)) rfl 2 rfl (v := (.bool true)) (by kernel_rfl) (by kernel_rfl) (by kernel_rfl) (fun _ _ _ h => h) (by rfl) (fun o' ho W hW => by clear hW; go_simp) Sz2.rs ?_
          simp only [Act.put, List.setIfInBounds_toArray, List.set_cons_zero, List.set_cons_succ]
          refine wpAnyH_done (by kernel_rfl) (NoPanic.normal ?_) _
          go_wp2
          go_ret
          exact ⟨rfl, B1.out.trans (Sz2.be.mono B1.out.size)⟩
end Go.Proofs.YtdkgngmbohdmdaaDoor
