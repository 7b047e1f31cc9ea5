import Derived.Test.YtablmkijlpoaaabDoorJt
namespace Go.Proofs.YtablmkijlpoaaabDoor
open Go.RowKit

theorem idx25 (ad : Addr) (n cap m : Nat) (h : m < n) (W : World) : (Instr.indexAt 25 (.slice (some ad) n cap) (.int .i64 (m : Int))).run Tryd.prog W = .ok (.pointer (some (ad.add m))) W := by
  have hm : (m : Int) < (n : Int) := by omega
  go_simp
theorem eq45 (L : List UInt8) (hl : L.length = 32) (W : World) : (Op.equalIn 10000 45 (.agg (L.map byt).toArray) (.agg (L.map byt).toArray)).run Tryd.prog W = .ok true W := by
  obtain ⟨i0, hi, _⟩ := info_parts Tryd.info5
  rw [run_equalIn_array W 9999 (L.map byt).toArray (L.map byt).toArray Tryd.underlying45 hi]
  have hc : Tryd.prog.cellsOf 5 = 1 := by kernel_rfl
  rw [hc]
  exact eqItems_same L 9998 W _ (fun i hi => by rw [hl]; exact List.mem_range.1 hi)
theorem guard45 : Tryd.prog.eqGuardType Tryd.prog.depth 45 = false := by kernel_rfl
/-- A row's element. -/
theorem row_at {w : World} {base : Nat} {e : TypeId} {ao : Option Addr} {n c : Nat} {xs : List Value} (h : w.ownsRow base e 1 (.slice ao n c) n xs) (k : Nat) (hk : k < n) : ∃ g, ao = some ⟨g, 0, none⟩ ∧ w.cell? ⟨g, k, none⟩ = xs[k]? := by
  have hl := h.1
  obtain ⟨_, ⟨h1, h2⟩ | ⟨g, cap, cur, h1, r⟩⟩ := id h
  · omega
  · simp only [Value.slice.injEq] at h1
    refine ⟨g, h1.1, ?_⟩
    have hc := h.cells (g := g) (by rw [h1.1]; rfl) k xs[k] (List.getElem?_eq_getElem (by omega))
    rw [add_plain] at hc
    rw [hc, List.getElem?_eq_getElem (by omega)]
theorem ownsRow_max {w : World} {base : Nat} {e : TypeId} {size : Nat} {v : Value} {n : Nat} {xs : List Value} (h : w.ownsRow base e size v n xs) : n ≤ 9223372036854775807 := by
  obtain ⟨_, ⟨_, h⟩ | ⟨g, cap, cur, _, _, _, h1, h2, _⟩⟩ := h
  · omega
  · unfold maxLen at h2; omega
theorem rowK_range {w : World} {base : Nat} {v : Value} {n : Nat} {bs : List UInt8} (h : w.ownsRow base 45 32 v n (bs.map byt)) (m : Nat) (hm : m < n) : ∃ g cap, v = .slice (some ⟨g, 0, none⟩) n cap ∧ w.rangeAt g (32 * m) (((bs.drop (32 * m)).take 32).map byt) := by
  have hl := h.1
  rw [List.length_map] at hl
  obtain ⟨_, ⟨h1, h2⟩ | ⟨g, cap, cur, h1, r⟩⟩ := id h
  · omega
  · refine ⟨g, cap, h1, fun j u hj => ?_⟩
    rw [List.getElem?_map] at hj
    have hj32 : j < 32 := by
      rcases Nat.lt_or_ge j 32 with h' | h'
      · exact h'
      · rw [List.getElem?_eq_none (by simp; omega)] at hj; cases hj
    rw [List.getElem?_take_of_lt hj32, List.getElem?_drop] at hj
    have hc := h.cells (g := g) (by rw [h1]; rfl) (32 * m + j) u (by rw [List.getElem?_map]; exact hj)
    rw [add_plain] at hc
    exact hc

set_option maxRecDepth 100000 in
set_option maxHeartbeats 1000000 in
theorem holds_any (w x : World) (p : Nat) (L V K M : Value) (ls vs ks ms : List Value) (hB : Bc w x p L V K M ls vs ks ms) (hE : Ent 5 1 x ls vs) (hK : Ent 45 32 x ks ms) (hn : ls.length ≤ 1000) (hn2 : ks.length ≤ 1000) :
    Calls Tryd.prog 5 #[.pointer (some ⟨p, 0, none⟩)] x fun e z => e = .returned (.bool true) ∧ ∃ q, z = x.drewN q := by
  obtain ⟨aL, cL, rfl⟩ := ownsRow_slice hB.ol
  obtain ⟨aV, cV, rfl⟩ := ownsRow_slice hB.ov
  obtain ⟨aK, cK, rfl⟩ := ownsRow_slice hB.ok
  obtain ⟨aM, cM, rfl⟩ := ownsRow_slice hB.om
  have HB := hide hB
  have HE := hide hE
  have HK := hide hK
  obtain ⟨nl, hnl⟩ : ∃ n, ls.length = n := ⟨_, rfl⟩
  obtain ⟨nk, hnk⟩ : ∃ n, ks.length = n := ⟨_, rfl⟩
  have HVL : vs.length = nl := by rw [← hE.ll]; exact hnl
  have HMK : ms.length = nk := by rw [← hK.ll]; exact hnk
  have HNL : Lk ls.length nl := ⟨hnl⟩
  have HNK : Lk ks.length nk := ⟨hnk⟩
  rw [hnl, HVL, hnk, HMK] at HB
  have C0 : Hid (x.cell? ⟨p, 0, none⟩ = some (.slice aL nl cL)) := hide (HB.out.bk.cell 0)
  have C1 : Hid (x.cell? ⟨p, 1, none⟩ = some (.slice aV nl cV)) := hide (HB.out.bk.cell 1)
  have C2 : Hid (x.cell? ⟨p, 2, none⟩ = some (.slice aK nk cK)) := hide (HB.out.bk.cell 2)
  have C3 : Hid (x.cell? ⟨p, 3, none⟩ = some (.slice aM nk cM)) := hide (HB.out.bk.cell 3)
  have OL := hide HB.out.ol
  have OV := hide HB.out.ov
  have OK := hide HB.out.ok
  have OM := hide HB.out.om
  rw [hnl] at OL
  rw [HVL] at OV
  rw [hnk] at OK
  rw [HMK] at OM
  rw [hnl] at hn
  rw [hnk] at hn2
  have hlnL := fun W ty => len24 aL nl cL W ty
  have hlnK := fun W ty => len25 aK nk cK W ty
  clear hB hE hK hnl hnk HB HVL HMK
  go_enter Tryd.func5, Tryd.ntmps5
  go_wp2
  go_loopw [3] (fun i wr => ∃ k : Nat, k ≤ nl ∧ i = .int .i64 k ∧ ∃ q, wr = x.drewN q) (fun i _ => nl - (intOf i).toNat)
  case atStart => exact ⟨0, Nat.zero_le _, rfl, 0, rfl⟩
  case round =>
    obtain ⟨k, hk, rfl, q, hq⟩ := hrel
    have c0 : wr.cell? ⟨p, 0, none⟩ = some (.slice aL nl cL) := by rw [hq]; exact C0.out
    have c1 : wr.cell? ⟨p, 1, none⟩ = some (.slice aV nl cV) := by rw [hq]; exact C1.out
    have HQ := hide hq
    by_cases hlt : k < nl
    · have hi : (k : Int) < (nl : Int) := by omega
      obtain ⟨gL, rfl, hcl⟩ := row_at OL.out k hlt
      obtain ⟨gV, rfl, hcv⟩ := row_at OV.out k hlt
      have i1 := fun W => idx24 ⟨gL, 0, none⟩ nl cL k hlt W
      have i2 := fun W => idx24 ⟨gV, 0, none⟩ nl cV k hlt W
      rw [add_plain] at i1 i2
      have hkl : k < ls.length := by rw [HNL.h]; exact hlt
      have hkv : k < vs.length := by rw [← HE.out.ll]; exact hkl
      rw [List.getElem?_eq_getElem hkl] at hcl
      rw [List.getElem?_eq_getElem hkv] at hcv
      obtain ⟨n1, bs, b1, b2⟩ := HE.out.at_ k ls[k] vs[k] (List.getElem?_eq_getElem hkl) (List.getElem?_eq_getElem hkv)
      have e1 : bs.length = n1 := by have := b1.1; rw [List.length_map] at this; omega
      have d1 : wr.cell? ⟨gL, k, none⟩ = some ls[k] := by rw [hq]; exact hcl
      have d2 : wr.cell? ⟨gV, k, none⟩ = some vs[k] := by rw [hq]; exact hcv
      have B1 : Hid (Has wr ls[k] bs) := by rw [hq]; exact (own_of' b1 e1).has.drewN q
      have B2 : Hid (Has wr vs[k] bs) := by rw [hq]; exact (own_of' b2 e1).has.drewN q
      clear b1 b2 hcl hcv hq e1
      generalize ls[k] = lv at *
      generalize vs[k] = vv at *
      go_wp2
      go_quiet ((go_at_call 16; exact Calls.quiet_of_same (eq_yes lv vv bs _ (B1.out.drewN _) (B2.out.drewN _))))
      go_wp2
      go_roundw
      case rel => exact ⟨k + 1, by omega, by go_num, q + nq, by rw [HQ.out]; simp⟩
      case measure => simp [intOf]; omega
    · obtain rfl : k = nl := by omega
      have hi : ¬ (k : Int) < (k : Int) := by omega
      clear hq
      go_wp2
      clear c0 c1
      go_loopw [4] (fun i wr => ∃ j : Nat, j ≤ nk ∧ i = .int .i64 j ∧ ∃ q, wr = x.drewN q) (fun i _ => nk - (intOf i).toNat)
      case atStart => exact ⟨0, Nat.zero_le _, rfl, q, HQ.out⟩
      case round =>
        obtain ⟨j, hj, rfl, q, hq⟩ := hrel
        have c2 : wr.cell? ⟨p, 2, none⟩ = some (.slice aK nk cK) := by rw [hq]; exact C2.out
        have c3 : wr.cell? ⟨p, 3, none⟩ = some (.slice aM nk cM) := by rw [hq]; exact C3.out
        have HQ2 := hide hq
        by_cases hlt2 : j < nk
        · have hi2 : (j : Int) < (nk : Int) := by omega
          obtain ⟨gK, rfl, hck⟩ := row_at OK.out j hlt2
          obtain ⟨gM, rfl, hcm⟩ := row_at OM.out j hlt2
          have i1 := fun W => idx25 ⟨gK, 0, none⟩ nk cK j hlt2 W
          have i2 := fun W => idx25 ⟨gM, 0, none⟩ nk cM j hlt2 W
          rw [add_plain] at i1 i2
          have hkl : j < ks.length := by rw [HNK.h]; exact hlt2
          have hkv : j < ms.length := by rw [← HK.out.ll]; exact hkl
          rw [List.getElem?_eq_getElem hkl] at hck
          rw [List.getElem?_eq_getElem hkv] at hcm
          obtain ⟨n1, bs, b1, b2⟩ := HK.out.at_ j ks[j] ms[j] (List.getElem?_eq_getElem hkl) (List.getElem?_eq_getElem hkv)
          have HBL : Lk bs.length (32 * n1) := ⟨by have := b1.1; rw [List.length_map] at this; omega⟩
          have d1x : Hid (x.cell? ⟨gK, j, none⟩ = some ks[j]) := hide hck
          have d2x : Hid (x.cell? ⟨gM, j, none⟩ = some ms[j]) := hide hcm
          have B1 := hide b1
          have B2 := hide b2
          have hn1 : (n1 : Int) ≤ 9223372036854775807 := by have := ownsRow_max b1; omega
          obtain ⟨a1, q1, hs1⟩ := ownsRow_slice b1
          obtain ⟨a2, q2, hs2⟩ := ownsRow_slice b2
          rw [hs1] at d1x B1
          rw [hs2] at d2x B2
          have d1 : wr.cell? ⟨gK, j, none⟩ = some (.slice a1 n1 q1) := by rw [hq]; exact d1x.out
          have d2 : wr.cell? ⟨gM, j, none⟩ = some (.slice a2 n1 q2) := by rw [hq]; exact d2x.out
          have l1 := fun W ty => len44 a1 n1 q1 W ty
          have l2 := fun W ty => len44 a2 n1 q2 W ty
          clear b1 b2 hck hcm hq hs1 hs2
          go_wp2
          go_quiet (fail)
          have HQ3 : Hid (wr.drewN nq = x.drewN (q + nq)) := hide (by rw [HQ2.out]; simp)
          generalize wr.drewN nq = wd at HQ3 ⊢
          clear c2 c3 d1 d2 HQ2
          go_wp2
          go_loopw [5] (fun i wr => ∃ m : Nat, m ≤ n1 ∧ i = .int .i64 m ∧ ∃ q, wr = x.drewN q) (fun i _ => n1 - (intOf i).toNat)
          case atStart => exact ⟨0, Nat.zero_le _, rfl, _, HQ3.out⟩
          case round =>
            obtain ⟨m, hm, rfl, qm, hqm⟩ := hrel
            have c2 : wr.cell? ⟨p, 2, none⟩ = some (.slice (some ⟨gK, 0, none⟩) nk cK) := by rw [hqm]; exact C2.out
            have d1 : wr.cell? ⟨gK, j, none⟩ = some (.slice a1 n1 q1) := by rw [hqm]; exact d1x.out
            have HQM := hide hqm
            clear hqm
            by_cases hlm : m < n1
            · have him : (m : Int) < (n1 : Int) := by omega
              obtain ⟨g1, r1, hsh1, R1⟩ := rowK_range B1.out m hlm
              obtain ⟨g2, r2, hsh2, R2⟩ := rowK_range B2.out m hlm
              simp only [Value.slice.injEq, true_and] at hsh1 hsh2
              obtain ⟨rfl, rfl⟩ := hsh1
              obtain ⟨rfl, rfl⟩ := hsh2
              have j1 := fun W => idx44 ⟨g1, 0, none⟩ n1 q1 m hlm W
              have j2 := fun W => idx44 ⟨g2, 0, none⟩ n1 q2 m hlm W
              rw [add_plain, Nat.mul_comm m 32] at j1 j2
              obtain ⟨C, hC⟩ : ∃ C, (bs.drop (32 * m)).take 32 = C := ⟨_, rfl⟩
              have HCL : Lk C.length 32 := ⟨by rw [← hC, List.length_take, List.length_drop, HBL.h]; omega⟩
              rw [hC] at R1 R2
              have hsCl := info45l C HCL.h
              have hEQ : ∀ W : World, (Op.equalIn 10000 45 (.agg (C.map byt).toArray) (.agg (C.map byt).toArray)).run Tryd.prog W = .ok true W := fun W => eq45 C HCL.h W
              have hGD := guard45
              have RR : Hid (x.rangeAt g1 (32 * m) (C.map byt) ∧ x.rangeAt g2 (32 * m) (C.map byt)) := hide ⟨R1, R2⟩
              clear R1 R2 hC
              go_upto_region 14 with fail
              refine wp_region_noPanic ?_
              refine wp_region_held (S := fun W => W.cell? ⟨p, 2, none⟩ = some (.slice (some ⟨gK, 0, none⟩) nk cK) ∧ W.cell? ⟨p, 3, none⟩ = some (.slice (some ⟨gM, 0, none⟩) nk cM) ∧ W.cell? ⟨gK, j, none⟩ = some (.slice (some ⟨g1, 0, none⟩) n1 q1) ∧ W.cell? ⟨gM, j, none⟩ = some (.slice (some ⟨g2, 0, none⟩) n1 q2) ∧ W.rangeAt g1 (32 * m) (C.map byt) ∧ W.rangeAt g2 (32 * m) (C.map byt)) (by kernel_rfl) ?_
              have HZ : { wr with drawn := wr.drawn + 1 } = x.drewN (qm + 1) := by rw [HQM.out]; simp [World.drewN]; omega
              have SZ : (fun W : World => W.cell? ⟨p, 2, none⟩ = some (.slice (some ⟨gK, 0, none⟩) nk cK) ∧ W.cell? ⟨p, 3, none⟩ = some (.slice (some ⟨gM, 0, none⟩) nk cM) ∧ W.cell? ⟨gK, j, none⟩ = some (.slice (some ⟨g1, 0, none⟩) n1 q1) ∧ W.cell? ⟨gM, j, none⟩ = some (.slice (some ⟨g2, 0, none⟩) n1 q2) ∧ W.rangeAt g1 (32 * m) (C.map byt) ∧ W.rangeAt g2 (32 * m) (C.map byt)) { wr with drawn := wr.drawn + 1 } := by
                rw [HZ]
                exact ⟨by simpa using C2.out, by simpa using C3.out, by simpa using d1x.out, by simpa using d2x.out, fun i u hu => by simpa using RR.out.1 i u hu, fun i u hu => by simpa using RR.out.2 i u hu⟩
              have HZ' := hide HZ
              clear c2 d1 HZ
              generalize { wr with drawn := wr.drawn + 1 } = z0 at SZ HZ' ⊢
              refine takeH (i := 0) rfl (.move (.tmp 0)) rfl 69 rfl (v := (.pointer (some ⟨p, 0, none⟩))) (by kernel_rfl) (by kernel_rfl) (by kernel_rfl) (fun _ _ _ h => h) (by rfl) (fun o' ho W hW => by clear hW; go_simp) SZ ?_
              simp only [Act.put, List.setIfInBounds_toArray, List.set_cons_zero, List.set_cons_succ]
              refine takeH (i := 1) rfl (.nilCheck (.tmp 69)) rfl 70 rfl (v := (.pointer (some ⟨p, 0, none⟩))) (by kernel_rfl) (by kernel_rfl) (by kernel_rfl) (fun _ _ _ h => h) (by rfl) (fun o' ho W hW => by clear hW; go_simp) SZ ?_
              simp only [Act.put, List.setIfInBounds_toArray, List.set_cons_zero, List.set_cons_succ]
              refine takeH (i := 2) rfl (.fieldAddr 27 (.tmp 70) 2) rfl 71 rfl (v := (.pointer (some ⟨p, 2, none⟩))) (by kernel_rfl) (by kernel_rfl) (by kernel_rfl) (fun _ _ _ h => h) (by rfl) (fun o' ho W hW => by clear hW; go_simp) SZ ?_
              simp only [Act.put, List.setIfInBounds_toArray, List.set_cons_zero, List.set_cons_succ]
              refine takeH (i := 3) rfl (.load 25 (.tmp 71)) rfl 72 rfl (v := (.slice (some ⟨gK, 0, none⟩) nk cK)) (by kernel_rfl) (by kernel_rfl) (by kernel_rfl) (fun _ _ _ h => h) (by rfl) (fun o' ho W hW => by obtain ⟨s1, s2, s3, s4, _⟩ := hW; go_simp) SZ ?_
              simp only [Act.put, List.setIfInBounds_toArray, List.set_cons_zero, List.set_cons_succ]
              refine takeH (i := 4) rfl (.move (.tmp 4)) rfl 73 rfl (v := (.int .i64 (j : Int))) (by kernel_rfl) (by kernel_rfl) (by kernel_rfl) (fun _ _ _ h => h) (by rfl) (fun o' ho W hW => by clear hW; go_simp) SZ ?_
              simp only [Act.put, List.setIfInBounds_toArray, List.set_cons_zero, List.set_cons_succ]
              refine takeH (i := 5) rfl (.indexAddr 25 (.tmp 72) (.tmp 73)) rfl 74 rfl (v := (.pointer (some ⟨gK, j, none⟩))) (by kernel_rfl) (by kernel_rfl) (by kernel_rfl) (fun _ _ _ h => h) (by rfl) (fun o' ho W hW => by clear hW; go_simp) SZ ?_
              simp only [Act.put, List.setIfInBounds_toArray, List.set_cons_zero, List.set_cons_succ]
              refine takeH (i := 6) rfl (.load 44 (.tmp 74)) rfl 75 rfl (v := (.slice (some ⟨g1, 0, none⟩) n1 q1)) (by kernel_rfl) (by kernel_rfl) (by kernel_rfl) (fun _ _ _ h => h) (by rfl) (fun o' ho W hW => by obtain ⟨s1, s2, s3, s4, _⟩ := hW; go_simp) SZ ?_
              simp only [Act.put, List.setIfInBounds_toArray, List.set_cons_zero, List.set_cons_succ]
              refine takeH (i := 7) rfl (.move (.tmp 5)) rfl 76 rfl (v := (.int .i64 (m : Int))) (by kernel_rfl) (by kernel_rfl) (by kernel_rfl) (fun _ _ _ h => h) (by rfl) (fun o' ho W hW => by clear hW; go_simp) SZ ?_
              simp only [Act.put, List.setIfInBounds_toArray, List.set_cons_zero, List.set_cons_succ]
              refine takeH (i := 8) rfl (.indexAddr 44 (.tmp 75) (.tmp 76)) rfl 77 rfl (v := (.pointer (some ⟨g1, 32 * m, none⟩))) (by kernel_rfl) (by kernel_rfl) (by kernel_rfl) (fun _ _ _ h => h) (by rfl) (fun o' ho W hW => by clear hW; go_simp) SZ ?_
              simp only [Act.put, List.setIfInBounds_toArray, List.set_cons_zero, List.set_cons_succ]
              refine takeH_load (i := 9) rfl 78 rfl 45 (.tmp 77) rfl (by kernel_rfl) (by kernel_rfl) (by kernel_rfl) (fun _ _ _ h => h) (by rfl) g1 (32 * m) rfl (C.map byt) rfl (fun W hW => hW.2.2.2.2.1) Tryd.underlying45 rfl hsCl SZ ?_
              simp only [Act.put, List.setIfInBounds_toArray, List.set_cons_zero, List.set_cons_succ]
              refine takeH (i := 10) rfl (.move (.tmp 0)) rfl 79 rfl (v := (.pointer (some ⟨p, 0, none⟩))) (by kernel_rfl) (by kernel_rfl) (by kernel_rfl) (fun _ _ _ h => h) (by rfl) (fun o' ho W hW => by clear hW; go_simp) SZ ?_
              simp only [Act.put, List.setIfInBounds_toArray, List.set_cons_zero, List.set_cons_succ]
              refine takeH (i := 11) rfl (.nilCheck (.tmp 79)) rfl 80 rfl (v := (.pointer (some ⟨p, 0, none⟩))) (by kernel_rfl) (by kernel_rfl) (by kernel_rfl) (fun _ _ _ h => h) (by rfl) (fun o' ho W hW => by clear hW; go_simp) SZ ?_
              simp only [Act.put, List.setIfInBounds_toArray, List.set_cons_zero, List.set_cons_succ]
              refine takeH (i := 12) rfl (.fieldAddr 27 (.tmp 80) 3) rfl 81 rfl (v := (.pointer (some ⟨p, 3, none⟩))) (by kernel_rfl) (by kernel_rfl) (by kernel_rfl) (fun _ _ _ h => h) (by rfl) (fun o' ho W hW => by clear hW; go_simp) SZ ?_
              simp only [Act.put, List.setIfInBounds_toArray, List.set_cons_zero, List.set_cons_succ]
              refine takeH (i := 13) rfl (.load 25 (.tmp 81)) rfl 82 rfl (v := (.slice (some ⟨gM, 0, none⟩) nk cM)) (by kernel_rfl) (by kernel_rfl) (by kernel_rfl) (fun _ _ _ h => h) (by rfl) (fun o' ho W hW => by obtain ⟨s1, s2, s3, s4, _⟩ := hW; go_simp) SZ ?_
              simp only [Act.put, List.setIfInBounds_toArray, List.set_cons_zero, List.set_cons_succ]
              refine takeH (i := 14) rfl (.move (.tmp 4)) rfl 83 rfl (v := (.int .i64 (j : Int))) (by kernel_rfl) (by kernel_rfl) (by kernel_rfl) (fun _ _ _ h => h) (by rfl) (fun o' ho W hW => by clear hW; go_simp) SZ ?_
              simp only [Act.put, List.setIfInBounds_toArray, List.set_cons_zero, List.set_cons_succ]
              refine takeH (i := 15) rfl (.indexAddr 25 (.tmp 82) (.tmp 83)) rfl 84 rfl (v := (.pointer (some ⟨gM, j, none⟩))) (by kernel_rfl) (by kernel_rfl) (by kernel_rfl) (fun _ _ _ h => h) (by rfl) (fun o' ho W hW => by clear hW; go_simp) SZ ?_
              simp only [Act.put, List.setIfInBounds_toArray, List.set_cons_zero, List.set_cons_succ]
              refine takeH (i := 16) rfl (.load 44 (.tmp 84)) rfl 85 rfl (v := (.slice (some ⟨g2, 0, none⟩) n1 q2)) (by kernel_rfl) (by kernel_rfl) (by kernel_rfl) (fun _ _ _ h => h) (by rfl) (fun o' ho W hW => by obtain ⟨s1, s2, s3, s4, _⟩ := hW; go_simp) SZ ?_
              simp only [Act.put, List.setIfInBounds_toArray, List.set_cons_zero, List.set_cons_succ]
              refine takeH (i := 17) rfl (.move (.tmp 5)) rfl 86 rfl (v := (.int .i64 (m : Int))) (by kernel_rfl) (by kernel_rfl) (by kernel_rfl) (fun _ _ _ h => h) (by rfl) (fun o' ho W hW => by clear hW; go_simp) SZ ?_
              simp only [Act.put, List.setIfInBounds_toArray, List.set_cons_zero, List.set_cons_succ]
              refine takeH (i := 18) rfl (.indexAddr 44 (.tmp 85) (.tmp 86)) rfl 87 rfl (v := (.pointer (some ⟨g2, 32 * m, none⟩))) (by kernel_rfl) (by kernel_rfl) (by kernel_rfl) (fun _ _ _ h => h) (by rfl) (fun o' ho W hW => by clear hW; go_simp) SZ ?_
              simp only [Act.put, List.setIfInBounds_toArray, List.set_cons_zero, List.set_cons_succ]
              refine takeH_load (i := 19) rfl 88 rfl 45 (.tmp 87) rfl (by kernel_rfl) (by kernel_rfl) (by kernel_rfl) (fun _ _ _ h => h) (by rfl) g2 (32 * m) rfl (C.map byt) rfl (fun W hW => hW.2.2.2.2.2) Tryd.underlying45 rfl hsCl SZ ?_
              simp only [Act.put, List.setIfInBounds_toArray, List.set_cons_zero, List.set_cons_succ]
              refine takeH (i := 20) rfl (.binOp .neq 45 (.tmp 78) (.tmp 88) 45) rfl 89 rfl (v := (.bool false)) (by kernel_rfl) (by kernel_rfl) (by kernel_rfl) (fun _ _ _ h => h) (by rfl) (fun o' ho W hW => by clear hW; go_simp) SZ ?_
              simp only [Act.put, List.setIfInBounds_toArray, List.set_cons_zero, List.set_cons_succ]
              refine wpAnyH_done (by kernel_rfl) (NoPanic.normal ?_) _
              clear SZ
              go_wp2
              go_roundw
              case rel => exact ⟨m + 1, by omega, by go_num, _, HZ'.out⟩
              case measure => simp [intOf]; omega
            · obtain rfl : m = n1 := by omega
              have him : ¬ (m : Int) < (m : Int) := by omega
              go_wp2
              go_roundw
              case rel => exact ⟨j + 1, by omega, by go_num, _, HQM.out⟩
              case measure => simp [intOf]; omega
        · obtain rfl : j = nk := by omega
          have hi2 : ¬ (j : Int) < (j : Int) := by omega
          clear hq
          go_wp2
          go_ret
          exact ⟨rfl, q, HQ2.out⟩
end Go.Proofs.YtablmkijlpoaaabDoor
