import Derived.Test.YtablmkijlpoaaaaDoorFl3
import Derived.Test.YtablmkijlpoaaaaDoorScr
namespace Go.Proofs.YtablmkijlpoaaaaDoor
open Go.RowKit

set_option maxHeartbeats 1000000 in
set_option maxRecDepth 100000 in
theorem exact_any (sv : Value) (os : List Opd) (w : World) (hsc : Script w sv os) (hol : os.length ≤ 1048576) (hK : Kst w) (hR : Rst w) (hS : Bst w) :
    Calls Tryd.prog 3 #[sv] w fun e w' => e = .returned (.bool true) ∧ Below w.heap.size w w' := by
  have HSC := hide hsc
  have HK := hide hK
  have HR := hide hR
  have HS := hide hS
  clear hsc hK hR hS
  go_enter Tryd.func3, Tryd.ntmps3
  go_wp2_with fail
  refine (moves_any _ HK.out).mono ?_
  rintro e w1 ⟨rfl, hb1⟩
  have B1 := hide hb1
  clear hb1
  have F0 : Hid (Fl3 w (w1.alloc (.cells (([] : List Nat).map ptr ++ (List.replicate (3 - 0) (Value.pointer none) ++ List.replicate 3 nilS)).toArray 30)) w1.heap.size [] 0) := hide ⟨Blk.new w1 _ _, rfl, by omega, fun i hi => by omega, B1.out.alloc B1.out.size _, B1.out.size, fun i hi => by omega, fun i j hi => by omega, fun i hi => by omega⟩
  obtain ⟨T0, hT0⟩ : ∃ T, ([] : List Nat).map ptr ++ (List.replicate (3 - 0) (Value.pointer none) ++ List.replicate 3 nilS) = T := ⟨_, rfl⟩
  rw [hT0] at F0
  have hb30 := built30
  rw [hT0] at hb30
  clear hT0
  go_wp2_with (first
    | (refine wpList_bld rfl 30 #[] rfl [] (by simp) T0.toArray hb30 ?_)
    | (refine wpList_boxAt rfl 30 _ rfl T0 rfl w1.heap.size rfl ?_; generalize w1.alloc (.cells T0.toArray 30) = w2 at F0 ⊢; generalize w1.heap.size = p at F0 ⊢)
    | fail)
  go_loopw [4] (fun i wr => ∃ k : Nat, k ≤ 3 ∧ i = .int .i64 (k : Int) ∧ ∃ gs, Hid (Fl3 w wr p gs k)) (fun i _ => 3 - (intOf i).toNat)
  case atStart => exact ⟨0, by omega, rfl, [], F0⟩
  case round =>
    obtain ⟨k, hk, rfl, gs, hx⟩ := hrel
    by_cases hlt : k < 3
    · have hlz : (k : Int) < 3 := by omega
      go_upto_region 7 with fail
      refine wp_region_noPanic ?_
      refine wp_region_any (by kernel_rfl) ?_
      have Z0 : Fl3 w { wr with drawn := wr.drawn + 1 } p gs k := hx.out.below (Below.refl _ _).drew
      generalize { wr with drawn := wr.drawn + 1 } = z0 at Z0 ⊢
      refine take_any (i := 0) rfl rfl (.move (.tmp 3)) rfl 15 rfl (v := (.pointer (some ⟨p, 0, none⟩))) (by kernel_rfl) (by kernel_rfl) (by kernel_rfl) (fun _ _ _ h => h) (fun o' ho w => by go_simp) ?_
      simp only [Act.put, List.setIfInBounds_toArray, List.set_cons_zero, List.set_cons_succ]
      refine take_any (i := 1) rfl rfl (.move (.tmp 4)) rfl 16 rfl (v := (.int .i64 (k : Int))) (by kernel_rfl) (by kernel_rfl) (by kernel_rfl) (fun _ _ _ h => h) (fun o' ho w => by go_simp) ?_
      simp only [Act.put, List.setIfInBounds_toArray, List.set_cons_zero, List.set_cons_succ]
      refine take_any (i := 3) rfl rfl (.nilCheck (.tmp 15)) rfl 18 rfl (v := (.pointer (some ⟨p, 0, none⟩))) (by kernel_rfl) (by kernel_rfl) (by kernel_rfl) (fun _ _ _ h => h) (fun o' ho w => by go_simp) ?_
      simp only [Act.put, List.setIfInBounds_toArray, List.set_cons_zero, List.set_cons_succ]
      refine take_any (i := 4) rfl rfl (.fieldAddr 30 (.tmp 18) 0) rfl 19 rfl (v := (.pointer (some ⟨p, 0, none⟩))) (by kernel_rfl) (by kernel_rfl) (by kernel_rfl) (fun _ _ _ h => h) (fun o' ho w => by go_simp) ?_
      simp only [Act.put, List.setIfInBounds_toArray, List.set_cons_zero, List.set_cons_succ]
      refine only_one (i := 2) (by kernel_rfl) ?_
      refine op_call (R := fun v wx => ∃ g, v = .pointer (some ⟨g, 0, none⟩) ∧ z0.heap.size ≤ g ∧ HAt wx g [] ∧ Below z0.heap.size z0 wx) rfl rfl (.call { callee := .value (.func 10), args := #[], argTypes := #[] }) rfl 17 rfl 10 #[] (fun o' ho => by go_simp) ((new_any z0).mono fun e wx ⟨g, h1, h2, h3, h4⟩ => ⟨_, h1, g, rfl, h2, h3, h4⟩) ?_
      rintro v z1 ⟨g, rfl, hg, hgh, hgb⟩
      simp only [Act.put, List.setIfInBounds_toArray, List.set_cons_zero, List.set_cons_succ]
      refine take_any (i := 5) rfl rfl (.indexAddr 26 (.tmp 19) (.tmp 16)) rfl 20 rfl (v := (.pointer (some ⟨p, k, none⟩))) (by kernel_rfl) (by kernel_rfl) (by kernel_rfl) (fun _ _ _ h => h) (fun o' ho w => by go_simp) ?_
      simp only [Act.put, List.setIfInBounds_toArray, List.set_cons_zero, List.set_cons_succ]
      have Z1 := Z0.below hgb
      have pc := Z1.cellAt k hlt
      have pf := Z1.tb.frozen k
      obtain ⟨v2, pc⟩ := pc
      have Z2 := Z1.add hlt g hgh (Nat.le_trans Z0.be.size hg) (by have := Z0.tb.lt; omega) (fun j hj => by have := Blk.lt (Z0.hh j hj); omega)
      refine only_one (i := 6) (by kernel_rfl) ?_
      refine op_skip rfl rfl (.store 25 (.tmp 20) (.tmp 17)) rfl rfl (z1.setCell ⟨p, k, none⟩ (.pointer (some ⟨g, 0, none⟩))) (fun o' ho => by go_simp) ?_
      have X3 := hide Z2
      have pg := Z2.ptrAt
      clear Z0 Z1 Z2 pc pf hgh hgb hg
      generalize z1.setCell ⟨p, k, none⟩ (.pointer (some ⟨g, 0, none⟩)) = z2 at X3 pg ⊢
      refine wpAny_done (by kernel_rfl) (NoPanic.normal ?_) _
      obtain ⟨g9, pg⟩ := pg
      go_wp2
      go_roundw
      case rel => exact ⟨k + 1, by omega, by go_num, _, X3⟩
      case measure => simp [intOf]; omega
    · obtain rfl : k = 3 := by omega
      rw [show ((3 : Nat) : Int) = (3 : Int) from rfl]
      have X4 : Hid (Tb w wr p gs [nilS, nilS, nilS] [[], [], []] [[], [], []]) := hide hx.out.full
      clear hx
      have hlen := HSC.out.len
      obtain ⟨nO, hnO⟩ : ∃ n, os.length = n := ⟨_, rfl⟩
      rw [hnO] at hlen hol
      have HNO : Lk os.length nO := ⟨hnO⟩
      clear hnO
      go_upto_region 10 with fail
      go_upto_region 11 with fail
      go_loopw [5] (fun i wx => ∃ k : Nat, k ≤ nO ∧ k ≤ 60 ∧ i = .int .i64 (k : Int) ∧ ∃ hs vs ms, Hid (Tb w wx p hs vs ms ms ∧ ms.length = 3 ∧ ∀ j, j < 3 → (ms.getD j []).length ≤ k * 1048576)) (fun i _ => 60 - (intOf i).toNat)
      case atStart => exact ⟨0, by omega, by omega, rfl, _, _, _, hide ⟨X4.out, rfl, fun j hj => by match j, hj with | 0, _ => exact Nat.zero_le _ | 1, _ => exact Nat.zero_le _ | 2, _ => exact Nat.zero_le _⟩⟩
      case round =>
        obtain ⟨k, hk, hk60, rfl, hs, vs, ms, hy⟩ := hrel
        by_cases hin : k < nO
        · by_cases h60 : k < 60
          · have hkz : (k : Int) < nO := by omega
            have hk6 : (k : Int) < 60 := by omega
            obtain ⟨o, ho⟩ : ∃ o, os[k]? = some o := ⟨os[k]'(by rw [HNO.h]; exact hin), List.getElem?_eq_getElem _⟩
            obtain ⟨ad, hix, hrg, hok⟩ := HSC.out.item k o ho
            have RG := hide (hrg.below hy.out.1.be)
            have hcall : Hid (∀ y, Tb w y p hs vs ms ms → Calls Tryd.prog 11 #[.pointer (some ⟨p, 0, none⟩), .agg o.cells.toArray] y fun e y' => e = .returned (.bool true) ∧ ∃ hs' vs' ms', Tb w y' p hs' vs' ms' ms' ∧ ms'.length = 3 ∧ ∀ j, j < 3 → (ms'.getD j []).length ≤ (k + 1) * 1048576) := hide (fun y hyy => by
              have hL := hok.lB
              have hL2 := hok.lC
              refine (plays_any p hs vs ms o.kind o.which o.tw o.vB o.vC o.bB o.bC o.st o.bl (k * 1048576) w y hyy hy.out.2.1 hok.st hok.bl hok.hB hok.hC HK.out HR.out HS.out hy.out.2.2 (by omega) (by omega)).mono fun e y' ⟨h1, hs', vs', ms', h2, h3, h4⟩ => ⟨h1, hs', vs', ms', h2, h3, fun j hj => ?_⟩
              have := h4 j hj
              omega)
            have h37 : (Tryd.prog.info? 37).map (·.size) = some o.cells.length := by rw [Opd.cells, opC_length _ _ _ _ _ _ _ hok.st hok.bl]; kernel_rfl
            obtain ⟨oc, hoc⟩ : ∃ oc, o.cells = oc := ⟨_, rfl⟩
            rw [hoc] at RG hcall h37
            have TB := hide hy.out.1
            clear hoc hok hrg ho hy
            go_wp2_with (first
              | (refine wpList_load_at rfl 37 (.tmp 41) rfl ad rfl oc _ RG.out Tryd.underlying37 rfl h37 ?_)
              | (go_at_call 11; refine (hcall.out _ TB.out).mono ?_; rintro e y ⟨rfl, hpost⟩; have HPOST := hide hpost; clear hpost)
              | fail)
            go_roundw
            case rel =>
              obtain ⟨hs', vs', ms', h2, h3, h4⟩ := HPOST.out
              exact ⟨k + 1, by omega, by omega, by go_num, hs', vs', ms', hide ⟨h2, h3, h4⟩⟩
            case measure => simp [intOf]; omega
          · have hkz : (k : Int) < nO := by omega
            have hk6 : ¬ (k : Int) < 60 := by omega
            have TB0 : Hid (Tb w _ p hs vs ms ms ∧ ms.length = 3 ∧ ∀ j, j < 3 → (ms.getD j []).length ≤ 62914560) := hide ⟨hy.out.1, hy.out.2.1, fun j hj => by have := hy.out.2.2 j hj; omega⟩
            have ASK : Hid (∀ (q : Int) (y : World) hs vs ms, (Tb w y p hs vs ms ms ∧ ms.length = 3 ∧ ∀ j, j < 3 → (ms.getD j []).length ≤ 62914560) → Calls Tryd.prog 12 #[.pointer (some ⟨p, 0, none⟩), .agg (askC q).toArray] y fun e y' => e = .returned (.bool true) ∧ ∃ hs' vs' ms', Tb w y' p hs' vs' ms' ms' ∧ ms'.length = 3 ∧ ∀ j, j < 3 → (ms'.getD j []).length ≤ 62914560) := hide (fun q y hs vs ms h => hashes_any p hs vs ms 5 q 0 nilS nilS [] (List.replicate 8 0) (List.replicate 64 0) 62914560 w y h.1 h.2.1 (Has.nil _) HK.out HR.out HS.out h.2.2 (by decide))
            clear hy
            have A0 := hide (ASK.out 0)
            have A1 := hide (ASK.out 1)
            have A2 := hide (ASK.out 2)
            clear ASK
            have b0 := built37_0
            have b1 := built37_1
            have b2 := built37_2
            obtain ⟨c0, hc0⟩ : ∃ c, askC 0 = c := ⟨_, rfl⟩
            obtain ⟨c1, hc1⟩ : ∃ c, askC 1 = c := ⟨_, rfl⟩
            obtain ⟨c2, hc2⟩ : ∃ c, askC 2 = c := ⟨_, rfl⟩
            rw [hc0] at A0 b0
            rw [hc1] at A1 b1
            rw [hc2] at A2 b2
            clear hc0 hc1 hc2
            go_upto_region 16 with fail
            go_wp2_with (first
              | (refine wpList_bld rfl 37 #[(0, .const (.int .i64 5))] rfl [(0, .int .i64 5)] (by simp [Act.eval]) c0.toArray b0 ?_)
              | (refine wpList_bldG (by kernel_rfl) 37 #[(0, .const (.int .i64 5)), (1, .const (.int .i64 1))] rfl [(0, .int .i64 5), (1, .int .i64 1)] (by simp [Act.eval]) c1.toArray b1 ?_)
              | (refine wpList_bldG (by kernel_rfl) 37 #[(0, .const (.int .i64 5)), (1, .const (.int .i64 2))] rfl [(0, .int .i64 5), (1, .int .i64 2)] (by simp [Act.eval]) c2.toArray b2 ?_)
              | (go_at_call 12; refine (A0.out _ _ _ _ TB0.out).mono ?_; rintro e y1 ⟨rfl, hp⟩; obtain ⟨hs1, vs1, ms1, hp⟩ := hp; have TB1 := hide hp; clear hp TB0 A0)
              | (go_at_call 12; refine (A1.out _ _ _ _ TB1.out).mono ?_; rintro e y2 ⟨rfl, hp⟩; obtain ⟨hs2, vs2, ms2, hp⟩ := hp; have TB2 := hide hp; clear hp TB1 A1)
              | (go_at_call 12; refine (A2.out _ _ _ _ TB2.out).mono ?_; rintro e y3 ⟨rfl, hp⟩; obtain ⟨hs3, vs3, ms3, hp⟩ := hp; have TB3 := hide hp; clear hp TB2 A2)
              | fail)
            go_ret
            exact ⟨rfl, TB3.out.1.be⟩
        · have hkz : ¬ (k : Int) < nO := by omega
          have TB0 : Hid (Tb w _ p hs vs ms ms ∧ ms.length = 3 ∧ ∀ j, j < 3 → (ms.getD j []).length ≤ 62914560) := hide ⟨hy.out.1, hy.out.2.1, fun j hj => by have := hy.out.2.2 j hj; omega⟩
          have ASK : Hid (∀ (q : Int) (y : World) hs vs ms, (Tb w y p hs vs ms ms ∧ ms.length = 3 ∧ ∀ j, j < 3 → (ms.getD j []).length ≤ 62914560) → Calls Tryd.prog 12 #[.pointer (some ⟨p, 0, none⟩), .agg (askC q).toArray] y fun e y' => e = .returned (.bool true) ∧ ∃ hs' vs' ms', Tb w y' p hs' vs' ms' ms' ∧ ms'.length = 3 ∧ ∀ j, j < 3 → (ms'.getD j []).length ≤ 62914560) := hide (fun q y hs vs ms h => hashes_any p hs vs ms 5 q 0 nilS nilS [] (List.replicate 8 0) (List.replicate 64 0) 62914560 w y h.1 h.2.1 (Has.nil _) HK.out HR.out HS.out h.2.2 (by decide))
          clear hy
          have A0 := hide (ASK.out 0)
          have A1 := hide (ASK.out 1)
          have A2 := hide (ASK.out 2)
          clear ASK
          have b0 := built37_0
          have b1 := built37_1
          have b2 := built37_2
          obtain ⟨c0, hc0⟩ : ∃ c, askC 0 = c := ⟨_, rfl⟩
          obtain ⟨c1, hc1⟩ : ∃ c, askC 1 = c := ⟨_, rfl⟩
          obtain ⟨c2, hc2⟩ : ∃ c, askC 2 = c := ⟨_, rfl⟩
          rw [hc0] at A0 b0
          rw [hc1] at A1 b1
          rw [hc2] at A2 b2
          clear hc0 hc1 hc2
          go_upto_region 16 with fail
          go_wp2_with (first
            | (refine wpList_bld rfl 37 #[(0, .const (.int .i64 5))] rfl [(0, .int .i64 5)] (by simp [Act.eval]) c0.toArray b0 ?_)
            | (refine wpList_bldG (by kernel_rfl) 37 #[(0, .const (.int .i64 5)), (1, .const (.int .i64 1))] rfl [(0, .int .i64 5), (1, .int .i64 1)] (by simp [Act.eval]) c1.toArray b1 ?_)
            | (refine wpList_bldG (by kernel_rfl) 37 #[(0, .const (.int .i64 5)), (1, .const (.int .i64 2))] rfl [(0, .int .i64 5), (1, .int .i64 2)] (by simp [Act.eval]) c2.toArray b2 ?_)
            | (go_at_call 12; refine (A0.out _ _ _ _ TB0.out).mono ?_; rintro e y1 ⟨rfl, hp⟩; obtain ⟨hs1, vs1, ms1, hp⟩ := hp; have TB1 := hide hp; clear hp TB0 A0)
            | (go_at_call 12; refine (A1.out _ _ _ _ TB1.out).mono ?_; rintro e y2 ⟨rfl, hp⟩; obtain ⟨hs2, vs2, ms2, hp⟩ := hp; have TB2 := hide hp; clear hp TB1 A1)
            | (go_at_call 12; refine (A2.out _ _ _ _ TB2.out).mono ?_; rintro e y3 ⟨rfl, hp⟩; obtain ⟨hs3, vs3, ms3, hp⟩ := hp; have TB3 := hide hp; clear hp TB2 A2)
            | fail)
          go_ret
          exact ⟨rfl, TB3.out.1.be⟩
end Go.Proofs.YtablmkijlpoaaaaDoor
