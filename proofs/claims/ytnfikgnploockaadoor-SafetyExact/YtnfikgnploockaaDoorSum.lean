import Derived.Test.YtnfikgnploockaaDoorDig
namespace Go.Proofs.YtnfikgnploockaaDoor
open Go.RowKit

theorem flat_take (ps : List (Value × List UInt8)) (k : Nat) (h : k < ps.length) : (ps.take (k + 1)).flatMap (·.2) = (ps.take k).flatMap (·.2) ++ ps[k].2 := by
  rw [List.take_succ_eq_append_getElem h, List.flatMap_append]; simp
theorem flat_len (ps : List (Value × List UInt8)) (k : Nat) : ((ps.take k).flatMap (·.2)).length ≤ (ps.flatMap (·.2)).length := by
  conv => rhs; rw [← List.take_append_drop k ps]
  rw [List.flatMap_append, List.length_append]; omega

theorem Parts.shape {w : World} {v : Value} {ps : List (Value × List UInt8)} (h : Parts w v ps) : ∃ ao cap, v = .slice ao ps.length cap ∧ ∀ i p, ps[i]? = some p → ∃ ad, ao = some ad ∧ w.cell? (ad.add i) = some p.1 ∧ Has w p.1 p.2 := by
  rcases h with ⟨rfl, rfl⟩ | ⟨ad, cap, rfl, _, h3⟩
  · exact ⟨none, 0, rfl, fun i p hp => by simp at hp⟩
  · exact ⟨some ad, cap, rfl, fun i p hp => ⟨ad, rfl, h3 i p hp⟩⟩

set_option maxHeartbeats 2000000 in
set_option maxRecDepth 100000 in
theorem sum_any (v : Value) (ps : List (Value × List UInt8)) (w : World) (hP : Parts w v ps) (hK : Kst w) (hn : (ps.flatMap (·.2)).length ≤ 1152921504606846976) (hl : ps.length ≤ 1000000) :
    Calls Tryd.prog 9 #[v] w fun e w' => e = .returned (.agg ((sumOf (ps.flatMap (·.2))).map byt).toArray) ∧ Below w.heap.size w w' := by
  obtain ⟨ao, cap, rfl, hcell⟩ := hP.shape
  have HC := hide hcell
  have HK := hide hK
  have HN := hide hn
  clear hcell hK hn hP
  obtain ⟨M, hM⟩ : ∃ M, M = ps.flatMap (·.2) := ⟨_, rfl⟩
  rw [← hM]
  have HM := hide hM
  clear hM
  go_enter Tryd.func9, Tryd.ntmps9
  go_wp2_with (first
    | (refine wpList_newAt rfl 25 rfl (z32.map byt) zero24 w.heap.size rfl ?_)
    | (go_at_call 18; refine (new_any _).mono ?_; rintro e w1 ⟨g, rfl, hg1, hh1, hb1⟩; have HG1 : Hid (w.heap.size + 1 ≤ g) := (by have := hg1; simp at this; exact this); have HH1 := hide hh1; have HB1 := hide hb1; clear hg1 hh1 hb1))
  go_loopw [9] (fun i wr => ∃ k : Nat, k ≤ ps.length ∧ i = .int .i64 k ∧ Hid (HAt wr g ((ps.take k).flatMap (·.2))) ∧ Hid (Fx (One g) w1 wr)) (fun i _ => ps.length - (intOf i).toNat)
  case atStart => exact ⟨0, by omega, rfl, HH1, hide (Fx.refl _ _)⟩
  case round =>
    obtain ⟨k, hk, rfl, hy, hf⟩ := hrel
    have hbw : Hid (Below w.heap.size w w1) := ((Below.refl w.heap.size w).alloc (Nat.le_refl _) _).trans (HB1.out.mono (by simp))
    have hfw : Hid (Below w.heap.size w wr) := hbw.out.trans (hf.out.below (fun j hj (e : j = g) => by have := HG1.out; omega) hbw.out.size)
    by_cases hlt : k < ps.length
    · have hlz : (k : Int) < (ps.length : Int) := by omega
      obtain ⟨ad, rfl, hc, hh⟩ := HC.out k ps[k] (List.getElem?_eq_getElem hlt)
      have hc' : wr.cell? (ad.add k) = some ps[k].1 := (hfw.out.cell (cell_lt hc)).trans hc
      have HHAS : Hid (Has wr ps[k].1 ps[k].2) := hh.below (by exact ⟨hfw.out.os, hfw.out.tape, hfw.out.output, hfw.out.size, hfw.out.block⟩)
      have HNE := hide (has_lt hh g (by have := HG1.out; omega))
      have HK2 : Hid (Kst wr) := HK.out.below hfw.out HK.out.lt
      have HF := hide (flat_take ps k hlt)
      have HLn : Hid (((ps.take k).flatMap (·.2)).length + ps[k].2.length ≤ 1152921504606846976) := by
        have e1 := flat_take ps k hlt
        have e2 := flat_len ps (k + 1)
        have := HN.out
        rw [e1, List.length_append] at e2
        show _ ≤ _
        omega
      clear hc hh
      generalize ps[k].2 = py at *
      generalize ps[k].1 = pv at *
      go_wp2_with (go_at_call 19; refine (write_any g _ py pv _ hy.out HHAS.out HNE.out HK2.out (by have := HG1.out; omega) (by have := HLn.out; omega)).mono ?_; rintro e w2 ⟨rfl, hH2, hF2⟩; have H2 := hide hH2; have F2 := hide hF2; clear hH2 hF2)
      go_roundw
      case rel => exact ⟨k + 1, by omega, by go_num, by rw [HF.out]; exact H2, hide (hf.out.and F2.out)⟩
      case measure => simp [intOf]; omega
    · obtain rfl : k = ps.length := by omega
      rw [List.take_length, ← HM.out] at hy
      have HNM : Hid (M.length ≤ 1152921504606846976) := by rw [HM.out]; exact HN
      have HK2 : Hid (Kst wr) := HK.out.below hfw.out HK.out.lt
      have hsz := info24 (sumOf M) (sumOf_length M)
      have hre : Hid (Blk wr w.heap.size (z32.map byt) 25) := ((Blk.new w _ _).below HB1.out (by simp)).fx hf.out (fun e : w.heap.size = g => by have := HG1.out; omega)
      go_wp2_with (first
        | (go_at_call 20; refine (hsum_any g M _ hy.out HK2.out HNM.out).mono ?_; rintro e w3 ⟨rfl, hb3⟩; have HB3 := hide hb3; clear hb3)
        | (refine wpList_store_row rfl 25 (.tmp 2) (.tmp 18) rfl w.heap.size ((sumOf M).map byt).toArray rfl rfl 25 (z32.map byt).toArray (hre.out.below HB3.out hre.out.lt) hsz (by rw [List.size_toArray, List.size_toArray, List.length_map, List.length_map, sumOf_length]; rfl) (byts_one _) ?_))
      refine bodyPost_ret (v := .agg ((sumOf M).map byt).toArray) ?_ rfl ⟨rfl, below_setRow (hfw.out.trans (HB3.out.mono hfw.out.size)) _ _ (Nat.le_refl _)⟩
      exact results_cell_row Tryd.results9 _ _ w.heap.size 25 _ (0, 0) _ rfl ((hre.out.below HB3.out hre.out.lt).setRow _) Tryd.underlying25 rfl hsz
end Go.Proofs.YtnfikgnploockaaDoor
