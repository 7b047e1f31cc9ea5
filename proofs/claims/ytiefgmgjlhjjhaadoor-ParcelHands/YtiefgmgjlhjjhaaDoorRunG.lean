import Derived.Test.YtiefgmgjlhjjhaaDoorDig
import Derived.ChangeKeysEq
import Derived.Laws.StructEq
import Derived.Test.YtiefgmgjlhjjhaaDoorRegG
import Derived.OrdersHeld
import Derived.Lib.SlBytesConst
import Derived.Deep.RegionHeld3
import Derived.Deep.DeepCutAuto
namespace Go.Proofs.YtiefgmgjlhjjhaaDoor
open Go.RowKit

theorem flat_take (ps : List (Value × List UInt8)) (k : Nat) (h : k < ps.length) : (ps.take (k + 1)).flatMap (·.2) = (ps.take k).flatMap (·.2) ++ ps[k].2 := by
  rw [List.take_succ_eq_append_getElem h, List.flatMap_append]; simp
theorem flat_len (ps : List (Value × List UInt8)) (k : Nat) : ((ps.take k).flatMap (·.2)).length ≤ (ps.flatMap (·.2)).length := by
  conv => rhs; rw [← List.take_append_drop k ps]
  rw [List.flatMap_append, List.length_append]; omega

theorem Parts.shape {w : World} {v : Value} {ps : List (Value × List UInt8)} (h : Parts w v ps) : ∃ ao cap, v = .slice ao ps.length cap ∧ ∀ i p, ps[i]? = some p → ∃ ad, ao = some ad ∧ w.cell? (ad.add i) = some p.1 ∧ Has w p.1 p.2 := by
  rcases h with ⟨rfl, rfl⟩ | ⟨ad, cap, rfl, _, h3⟩
  · exact ⟨none, 0, rfl, fun i p hp => by simp at hp⟩
  · exact ⟨some ad, cap, rfl, fun i p hp => ⟨ad, rfl, h3 i p hp⟩⟩

set_option maxHeartbeats 2000000 in
set_option maxRecDepth 100000 in
theorem sum_any (v : Value) (ps : List (Value × List UInt8)) (w : World) (hP : Parts w v ps) (hK : Kst w) (hn : (ps.flatMap (·.2)).length ≤ 1152921504606846976) (hl : ps.length ≤ 1000000) :
    Calls Tryd.prog 36 #[v] w fun e w' => e = .returned (.agg ((sumOf (ps.flatMap (·.2))).map byt).toArray) ∧ Below w.heap.size w w' := by
  obtain ⟨ao, cap, rfl, hcell⟩ := hP.shape
  have HC := hide hcell
  have HK := hide hK
  have HN := hide hn
  clear hcell hK hn hP
  obtain ⟨M, hM⟩ : ∃ M, M = ps.flatMap (·.2) := ⟨_, rfl⟩
  rw [← hM]
  have HM := hide hM
  clear hM
  go_enter Tryd.func36, Tryd.ntmps36
  go_wp2_with (first
    | (refine wpList_newAt rfl 92 rfl (z32.map byt) zero24 w.heap.size rfl ?_)
    | (go_at_call 57; refine (new_any _).mono ?_; rintro e w1 ⟨g, rfl, hg1, hh1, hb1⟩; have HG1 : Hid (w.heap.size + 1 ≤ g) := (by have := hg1; simp at this; exact this); have HH1 := hide hh1; have HB1 := hide hb1; clear hg1 hh1 hb1))
  go_loopw [9] (fun i wr => ∃ k : Nat, k ≤ ps.length ∧ i = .int .i64 k ∧ Hid (HAt wr g ((ps.take k).flatMap (·.2))) ∧ Hid (Fx (One g) w1 wr)) (fun i _ => ps.length - (intOf i).toNat)
  case atStart => exact ⟨0, by omega, rfl, HH1, hide (Fx.refl _ _)⟩
  case round =>
    obtain ⟨k, hk, rfl, hy, hf⟩ := hrel
    have hbw : Hid (Below w.heap.size w w1) := ((Below.refl w.heap.size w).alloc (Nat.le_refl _) _).trans (HB1.out.mono (by simp))
    have hfw : Hid (Below w.heap.size w wr) := hbw.out.trans (hf.out.below (fun j hj (e : j = g) => by have := HG1.out; omega) hbw.out.size)
    by_cases hlt : k < ps.length
    · have hlz : (k : Int) < (ps.length : Int) := by omega
      obtain ⟨ad, rfl, hc, hh⟩ := HC.out k ps[k] (List.getElem?_eq_getElem hlt)
      have hc' : wr.cell? (ad.add k) = some ps[k].1 := (hfw.out.cell (cell_lt hc)).trans hc
      have HHAS : Hid (Has wr ps[k].1 ps[k].2) := hh.below (by exact ⟨hfw.out.os, hfw.out.tape, hfw.out.output, hfw.out.size, hfw.out.block⟩)
      have HNE := hide (has_lt hh g (by have := HG1.out; omega))
      have HK2 : Hid (Kst wr) := HK.out.below hfw.out HK.out.lt
      have HF := hide (flat_take ps k hlt)
      have HLn : Hid (((ps.take k).flatMap (·.2)).length + ps[k].2.length ≤ 1152921504606846976) := by
        have e1 := flat_take ps k hlt
        have e2 := flat_len ps (k + 1)
        have := HN.out
        rw [e1, List.length_append] at e2
        show _ ≤ _
        omega
      clear hc hh
      generalize ps[k].2 = py at *
      generalize ps[k].1 = pv at *
      go_wp2_with (go_at_call 58; refine (write_any g _ py pv _ hy.out HHAS.out HNE.out HK2.out (by have := HG1.out; omega) (by have := HLn.out; omega)).mono ?_; rintro e w2 ⟨rfl, hH2, hF2⟩; have H2 := hide hH2; have F2 := hide hF2; clear hH2 hF2)
      go_roundw
      case rel => exact ⟨k + 1, by omega, by go_num, by rw [HF.out]; exact H2, hide (hf.out.and F2.out)⟩
      case measure => simp [intOf]; omega
    · obtain rfl : k = ps.length := by omega
      rw [List.take_length, ← HM.out] at hy
      have HNM : Hid (M.length ≤ 1152921504606846976) := by rw [HM.out]; exact HN
      have HK2 : Hid (Kst wr) := HK.out.below hfw.out HK.out.lt
      have hsz := info24 (sumOf M) (sumOf_length M)
      have hre : Hid (Blk wr w.heap.size (z32.map byt) 92) := ((Blk.new w _ _).below HB1.out (by simp)).fx hf.out (fun e : w.heap.size = g => by have := HG1.out; omega)
      go_wp2_with (first
        | (go_at_call 59; refine (hsum_any g M _ hy.out HK2.out HNM.out).mono ?_; rintro e w3 ⟨rfl, hb3⟩; have HB3 := hide hb3; clear hb3)
        | (refine wpList_store_row rfl 92 (.tmp 2) (.tmp 18) rfl w.heap.size ((sumOf M).map byt).toArray rfl rfl 92 (z32.map byt).toArray (hre.out.below HB3.out hre.out.lt) hsz (by rw [List.size_toArray, List.size_toArray, List.length_map, List.length_map, sumOf_length]; rfl) (byts_one _) ?_))
      refine bodyPost_ret (v := .agg ((sumOf M).map byt).toArray) ?_ rfl ⟨rfl, below_setRow (hfw.out.trans (HB3.out.mono hfw.out.size)) _ _ (Nat.le_refl _)⟩
      exact results_cell_row Tryd.results36 _ _ w.heap.size 92 _ (0, 0) _ rfl ((hre.out.below HB3.out hre.out.lt).setRow _) Tryd.underlying92 rfl hsz
/-- The block of 'begun'. -/
structure Bg (w wx : World) (L : List UInt8) : Prop where
  bl : Blk wx w.heap.size (L.map byt) 134
  be : Below w.heap.size w wx
theorem parts_new (W : World) (ps : List (Value × List UInt8)) (h : ∀ p ∈ ps, Has W p.1 p.2) :
    Parts (W.alloc (.cells (ps.map (·.1)).toArray 24)) (.slice (some ⟨W.heap.size, 0, none⟩) ps.length ps.length) ps := by
  refine .inr ⟨_, _, rfl, Nat.le_refl _, fun i p hp => ?_⟩
  rw [add_plain]
  refine ⟨?_, (h p (List.mem_of_getElem? hp)).below (below_new W _)⟩
  rw [(Blk.new W (ps.map (·.1)) 24).cell, List.getElem?_map, hp]; rfl

theorem has_news (W : World) (bs : List UInt8) : Has (W.alloc (.cells (bs.map byt).toArray 5)) (.slice (some ⟨W.heap.size, 0, none⟩) bs.length bs.length) bs := by
  refine .inr ⟨_, _, rfl, Nat.le_refl _, fun i u hu => ?_⟩
  rw [add_plain, (Blk.new W (bs.map byt) 5).cell, List.getElem?_map, hu]
  rfl

section
variable {P : Program} {ops : Array Oper} {Q : Exit → Act → World → Prop} {md : Region.Mode} {S : World → Prop}

end
/-- Bytes of the call's own, at block p. -/
structure Tu (w wx : World) (p : Nat) (L : List UInt8) : Prop where
  bl : Blk wx p (L.map byt) 5
  be : Below w.heap.size w wx
  lp : w.heap.size ≤ p
section
variable {P : Program} {ops : Array Oper} {Q : Exit → Act → World → Prop} {md : Region.Mode} {S : World → Prop}

end

theorem sum_gen (v : Value) (ps : List (Value × List UInt8)) (M D : List UInt8) (hM : ps.flatMap (·.2) = M) (hD : sumOf M = D) (w : World) (hP : Parts w v ps) (hK : Kst w) (hn : M.length ≤ 1152921504606846976) (hl : ps.length ≤ 1000000) :
    Calls Tryd.prog 36 #[v] w fun e w' => e = .returned (.agg (D.map byt).toArray) ∧ Below w.heap.size w w' := by
  subst hM hD
  exact sum_any v ps w hP hK hn hl
/-- A digest in its place. -/
structure Dgt (w x : World) (d : Nat) (D : List UInt8) : Prop where
  bl : Blk x d (D.map byt) 92
  be : Below w.heap.size w x
  ld : w.heap.size ≤ d
/-- Two digests in their places. -/
structure Dg2 (w x : World) (d e : Nat) (D : List UInt8) : Prop where
  bl : Blk x d (D.map byt) 92
  bm : Blk x e (D.map byt) 92
  be : Below w.heap.size w x
end Go.Proofs.YtiefgmgjlhjjhaaDoor
