import Derived.Test.YtoceepmehmacbaaDoorMac
import Derived.ChangeKeysEq
import Derived.Laws.StructEq
import Derived.Test.YtoceepmehmacbaaDoorRegG
import Derived.OrdersHeld
import Derived.Lib.SlBytesConst
import Derived.Deep.RegionHeld3
import Derived.Deep.DeepCutAuto
namespace Go.Proofs.YtoceepmehmacbaaDoor
open Go.RowKit

/-- The blocks of 'Mac': its result, and the key's block at b. -/
structure Mc (w x : World) (b : Nat) (K : List UInt8) : Prop where
  re : Blk x w.heap.size (z32.map byt) 57
  bl : Blk x b (K.map byt) 31
  be : Below w.heap.size w x
  lt : w.heap.size < b
theorem Mc.below {w x y : World} {b : Nat} {K : List UInt8} (h : Mc w x b K) (hb : Below x.heap.size x y) : Mc w y b K :=
  ⟨h.re.below hb h.re.lt, h.bl.below hb h.bl.lt, h.be.trans (hb.mono h.be.size), h.lt⟩
theorem Mc.fx {w x y : World} {b g : Nat} {K : List UInt8} (h : Mc w x b K) (hf : Fx (One g) x y) (hg : b < g) : Mc w y b K :=
  ⟨h.re.fx hf (fun e : w.heap.size = g => by have := h.lt; omega), h.bl.fx hf (fun e : b = g => by omega), h.be.trans (hf.below (fun j hj (e : j = g) => by have := h.lt; omega) h.be.size), h.lt⟩

theorem key_is (v : Value) (key KB : List UInt8) (hKB : kb key = KB) (w : World) (hv : Has w v key) (hn : key.length ≤ 1152921504606846976) (hK : Kst w) :
    Calls Tryd.prog 42 #[v] w fun e w' => e = .returned (.agg (KB.map byt).toArray) ∧ Below w.heap.size w w' := by
  subst hKB
  exact key_any v key w hv hn hK
theorem hsum_is (p : Nat) (m D : List UInt8) (hD : sumOf m = D) (w : World) (hH : HAt w p m) (hK : Kst w) (hn : m.length ≤ 1152921504606846976) :
    Calls Tryd.prog 45 #[.pointer (some ⟨p, 0, none⟩)] w fun e w' => e = .returned (.agg (D.map byt).toArray) ∧ Below w.heap.size w w' := by
  subst hD
  exact hsum_any p m w hH hK hn
theorem begun_is (b m : List UInt8) (hb : b.length = 64) (x : UInt8) (n : Int) (hx : (x.toNat : Int) = n) (hm : xr x b = m) (w : World) (hK : Kst w) :
    Calls Tryd.prog 43 #[.agg (b.map byt).toArray, .int .u8 n] w fun e w' => ∃ g, e = .returned (.pointer (some ⟨g, 0, none⟩)) ∧ w.heap.size ≤ g ∧ HAt w' g m ∧ Below w.heap.size w w' := by
  subst hm hx
  exact begun_any b hb x w hK

set_option maxHeartbeats 400000 in
set_option maxRecDepth 100000 in
theorem mac_parts (vk v : Value) (key M KB D1 D2 : List UInt8) (hKB : kb key = KB) (ps : List (Value × List UInt8)) (hM : ps.flatMap (·.2) = M) (hD1 : sumOf (xr 54 KB ++ M) = D1) (hD2 : sumOf (xr 92 KB ++ D1) = D2)
    (w : World) (hk : Has w vk key) (hP : Parts w v ps) (hK : Kst w) (hn : key.length ≤ 1152921504606846976) (hm : M.length ≤ 1000000000000000000) (hl : ps.length ≤ 1000000) :
    Calls Tryd.prog 29 #[vk, v] w fun e w' => e = .returned (.agg (D2.map byt).toArray) ∧ Below w.heap.size w w' := by
  obtain ⟨ao, cap, rfl, hcell⟩ := hP.shape
  have h64 : KB.length = 64 := by rw [← hKB]; exact kb_length key
  have l1 : D1.length = 32 := by rw [← hD1]; exact sumOf_length _
  have l2 : D2.length = 32 := by rw [← hD2]; exact sumOf_length _
  obtain ⟨X1, hX1⟩ : ∃ X, xr 54 KB = X := ⟨_, rfl⟩
  obtain ⟨X2, hX2⟩ : ∃ X, xr 92 KB = X := ⟨_, rfl⟩
  have x1 : X1.length = 64 := by rw [← hX1, xr_length, h64]
  have x2 : X2.length = 64 := by rw [← hX2, xr_length, h64]
  rw [hX1] at hD1
  rw [hX2] at hD2
  have HC := hide hcell
  have HKY := hide hk
  have HK := hide hK
  have HN := hide hn
  have HMl := hide hm
  have HM := hide hM
  have HKB := hide hKB
  have HD1 := hide hD1
  have HD2 := hide hD2
  have HX1 := hide hX1
  have HX2 := hide hX2
  have L1 := hide l1
  have L2 := hide l2
  have XL1 := hide x1
  have XL2 := hide x2
  have H64 := hide h64
  have i35 := info42 KB h64
  have i42a := info24 D1 l1
  have i42b := info24 D2 l2
  clear hcell hk hK hn hm hM hKB hD1 hD2 hX1 hX2 l1 l2 x1 x2 h64 hP
  go_enter Tryd.func29, Tryd.ntmps29
  go_wp2_with (first
    | (refine wpList_newAt rfl 57 rfl (z32.map byt) zero24 w.heap.size rfl ?_)
    | (go_at_call 42; refine (key_is vk key KB HKB.out _ (HKY.out.below (below_new w _)) HN.out (HK.out.below (below_new w _) HK.out.lt)).mono ?_; rintro e w1 ⟨rfl, hb1⟩; have HB1 := hide hb1; clear hb1)
    | (refine wpList_newAt rfl 31 rfl (z64b.map byt) zero35 w1.heap.size rfl ?_)
    | (refine wpList_store_row rfl 31 (.tmp 5) (.tmp 12) rfl w1.heap.size (KB.map byt).toArray rfl rfl 31 (z64b.map byt).toArray (Blk.new w1 _ _) i35 (by rw [List.size_toArray, List.size_toArray, List.length_map, List.length_map, H64.out, z64b_length]) (byts_one _) ?_)
    | (refine wpList_load_row rfl 31 (.tmp 5) rfl w1.heap.size rfl 31 (KB.map byt).toArray (0, 0) _ ((Blk.new w1 (z64b.map byt) 31).setRow (KB.map byt)) Tryd.underlying31 rfl i35 ?_)
    | fail)
  have hMc : Hid (Mc w ((w1.alloc (.cells (z64b.map byt).toArray 31)).setRow w1.heap.size (KB.map byt).toArray) w1.heap.size KB) := by
    have hs := HB1.out.size
    have hs' : w.heap.size + 1 ≤ w1.heap.size := by simpa using hs
    have b0 : Blk w1 w.heap.size (z32.map byt) 57 := (Blk.new w _ _).below HB1.out (by simp)
    have be1 : Below w.heap.size w w1 := (below_new w _).trans (HB1.out.mono (by simp))
    exact ⟨(b0.alloc _).setRowOther _ _ (by omega), (Blk.new w1 _ _).setRow _, below_setRow (be1.alloc (by omega) _) _ _ (by omega), by omega⟩
  have hlt1 : Hid (w1.heap.size < ((w1.alloc (.cells (z64b.map byt).toArray 31)).setRow w1.heap.size (KB.map byt).toArray).heap.size) := hMc.out.bl.lt
  generalize (w1.alloc (.cells (z64b.map byt).toArray 31)).setRow w1.heap.size (KB.map byt).toArray = wa at hMc hlt1 ⊢
  generalize w1.heap.size = b at hMc hlt1 ⊢
  have KA : Hid (Kst wa) := HK.out.below hMc.out.be HK.out.lt
  refine (begun_is KB X1 H64.out 54 54 rfl HX1.out wa KA.out).mono ?_
  rintro e w2 ⟨g, rfl, hg2, hh2, hb2⟩
  have hG : Hid (b < g) := by show _ < _; have := hlt1.out; omega
  have HH2 := hide hh2
  have HM2 := hide (hMc.out.below hb2)
  have KA2 : Hid (Kst w2) := HK.out.below HM2.out.be HK.out.lt
  clear hg2 hh2 hb2
  go_wp2_with fail
  go_loopw [17] (fun i wr => ∃ k : Nat, k ≤ ps.length ∧ i = .int .i64 k ∧ Hid (HAt wr g (X1 ++ (ps.take k).flatMap (·.2))) ∧ Hid (Mc w wr b KB)) (fun i _ => ps.length - (intOf i).toNat)
  case atStart => exact ⟨0, by omega, rfl, by simpa using HH2, HM2⟩
  case round =>
    obtain ⟨k, hk, rfl, hy, hf⟩ := hrel
    have HK2 : Hid (Kst wr) := HK.out.below hf.out.be HK.out.lt
    by_cases hlt : k < ps.length
    · have hlz : (k : Int) < (ps.length : Int) := by omega
      obtain ⟨ad, rfl, hc, hh⟩ := HC.out k ps[k] (List.getElem?_eq_getElem hlt)
      have hc' : wr.cell? (ad.add k) = some ps[k].1 := (hf.out.be.cell (cell_lt hc)).trans hc
      have HHAS : Hid (Has wr ps[k].1 ps[k].2) := hh.below hf.out.be
      have HNE := hide (has_lt hh g (by have := hG.out; have := hf.out.lt; omega))
      have HF := hide (flat_take ps k hlt)
      have HLn : Hid ((X1 ++ (ps.take k).flatMap (·.2)).length + ps[k].2.length ≤ 4611686018427387904) := by
        have e1 := flat_take ps k hlt
        have e2 := flat_len ps (k + 1)
        have := HMl.out
        rw [e1, List.length_append, HM.out] at e2
        show _ ≤ _
        rw [List.length_append, XL1.out]
        omega
      clear hc hh
      generalize ps[k].2 = py at *
      generalize ps[k].1 = pv at *
      go_wp2_with (go_at_call 44; refine (write_any g _ py pv _ hy.out HHAS.out HNE.out HK2.out (by have := hG.out; omega) HLn.out).mono ?_; rintro e w3 ⟨rfl, hH3, hF3⟩; have H3 := hide hH3; have F3 := hide hF3; clear hH3 hF3)
      go_roundw
      case rel => exact ⟨k + 1, by omega, by go_num, by rw [HF.out, ← List.append_assoc]; exact H3, hide (hf.out.fx F3.out hG.out)⟩
      case measure => simp [intOf]; omega
    · obtain rfl : k = ps.length := by omega
      rw [List.take_length, HM.out] at hy
      have HL1 : Hid ((X1 ++ M).length ≤ 1152921504606846976) := by
        have := HMl.out
        show _ ≤ _
        rw [List.length_append, XL1.out]; omega
      have hbl := hf.out.bl
      have HWE : ∀ x : World, Hid (Below wr.heap.size wr x) → Hid (Blk ((x.alloc (.cells (z32.map byt).toArray 57)).setRow x.heap.size (D1.map byt).toArray) b (KB.map byt) 31) := fun x hx =>
        hide (((hf.out.below hx.out).bl.alloc _).setRowOther _ _ (by have := (hf.out.below hx.out).bl.lt; omega))
      clear hbl
      go_wp2_with (first
        | (go_at_call 45; refine (hsum_is g (X1 ++ M) D1 HD1.out _ hy.out HK2.out HL1.out).mono ?_; rintro e w4 ⟨rfl, hb4⟩; have HB4 := hide hb4; clear hb4)
        | (refine wpList_newAt rfl 57 rfl (z32.map byt) zero24 w4.heap.size rfl ?_)
        | (refine wpList_store_row rfl 57 (.tmp 9) (.tmp 26) rfl w4.heap.size (D1.map byt).toArray rfl rfl 57 (z32.map byt).toArray (Blk.new w4 _ _) i42a (by rw [List.size_toArray, List.size_toArray, List.length_map, List.length_map, L1.out]; rfl) (byts_one _) ?_)
        | (refine wpList_load_row rfl 31 (.tmp 5) rfl b rfl 31 (KB.map byt).toArray (0, 0) _ (HWE w4 HB4).out Tryd.underlying31 rfl i35 ?_)
        | fail)
      have M5 : Hid (Mc w ((w4.alloc (.cells (z32.map byt).toArray 57)).setRow w4.heap.size (D1.map byt).toArray) b KB) := by
        have m4 := hf.out.below HB4.out
        have l4 := m4.bl.lt
        have l5 := m4.lt
        exact ⟨(m4.re.alloc _).setRowOther _ _ (by omega), (m4.bl.alloc _).setRowOther _ _ (by omega), below_setRow (m4.be.alloc (by omega) _) _ _ (by omega), l5⟩
      have D5 : Hid (Blk ((w4.alloc (.cells (z32.map byt).toArray 57)).setRow w4.heap.size (D1.map byt).toArray) w4.heap.size (D1.map byt) 57) := (Blk.new w4 _ _).setRow _
      have B5 : Hid (b < w4.heap.size) := by have := (hf.out.below HB4.out).bl.lt; exact this
      generalize (w4.alloc (.cells (z32.map byt).toArray 57)).setRow w4.heap.size (D1.map byt).toArray = w5 at M5 D5 ⊢
      generalize w4.heap.size = d at D5 B5 ⊢
      have K5 : Hid (Kst w5) := HK.out.below M5.out.be HK.out.lt
      refine (begun_is KB X2 H64.out 92 92 rfl HX2.out w5 K5.out).mono ?_
      rintro e w6 ⟨g2, rfl, hg6, hh6, hb6⟩
      have l5 := D5.out.lt
      have H6 := hide hh6
      have M6 := hide (M5.out.below hb6)
      have D6 := hide (D5.out.below hb6 l5)
      have G6 : Hid (d < g2) := by show _ < _; omega
      have K6 : Hid (Kst w6) := HK.out.below M6.out.be HK.out.lt
      clear hg6 hh6 hb6 l5
      go_wp2_with fail
      refine (write_any g2 X2 D1 (.slice (some ⟨d, 0, none⟩) 32 32) w6 H6.out (D6.out.has 32 L1.out) (.inr (fun e => by simp [Value.ownBlock] at e; have := G6.out; omega)) K6.out (by have := G6.out; omega) (by rw [XL2.out, L1.out]; decide)).mono ?_
      rintro e w7 ⟨rfl, hh7, hf7⟩
      have H7 := hide hh7
      have M7 := hide (M6.out.fx hf7 (by have := G6.out; have := B5.out; omega))
      have K7 : Hid (Kst w7) := HK.out.below M7.out.be HK.out.lt
      clear hh7 hf7
      go_wp2_with (first
        | (go_at_call 45; refine (hsum_is g2 (X2 ++ D1) D2 HD2.out _ H7.out K7.out (by rw [List.length_append, XL2.out, L1.out]; decide)).mono ?_; rintro e w8 ⟨rfl, hb8⟩; have HB8 := hide hb8; clear hb8)
        | (refine wpList_store_row rfl 57 (.tmp 4) (.tmp 33) rfl w.heap.size (D2.map byt).toArray rfl rfl 57 (z32.map byt).toArray (M7.out.below HB8.out).re i42b (by rw [List.size_toArray, List.size_toArray, List.length_map, List.length_map, L2.out]; rfl) (byts_one _) ?_)
        | fail)
      have M8 := M7.out.below HB8.out
      refine bodyPost_ret (v := .agg (D2.map byt).toArray) ?_ rfl ⟨rfl, below_setRow M8.be _ _ (Nat.le_refl _)⟩
      exact results_cell_row Tryd.results29 _ _ w.heap.size 57 _ (0, 0) _ rfl (M8.re.setRow _) Tryd.underlying57 rfl i42b

/-- 'Mac' of any parts. -/
theorem mac_any (vk v : Value) (key M : List UInt8) (ps : List (Value × List UInt8)) (hM : ps.flatMap (·.2) = M)
    (w : World) (hk : Has w vk key) (hP : Parts w v ps) (hK : Kst w) (hn : key.length ≤ 1152921504606846976) (hm : M.length ≤ 1000000000000000000) (hl : ps.length ≤ 1000000) :
    Calls Tryd.prog 29 #[vk, v] w fun e w' => e = .returned (.agg ((macOf key M).map byt).toArray) ∧ Below w.heap.size w w' :=
  mac_parts vk v key M (kb key) _ _ rfl ps hM rfl rfl w hk hP hK hn hm hl

/-- 'Mac' of parts that are written out in the call. -/
theorem mac_at (W : World) (n : Nat) (hW : n = W.heap.size) (vk : Value) (key M D : List UInt8) (ps : List (Value × List UInt8)) (hM : ps.flatMap (·.2) = M) (hD : macOf key M = D)
    (hk : Has W vk key) (h : ∀ p ∈ ps, Has W p.1 p.2) (hK : Kst W) (hn : key.length ≤ 1152921504606846976) (hm : M.length ≤ 1000000000000000000) (hl : ps.length ≤ 1000) :
    Calls Tryd.prog 29 #[vk, .slice (some ⟨n, 0, none⟩) ps.length ps.length] (W.alloc (.cells (ps.map (·.1)).toArray 40)) fun e w' => e = .returned (.agg (D.map byt).toArray) ∧ Below W.heap.size W w' := by
  subst hW hD
  exact (mac_any vk _ key M ps hM _ (hk.below (below_new W _)) (parts_new W ps h) (hK.below (below_new W _) hK.lt) hn hm (by omega)).mono fun e w' ⟨h1, h2⟩ => ⟨h1, (below_new W _).trans (h2.mono (below_new W _).size)⟩
end Go.Proofs.YtoceepmehmacbaaDoor

namespace Go.Proofs.YtoceepmehmacbaaDoor
open Go.RowKit

theorem guard24 : Tryd.prog.eqGuardType Tryd.prog.depth 24 = false := by kernel_rfl

theorem has_news (W : World) (bs : List UInt8) : Has (W.alloc (.cells (bs.map byt).toArray 5)) (.slice (some ⟨W.heap.size, 0, none⟩) bs.length bs.length) bs := by
  refine .inr ⟨_, _, rfl, Nat.le_refl _, fun i u hu => ?_⟩
  rw [add_plain, (Blk.new W (bs.map byt) 5).cell, List.getElem?_map, hu]
  rfl

set_option maxHeartbeats 400000 in
set_option maxRecDepth 100000 in
/-- 'Extract'. -/
theorem extract_is (vk v : Value) (key m D : List UInt8) (hD : macOf key m = D) (w : World) (hk : Has w vk key) (hv : Has w v m) (hK : Kst w) (hn : key.length ≤ 1152921504606846976) (hm : m.length ≤ 1000000000000000000) :
    Calls Tryd.prog 16 #[vk, v] w fun e w' => e = .returned (.agg (D.map byt).toArray) ∧ Below w.heap.size w w' := by
  obtain ⟨ao, cap, rfl⟩ := hv.slice
  have l1 : D.length = 32 := by rw [← hD]; exact macOf_length _ _
  have i42 := info24 D l1
  have L1 := hide l1
  have HK := hide hK
  have HN := hide hn
  have HM := hide hm
  have HKY := hide hk
  have HV := hide hv
  have HD := hide hD
  clear l1 hK hn hm hk hv hD
  go_enter Tryd.func16, Tryd.ntmps16
  go_wp2_with (first
    | (refine wpList_newAt rfl 57 rfl (z32.map byt) zero24 w.heap.size rfl ?_)
    | fail)
  have hw0 : Hid (Below w.heap.size w (w.alloc (.cells (z32.map byt).toArray 57))) := below_new w _
  have hz0 : Hid (w.heap.size + 1 = (w.alloc (.cells (z32.map byt).toArray 57)).heap.size) := by show _ = _; simp
  have hb0 : Hid (Blk (w.alloc (.cells (z32.map byt).toArray 57)) w.heap.size (z32.map byt) 57) := Blk.new w _ _
  generalize w.alloc (.cells (z32.map byt).toArray 57) = w0 at hw0 hz0 hb0 ⊢
  refine (mac_at w0 (w.heap.size + 1) hz0.out vk key m D [(.slice ao m.length cap, m)] (by simp) HD.out (HKY.out.below hw0.out) (one_all (HV.out.below hw0.out)) (HK.out.below hw0.out HK.out.lt) HN.out HM.out (by simp)).mono ?_
  rintro e w1 ⟨rfl, hb1⟩
  have HB1 := hide hb1
  clear hb1
  go_wp2_with (refine wpList_store_row rfl 57 (.tmp 4) (.tmp 8) rfl w.heap.size (D.map byt).toArray rfl rfl 57 (z32.map byt).toArray (hb0.out.below HB1.out hb0.out.lt) i42 (by rw [List.size_toArray, List.size_toArray, List.length_map, List.length_map, L1.out]; rfl) (byts_one _) ?_)
  refine bodyPost_ret (v := .agg (D.map byt).toArray) ?_ rfl ⟨rfl, below_setRow (hw0.out.trans (HB1.out.mono hw0.out.size)) _ _ (Nat.le_refl _)⟩
  exact results_cell_row Tryd.results16 _ _ w.heap.size 57 _ (0, 0) _ rfl ((hb0.out.below HB1.out hb0.out.lt).setRow _) Tryd.underlying57 rfl i42

end Go.Proofs.YtoceepmehmacbaaDoor

namespace Go.Proofs.YtoceepmehmacbaaDoor
open Go.RowKit

section
variable {P : Program} {ops : Array Oper} {Q : Exit → Act → World → Prop} {md : Region.Mode} {S : World → Prop}

/-- An operation that yields its value wherever S holds is taken first. -/
theorem takeH {i : Nat} {o : Oper} (hi : ops[i]? = some o) (op : Op) (ho : o.op = op) (d : Nat) (hd : o.dst = some d) {v : Value} {fuel : Nat} {listed : Array Bool} {a : Act} {w : World}
    (hs : Region.noSelect ops = true) (hf : Region.free md ops listed i = true) (hr : (Region.ready md ops listed).contains i = true)
    (hQ : ∀ c a w, Q (.panic c) (a.put (some d) v) w → Q (.panic c) a w) (hw : Region.wanted o (yielded ops a.tmps) = true) (hrun : ∀ o' : Oper, o'.op = op → ∀ w, S w → (execOp a.eval o').run P w = .ok (.value v) w) (hS : S w)
    (h : wpAnyH P md ops Q S fuel (listed.setIfInBounds i true) (a.put (some d) v) w) : wpAnyH P md ops Q S (fuel + 1) listed a w := by
  rw [← hd] at hQ h
  exact wpAnyH_take hi hs hf hr hQ (.inl ⟨hw, hrun o ho⟩) hS h

theorem takeH_load {i : Nat} {o : Oper} (hi : ops[i]? = some o) (d' : Nat) (hd' : o.dst = some d') (ty : TypeId) (x : Operand) (ho : o.op = .load ty x) {fuel : Nat} {listed : Array Bool} {a : Act} {w : World} {cs : List Value}
    (hs : Region.noSelect ops = true) (hf : Region.free md ops listed i = true) (hr : (Region.ready md ops listed).contains i = true)
    (hQ : ∀ c a w, Q (.panic c) (a.put (some d') (.agg cs.toArray)) w → Q (.panic c) a w) (hw : Region.wanted o (yielded ops a.tmps) = true)
    (b off : Nat) (hx : a.eval x = .pointer (some ⟨b, off, none⟩)) (cs' : List Value) (hcs : cs' = cs) (hS' : ∀ w, S w → w.rangeAt b off cs') {d : TypeDesc}
    (hu : P.underlying ty = some d) (hd : d.isRow = true) (hsz : (P.info? ty).map (·.size) = some cs'.length) (hS : S w)
    (h : wpAnyH P md ops Q S fuel (listed.setIfInBounds i true) (a.put (some d') (.agg cs.toArray)) w) : wpAnyH P md ops Q S (fuel + 1) listed a w := by
  subst hcs
  rw [← hd'] at hQ h
  exact wpAnyH_take hi hs hf hr hQ (yieldsIf_load_mid hw ty x ho b off hx cs' d hS' hu hd hsz) hS h

theorem onlyH {i : Nat} {fuel : Nat} {listed : Array Bool} {a : Act} {w : World} (hr : Region.ready md ops listed = [i])
    (h : wpOp P ops Q i (fun a' w' => S w' ∧ wpAnyH P md ops Q S fuel (listed.setIfInBounds i true) a' w') a w) : wpAnyH P md ops Q S (fuel + 1) listed a w :=
  wpAnyH_all hr (by simp) (fun j hj => by
    obtain rfl : j = i := by simpa using hj
    exact h)

theorem opG_wp {i : Nat} {o : Oper} (hi : ops[i]? = some o) {K : Act → World → Prop} {a : Act} {w : World} (hw : Region.wanted o (yielded ops a.tmps) = true) (h : o.wp P a w K Q) : wpOp P ops Q i K a w := by
  unfold wpOp
  simp only [hi, hw, if_true]
  exact .inl h

theorem opG_run {i : Nat} {o : Oper} (hi : ops[i]? = some o) {K : Act → World → Prop} {a : Act} {w : World} (hw : Region.wanted o (yielded ops a.tmps) = true) (op : Op) (ho : o.op = op) (d : Nat) (hd : o.dst = some d) (v : Value) (w1 : World)
    (hrun : ∀ o' : Oper, o'.op = op → (execOp a.eval o').run P w = .ok (.value v) w1) (h : K (a.put (some d) v) w1) : wpOp P ops Q i K a w := by
  refine opG_wp hi hw ?_
  unfold Oper.wp
  rw [hrun o ho]
  simp only [Oper.upon]
  rw [hd]
  exact h

end
end Go.Proofs.YtoceepmehmacbaaDoor

namespace Go.Proofs.YtoceepmehmacbaaDoor
open Go.RowKit

/-- 'make([]byte, l)'. -/
theorem wpList_mkB {ops : Array Oper} {rest : List Oper} {o : Oper} {a : Act} {w : World} {Q : Exit → Act → World → Prop} (hgd : o.guard = none) (x y : Operand) (ho : o.op = .makeSlice 40 x y) (l : Nat) (li : Int) (hli : li = l)
    (hx : a.eval x = .int .i64 li) (hy : a.eval y = .int .i64 li) (hc : l ≤ 16777216) (g : Nat) (hg : g = w.heap.size)
    (h : wpList Tryd.prog ops Q rest (a.put o.dst (.slice (some ⟨g, 0, none⟩) l l)) (w.alloc (.cells ((List.replicate l 0).map byt).toArray 5))) : wpList Tryd.prog ops Q (o :: rest) a w := by
  subst hli hg
  obtain ⟨i0, hi, hz0, hz1, hz2⟩ := info_parts Tryd.info5
  have hrun := run_makeSlice (P := Tryd.prog) w 40 5 i0 (.int .u8 0) Tryd.underlying40 hi hz0 .i64 .i64 l l (by omega) (by omega) (by rw [hz1]; simpa using hc) (by rw [hz2]; omega) (by omega)
  rw [hz1, Int.toNat_natCast, Nat.mul_one, made_zeros] at hrun
  refine wpList_plain hgd fun K hK => ?_
  unfold Oper.wp
  simp only [execOp, ho, hx, hy, Sem.run_bind, hrun, Result.andThen_ok]
  exact hK _ _ h

/-- Bytes of the call's own, at block p. -/
structure Tu (w wx : World) (p : Nat) (L : List UInt8) : Prop where
  bl : Blk wx p (L.map byt) 5
  be : Below w.heap.size w wx
  lp : w.heap.size ≤ p
theorem has_newsM (W : World) (bs : List UInt8) (fr : Nat × Nat) (n : Nat) (hn : n = W.heap.size) : Has (W.alloc (.cells (bs.map byt).toArray 5 fr)) (.slice (some ⟨n, 0, none⟩) bs.length bs.length) bs := by
  subst hn
  refine .inr ⟨_, _, rfl, Nat.le_refl _, fun i u hu => ?_⟩
  rw [add_plain, cell_of_row _ _ i _ 5 fr (heap_alloc_new W _)]
  simp [hu]

end Go.Proofs.YtoceepmehmacbaaDoor

namespace Go.Proofs.YtoceepmehmacbaaDoor
open Go.RowKit

section
variable {P : Program} {ops : Array Oper} {Q : Exit → Act → World → Prop} {md : Region.Mode} {S : World → Prop}

theorem eitherH {i j : Nat} {fuel : Nat} {listed : Array Bool} {a : Act} {w : World} (hr : Region.ready md ops listed = [i, j])
    (h : wpOp P ops Q i (fun a' w' => S w' ∧ wpAnyH P md ops Q S fuel (listed.setIfInBounds i true) a' w') a w) (k : wpOp P ops Q j (fun a' w' => S w' ∧ wpAnyH P md ops Q S fuel (listed.setIfInBounds j true) a' w') a w) : wpAnyH P md ops Q S (fuel + 1) listed a w :=
  wpAnyH_all hr (by simp) (fun l hl => by
    rcases (show l = i ∨ l = j by simpa using hl) with rfl | rfl
    · exact h
    · exact k)
end

theorem run_new {P : Program} {ev : Operand → Value} {o : Oper} (t : TypeId) (ho : o.op = .alloc t) (cs : List Value) (hz : ∀ w, (zeroValue t).run P w = .ok (.agg cs.toArray) w) (w : World) : (execOp ev o).run P w = .ok (.value (.pointer (some ⟨w.heap.size, 0, none⟩))) (w.alloc (.cells cs.toArray t)) := by
  simp [execOp, ho, Instr.alloc, hz, newVar, newRow, Value.cells]
theorem two_all {W : World} {a b : Value} {xa xb : List UInt8} (h1 : Has W a xa) (h2 : Has W b xb) : ∀ p ∈ [(a, xa), (b, xb)], Has W p.1 p.2 := by
  intro p hp
  simp only [List.mem_cons, List.not_mem_nil, or_false] at hp
  rcases hp with rfl | rfl
  · exact h1
  · exact h2
theorem three_all {W : World} {a b c : Value} {xa xb xc : List UInt8} (h1 : Has W a xa) (h2 : Has W b xb) (h3 : Has W c xc) : ∀ p ∈ [(a, xa), (b, xb), (c, xc)], Has W p.1 p.2 := by
  intro p hp
  simp only [List.mem_cons, List.not_mem_nil, or_false] at hp
  rcases hp with rfl | rfl | rfl
  · exact h1
  · exact h2
  · exact h3
theorem Blk.there {w : World} {g : Nat} {cs : List Value} {t : TypeId} (h : Blk w g cs t) (n : Nat) (hn : n ≤ cs.length) : w.there g 0 n := fun j hj =>
  ⟨by rw [h.cell, List.getElem?_eq_getElem (by omega)]; rfl, h.frozen _⟩
/-- A digest in its place. -/
structure Dgt (w x : World) (d : Nat) (D : List UInt8) : Prop where
  bl : Blk x d (D.map byt) 57
  be : Below w.heap.size w x
  ld : w.heap.size ≤ d
theorem Dgt.new {w x : World} (h : Below w.heap.size w x) : Dgt w (x.alloc (.cells (z32.map byt).toArray 57)) x.heap.size z32 := ⟨Blk.new x _ _, h.alloc h.size _, h.size⟩
theorem Dgt.row {w x : World} {d : Nat} {D E : List UInt8} (h : Dgt w x d D) : Dgt w (x.setRow d (E.map byt).toArray) d E := ⟨h.bl.setRow _, below_setRow h.be _ _ h.ld, h.ld⟩
theorem Dgt.has {w x : World} {d : Nat} {D : List UInt8} (h : Dgt w x d D) (n : Nat) (hn : D.length = n) : Has x (.slice (some ⟨d, 0, none⟩) n n) D := h.bl.has n hn
/-- Two digests in their places. -/
structure Dg2 (w x : World) (d e : Nat) (D : List UInt8) : Prop where
  bl : Blk x d (D.map byt) 57
  bm : Blk x e (D.map byt) 57
  be : Below w.heap.size w x
end Go.Proofs.YtoceepmehmacbaaDoor

namespace Go.Proofs.YtoceepmehmacbaaDoor
open Go.RowKit

/-- The world holds the document's first words. -/
def Bst (w : World) : Prop := ∀ t, t < 8 → w.cell? ⟨2, t, none⟩ = some (.int .u64 (wn (iv.getD t 0)))
/-- A result of the function at g, a row that is filled at d. -/
structure Fl (w x : World) (g d : Nat) (Z L : List Value) (t : TypeId) : Prop where
  re : Blk x g Z t
  bl : Blk x d L t
  be : Below w.heap.size w x
  lg : w.heap.size ≤ g
  gd : g < d
end Go.Proofs.YtoceepmehmacbaaDoor
