import Derived.Test.YthfcabhelldokaaArm
import Derived.Test.YthfcabhelldokaaBi
set_option linter.unusedVariables false
set_option linter.unusedSimpArgs false
namespace Go.Proofs.Ythfcabhelldokaa
open Go.RowKit

theorem size39 : (Try.prog.info? 39).map (·.size) = some 1 := info39s
theorem elem36 : Try.prog.elem 36 = 39 := by kernel_rfl
theorem sl36 (g n cap : Nat) (hn : n ≤ cap) (hc : 0 < cap) (hb : cap < 9223372036854775808) (W : World) : (Instr.slice 36 (.slice (some ⟨g, 0, none⟩) cap cap) none (some (.int .i64 (n : Int))) none).run Try.prog W = .ok (.slice (some ⟨g, 0, none⟩) n cap) W := by
  have ht : Try.prog.underlying 36 = some (.slice (Try.prog.elem 36)) := by rw [elem36]; exact Try.underlying36
  rw [run_slice_h W 36 _ _ cap ht .i64 n (by omega) (by omega), elem36]
  obtain ⟨i0, hi, h0⟩ : ∃ i0, Try.prog.info? 39 = some i0 ∧ i0.size = 1 := by
    have := size39
    rw [Option.map_eq_some_iff] at this
    obtain ⟨a, b, c⟩ := this
    exact ⟨a, b, c⟩
  simp [Result.andThen, sizeOf, typeInfo, hi, h0, sliced, show ¬ cap = 0 by omega, Addr.add]
/-- A copy while it is filled. -/
def tw (ks : List (BitVec 64)) (t : Nat) : List Value := (ks.take t).map wv ++ List.replicate (ks.length + 2 - t) (Value.int .u64 0)
theorem tw_length (ks : List (BitVec 64)) (t : Nat) (h : t ≤ ks.length) : (tw ks t).length = ks.length + 2 := by simp [tw]; omega
theorem tw_zero (ks : List (BitVec 64)) : tw ks 0 = List.replicate (ks.length + 2) (Value.int .u64 0) := by simp [tw]
theorem tw_set (ks : List (BitVec 64)) (t : Nat) (u : BitVec 64) (h : ks[t]? = some u) : (tw ks t).set t (wv u) = tw ks (t + 1) := by
  have ht : t < ks.length := by
    rcases Nat.lt_or_ge t ks.length with h1 | h1
    · exact h1
    · rw [List.getElem?_eq_none h1] at h; cases h
  have e : List.replicate (ks.length + 2 - t) (Value.int .u64 0) = Value.int .u64 0 :: List.replicate (ks.length + 2 - (t + 1)) (Value.int .u64 0) := by
    rw [show ks.length + 2 - t = (ks.length + 2 - (t + 1)) + 1 by omega, List.replicate_succ]
  have hl : ((ks.take t).map wv).length = t := by simp; omega
  unfold tw
  rw [List.set_append_right _ _ (by omega), hl, Nat.sub_self, e, List.set_cons_zero, List.take_add_one, h, List.map_append, List.append_assoc]
  rfl
theorem tw_has (ks : List (BitVec 64)) (w : World) (g : Nat) (h : Blk w g (tw ks ks.length) 39) : Has64 w (.slice (some ⟨g, 0, none⟩) ks.length (ks.length + 2)) ks :=
  .inr ⟨⟨g, 0, none⟩, ks.length + 2, rfl, by omega, fun i u hu => by
    have hi : i < ks.length := by
      rcases Nat.lt_or_ge i ks.length with h1 | h1
      · exact h1
      · rw [List.getElem?_eq_none h1] at hu; cases hu
    rw [add_plain, h.cell, tw, List.take_length, List.getElem?_append_left (by simpa using hi), List.getElem?_map, hu]; rfl⟩
set_option maxRecDepth 100000 in
set_option maxHeartbeats 2000000 in
theorem twin_any (v : Value) (ks : List (BitVec 64)) (torn off : Int) (hkl : ks.length + 2 ≤ 17592186044416) (w : World) (hv : Has64 w v ks) : Calls Try.prog 20 #[.agg (lossC v torn off).toArray] w fun e w' =>
    e = .returned (.agg (lossC (.slice (some ⟨w.heap.size + 2, 0, none⟩) ks.length (ks.length + 2)) torn off).toArray) ∧ Below w.heap.size w w' ∧ Has64 w' (.slice (some ⟨w.heap.size + 2, 0, none⟩) ks.length (ks.length + 2)) ks := by
  have hlen := hv.len2
  obtain ⟨g0, hg0⟩ : ∃ g, w.heap.size = g := ⟨_, rfl⟩
  have be0 : Below w.heap.size w (w.alloc (.cells (lossC v torn off).toArray 38)) := below_new w _
  have b0 : Blk (w.alloc (.cells (lossC v torn off).toArray 38)) g0 (lossC v torn off) 38 := Blk.newAt hg0
  have sz0 : (w.alloc (.cells (lossC v torn off).toArray 38)).heap.size = g0 + 1 := by simp [hg0]
  obtain ⟨w0, hw0⟩ : ∃ w0, w.alloc (.cells (lossC v torn off).toArray 38) = w0 := ⟨_, rfl⟩
  rw [hw0] at be0 b0 sz0
  have be1 : Below w0.heap.size w0 (w0.alloc (.cells (lossC (.slice none 0 0) 0 0).toArray 38)) := below_new w0 _
  have b1 : Blk (w0.alloc (.cells (lossC (.slice none 0 0) 0 0).toArray 38)) (g0 + 1) (lossC (.slice none 0 0) 0 0) 38 := Blk.newAt sz0
  have sz1 : (w0.alloc (.cells (lossC (.slice none 0 0) 0 0).toArray 38)).heap.size = g0 + 2 := by simp [sz0]
  obtain ⟨w1, hw1⟩ : ∃ w1, w0.alloc (.cells (lossC (.slice none 0 0) 0 0).toArray 38) = w1 := ⟨_, rfl⟩
  rw [hw1] at be1 b1 sz1
  have b01 := b0.on be1
  have be01 : Below w.heap.size w w1 := be0.trans (be1.mono be0.size)
  have hv1 := hv.fx (Fx.of_below (S := fun _ => False) be01) (fun _ _ h => h)
  have hmk := run_mk36 w1 (ks.length + 2) hkl
  rw [sz1, ← tw_zero] at hmk
  have B2 : ∀ t, Blk (w1.alloc (.cells (tw ks t).toArray 39)) (g0 + 2) (tw ks t) 39 := fun t => Blk.newAt sz1
  have L2 : ∀ t, Blk (w1.alloc (.cells (tw ks t).toArray 39)) g0 (lossC v torn off) 38 := fun t => b01.on (below_new w1 _)
  have N2 : ∀ t, Blk (w1.alloc (.cells (tw ks t).toArray 39)) (g0 + 1) (lossC (.slice none 0 0) 0 0) 38 := fun t => b1.on (below_new w1 _)
  have hsl := fun W => sl36 (g0 + 2) ks.length (ks.length + 2) (by omega) (by omega) (by omega) W
  obtain ⟨n, hn⟩ : ∃ n, ks.length = n := ⟨_, rfl⟩
  have HB2 := hide B2
  have HL2 := hide L2
  have HN2 := hide N2
  have HV1 := hide hv1
  have BE := hide be01
  have HKL := hide hkl
  have HN := hide hn
  have e1 : wrap64 ((ks.length : Int) + 2) = ((ks.length + 2 : Nat) : Int) := by rw [IntWalk.wrap64_in _ (by omega)]; simp
  have e2 : (ks.length : Int) + 2 = ((ks.length + 2 : Nat) : Int) := by simp
  have e3 : wrap64 ((ks.length + 2 : Nat) : Int) = ((ks.length + 2 : Nat) : Int) := IntWalk.wrap64_in _ (by omega)
  rw [hn] at hlen hmk hsl e1 e2 e3
  obtain ⟨n2, hn2⟩ : ∃ n2, n + 2 = n2 := ⟨_, rfl⟩
  have HN22 := hide hn2
  rw [hn2] at hmk hsl e1 e2 e3
  clear hn2 hn hkl be01 hv1 N2 L2 B2 b01 b1 b0 be0 be1 hv
  obtain ⟨w3, hw3⟩ : ∃ w3, w1.alloc (.cells (tw ks 0).toArray 39) = w3 := ⟨_, rfl⟩
  have HW3 := hide hw3
  rw [hw3] at hmk
  have r0 : w3.cell? ⟨g0, 0, none⟩ = some v := by rw [← hw3]; exact ((HL2.out 0).cell 0).trans rfl
  have r1 : w1.cell? ⟨g0, 0, none⟩ = some v := by
    have h1 := (HL2.out 0).cell 0
    rw [Below.cell (below_new w1 _) (show g0 < w1.heap.size by omega)] at h1
    exact h1.trans rfl
  clear hw3
  go_enter Try.func20, Try.ntmps20
  go_wp2_with (first
    | (refine wpList_boxAt rfl 38 (.tmp 0) rfl (lossC v torn off) rfl g0 hg0 ?_; rw [hw0])
    | (refine wpList_newAt rfl 38 rfl _ zero38 (g0 + 1) sz0 ?_; rw [hw1])
    | fail)
  go_loopw [4] (fun i wr => ∃ t : Nat, t ≤ n ∧ i = .int .i64 t ∧ Hid (wr = w1.alloc (.cells (tw ks t).toArray 39))) (fun i _ => n - (intOf i).toNat)
  case atStart => exact ⟨0, by omega, rfl, hide HW3.out.symm⟩
  case round =>
    obtain ⟨t, ht, rfl, hs⟩ := hrel
    have q0 : wr.cell? ⟨g0, 0, none⟩ = some v := by rw [hs.out]; exact ((HL2.out t).cell 0).trans rfl
    by_cases hlt : t < n
    · have hlz : (t : Int) < (n : Int) := by omega
      have hnb : n < 17592186044416 := by have := HKL.out; have := HN.out; omega
      obtain ⟨ad, cap, rfl, hcells⟩ : ∃ ad cap, v = .slice (some ad) n cap ∧ ∀ i u, ks[i]? = some u → w1.cell? (ad.add i) = some (wv u) := by
        rcases HV1.out with ⟨_, h⟩ | ⟨ad, cap, h1, _, h3⟩
        · have := HN.out; rw [h] at this; simp at this; omega
        · exact ⟨ad, cap, by rw [h1, HN.out], h3⟩
      obtain ⟨u, hu⟩ : ∃ u, ks[t]? = some u := ⟨ks[t]'(by have := HN.out; omega), by rw [List.getElem?_eq_getElem]⟩
      have hsrc : wr.cell? (ad.add t) = some (.int .u64 (wn u)) := by
        rw [hs.out]
        exact ((below_new w1 _).cell (cell_lt (hcells t u hu))).trans (hcells t u hu)
      have hix := fun W => idx36 ad n cap t hlt W
      have hix2 : ∀ W, (Instr.indexAt 36 (.slice (some ⟨g0 + 2, 0, none⟩) n2 n2) (.int .i64 (t : Int))).run Try.prog W = .ok (.pointer (some ⟨g0 + 2, t, none⟩)) W := fun W => by rw [idx36 ⟨g0 + 2, 0, none⟩ n2 n2 t (by have := HN22.out; omega) W, add_plain]
      have B0 : Blk wr (g0 + 2) (tw ks t) 39 := by rw [hs.out]; exact HB2.out t
      obtain ⟨z, hz⟩ : ∃ z, (tw ks t)[t]? = some z := ⟨(tw ks t)[t]'(by rw [tw_length ks t (by have := HN.out; omega)]; have := HN.out; omega), by rw [List.getElem?_eq_getElem]⟩
      have hold := (B0.cell t).trans hz
      have hfz := B0.frozen t
      have E1 : Hid (wr.setCell ⟨g0 + 2, t, none⟩ (.int .u64 (wn u)) = w1.alloc (.cells (tw ks (t + 1)).toArray 39)) := hide (by rw [hs.out, ← tw_set ks t u hu, ← sz1, alloc_setCell]; rfl)
      clear hcells hs B0 hz
      go_wp2
      go_roundw
      case rel => exact ⟨t + 1, by omega, by go_num, hide E1.out⟩
      case measure => simp [intOf]; omega
    · obtain rfl : t = n := by omega
      have LL : Blk wr g0 (lossC v torn off) 38 := by rw [hs.out]; exact HL2.out t
      have KK : Blk wr (g0 + 2) (tw ks t) 39 := by rw [hs.out]; exact HB2.out t
      have NN : Blk wr (g0 + 1) (lossC (.slice none 0 0) 0 0) 38 := by rw [hs.out]; exact HN2.out t
      have BB : Below w.heap.size w wr := by rw [hs.out]; exact BE.out.trans ((below_new w1 _).mono BE.out.size)
      have hlz : ¬ (t : Int) < (t : Int) := by omega
      have hfz := LL.frozen 0
      have LL2 : Blk (wr.setCell ⟨g0, 0, none⟩ (.slice (some ⟨g0 + 2, 0, none⟩) t n2)) g0 (lossC (.slice (some ⟨g0 + 2, 0, none⟩) t n2) torn off) 38 := LL.set 0 _
      have F2 : Fx (One g0) wr (wr.setCell ⟨g0, 0, none⟩ (.slice (some ⟨g0 + 2, 0, none⟩) t n2)) := Fx.setCell _ _ _ _ rfl
      have BB2 : Below w.heap.size w (wr.setCell ⟨g0, 0, none⟩ (.slice (some ⟨g0 + 2, 0, none⟩) t n2)) := BB.trans (F2.below (fun k hk e => by have : k = g0 := e; omega) (by have := BB.size; omega))
      have KK2 := KK.fx F2 (fun e => by have : g0 + 2 = g0 := e; omega)
      have NN2 := NN.fx F2 (fun e => by have : g0 + 1 = g0 := e; omega)
      obtain ⟨w5, hw5⟩ : ∃ w5, wr.setCell ⟨g0, 0, none⟩ (.slice (some ⟨g0 + 2, 0, none⟩) t n2) = w5 := ⟨_, rfl⟩
      rw [hw5] at LL2 F2 BB2 KK2 NN2
      have HLL := hide LL2
      have HKK := hide KK2
      have HNN := hide NN2
      have HBB := hide BB2
      have HI := hide (info38A (.slice (some ⟨g0 + 2, 0, none⟩) t n2) torn off)
      have H1 := hide (lossC_oneA (some ⟨g0 + 2, 0, none⟩) t n2 torn off)
      clear LL KK NN BB LL2 KK2 NN2 BB2 F2 hs
      go_wp2_with (first
        | (refine wpList_load_row rfl 38 (.tmp 1) rfl g0 rfl 38 (lossC (.slice (some ⟨g0 + 2, 0, none⟩) t n2) torn off).toArray (0, 0) _ HLL.out Try.underlying38 rfl HI.out ?_)
        | (refine wpList_store_row rfl 38 (.tmp 2) (.tmp 31) rfl (g0 + 1) (lossC (.slice (some ⟨g0 + 2, 0, none⟩) t n2) torn off).toArray rfl rfl 38 _ HNN.out HI.out rfl H1.out ?_)
        | fail)
      refine bodyPost_ret (results_cell_row Try.results20 _ _ (g0 + 1) 38 (lossC (.slice (some ⟨g0 + 2, 0, none⟩) t n2) torn off).toArray (0, 0) _ rfl (HNN.out.setRow _) Try.underlying38 rfl HI.out) rfl ?_
      have hn0 := HN.out
      have hn2 := HN22.out
      have hsz := HKK.out.lt
      have HBC := HBB.out
      rw [hg0] at HBC
      refine ⟨?_, below_setRow HBC _ _ (by omega), ?_⟩
      · rw [hn0, hn2]
      · have hk := HKK.out.setRowOther (g0 + 1) (lossC (.slice (some ⟨g0 + 2, 0, none⟩) t n2) torn off).toArray (by omega)
        rw [← hn0] at hk ⊢
        exact tw_has ks _ _ hk
end Go.Proofs.Ythfcabhelldokaa
