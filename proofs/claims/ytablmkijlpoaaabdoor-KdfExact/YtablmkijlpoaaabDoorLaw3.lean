import Derived.Test.YtablmkijlpoaaabDoorMac2
import Derived.ChangeKeysEq
import Derived.Laws.StructEq
namespace Go.Proofs.YtablmkijlpoaaabDoor
open Go.RowKit

theorem eqItems_same (L : List UInt8) (d : Nat) (W : World) : ∀ is : List Nat, (∀ i ∈ is, i < L.length) → (Op.eqItems (d + 1) 5 1 (L.map byt).toArray (L.map byt).toArray is).run Tryd.prog W = .ok true W
  | [], _ => by simp [Op.eqItems]
  | i :: is, h => by
    have hi := h i (by simp)
    have hp : (part 5 (L.map byt).toArray (i * 1)).run Tryd.prog W = .ok (.int .u8 ((L.getD i 0).toNat : Int)) W := by
      have h1 : (L.map byt).toArray[i]? = some (.int .u8 ((L.getD i 0).toNat : Int)) := by rw [List.getElem?_toArray, byts_at L i hi]
      simp only [part, Sem.run_bind, Tryd.isAgg5, Result.andThen_ok, Nat.mul_one, h1]
      simp
    have he := run_equalIn_int (P := Tryd.prog) W d 5 .u8 .u8 ((L.getD i 0).toNat : Int) ((L.getD i 0).toNat : Int) Tryd.underlying5
    simp only [Op.eqItems, Sem.run_bind, hp, he, Result.andThen_ok]
    simp
    exact eqItems_same L d W is (fun j hj => h j (by simp [hj]))

theorem eq24 (L : List UInt8) (hl : L.length = 32) (W : World) : (Op.equalIn 10000 36 (.agg (L.map byt).toArray) (.agg (L.map byt).toArray)).run Tryd.prog W = .ok true W := by
  obtain ⟨i0, hi, _⟩ := info_parts Tryd.info5
  rw [run_equalIn_array W 9999 (L.map byt).toArray (L.map byt).toArray Tryd.underlying36 hi]
  have hc : Tryd.prog.cellsOf 5 = 1 := by kernel_rfl
  rw [hc]
  exact eqItems_same L 9998 W _ (fun i hi => by rw [hl]; exact List.mem_range.1 hi)
theorem guard24 : Tryd.prog.eqGuardType Tryd.prog.depth 24 = false := by kernel_rfl

theorem has_news (W : World) (bs : List UInt8) : Has (W.alloc (.cells (bs.map byt).toArray 5)) (.slice (some ⟨W.heap.size, 0, none⟩) bs.length bs.length) bs := by
  refine .inr ⟨_, _, rfl, Nat.le_refl _, fun i u hu => ?_⟩
  rw [add_plain, (Blk.new W (bs.map byt) 5).cell, List.getElem?_map, hu]
  rfl

theorem short_any (v : Value) (bs : List UInt8) (w : World) (hv : Has w v bs) :
    Calls Tryd.prog 7 #[v] w fun e w' => (∃ u, e = .returned u ∧ Has w u (bs.take 400)) ∧ w' = w := by
  obtain ⟨ao, cap, rfl⟩ := hv.slice
  have HV := hide hv
  by_cases h : 400 < bs.length
  · have hz : (400 : Int) < (bs.length : Int) := by omega
    have hcap : 400 ≤ cap := by
      rcases hv with ⟨h1, h2⟩ | ⟨ad, c2, h1, h2, _⟩
      · rw [h2] at h; simp at h
      · simp at h1; omega
    have hcapz : (400 : Int) ≤ (cap : Int) := by omega
    clear hv
    go_enter Tryd.func7, Tryd.ntmps7
    go_wp2
    go_ret
    refine ⟨⟨_, rfl, ?_⟩, rfl⟩
    have := HV.out.cut 0 400 (by omega) (by omega)
    have e : cutV (.slice ao bs.length cap) 0 400 = .slice ao 400 cap := by
      cases ao <;> simp [cutV, sliced, Addr.add]
    rw [e] at this
    simpa using this
  · have hz : ¬ (400 : Int) < (bs.length : Int) := by omega
    clear hv
    go_enter Tryd.func7, Tryd.ntmps7
    go_wp2
    go_ret
    exact ⟨⟨_, rfl, by rw [List.take_of_length_le (by omega)]; exact HV.out⟩, rfl⟩

set_option maxHeartbeats 400000 in
set_option maxRecDepth 100000 in
/-- 'Extract'. -/
theorem extract_is (vk v : Value) (key m D : List UInt8) (hD : macOf key m = D) (w : World) (hk : Has w vk key) (hv : Has w v m) (hK : Kst w) (hn : key.length ≤ 1152921504606846976) (hm : m.length ≤ 1000000000000000000) :
    Calls Tryd.prog 11 #[vk, v] w fun e w' => e = .returned (.agg (D.map byt).toArray) ∧ Below w.heap.size w w' := by
  obtain ⟨ao, cap, rfl⟩ := hv.slice
  have l1 : D.length = 32 := by rw [← hD]; exact macOf_length _ _
  have i42 := info24 D l1
  have L1 := hide l1
  have HK := hide hK
  have HN := hide hn
  have HM := hide hm
  have HKY := hide hk
  have HV := hide hv
  have HD := hide hD
  clear l1 hK hn hm hk hv hD
  go_enter Tryd.func11, Tryd.ntmps11
  go_wp2_with (first
    | (refine wpList_newAt rfl 36 rfl (z32.map byt) zero24 w.heap.size rfl ?_)
    | fail)
  have hw0 : Hid (Below w.heap.size w (w.alloc (.cells (z32.map byt).toArray 36))) := below_new w _
  have hz0 : Hid (w.heap.size + 1 = (w.alloc (.cells (z32.map byt).toArray 36)).heap.size) := by show _ = _; simp
  have hb0 : Hid (Blk (w.alloc (.cells (z32.map byt).toArray 36)) w.heap.size (z32.map byt) 36) := Blk.new w _ _
  generalize w.alloc (.cells (z32.map byt).toArray 36) = w0 at hw0 hz0 hb0 ⊢
  refine (mac_at w0 (w.heap.size + 1) hz0.out vk key m D [(.slice ao m.length cap, m)] (by simp) HD.out (HKY.out.below hw0.out) (one_all (HV.out.below hw0.out)) (HK.out.below hw0.out HK.out.lt) HN.out HM.out (by simp)).mono ?_
  rintro e w1 ⟨rfl, hb1⟩
  have HB1 := hide hb1
  clear hb1
  go_wp2_with (refine wpList_store_row rfl 36 (.tmp 4) (.tmp 8) rfl w.heap.size (D.map byt).toArray rfl rfl 36 (z32.map byt).toArray (hb0.out.below HB1.out hb0.out.lt) i42 (by rw [List.size_toArray, List.size_toArray, List.length_map, List.length_map, L1.out]; rfl) (byts_one _) ?_)
  refine bodyPost_ret (v := .agg (D.map byt).toArray) ?_ rfl ⟨rfl, below_setRow (hw0.out.trans (HB1.out.mono hw0.out.size)) _ _ (Nat.le_refl _)⟩
  exact results_cell_row Tryd.results11 _ _ w.heap.size 36 _ (0, 0) _ rfl ((hb0.out.below HB1.out hb0.out.lt).setRow _) Tryd.underlying36 rfl i42

/-- 'Eq'. -/
theorem eq_yes (va vb : Value) (bs : List UInt8) (w : World) (ha : Has w va bs) (hb : Has w vb bs) :
    Calls Tryd.prog 16 #[va, vb] w fun e w' => e = .returned (.bool true) ∧ w' = w := by
  have h1 := ha.convert
  have h2 := hb.convert
  have h1 : ∀ W : World, W.heap = w.heap → (convert 29 9 va).run Tryd.prog W = .ok (.string ⟨bs.toArray⟩) W := fun W hW => (ha.cellsEq (fun a u hu => by unfold World.cell? at hu ⊢; rw [hW]; exact hu)).convert
  have h2 : ∀ W : World, W.heap = w.heap → (convert 29 9 vb).run Tryd.prog W = .ok (.string ⟨bs.toArray⟩) W := fun W hW => (hb.cellsEq (fun a u hu => by unfold World.cell? at hu ⊢; rw [hW]; exact hu)).convert
  have e1 := h1 w rfl
  have e2 := h2 w rfl
  go_enter Tryd.func16, Tryd.ntmps16
  go_wp2
  go_ret
  exact ⟨by simp, rfl⟩
end Go.Proofs.YtablmkijlpoaaabDoor
