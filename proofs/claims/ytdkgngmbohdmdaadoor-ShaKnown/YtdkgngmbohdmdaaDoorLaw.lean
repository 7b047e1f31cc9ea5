import Derived.Test.YtdkgngmbohdmdaaDoorSum
import Derived.ChangeKeysEq
import Derived.Laws.StructEq
namespace Go.Proofs.YtdkgngmbohdmdaaDoor
open Go.RowKit

theorem parts_new (W : World) (ps : List (Value × List UInt8)) (h : ∀ p ∈ ps, Has W p.1 p.2) :
    Parts (W.alloc (.cells (ps.map (·.1)).toArray 26)).drew (.slice (some ⟨W.heap.size, 0, none⟩) ps.length ps.length) ps := by
  refine .inr ⟨_, _, rfl, Nat.le_refl _, fun i p hp => ?_⟩
  rw [add_plain]
  have hb : Below W.heap.size W (W.alloc (.cells (ps.map (·.1)).toArray 26)).drew := ((Below.refl _ _).alloc (Nat.le_refl _) _).drew
  refine ⟨?_, (h p (List.mem_of_getElem? hp)).below hb⟩
  show (W.alloc (.cells (ps.map (·.1)).toArray 26)).cell? _ = _
  have e : (W.alloc (.cells (ps.map (·.1)).toArray 26)).heap[W.heap.size]? = some (.cells (ps.map (·.1)).toArray 26) := by
    show (W.heap.push _)[W.heap.size]? = _
    simp
  unfold World.cell?
  dsimp only
  rw [e]
  simp [hp]

theorem parts_new' (W : World) (ps : List (Value × List UInt8)) (h : ∀ p ∈ ps, Has W p.1 p.2) :
    Parts (W.alloc (.cells (ps.map (·.1)).toArray 26)) (.slice (some ⟨W.heap.size, 0, none⟩) ps.length ps.length) ps := parts_new W ps h


theorem rest_eq (n m : Int) (hm : 0 < m) (hm2 : m ≤ 1000000000000000000) : (wrap64 (n.tmod m + m)).tmod m = n % m := by
  have h1 : n.tmod m < m := Int.tmod_lt_of_pos n hm
  have h2 : -m < n.tmod m := by
    have := Int.tmod_lt_of_pos (-n) hm
    rw [Int.neg_tmod] at this; omega
  rw [Go.IntWalk.wrap64_in _ (by omega), Int.tmod_eq_emod_of_nonneg (by omega), Int.add_emod_right]
  rw [Int.tmod_eq_emod]
  split
  · simp
  · have : (m.natAbs : Int) = m := by omega
    rw [this]
    rw [Int.sub_emod, Int.emod_self]; simp

set_option maxHeartbeats 400000 in
theorem rest_any (n m : Int) (w : World) (hm : 0 < m) (hm2 : m ≤ 1000000000000000000) :
    Calls Tryd.prog 15 #[.int .i64 n, .int .i64 m] w fun e w' => e = .returned (.int .i64 (n % m)) ∧ w' = w := by
  have h := rest_eq n m hm hm2
  have hm3 : ¬ m = 0 := by omega
  go_enter Tryd.func15, Tryd.ntmps15
  go_wp2
  go_ret
  exact ⟨by simp, rfl⟩

theorem eqItems_same (L : List UInt8) (d : Nat) (W : World) : ∀ is : List Nat, (∀ i ∈ is, i < L.length) → (Op.eqItems (d + 1) 5 1 (L.map byt).toArray (L.map byt).toArray is).run Tryd.prog W = .ok true W
  | [], _ => by simp [Op.eqItems]
  | i :: is, h => by
    have hi := h i (by simp)
    have hp : (part 5 (L.map byt).toArray (i * 1)).run Tryd.prog W = .ok (.int .u8 ((L.getD i 0).toNat : Int)) W := by
      have h1 : (L.map byt).toArray[i]? = some (.int .u8 ((L.getD i 0).toNat : Int)) := by rw [List.getElem?_toArray, byts_at L i hi]
      simp only [part, Sem.run_bind, Tryd.isAgg5, Result.andThen_ok, Nat.mul_one, h1]
      simp
    have he := run_equalIn_int (P := Tryd.prog) W d 5 .u8 .u8 ((L.getD i 0).toNat : Int) ((L.getD i 0).toNat : Int) Tryd.underlying5
    simp only [Op.eqItems, Sem.run_bind, hp, he, Result.andThen_ok]
    simp
    exact eqItems_same L d W is (fun j hj => h j (by simp [hj]))

theorem eq24 (L : List UInt8) (hl : L.length = 32) (W : World) : (Op.equalIn 10000 24 (.agg (L.map byt).toArray) (.agg (L.map byt).toArray)).run Tryd.prog W = .ok true W := by
  obtain ⟨i0, hi, _⟩ := info_parts Tryd.info5
  rw [run_equalIn_array W 9999 (L.map byt).toArray (L.map byt).toArray Tryd.underlying24 hi]
  have hc : Tryd.prog.cellsOf 5 = 1 := by kernel_rfl
  rw [hc]
  exact eqItems_same L 9998 W _ (fun i hi => by rw [hl]; exact List.mem_range.1 hi)
theorem guard24 : Tryd.prog.eqGuardType Tryd.prog.depth 24 = false := by kernel_rfl

theorem has_news (W : World) (bs : List UInt8) : Has (W.alloc (.cells (bs.map byt).toArray 5)) (.slice (some ⟨W.heap.size, 0, none⟩) bs.length bs.length) bs := by
  refine .inr ⟨_, _, rfl, Nat.le_refl _, fun i u hu => ?_⟩
  rw [add_plain, (Blk.new W (bs.map byt) 5).cell, List.getElem?_map, hu]
  rfl

theorem short_any (v : Value) (bs : List UInt8) (n : Nat) (w : World) (hv : Has w v bs) (hn : n ≤ 1000000) (_hl : bs.length ≤ 9223372036854775807) :
    Calls Tryd.prog 14 #[v, .int .i64 (n : Int)] w fun e w' => (∃ u, e = .returned u ∧ Has w u (bs.take n)) ∧ w' = w := by
  obtain ⟨ao, cap, rfl⟩ := hv.slice
  have HV := hide hv
  by_cases h : n < bs.length
  · have hz : (n : Int) < (bs.length : Int) := by omega
    have hcut := fun W => hv.cutH n (by omega) W
    clear hv
    go_enter Tryd.func14, Tryd.ntmps14
    go_wp2
    go_ret
    refine ⟨⟨_, rfl, ?_⟩, rfl⟩
    have := HV.out.cut 0 n (by omega) (by omega)
    simpa using this
  · have hz : ¬ (n : Int) < (bs.length : Int) := by omega
    clear hv
    go_enter Tryd.func14, Tryd.ntmps14
    go_wp2
    go_ret
    exact ⟨⟨_, rfl, by rw [List.take_of_length_le (by omega)]; exact HV.out⟩, rfl⟩

set_option maxHeartbeats 1000000 in
set_option maxRecDepth 100000 in
theorem moves_any (w : World) (hK : Kst w) : Calls Tryd.prog 8 #[] w fun e w' => e = .returned (.bool true) ∧ Below w.heap.size w w' := by
  have HK := hide hK
  clear hK
  go_enter Tryd.func8, Tryd.ntmps8
  go_wp2_with (first
    | (go_at_call 10; refine (new_any _).mono ?_; rintro e w1 ⟨g, rfl, hg1, hh1, hb1⟩; have HG := hide hg1; have HH := hide hh1; have HB := hide hb1; clear hg1 hh1 hb1))
  have hsz := HB.out.size
  have hlt := Blk.lt HH.out
  refine (write_any g [] [1, 2, 3] (.slice (some ⟨w1.heap.size, 0, none⟩) 3 3) _ (Blk.alloc HH.out _) (has_news w1 [1, 2, 3]) (.inr (fun e => by simp [Value.ownBlock] at e; omega)) ((HK.out.below HB.out HK.out.lt).below (below_new w1 _) (by have := HK.out.lt; omega)) (by have := HG.out; have := HK.out.lt; omega) (by simp)).mono ?_
  rintro e w2 ⟨rfl, hh2, hf2⟩
  have HH2 := hide hh2
  have HF2 := hide hf2
  clear hh2 hf2
  go_wp2_with (go_at_call 12; refine (len_any g _ _ HH2.out).mono ?_; rintro e w' ⟨rfl, rfl⟩)
  go_ret
  refine ⟨rfl, ?_⟩
  have b1 : Below w.heap.size w (w1.alloc (.cells #[.int .u8 1, .int .u8 2, .int .u8 3] 5)) := HB.out.alloc hsz _
  exact b1.trans (HF2.out.below (fun k hk (e : k = g) => by have := HG.out; omega) b1.size)
end Go.Proofs.YtdkgngmbohdmdaaDoor
