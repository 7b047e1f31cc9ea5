import Derived.Test.YtnfikgnploockaaDoorMac
import Derived.ChangeKeysEq
import Derived.Laws.StructEq
namespace Go.Proofs.YtnfikgnploockaaDoor
open Go.RowKit

theorem eqItems_same (L : List UInt8) (d : Nat) (W : World) : ∀ is : List Nat, (∀ i ∈ is, i < L.length) → (Op.eqItems (d + 1) 5 1 (L.map byt).toArray (L.map byt).toArray is).run Tryd.prog W = .ok true W
  | [], _ => by simp [Op.eqItems]
  | i :: is, h => by
    have hi := h i (by simp)
    have hp : (part 5 (L.map byt).toArray (i * 1)).run Tryd.prog W = .ok (.int .u8 ((L.getD i 0).toNat : Int)) W := by
      have h1 : (L.map byt).toArray[i]? = some (.int .u8 ((L.getD i 0).toNat : Int)) := by rw [List.getElem?_toArray, byts_at L i hi]
      simp only [part, Sem.run_bind, Tryd.isAgg5, Result.andThen_ok, Nat.mul_one, h1]
      simp
    have he := run_equalIn_int (P := Tryd.prog) W d 5 .u8 .u8 ((L.getD i 0).toNat : Int) ((L.getD i 0).toNat : Int) Tryd.underlying5
    simp only [Op.eqItems, Sem.run_bind, hp, he, Result.andThen_ok]
    simp
    exact eqItems_same L d W is (fun j hj => h j (by simp [hj]))

theorem eq24 (L : List UInt8) (hl : L.length = 32) (W : World) : (Op.equalIn 10000 25 (.agg (L.map byt).toArray) (.agg (L.map byt).toArray)).run Tryd.prog W = .ok true W := by
  obtain ⟨i0, hi, _⟩ := info_parts Tryd.info5
  rw [run_equalIn_array W 9999 (L.map byt).toArray (L.map byt).toArray Tryd.underlying25 hi]
  have hc : Tryd.prog.cellsOf 5 = 1 := by kernel_rfl
  rw [hc]
  exact eqItems_same L 9998 W _ (fun i hi => by rw [hl]; exact List.mem_range.1 hi)
theorem has_news (W : World) (bs : List UInt8) : Has (W.alloc (.cells (bs.map byt).toArray 5)) (.slice (some ⟨W.heap.size, 0, none⟩) bs.length bs.length) bs := by
  refine .inr ⟨_, _, rfl, Nat.le_refl _, fun i u hu => ?_⟩
  rw [add_plain, (Blk.new W (bs.map byt) 5).cell, List.getElem?_map, hu]
  rfl

end Go.Proofs.YtnfikgnploockaaDoor
