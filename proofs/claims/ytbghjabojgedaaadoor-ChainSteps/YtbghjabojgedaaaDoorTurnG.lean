import Derived.Test.YtbghjabojgedaaaDoorRows
import Derived.WalkKit
import Derived.ProofKit
import Derived.OpenShut
import Derived.ChangeOld
import Derived.Below
import Derived.SizedLaws
import Derived.Lib.LaidTab
import Derived.Deep.Slices
import Derived.Test.YtbghjabojgedaaaDoorComp
import Derived.Test.YtbghjabojgedaaaDoorSched
namespace Go.Proofs.YtbghjabojgedaaaDoor
open Go.ChangeShapes Go.WideShapes Go.ChangeAt Go.RowKit
namespace Row

theorem own : ownKnob Tryd.prog.godebug = none := by kernel_rfl
theorem laidOut : laidOutB Tryd.prog = true := by kernel_rfl
theorem cells5 : Tryd.prog.cellsOf 5 = 1 := by kernel_rfl
theorem gTabType : (Tryd.prog.globals[0]?).map (·.type) = some 71 := by kernel_rfl
theorem cells59 : Tryd.prog.cellsOf 71 = 64 := by kernel_rfl
theorem cells38 : Tryd.prog.cellsOf 58 = 1 := by kernel_rfl

theorem wf_byte {n : Int} (h : (Lit.int .u8 n).wf = true) : 0 ≤ n ∧ n < 256 := by
  have := (bounds_u8 h); omega

/-- A slice of bytes that came in. -/
theorem bytes_of {H : Type} {enc : TypeId × Value → H} {W : World} {base : Nat} {v : Value} {d : DataW H} {p : List MemPlace} (hv : Value.okWide Tryd.prog W .any base 34 v) (h : ∃ m, DataW.trod enc Tryd.prog W 0 (fun _ => true) true m 34 v.cells.toList = some (d, p)) :
    ∃ bs, Has W v bs ∧ bs.length ≤ 9223372036854775807 := by
  obtain ⟨a0, len0, cap0, rfl⟩ := okWide_slice Tryd.underlying34 hv
  obtain ⟨fuel, hf⟩ := h
  rcases open_ints Tryd.underlying34 Tryd.underlying5 cells5 hf with ⟨hcs, _⟩ | ⟨x, l, c, zs, hcs, _, hl, hm, hz, hx, hcell, hwz⟩
  · simp [Value.cells] at hcs
    obtain ⟨rfl, rfl, rfl⟩ := hcs
    exact ⟨[], Has.nil _, by simp⟩
  · simp [Value.cells] at hcs
    obtain ⟨rfl, rfl, rfl⟩ := hcs
    have hzl : len0 ≤ zs.length := by simp at hz; omega
    have hlen : ((zs.take len0).map fun n => UInt8.ofNat n.toNat).length = len0 := by simp; omega
    unfold maxLen at hm
    refine ⟨(zs.take len0).map fun n => UInt8.ofNat n.toNat, .inr ⟨x, cap0, by rw [hlen], by rw [hlen]; exact hl, fun i u hu => ?_⟩, by rw [hlen]; omega⟩
    have hi : i < len0 := by
      rcases Nat.lt_or_ge i len0 with h | h
      · exact h
      · rw [List.getElem?_eq_none (by omega)] at hu; cases hu
    rw [List.getElem?_map, List.getElem?_take_of_lt hi, List.getElem?_eq_getElem (by omega)] at hu
    simp only [Option.map_some, Option.some.injEq] at hu
    rw [hcell i (by omega), ← hu]
    have hb := wf_byte (hwz _ (List.getElem_mem (show i < zs.length by omega)))
    simp only [List.getD_eq_getElem?_getD, List.getElem?_eq_getElem (show i < zs.length by omega), Option.getD_some, byt]
    rw [UInt8.toNat_ofNat', Nat.mod_eq_of_lt (by omega)]
    congr 2
    omega

theorem kn_length : Kn.length = 64 := by kernel_rfl
theorem kn_small : Kn.all (· < 4294967296) = true := by kernel_rfl
theorem kw_wn (t : Nat) (ht : t < 64) : wn (kw t) = ((Kn.map (fun n : Nat => (n : Int))).getD t 0) := by
  have hl : t < Kn.length := by rw [kn_length]; exact ht
  have hs : Kn[t] < 4294967296 := by
    have := List.all_eq_true.1 kn_small Kn[t] (List.getElem_mem hl)
    simpa using this
  unfold wn kw
  simp only [List.getD_eq_getElem?_getD, List.getElem?_map, List.getElem?_eq_getElem hl, Option.getD_some, Option.map_some]
  rw [BitVec.toNat_ofNat, Nat.mod_eq_of_lt hs]

/-- The laid table, by its name. -/
theorem consts_of {W : World} (nm : String) (hg : Tryd.prog.globalNamed nm = some 0) (h : laidMetH Tryd.prog [(nm, Rows.laid_lethe_sha_constants)] W) : Kst W := fun t ht => by
  rw [kw_wn t ht]
  have htab : Lib.TabIs Tryd.prog W nm .u32 (Kn.map (fun n : Nat => (n : Int))) := Lib.tabIs_of_head (rest := []) hg gTabType Tryd.underlying71 Tryd.underlying58 cells38 cells59 h
  have hl : t < (Kn.map (fun n : Nat => (n : Int))).length := by rw [List.length_map, kn_length]; exact ht
  have := htab.cell hg t hl
  simpa [List.getD_eq_getElem?_getD, List.getElem?_eq_getElem hl] using this

end Row
end Go.Proofs.YtbghjabojgedaaaDoor

namespace Go.Proofs.YtbghjabojgedaaaDoor
open Go.RowKit

/-! The document's turn and move: a word is a number below 2^32, halved n times. -/
theorem rot_get (n : Nat) (hn : n < 32) (x : BitVec 32) (i : Nat) (hi : i < 32) : (rot n x).getLsbD i = if i + n < 32 then x.getLsbD (i + n) else x.getLsbD (i + n - 32) := by
  unfold rot
  rw [BitVec.getLsbD_or, BitVec.getLsbD_shiftLeft, BitVec.getLsbD_ushiftRight]
  by_cases h : i + n < 32
  · have h1 : i < 32 - n := by omega
    rw [if_pos h, Nat.add_comm n i]
    simp [h1]
  · have h1 : ¬ i < 32 - n := by omega
    have h2 : i - (32 - n) = i + n - 32 := by omega
    have h3 : x.getLsbD (n + i) = false := BitVec.getLsbD_of_ge x (n + i) (by omega)
    rw [if_neg h, h3, h2]
    simp [h1, hi]
theorem rot_zero (x : BitVec 32) : rot 0 x = x := by
  apply BitVec.eq_of_getLsbD_eq
  intro i hi
  rw [rot_get 0 (by omega) x i hi, if_pos (by omega)]
  rfl
theorem rot_succ (n : Nat) (hn : n + 1 < 32) (x : BitVec 32) : rot (n + 1) x = rot 1 (rot n x) := by
  apply BitVec.eq_of_getLsbD_eq
  intro i hi
  rw [rot_get (n + 1) hn x i hi, rot_get 1 (by omega) _ i hi]
  by_cases h : i + 1 < 32
  · rw [if_pos h, rot_get n (by omega) x (i + 1) h, show i + 1 + n = i + (n + 1) by omega]
  · rw [if_neg h, rot_get n (by omega) x _ (by omega), if_neg (by omega), if_pos (by omega), show i + (n + 1) - 32 = i + 1 - 32 + n by omega]
theorem rot_one (x : BitVec 32) : wn (rot 1 x) = wn x / 2 + wn x % 2 * 2147483648 := by
  have hx := x.isLt
  unfold wn
  have : (rot 1 x).toNat = x.toNat / 2 + x.toNat % 2 * 2147483648 := by
    show ((x <<< (32 - 1)) ||| (x >>> 1)).toNat = _
    rw [BitVec.toNat_or, BitVec.toNat_shiftLeft, BitVec.toNat_ushiftRight, Nat.shiftLeft_eq, Nat.shiftRight_eq_div_pow]
    rw [nat_join 31 _ _ (by show x.toNat * 2 ^ 31 % 4294967296 % 2 ^ 31 = 0; omega) (by show x.toNat / 2 ^ 1 < 2 ^ 31; omega)]
    show x.toNat * 2 ^ 31 % 4294967296 + x.toNat / 2 ^ 1 = _
    omega
  rw [this]
  omega
theorem rot_next (n : Nat) (hn : n + 1 < 32) (x : BitVec 32) : wn (rot n x) / 2 + wn (rot n x) % 2 * 2147483648 = wn (rot (n + 1) x) := by
  rw [rot_succ n hn, rot_one]
theorem shr_next (n : Nat) (x : BitVec 32) : wn (x >>> n) / 2 = wn (x >>> (n + 1)) := by
  rw [← wshr, ← wshr, Int.pow_succ, Int.ediv_ediv_of_nonneg (by exact_mod_cast Nat.zero_le (2 ^ n))]

set_option maxRecDepth 100000 in
theorem turn_any (x : BitVec 32) (n : Nat) (hn : n < 32) (w : World) :
    Calls Tryd.prog 46 #[.int .i64 (n : Int), .int .u64 (wn x)] w fun e w' => e = .returned (.int .u64 (wn (rot n x))) ∧ w' = w := by
  go_enter Tryd.func46, Tryd.ntmps46
  go_wp2
  go_loopw [1, 5] (fun a i wr => ∃ k : Nat, k ≤ n ∧ i = .int .i64 k ∧ a = .int .u64 (wn (rot k x)) ∧ wr = w) (fun _ i _ => n - (intOf i).toNat)
  case atStart => exact ⟨0, by omega, rfl, by rw [rot_zero], rfl⟩
  case round =>
    obtain ⟨k, hk, rfl, rfl, rfl⟩ := hrel
    by_cases hlt : k < n
    · have hz : (k : Int) < (n : Int) := by omega
      have e := rot_next k (by omega) x
      have h0 := wn_nonneg (rot k x)
      have h1 := wn_lt (rot k x)
      obtain ⟨y, hy⟩ : ∃ y, y = wn (rot k x) := ⟨_, rfl⟩
      rw [← hy] at e h0 h1
      rw [← hy]
      have HE := hide e
      clear hy e
      go_wp2
      go_roundw
      case rel => exact ⟨k + 1, by omega, by go_num, by rw [← HE.out], trivial⟩
      case measure => simp [intOf]; omega
    · obtain rfl : k = n := by omega
      go_wp2
      go_ret
      exact ⟨rfl, rfl⟩

set_option maxRecDepth 100000 in
theorem move_any (x : BitVec 32) (n : Nat) (hn : n < 32) (w : World) :
    Calls Tryd.prog 47 #[.int .i64 (n : Int), .int .u64 (wn x)] w fun e w' => e = .returned (.int .u64 (wn (x >>> n))) ∧ w' = w := by
  go_enter Tryd.func47, Tryd.ntmps47
  go_wp2
  go_loopw [1, 5] (fun a i wr => ∃ k : Nat, k ≤ n ∧ i = .int .i64 k ∧ a = .int .u64 (wn (x >>> k)) ∧ wr = w) (fun _ i _ => n - (intOf i).toNat)
  case atStart => exact ⟨0, by omega, rfl, by simp, rfl⟩
  case round =>
    obtain ⟨k, hk, rfl, rfl, rfl⟩ := hrel
    by_cases hlt : k < n
    · have hz : (k : Int) < (n : Int) := by omega
      have e := shr_next k x
      have h0 := wn_nonneg (x >>> k)
      have h1 := wn_lt (x >>> k)
      obtain ⟨y, hy⟩ : ∃ y, y = wn (x >>> k) := ⟨_, rfl⟩
      rw [← hy] at e h0 h1
      rw [← hy]
      have HE := hide e
      clear hy e
      go_wp2
      go_roundw
      case rel => exact ⟨k + 1, by omega, by go_num, by rw [← HE.out], trivial⟩
      case measure => simp [intOf]; omega
    · obtain rfl : k = n := by omega
      go_wp2
      go_ret
      exact ⟨rfl, rfl⟩
end Go.Proofs.YtbghjabojgedaaaDoor
