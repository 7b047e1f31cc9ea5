import Derived.Test.YthfcabhelldokaaFix
set_option linter.unusedVariables false
set_option linter.unusedSimpArgs false
namespace Go.Proofs.Ythfcabhelldokaa
open Go.RowKit

/-- A number from 0 to n - 1. -/
def pickN (k : Int) (n : Nat) : Nat := (k % (n : Int)).toNat
theorem pick_lt (k : Int) (n : Nat) (h : 0 < n) : pickN k n < n := by
  unfold pickN
  have h1 := Int.emod_nonneg k (show (n : Int) ≠ 0 by omega)
  have h2 := Int.emod_lt_of_pos k (show (0 : Int) < n by omega)
  omega
theorem pick_is (k : Int) (n : Nat) (h : 0 < n) : (if k.tmod n < 0 then k.tmod n + n else k.tmod n) = (pickN k n : Int) := by
  unfold pickN
  have h1 := Int.emod_nonneg k (show (n : Int) ≠ 0 by omega)
  have h2 := Int.emod_lt_of_pos k (show (0 : Int) < n by omega)
  rw [Int.toNat_of_nonneg h1]
  have h3 : k.tmod (n : Int) = _ := Int.tmod_eq_emod
  by_cases hc : 0 ≤ k ∨ (n : Int) ∣ k
  · rw [if_pos hc] at h3
    rw [h3, if_neg (by omega)]
    omega
  · rw [if_neg hc] at h3
    rw [h3, if_pos (by omega)]
    omega
theorem pick_any (k : Int) (n : Nat) (h : 0 < n) (hn : n ≤ 1000000) (hk : -9223372036854775808 ≤ k ∧ k ≤ 9223372036854775807) (w : World) : Calls Try.prog 9 #[.int .i64 k, .int .i64 (n : Int)] w fun e w' => e = .returned (.int .i64 (pickN k n : Int)) ∧ w' = w := by
  have hp := pick_is k n h
  have h2 : ¬ (n : Int) = 0 := by omega
  have hlt := pick_lt k n h
  have b1 : -(n : Int) < k.tmod n ∧ k.tmod n < n := by
    have e1 := Int.natAbs_tmod k (n : Int)
    have e2 : k.natAbs % (n : Int).natAbs < n := by
      have := Nat.mod_lt k.natAbs (show 0 < (n : Int).natAbs by omega)
      omega
    omega
  obtain ⟨N, hN⟩ : ∃ N, pickN k n = N := ⟨_, rfl⟩
  rw [hN] at hp hlt ⊢
  clear hN
  obtain ⟨r, hr⟩ : ∃ r, k.tmod n = r := ⟨_, rfl⟩
  rw [hr] at hp b1
  by_cases hneg : r < 0
  · rw [if_pos hneg] at hp
    go_enter Try.func9, Try.ntmps9
    go_wp2
    go_ret
    exact ⟨rfl, rfl⟩
  · rw [if_neg hneg] at hp
    go_enter Try.func9, Try.ntmps9
    go_wp2
    go_ret
    exact ⟨rfl, rfl⟩

/-- The cells of a life. -/
def lifeC (p : Nat) (vi vl : Value) : List Value := [.pointer (some ⟨p, 0, none⟩), vi, vl]
theorem build32 (p : Nat) (W : World) : (Instr.build 32 #[(0, .pointer (some ⟨p, 0, none⟩))]).run Try.prog W = .ok (.agg (lifeC p (.slice none 0 0) (.slice none 0 0)).toArray) W := by kernel_rfl
theorem Try.info9 : (Try.prog.info? 9).map (fun i => (i.zero, i.size, i.bytes)) = some (some (.string ByteArray.empty), 1, 16) := by kernel_rfl
theorem bs29 (s : ByteArray) (W : World) : (Instr.buildSlice 29 1 #[(0, .string s)]).run Try.prog W = .ok (.slice (some ⟨W.heap.size, 0, none⟩) 1 1) (W.alloc (.cells [Value.string s].toArray 9)) := by kernel_rfl
/-- 'append(strings, one)'. -/
theorem run_app29 (w : World) (v : Value) (n : Nat) (xs : List Value) (hown : w.ownsRow 0 9 1 v n xs) (g : Nat) (s : ByteArray) (hB : Blk w g [Value.string s] 9) (hn : n ≤ 1000000) (ty : TypeId) :
    ∃ v' w', (Builtin.append_ #[29, 29] ty #[v, .slice (some ⟨g, 0, none⟩) 1 1]).run Try.prog w = .ok v' w' ∧ w'.ownsRow 0 9 1 v' (n + 1) (xs ++ [Value.string s]) ∧ w.grownBy w' v.ownBlock ∧ Nw w v v' := by
  obtain ⟨i0, hi, hz0, hz1, hz2⟩ := info_parts Try.info9
  exact run_appx w 29 ty 9 i0 _ 1 16 Try.underlying29 hi hz0 hz1 hz2 (by simp [Value.cells]) (by decide) v n xs hown ⟨g, 0, none⟩ 1 1 [Value.string s] rfl
    (fun j u hu => by rw [add_plain, hB.cell]; exact hu) (fun u hu => by
      simp only [List.mem_cons, List.not_mem_nil, or_false] at hu
      subst hu; rfl) (by omega) (by omega)
/-- A sector of zeros, as a string. -/
def zS : ByteArray := ⟨(List.replicate 512 (0 : UInt8)).toArray⟩
end Go.Proofs.Ythfcabhelldokaa
