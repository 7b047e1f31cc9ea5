import Derived.Test.YtbghjabojgedaaaDoorRefd
namespace Go.Proofs.YtbghjabojgedaaaDoor
open Go.RowKit

theorem idx24 (ad : Addr) (n cap m : Nat) (h : m < n) (W : World) : (Instr.indexAt 43 (.slice (some ad) n cap) (.int .i64 (m : Int))).run Tryd.prog W = .ok (.pointer (some (ad.add m))) W := by
  have hm : (m : Int) < (n : Int) := by omega
  go_simp

set_option maxHeartbeats 400000 in
set_option maxRecDepth 100000 in
/-- The document's 'Joined'. -/
theorem joined_any (v : Value) (ps : List (Value × List UInt8)) (M : List UInt8) (hM : ps.flatMap (·.2) = M) (w : World) (hP : Parts w v ps) (hn : M.length ≤ 100000000) (hl : ps.length ≤ 1000) :
    Calls Tryd.prog 34 #[v] w fun e w' => ∃ u, e = .returned u ∧ Own w' w.heap.size u M ∧ Below w.heap.size w w' := by
  obtain ⟨ao, cap, rfl, hcell⟩ := hP.shape
  subst hM
  have HC := hide hcell
  have HN := hide hn
  clear hcell hn hP
  obtain ⟨M, hM⟩ : ∃ M, M = ps.flatMap (·.2) := ⟨_, rfl⟩
  rw [← hM]
  have HM := hide hM
  clear hM
  go_enter Tryd.func34, Tryd.ntmps34
  go_wp2
  go_loopw [3, 4] (fun t i wr => ∃ k : Nat, k ≤ ps.length ∧ i = .int .i64 k ∧ Hid (Own wr w.heap.size t ((ps.take k).flatMap (·.2))) ∧ Hid (Below w.heap.size w wr)) (fun _ i _ => ps.length - (intOf i).toNat)
  case atStart => exact ⟨0, by omega, rfl, hide (Own.nil _ _), hide (Below.refl _ _)⟩
  case round =>
    obtain ⟨k, hk, rfl, hy, hf⟩ := hrel
    by_cases hlt : k < ps.length
    · have hlz : (k : Int) < (ps.length : Int) := by omega
      obtain ⟨ad, rfl, hc, hh⟩ := HC.out k ps[k] (List.getElem?_eq_getElem hlt)
      have hc' : wr.cell? (ad.add k) = some ps[k].1 := (hf.out.cell (cell_lt hc)).trans hc
      have hi := fun W => idx24 ad ps.length cap k hlt W
      have HHAS : Hid (Has wr ps[k].1 ps[k].2) := hh.below (by exact ⟨hf.out.os, hf.out.tape, hf.out.output, hf.out.size, hf.out.block⟩)
      have HF := hide (flat_take ps k hlt)
      have HLn : Hid (((ps.take k).flatMap (·.2)).length + ps[k].2.length ≤ 150000000000000) := by
        have e1 := flat_take ps k hlt
        have e2 := flat_len ps (k + 1)
        have := HN.out
        rw [e1, List.length_append] at e2
        show _ ≤ _
        omega
      clear hc hh
      generalize ps[k].2 = py at *
      generalize ps[k].1 = pv at *
      go_wp2_with (refine wpList_app rfl (.tmp 11) (.tmp 15) rfl w.heap.size u3 ((ps.take k).flatMap (·.2)) rfl hy.out pv py rfl HHAS.out HLn.out hf.out.size ?_; intro v' w' ho hg; have HO := hide ho; have HB : Hid (Below w.heap.size w w') := hf.out.grown hg hf.out.size hy.out.ownBlock; clear ho hg)
      go_roundw
      case rel => exact ⟨k + 1, by omega, by go_num, by rw [HF.out]; exact HO, HB⟩
      case measure => simp [intOf]; omega
    · obtain rfl : k = ps.length := by omega
      have hz : ¬ ((ps.length : Int) < (ps.length : Int)) := by omega
      have hy' := hy.out
      rw [List.take_length, ← HM.out] at hy'
      have HY := hide hy'
      clear hy hy'
      go_wp2
      go_ret
      exact ⟨_, rfl, HY.out, hf.out⟩

theorem joined_at (W : World) (n : Nat) (hW : n = W.heap.size) (ps : List (Value × List UInt8)) (M : List UInt8) (hM : ps.flatMap (·.2) = M) (h : ∀ p ∈ ps, Has W p.1 p.2) (hm : M.length ≤ 100000000) (hl : ps.length ≤ 1000) :
    Calls Tryd.prog 34 #[.slice (some ⟨n, 0, none⟩) ps.length ps.length] (W.alloc (.cells (ps.map (·.1)).toArray 34)) fun e w' => ∃ u, e = .returned u ∧ Has w' u M ∧ Below W.heap.size W w' := by
  subst hW
  exact (joined_any _ ps M hM _ (parts_new W ps h) hm hl).mono fun e w' ⟨u, h1, h2, h3⟩ => ⟨u, h1, h2.has, (below_new W _).trans (h3.mono (below_new W _).size)⟩

/-- What the document's 'turned' has written behind k bytes. -/
def tnk (x : UInt8) (KB : List UInt8) (k : Nat) : List UInt8 := (xr x KB).take k ++ List.replicate (64 - k) 0
theorem tnk_length (x : UInt8) (KB : List UInt8) (h : KB.length = 64) (k : Nat) (hk : k ≤ 64) : (tnk x KB k).length = 64 := by
  unfold tnk xr
  rw [List.length_append, List.length_take, List.length_map, List.length_replicate]; omega
theorem tnk_zero (x : UInt8) (KB : List UInt8) : tnk x KB 0 = z64b := rfl
theorem tnk_all (x : UInt8) (KB : List UInt8) (h : KB.length = 64) : tnk x KB 64 = xr x KB := by
  unfold tnk xr
  rw [List.take_of_length_le (by rw [List.length_map]; omega)]; simp
theorem tnk_succ (x : UInt8) (KB : List UInt8) (h : KB.length = 64) (k : Nat) (hk : k < 64) : (tnk x KB k).set k (KB.getD k 0 ^^^ x) = tnk x KB (k + 1) := by
  have hl : (xr x KB).length = 64 := by unfold xr; rw [List.length_map]; exact h
  unfold tnk
  rw [List.set_append_right _ _ (by rw [List.length_take]; omega), List.length_take, hl, Nat.min_eq_left (by omega), Nat.sub_self, show 64 - k = (64 - (k + 1)) + 1 by omega, List.replicate_succ, List.set_cons_zero, List.take_succ_eq_append_getElem (by omega)]
  simp only [List.append_assoc, List.cons_append, List.nil_append]
  congr 2
  unfold xr
  rw [List.getElem_map, List.getD_eq_getElem?_getD, List.getElem?_eq_getElem (by omega)]
  rfl
/-- The bits, one behind the other. -/
theorem bit_step : ((List.range 256).all fun u => (List.range 8).all fun j => [54, 92].all fun x => decide ((u ^^^ x) % 2 ^ (j + 1) = if u / 2 ^ j % 2 = x / 2 ^ j % 2 then (u ^^^ x) % 2 ^ j else (u ^^^ x) % 2 ^ j + 2 ^ j)) = true := by decide +kernel
theorem bit_at (u j x : Nat) (hu : u < 256) (hj : j < 8) (hx : x = 54 ∨ x = 92) : (u ^^^ x) % 2 ^ (j + 1) = if u / 2 ^ j % 2 = x / 2 ^ j % 2 then (u ^^^ x) % 2 ^ j else (u ^^^ x) % 2 ^ j + 2 ^ j := by
  have h1 := List.all_eq_true.1 bit_step u (List.mem_range.2 hu)
  have h2 := List.all_eq_true.1 h1 j (List.mem_range.2 hj)
  have h3 := List.all_eq_true.1 h2 x (by rcases hx with rfl | rfl <;> simp)
  exact of_decide_eq_true h3
end Go.Proofs.YtbghjabojgedaaaDoor
