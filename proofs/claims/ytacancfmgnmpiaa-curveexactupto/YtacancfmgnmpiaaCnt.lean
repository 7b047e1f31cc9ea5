import Derived.Test.YtacancfmgnmpiaaTms
set_option linter.unusedVariables false
set_option linter.unusedSimpArgs false
namespace Go.Proofs.Ytacancfmgnmpiaa
open Go.RowKit

/-- Bytes by their places. -/
def cntL (F : Nat → UInt8) : Nat → List UInt8
  | 0 => z32
  | t + 1 => (cntL F t).set t (F t)
theorem cnt_length (F : Nat → UInt8) : ∀ t, (cntL F t).length = 32
  | 0 => z32_length
  | t + 1 => by rw [cntL, List.length_set, cnt_length F t]
structure Cnt (n : Nat) (w wx : World) (L : List UInt8) : Prop where
  re : Blk wx n (z32.map byt) 24
  ke : Blk wx (n + 1) (L.map byt) 24
  be : Below n w wx
theorem Cnt.set {n : Nat} {w wx : World} {L : List UInt8} (h : Cnt n w wx L) (j : Nat) (u : UInt8) : Cnt n w (wx.setCell ⟨n + 1, j, none⟩ (.int .u8 (u.toNat : Int))) (L.set j u) :=
  ⟨h.re.setOther _ _ _ (by omega), by rw [← byt_set]; exact h.ke.set j _, h.be.setCell (by simp) _⟩
theorem wrap64_small {z : Int} (h1 : -9223372036854775808 ≤ z) (h2 : z < 9223372036854775808) : IntKind.i64.wrap z = z := by
  rw [IntKind.wrap_i64]; omega
theorem wrap_u8 (u : UInt8) : IntKind.u8.wrap (u.toNat : Int) = (u.toNat : Int) := by
  have := u.toNat_lt
  rw [IntKind.wrap_u8]; omega

set_option maxRecDepth 100000 in
set_option maxHeartbeats 2000000 in
theorem counted_any (f s : Int) (F : Nat → UInt8) (hF : ∀ i : Nat, i < 32 → f + s * (i : Int) = ((F i).toNat : Int)) (hs : s = 1 ∨ s = -1) (w : World) :
    Calls Try.prog 18 #[.int .i64 f, .int .i64 s] w fun e w' => e = .returned (.agg ((cntL F 32).map byt).toArray) ∧ Below w.heap.size w w' := by
  have HF := hide hF
  have HS := hide hs
  clear hF hs
  go_enter Try.func18, Try.ntmps18
  go_upto_region 2 with (first | (refine wpList_newAt rfl 24 rfl (z32.map byt) zero23 (w.heap.size) rfl ?_) | (refine wpList_newAt rfl 24 rfl (z32.map byt) zero23 (w.heap.size + 1) (size1 _ _) ?_))
  have h0 : Hid (Cnt w.heap.size w ((w.alloc (.cells (z32.map byt).toArray 24)).alloc (.cells (z32.map byt).toArray 24)) (cntL F 0)) := by
    refine ⟨(Blk.new _ _ _).alloc _, ?_, by go_grown⟩
    have := Blk.new (w.alloc (.cells (z32.map byt).toArray 24)) (z32.map byt) 24
    rw [show cntL F 0 = z32 from rfl]
    simpa using this
  generalize (w.alloc (.cells (z32.map byt).toArray 24)).alloc (.cells (z32.map byt).toArray 24) = w1 at h0 ⊢
  obtain ⟨n, hn⟩ : ∃ n, w.heap.size = n := ⟨_, rfl⟩
  rw [hn] at h0 ⊢
  go_wp2
  go_loopw [6] (fun i wr => ∃ t : Nat, t ≤ 32 ∧ i = .int .i64 t ∧ Hid (Cnt n w wr (cntL F t))) (fun i _ => 32 - (intOf i).toNat)
  case atStart => exact ⟨0, by omega, rfl, h0⟩
  case round =>
    obtain ⟨t, ht, rfl, hs⟩ := hrel
    have hlen := cnt_length F t
    obtain ⟨L, hL⟩ : ∃ L, cntL F t = L := ⟨_, rfl⟩
    have HL2 := hide hL
    rw [hL] at hs hlen
    clear hL
    by_cases hlt : t < 32
    · have hlz : (t : Int) < 32 := by omega
      have hv := HF.out t hlt
      obtain ⟨u, hu⟩ : ∃ u, F t = u := ⟨_, rfl⟩
      rw [hu] at hv
      obtain ⟨m, hm⟩ : ∃ m, s * (t : Int) = m := ⟨_, rfl⟩
      have hmb : -32 ≤ m ∧ m ≤ 32 := by
        rw [← hm]
        rcases HS.out with h | h <;> rw [h] <;> omega
      have hu2 := u.toNat_lt
      have e1 : IntKind.i64.wrap (s * (t : Int)) = m := by rw [hm]; exact wrap64_small (by omega) (by omega)
      have e2 : IntKind.i64.wrap (f + m) = (u.toNat : Int) := by rw [← hm, hv]; exact wrap64_small (by omega) (by omega)
      have e3 := wrap_u8 u
      have hfz := hs.out.ke.frozen t
      have hold := hs.out.ke.cell t
      have hol2 : (L.map byt)[t]? = some (byt (L.getD t 0)) := by simp [List.getElem?_eq_getElem (show t < L.length by omega)]
      rw [hol2] at hold
      clear hol2
      have HU := hide hu
      clear hu hlen hm hv hmb hu2
      go_wp2
      go_roundw
      case rel =>
        refine ⟨t + 1, by omega, by go_num, ?_⟩
        rw [cntL, HL2.out, HU.out]
        exact hs.out.set t _
      case measure => simp [intOf]; omega
    · obtain rfl : t = 32 := by omega
      go_wp2_with (first | (refine wpList_load_row rfl 24 (.tmp 5) rfl (n + 1) rfl 24 (L.map byt).toArray (0, 0) _ hs.out.ke Try.underlying24 rfl (key_infoA hlen) ?_) | (refine wpList_store_row rfl 24 (.tmp 4) (.tmp 19) rfl n (L.map byt).toArray rfl rfl 24 (z32.map byt).toArray hs.out.re (key_infoA hlen) (key_size hlen) (byts_one L) ?_))
      refine bodyPost_ret (results_cell_row Try.results18 _ _ n 24 (L.map byt).toArray (0, 0) _ rfl (hs.out.re.setRow _) Try.underlying24 rfl (key_infoA hlen)) rfl ?_
      exact ⟨by rw [HL2.out], by first | (rw [hn]; exact below_setRow hs.out.be _ _ (by omega)) | exact below_setRow hs.out.be _ _ (by omega)⟩
end Go.Proofs.Ytacancfmgnmpiaa
