import Derived.Test.YtacancfmgnmpiaaXeG
set_option linter.unusedVariables false
set_option linter.unusedSimpArgs false
namespace Go.Proofs.Ytacancfmgnmpiaa
open Go.RowKit

/-- Bit i of a key, as a number. -/
def kb (k : List UInt8) (i : Nat) : Nat := (k.getD (i / 8) 0).toNat / 2 ^ (i % 8) % 2
theorem kb_lt (k : List UInt8) (i : Nat) : kb k i < 2 := Nat.mod_lt _ (by decide)
theorem kb_is (k : List UInt8) (i : Nat) (hi : i < 256) : kb k i = kn k / 2 ^ i % 2 := by
  have h := kbit_is k i hi
  unfold kbit at h
  have h1 : kb k i < 2 := kb_lt k i
  have h2 : kn k / 2 ^ i % 2 < 2 := Nat.mod_lt _ (by decide)
  have h3 : (kb k i = 1) = (kn k / 2 ^ i % 2 = 1) := by
    have := congrArg (· = true) h
    simpa [kb] using this
  by_cases hq : kb k i = 1
  · have := h3 ▸ hq
    omega
  · have : ¬ kn k / 2 ^ i % 2 = 1 := fun e => hq (h3 ▸ e)
    omega

set_option maxRecDepth 100000 in
set_option maxHeartbeats 4000000 in
theorem bit_any (k : List UInt8) (hk : k.length = 32) (b : Nat) (hb : b < 256) (w : World) :
    Calls Try.prog 38 #[.agg (k.map byt).toArray, .int .i64 (b : Int)] w fun e w' => e = .returned (.int .i64 (kb k b : Int)) ∧ Below w.heap.size w w' := by
  obtain ⟨c, hc⟩ : ∃ c, c = b / 8 := ⟨_, rfl⟩
  obtain ⟨r, hr⟩ : ∃ r, r = b % 8 := ⟨_, rfl⟩
  obtain ⟨y, hy⟩ : ∃ y, k.getD c 0 = y := ⟨_, rfl⟩
  obtain ⟨m, hm⟩ : ∃ m, m = y.toNat / 2 ^ r := ⟨_, rfl⟩
  obtain ⟨q, hq⟩ : ∃ q, q = m % 2 := ⟨_, rfl⟩
  have hkb : kb k b = q := by unfold kb; rw [← hc, ← hr, hy, ← hm, ← hq]
  rw [hkb]
  have q1 : (b : Int).tdiv 8 = (c : Int) := by rw [Int.tdiv_eq_ediv_of_nonneg (by omega)]; omega
  have q2 : (b : Int) / 8 = (c : Int) := by omega
  have q3 : (b : Int).tmod 8 = (r : Int) := by rw [Int.tmod_eq_emod_of_nonneg (by omega)]; omega
  have q4 : (b : Int) % 8 = (r : Int) := by omega
  have hc32 : (c : Int) < 32 := by omega
  have hr8 : r < 8 := by omega
  have hm6 : m < 256 := by
    rw [hm]
    exact Nat.lt_of_le_of_lt (Nat.div_le_self _ _) y.toNat_lt
  have e1 : (y.toNat : Int) / 2 ^ r = (m : Int) := by
    rw [hm, Int.natCast_ediv, Int.natCast_pow]
    rfl
  have e2 : (m : Int).tmod 2 = (q : Int) := by rw [Int.tmod_eq_emod_of_nonneg (by omega)]; omega
  have e3 : (m : Int) % 2 = (q : Int) := by omega
  have hcell0 : (k.map byt)[c]? = some (.int .u8 (y.toNat : Int)) := by rw [byts_at k c (by omega), hy]
  have hy6 := y.toNat_lt
  have HC := hide hcell0
  clear hcell0 hc hr hy hm hq hkb hk
  go_enter Try.func38, Try.ntmps38
  go_upto_region 1 with (refine wpList_boxAt rfl 24 (.tmp 0) rfl (k.map byt) rfl (w.heap.size) rfl ?_)
  have b0 : Blk (w.alloc (.cells (k.map byt).toArray 24)) w.heap.size (k.map byt) 24 := Blk.new _ _ _
  have be : Below w.heap.size w (w.alloc (.cells (k.map byt).toArray 24)) := by go_grown
  generalize w.alloc (.cells (k.map byt).toArray 24) = w1 at b0 be ⊢
  obtain ⟨n, hn⟩ : ∃ n, w.heap.size = n := ⟨_, rfl⟩
  rw [hn] at b0 be ⊢
  have hcell : w1.cell? ⟨n, c, none⟩ = some (.int .u8 (y.toNat : Int)) := by rw [b0.cell, HC.out]
  have BE := hide be
  clear b0 be
  go_wp2
  go_ret
  exact ⟨rfl, by first | (rw [hn]; exact BE.out) | exact BE.out⟩

set_option maxRecDepth 100000 in
set_option maxHeartbeats 4000000 in
theorem refclamp_any (k : List UInt8) (hk : k.length = 32) (w : World) : Calls Try.prog 23 #[.agg (k.map byt).toArray] w fun e w' => e = .returned (.agg ((clampL k).map byt).toArray) ∧ Below w.heap.size w w' := by
  go_enter Try.func23, Try.ntmps23
  go_upto_region 1 with (first | (refine wpList_boxAt rfl 24 (.tmp 0) rfl (k.map byt) rfl (w.heap.size) rfl ?_) | (refine wpList_newAt rfl 24 rfl (z32.map byt) zero23 (w.heap.size + 1) (size1 _ _) ?_))
  have b0 : Blk ((w.alloc (.cells (k.map byt).toArray 24)).alloc (.cells (z32.map byt).toArray 24)) w.heap.size (k.map byt) 24 := (Blk.new _ _ _).alloc _
  have b1 : Blk ((w.alloc (.cells (k.map byt).toArray 24)).alloc (.cells (z32.map byt).toArray 24)) (w.heap.size + 1) (z32.map byt) 24 := by
    have := Blk.new (w.alloc (.cells (k.map byt).toArray 24)) (z32.map byt) 24
    simpa using this
  have be : Below w.heap.size w ((w.alloc (.cells (k.map byt).toArray 24)).alloc (.cells (z32.map byt).toArray 24)) := by go_grown
  generalize (w.alloc (.cells (k.map byt).toArray 24)).alloc (.cells (z32.map byt).toArray 24) = w1 at b0 b1 be ⊢
  obtain ⟨n, hn⟩ : ∃ n, w.heap.size = n := ⟨_, rfl⟩
  rw [hn] at b0 b1 be ⊢
  obtain ⟨a, ha⟩ : ∃ a, k.getD 0 0 = a := ⟨_, rfl⟩
  obtain ⟨b, hb⟩ : ∃ b, k.getD 31 0 = b := ⟨_, rfl⟩
  have hc0 : w1.cell? ⟨n, 0, none⟩ = some (.int .u8 (a.toNat : Int)) := by rw [b0.cell, byts_at k 0 (by omega), ha]
  have hf0 := b0.frozen 0
  obtain ⟨A, hA2⟩ : ∃ A, a &&& 248 = A := ⟨_, rfl⟩
  have hav := a.toNat_lt
  have hAv : A.toNat = a.toNat / 8 * 8 := by rw [← hA2]; exact byte_low a
  obtain ⟨r, hr⟩ : ∃ r, r = a.toNat % 8 := ⟨_, rfl⟩
  have e1 : (a.toNat : Int).tmod 8 = (r : Int) := by rw [Int.tmod_eq_emod_of_nonneg (by omega)]; omega
  have e2 : (a.toNat : Int) % 8 = (r : Int) := by omega
  have e3 : IntKind.u8.wrap ((a.toNat : Int) - (r : Int)) = (A.toNat : Int) := by rw [IntKind.wrap_u8]; omega
  have e4 : IntKind.u8.wrap (r : Int) = (r : Int) := by rw [IntKind.wrap_u8]; omega
  have B0 := hide b0
  have B1 := hide b1
  have BE := hide be
  have HA := hide ha
  have HA2 := hide hA2
  have HB := hide hb
  have HK := hide hk
  clear b0 b1 be ha hb hk hA2 hAv hr hav
  go_upto_region 2 with fail
  have c0 : Blk (w1.setCell ⟨n, 0, none⟩ (.int .u8 (A.toNat : Int))) n ((k.set 0 A).map byt) 24 := by
    have := B0.out.set 0 (.int .u8 (A.toNat : Int))
    rwa [byt_set] at this
  have c1 := B1.out.setOther n 0 (.int .u8 (A.toNat : Int)) (by omega)
  have ce : Below n w (w1.setCell ⟨n, 0, none⟩ (.int .u8 (A.toNat : Int))) := BE.out.setCell (by simp) _
  generalize w1.setCell ⟨n, 0, none⟩ (.int .u8 (A.toNat : Int)) = w2 at c0 c1 ce ⊢
  clear hc0 hf0 e1 e2 e3 e4 B0 B1 BE
  obtain ⟨q, hq⟩ : ∃ q, q = k.set 0 A := ⟨_, rfl⟩
  rw [← hq] at c0
  have hql : q.length = 32 := by rw [hq, List.length_set]; exact HK.out
  have hc1 : w2.cell? ⟨n, 31, none⟩ = some (.int .u8 (b.toNat : Int)) := by
    rw [c0.cell, byts_at q 31 (by omega), hq, List.getD_eq_getElem?_getD, List.getElem?_set_ne (by decide), ← List.getD_eq_getElem?_getD, HB.out]
  have hf1 := c0.frozen 31
  obtain ⟨C, hC2⟩ : ∃ C, b &&& 127 ||| 64 = C := ⟨_, rfl⟩
  have hbv := b.toNat_lt
  have hCv : C.toNat = b.toNat % 64 + 64 := by rw [← hC2]; exact byte_top b
  obtain ⟨s, hs⟩ : ∃ s, s = b.toNat % 64 := ⟨_, rfl⟩
  have e1 : (b.toNat : Int).tmod 64 = (s : Int) := by rw [Int.tmod_eq_emod_of_nonneg (by omega)]; omega
  have e2 : (b.toNat : Int) % 64 = (s : Int) := by omega
  have e3 : IntKind.u8.wrap ((s : Int) + 64) = (C.toNat : Int) := by rw [IntKind.wrap_u8]; omega
  have e4 : IntKind.u8.wrap (s : Int) = (s : Int) := by rw [IntKind.wrap_u8]; omega
  have B0 := hide c0
  have B1 := hide c1
  have BE := hide ce
  have HQ := hide hq
  have HC2 := hide hC2
  clear c0 c1 ce hq hql hC2 hCv hs hbv
  go_upto_region 3 with fail
  have c0 : Blk (w2.setCell ⟨n, 31, none⟩ (.int .u8 (C.toNat : Int))) n ((q.set 31 C).map byt) 24 := by
    have := B0.out.set 31 (.int .u8 (C.toNat : Int))
    rwa [byt_set] at this
  have c1 := B1.out.setOther n 31 (.int .u8 (C.toNat : Int)) (by omega)
  have ce : Below n w (w2.setCell ⟨n, 31, none⟩ (.int .u8 (C.toNat : Int))) := BE.out.setCell (by simp) _
  generalize w2.setCell ⟨n, 31, none⟩ (.int .u8 (C.toNat : Int)) = w3 at c0 c1 ce ⊢
  clear hc1 hf1 e1 e2 e3 e4 B0 B1 BE
  have hR : q.set 31 C = clampL k := by unfold clampL; rw [HA.out, HB.out, HA2.out, HC2.out, HQ.out]
  rw [hR] at c0
  have hl : (clampL k).length = 32 := by rw [clamp_length]; exact HK.out
  clear hR
  obtain ⟨R, hR⟩ : ∃ R, clampL k = R := ⟨_, rfl⟩
  rw [hR] at c0 hl
  have HR := hide hR
  clear hR
  go_wp2_with (first | (refine wpList_load_row rfl 24 (.tmp 1) rfl n rfl 24 (R.map byt).toArray (0, 0) _ c0 Try.underlying24 rfl (key_infoA hl) ?_) | (refine wpList_store_row rfl 24 (.tmp 2) (.tmp 15) rfl (n + 1) (R.map byt).toArray rfl rfl 24 (z32.map byt).toArray c1 (key_infoA hl) (key_size hl) (byts_one _) ?_))
  refine bodyPost_ret (results_cell_row Try.results23 _ _ (n + 1) 24 (R.map byt).toArray (0, 0) _ rfl (c1.setRow _) Try.underlying24 rfl (key_infoA hl)) rfl ?_
  exact ⟨by rw [HR.out], by first | (rw [hn]; exact below_setRow ce _ _ (by omega)) | exact below_setRow ce _ _ (by omega)⟩
end Go.Proofs.Ytacancfmgnmpiaa
