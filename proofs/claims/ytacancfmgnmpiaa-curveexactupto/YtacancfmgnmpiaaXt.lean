import Derived.Test.YtacancfmgnmpiaaXs
set_option linter.unusedVariables false
set_option linter.unusedSimpArgs false
namespace Go.Proofs.Ytacancfmgnmpiaa
open Go.RowKit

/-- The slice value v holds the bytes bs in the world w. -/
def Has (w : World) (v : Value) (bs : List UInt8) : Prop :=
  (v = .slice none 0 0 ∧ bs = []) ∨ ∃ ad cap, v = .slice (some ad) bs.length cap ∧ bs.length ≤ cap ∧ ∀ i u, bs[i]? = some u → w.cell? (ad.add i) = some (byt u)
theorem Has.nil (w : World) : Has w (.slice none 0 0) [] := .inl ⟨rfl, rfl⟩
theorem Has.cellsEq {w w' : World} {v : Value} {bs : List UInt8} (h : Has w v bs) (hb : ∀ a u, w.cell? a = some u → w'.cell? a = some u) : Has w' v bs := by
  rcases h with h | ⟨ad, cap, h1, h2, h3⟩
  · exact .inl h
  · exact .inr ⟨ad, cap, h1, h2, fun i u hu => hb _ _ (h3 i u hu)⟩
theorem Has.below {w w' : World} {v : Value} {bs : List UInt8} (h : Has w v bs) (hb : Below w.heap.size w w') : Has w' v bs :=
  h.cellsEq fun _ _ hu => (hb.cell (cell_lt hu)).trans hu
theorem Has.len {w : World} {v : Value} {bs : List UInt8} (h : Has w v bs) (W : World) (ty : TypeId) : (Builtin.len_ #[33] ty #[v]).run Try.prog W = .ok (.int .i64 (bs.length : Int)) W := by
  rcases h with ⟨rfl, rfl⟩ | ⟨ad, cap, rfl, _, _⟩
  · go_simp
  · go_simp
theorem idx33 (ad : Addr) (n cap m : Nat) (h : m < n) (W : World) : (Instr.indexAt 33 (.slice (some ad) n cap) (.int .i64 (m : Int))).run Try.prog W = .ok (.pointer (some (ad.add m))) W := by
  have hm : (m : Int) < (n : Int) := by omega
  go_simp
  try simp

theorem build29z (W : World) : (Instr.build 29 #[]).run Try.prog W = .ok (.agg (z64.map byt).toArray) W := by kernel_rfl
theorem z64_length : z64.length = 64 := by simp [z64]
/-- Blocks while the bytes are copied. -/
structure Cpy (n : Nat) (w wx : World) (L : List UInt8) : Prop where
  re : Blk wx n (z64.map byt) 29
  ke : Blk wx (n + 1) (L.map byt) 24
  be : Below n w wx
theorem Cpy.set {n : Nat} {w wx : World} {L : List UInt8} (h : Cpy n w wx L) (j : Nat) (u : UInt8) : Cpy n w (wx.setCell ⟨n + 1, j, none⟩ (.int .u8 (u.toNat : Int))) (L.set j u) :=
  ⟨h.re.setOther _ _ _ (by omega), by rw [← byt_set]; exact h.ke.set j _, h.be.setCell (by simp) _⟩
/-- Bytes laid one behind the other over a list. -/
def cpL (F : Nat → UInt8) : Nat → List UInt8
  | 0 => z32
  | t + 1 => (cpL F t).set t (F t)
theorem cp_length (F : Nat → UInt8) : ∀ t, (cpL F t).length = 32
  | 0 => z32_length
  | t + 1 => by rw [cpL, List.length_set, cp_length F t]
theorem cp_get (F : Nat → UInt8) : ∀ t, t ≤ 32 → ∀ j, j < t → (cpL F t)[j]? = some (F j)
  | 0, _, j, h => by omega
  | t + 1, ht, j, h => by
    rw [cpL]
    by_cases hj : t = j
    · subst hj; rw [List.getElem?_set_self (by rw [cp_length]; omega)]
    · rw [List.getElem?_set_ne hj]; exact cp_get F t (by omega) j (by omega)
theorem cp_all (bs : List UInt8) (h : bs.length = 32) : cpL (fun i => bs.getD i 0) 32 = bs := by
  refine List.ext_getElem? fun j => ?_
  rcases Nat.lt_or_ge j 32 with hj | hj
  · rw [cp_get _ 32 (by omega) j hj, List.getD_eq_getElem?_getD, List.getElem?_eq_getElem (by omega)]; rfl
  · rw [List.getElem?_eq_none (by rw [cp_length]; exact hj), List.getElem?_eq_none (by omega)]

set_option maxRecDepth 100000 in
set_option maxHeartbeats 2000000 in
theorem refpair_no (v : Value) (bs : List UInt8) (hb : bs.length ≠ 32) (hb2 : bs.length < 9223372036854775808) (w : World) (hv : Has w v bs) :
    Calls Try.prog 44 #[v] w fun e w' => e = .returned (.tuple #[.agg (z64.map byt).toArray, .int .i64 71]) ∧ Below w.heap.size w w' := by
  have hlen := hv.len
  clear hv
  obtain ⟨n, hn⟩ : ∃ n, bs.length = n := ⟨_, rfl⟩
  rw [hn] at hlen hb hb2
  have hne : ¬ (n : Int) = 32 := by omega
  have hne2 : ¬ (32 : Int) = (n : Int) := by omega
  go_enter Try.func44, Try.ntmps44
  go_upto_region 2 with (refine wpList_newAt rfl 29 rfl (z64.map byt) zero29 w.heap.size rfl ?_)
  have b0 : Blk (w.alloc (.cells (z64.map byt).toArray 29)) w.heap.size (z64.map byt) 29 := Blk.new w (z64.map byt) 29
  have be : Below w.heap.size w (w.alloc (.cells (z64.map byt).toArray 29)) := by go_grown
  generalize w.alloc (.cells (z64.map byt).toArray 29) = w1 at b0 be ⊢
  refine lst_then 1 ?_
  simp only [List.take_succ_cons, List.take_zero]
  refine wpLex_cons2 _ (uni_build0 (by rfl) 29 rfl (.agg (z64.map byt).toArray) build29z) (by simp only [Act.put, List.setIfInBounds_toArray, List.set_cons_zero, List.set_cons_succ]; rfl) ?_
  intro w4 hW
  simp only [List.drop_succ_cons, List.drop_zero]
  replace b0 := b0.on hW
  replace be := be.trans (hW.mono (by have := be.size; omega))
  clear hW
  refine lst_row rfl rfl 29 (.tmp 2) (.tmp 9) rfl w.heap.size (z64.map byt) (z64.map byt) 29 rfl rfl b0 (pair_info z64_length) rfl (byts_one _) ?_
  refine lst_val rfl (Op.assign (Operand.const (Value.int IntKind.i64 71))) rfl (.int .i64 71) (fun o' ho => by go_simp) (by simp only [Act.put, List.setIfInBounds_toArray, List.set_cons_zero, List.set_cons_succ]; rfl) ?_
  refine wpList_nil ?_
  go_wp2
  refine bodyPost_ret (results_cellvar Try.results44 _ _ w.heap.size 29 (z64.map byt).toArray _ (.int .i64 71) rfl rfl (b0.setRow _) Try.underlying29 rfl (pair_infoA z64_length)) rfl ?_
  exact ⟨rfl, below_setRow be _ _ (by omega)⟩

set_option maxRecDepth 100000 in
set_option maxHeartbeats 2000000 in
theorem newpair_no (v : Value) (bs : List UInt8) (hb : bs.length ≠ 32) (hb2 : bs.length < 9223372036854775808) (w : World) (hv : Has w v bs) :
    Calls Try.prog 12 #[v] w fun e w' => e = .returned (.tuple #[.agg (z64.map byt).toArray, .int .i64 71]) ∧ Below w.heap.size w w' := by
  have hlen := hv.len
  clear hv
  obtain ⟨n, hn⟩ : ∃ n, bs.length = n := ⟨_, rfl⟩
  rw [hn] at hlen hb hb2
  have hne : ¬ (n : Int) = 32 := by omega
  have hne2 : ¬ (32 : Int) = (n : Int) := by omega
  go_enter Try.func12, Try.ntmps12
  go_upto_region 2 with (refine wpList_newAt rfl 29 rfl (z64.map byt) zero29 w.heap.size rfl ?_)
  have b0 : Blk (w.alloc (.cells (z64.map byt).toArray 29)) w.heap.size (z64.map byt) 29 := Blk.new w (z64.map byt) 29
  have be : Below w.heap.size w (w.alloc (.cells (z64.map byt).toArray 29)) := by go_grown
  generalize w.alloc (.cells (z64.map byt).toArray 29) = w1 at b0 be ⊢
  refine lst_then 1 ?_
  simp only [List.take_succ_cons, List.take_zero]
  refine wpLex_cons2 _ (uni_build0 (by rfl) 29 rfl (.agg (z64.map byt).toArray) build29z) (by simp only [Act.put, List.setIfInBounds_toArray, List.set_cons_zero, List.set_cons_succ]; rfl) ?_
  intro w4 hW
  simp only [List.drop_succ_cons, List.drop_zero]
  replace b0 := b0.on hW
  replace be := be.trans (hW.mono (by have := be.size; omega))
  clear hW
  refine lst_row rfl rfl 29 (.tmp 2) (.tmp 8) rfl w.heap.size (z64.map byt) (z64.map byt) 29 rfl rfl b0 (pair_info z64_length) rfl (byts_one _) ?_
  refine lst_val rfl (Op.assign (Operand.const (Value.int IntKind.i64 71))) rfl (.int .i64 71) (fun o' ho => by go_simp) (by simp only [Act.put, List.setIfInBounds_toArray, List.set_cons_zero, List.set_cons_succ]; rfl) ?_
  refine wpList_nil ?_
  go_wp2
  refine bodyPost_ret (results_cellvar Try.results12 _ _ w.heap.size 29 (z64.map byt).toArray _ (.int .i64 71) rfl rfl (b0.setRow _) Try.underlying29 rfl (pair_infoA z64_length)) rfl ?_
  exact ⟨rfl, below_setRow be _ _ (by omega)⟩

set_option maxRecDepth 100000 in
set_option maxHeartbeats 4000000 in
theorem refpair_walk (v : Value) (bs C B PL : List UInt8) (hb : bs.length = 32) (lC : C.length = 32) (lB : B.length = 32) (lP : PL.length = 64)
    (c1 : ∀ W, Calls Try.prog 23 #[.agg (bs.map byt).toArray] W fun e w' => e = .returned (.agg (C.map byt).toArray) ∧ Below W.heap.size W w')
    (c2 : ∀ W, Calls Try.prog 25 #[.agg (C.map byt).toArray] W fun e w' => e = .returned (.agg (B.map byt).toArray) ∧ Below W.heap.size W w')
    (bd : ∀ W, (Instr.build 29 #[(0, .agg (C.map byt).toArray), (1, .agg (B.map byt).toArray)]).run Try.prog W = .ok (.agg (PL.map byt).toArray) W)
    (w : World) (hv : Has w v bs) :
    Calls Try.prog 44 #[v] w fun e w' => e = .returned (.tuple #[.agg (PL.map byt).toArray, .int .i64 0]) ∧ Below w.heap.size w w' := by
  obtain ⟨ad, cap, rfl, hcells⟩ : ∃ ad cap, v = .slice (some ad) 32 cap ∧ ∀ i u, bs[i]? = some u → w.cell? (ad.add i) = some (byt u) := by
    rcases hv with ⟨_, h⟩ | ⟨ad, cap, h1, _, h3⟩
    · rw [h] at hb; simp at hb
    · exact ⟨ad, cap, by rw [h1, hb], h3⟩
  have HCE : Hid (∀ W, Below w.heap.size w W → ∀ i u, bs[i]? = some u → W.cell? (ad.add i) = some (byt u)) := hide (fun W hW i u hu => (hW.cell (cell_lt (hcells i u hu))).trans (hcells i u hu))
  clear hcells hv
  have hlen : ∀ W ty, (Builtin.len_ #[33] ty #[.slice (some ad) 32 cap]).run Try.prog W = .ok (.int .i64 32) W := fun W ty => by go_simp
  have C1 := hide c1
  have C2 := hide c2
  have BD := hide bd
  clear c1 c2 bd
  go_enter Try.func44, Try.ntmps44
  go_upto_region 4 with (first | (refine wpList_newAt rfl 29 rfl (z64.map byt) zero29 w.heap.size rfl ?_) | (refine wpList_newAt rfl 24 rfl (z32.map byt) zero23 (w.heap.size + 1) (size1 _ _) ?_))
  have h0 : Hid (Cpy w.heap.size w ((w.alloc (.cells (z64.map byt).toArray 29)).alloc (.cells (z32.map byt).toArray 24)) (cpL (fun i => bs.getD i 0) 0)) := by
    refine ⟨(Blk.new _ _ _).alloc _, ?_, by go_grown⟩
    have := Blk.new (w.alloc (.cells (z64.map byt).toArray 29)) (z32.map byt) 24
    rw [show cpL (fun i => bs.getD i 0) 0 = z32 from rfl]
    simpa using this
  generalize (w.alloc (.cells (z64.map byt).toArray 29)).alloc (.cells (z32.map byt).toArray 24) = w1 at h0 ⊢
  obtain ⟨n, hn⟩ : ∃ n, w.heap.size = n := ⟨_, rfl⟩
  rw [hn] at h0 HCE ⊢
  go_wp2
  go_loopw [5] (fun i wr => ∃ t : Nat, t ≤ 32 ∧ i = .int .i64 t ∧ Hid (Cpy n w wr (cpL (fun i => bs.getD i 0) t))) (fun i _ => 32 - (intOf i).toNat)
  case atStart => exact ⟨0, by omega, rfl, h0⟩
  case round =>
    obtain ⟨t, ht, rfl, hs⟩ := hrel
    have hlL := cp_length (fun i => bs.getD i 0) t
    by_cases hlt : t < 32
    · have hlz : (t : Int) < 32 := by omega
      obtain ⟨L, hL⟩ : ∃ L, cpL (fun i => bs.getD i 0) t = L := ⟨_, rfl⟩
      have HL2 := hide hL
      rw [hL] at hs hlL
      clear hL
      obtain ⟨u, hu⟩ : ∃ u, bs.getD t 0 = u := ⟨_, rfl⟩
      have hsrc : wr.cell? (ad.add t) = some (.int .u8 (u.toNat : Int)) := HCE.out wr hs.out.be t u (by rw [← hu, List.getD_eq_getElem?_getD, List.getElem?_eq_getElem (by omega)]; rfl)
      have hix := fun W => idx33 ad 32 cap t hlt W
      have hfz := hs.out.ke.frozen t
      have hold := hs.out.ke.cell t
      have hol2 : (L.map byt)[t]? = some (byt (L.getD t 0)) := by simp [List.getElem?_eq_getElem (show t < L.length by omega)]
      rw [hol2] at hold
      clear hol2
      have HU := hide hu
      clear hu hlL hlen
      go_wp2
      go_roundw
      case rel =>
        refine ⟨t + 1, by omega, by go_num, ?_⟩
        rw [cpL, HL2.out, HU.out]
        exact hs.out.set t _
      case measure => simp [intOf]; omega
    · obtain rfl : t = 32 := by omega
      rw [cp_all bs hb] at hs
      clear hlt ht hlL
      obtain ⟨hs⟩ : Nonempty (Cpy n w wr bs) := ⟨hs.out⟩
      have b0 := hs.re
      have b1 := hs.ke
      have be := hs.be
      clear hs
      go_upto_region 8 with fail
      refine lst_putT 2 rfl rfl rfl rfl 24 (.tmp 4) (.tmp 21) rfl ?_
      simp only [List.take_succ_cons, List.take_zero]
      refine wpLex_cons2 _ (uni_row rfl 24 (.tmp 4) rfl (n + 1) (bs.map byt) 24 rfl (fun W hW => b1.on hW) Try.underlying24 rfl (key_info hb)) (by simp only [Act.put, List.setIfInBounds_toArray, List.set_cons_zero, List.set_cons_succ]; rfl) ?_
      refine wpLex_cons2 _ (uni_callF (by rfl) 23 [Operand.tmp 20] #[24] rfl [.agg (bs.map byt).toArray] (.agg (C.map byt).toArray) rfl enter23 (fun W hW => C1.out W)) (by simp only [Act.put, List.setIfInBounds_toArray, List.set_cons_zero, List.set_cons_succ]; rfl) ?_
      refine ⟨n + 1, C.map byt, bs.map byt, 24, rfl, rfl, b1, key_info lC, by rw [List.length_map, List.length_map, hb, lC], byts_one _, fun wz hW => ?_⟩
      replace b0 := (b0.on hW).setRowOther (n + 1) (C.map byt).toArray (by omega)
      replace b1 := (b1.on hW).setRow (C.map byt)
      replace be := below_setRow (be.trans (hW.mono (by have := be.size; omega))) (n + 1) (C.map byt).toArray (by omega)
      generalize wz.setRow (n + 1) (C.map byt).toArray = w2 at b0 b1 be ⊢
      clear hW
      go_upto_region 9 with fail
      refine reg_putV (by kernel_rfl) 4 rfl rfl rfl (by kernel_rfl) (by kernel_rfl) (by kernel_rfl) (by kernel_rfl) (by kernel_rfl) (by kernel_rfl) rfl rfl 29 (.tmp 2) (.tmp 25) rfl rfl (.assign (.const (.int .i64 0))) rfl ?_
      simp only [List.take_succ_cons, List.take_zero]
      refine wpLex_cons2 _ (uni_row rfl 24 (.tmp 4) rfl (n + 1) (C.map byt) 24 rfl (fun W hW => b1.on hW) Try.underlying24 rfl (key_info lC)) (by simp only [Act.put, List.setIfInBounds_toArray, List.set_cons_zero, List.set_cons_succ]; rfl) ?_
      refine wpLex_cons2 _ (uni_row rfl 24 (.tmp 4) rfl (n + 1) (C.map byt) 24 rfl (fun W hW => b1.on hW) Try.underlying24 rfl (key_info lC)) (by simp only [Act.put, List.setIfInBounds_toArray, List.set_cons_zero, List.set_cons_succ]; rfl) ?_
      refine wpLex_cons2 _ (uni_callF (by rfl) 25 [Operand.tmp 23] #[24] rfl [.agg (C.map byt).toArray] (.agg (B.map byt).toArray) rfl enter25 (fun W hW => C2.out W)) (by simp only [Act.put, List.setIfInBounds_toArray, List.set_cons_zero, List.set_cons_succ]; rfl) ?_
      refine wpLex_cons2 _ (uni_build2 (by rfl) 29 (.tmp 22) (.tmp 24) rfl (.agg (C.map byt).toArray) (.agg (B.map byt).toArray) (.agg (PL.map byt).toArray) rfl rfl BD.out) (by simp only [Act.put, List.setIfInBounds_toArray, List.set_cons_zero, List.set_cons_succ]; rfl) ?_
      refine ⟨n, PL.map byt, z64.map byt, 29, .int .i64 0, rfl, rfl, b0, pair_info lP, pair_len lP, byts_one _, (fun o' ho W => by go_simp), fun wz hW => ?_⟩
      simp only [Act.put, List.setIfInBounds_toArray, List.set_cons_zero, List.set_cons_succ]
      go_wp2
      refine bodyPost_ret (results_cellvar Try.results44 _ _ n 29 (PL.map byt).toArray _ (.int .i64 0) rfl rfl ((b0.on hW).setRow _) Try.underlying29 rfl (pair_infoA lP)) rfl ?_
      exact ⟨rfl, by first | (rw [hn]; exact below_setRow (be.trans (hW.mono (by have := be.size; omega))) _ _ (by omega)) | exact below_setRow (be.trans (hW.mono (by have := be.size; omega))) _ _ (by omega)⟩
end Go.Proofs.Ytacancfmgnmpiaa
