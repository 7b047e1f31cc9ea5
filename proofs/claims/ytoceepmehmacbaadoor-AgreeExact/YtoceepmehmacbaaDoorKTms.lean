import Derived.Test.YtoceepmehmacbaaDoorKLad
set_option linter.unusedVariables false
set_option linter.unusedSimpArgs false
namespace Go.Proofs.YtoceepmehmacbaaDoor.Cv
open Go.RowKit

theorem Tryd.info5 : (Tryd.prog.info? 5).map (fun i => (i.zero, i.size, i.bytes)) = some (some (.int .u8 0), 1, 1) := by kernel_rfl
theorem run_part (L : List UInt8) (i : Nat) (h : i < L.length) (W : World) : (part 5 (L.map byt).toArray (i * 1)).run Tryd.prog W = .ok (.int .u8 ((L.getD i 0).toNat : Int)) W := by
  have h1 : (L.map byt).toArray[i]? = some (.int .u8 ((L.getD i 0).toNat : Int)) := by rw [List.getElem?_toArray, byts_at L i h]
  simp only [part, Sem.run_bind, Tryd.isAgg5, Result.andThen_ok, Nat.mul_one, h1]
  simp
theorem eqItems_is (L M : List UInt8) (d : Nat) (W : World) : ∀ (is : List Nat), (∀ i ∈ is, i < L.length ∧ i < M.length) →
    (Op.eqItems (d + 1) 5 1 (L.map byt).toArray (M.map byt).toArray is).run Tryd.prog W = .ok (is.all fun i => L.getD i 0 == M.getD i 0) W
  | [], _ => by simp [Op.eqItems]
  | i :: is, h => by
    obtain ⟨h1, h2⟩ := h i (by simp)
    have he := run_equalIn_int (P := Tryd.prog) W d 5 .u8 .u8 ((L.getD i 0).toNat : Int) ((M.getD i 0).toNat : Int) Tryd.underlying5
    have ih := eqItems_is L M d W is (fun j hj => h j (by simp [hj]))
    simp only [Op.eqItems, Sem.run_bind, run_part L i h1 W, run_part M i h2 W, he, Result.andThen_ok, List.all_cons]
    generalize (is.all fun i => L.getD i 0 == M.getD i 0) = r at ih ⊢
    generalize L.getD i 0 = x
    generalize M.getD i 0 = y
    by_cases hq : x = y
    · subst hq
      simp
      exact ih
    · have : (x.toNat : Int) ≠ (y.toNat : Int) := by
        intro hh
        exact hq (UInt8.toNat_inj.1 (by omega))
      simp [hq, this]

theorem getD_ext {L M : List UInt8} {n : Nat} (h1 : L.length = n) (h2 : M.length = n) (h : ∀ i, i < n → L.getD i 0 = M.getD i 0) : L = M := by
  apply List.ext_getElem (by omega)
  intro i hi hi'
  have := h i (by omega)
  rw [List.getD_eq_getElem?_getD, List.getD_eq_getElem?_getD, List.getElem?_eq_getElem hi, List.getElem?_eq_getElem hi'] at this
  simpa using this

set_option maxRecDepth 100000 in
theorem eq23 (L M : List UInt8) (h1 : L.length = 32) (h2 : M.length = 32) (W : World) : (Op.equalIn 10000 23 (.agg (L.map byt).toArray) (.agg (M.map byt).toArray)).run Tryd.prog W = .ok (decide (L = M)) W := by
  obtain ⟨i0, hi, _⟩ := info_parts Tryd.info5
  rw [run_equalIn_array W 9999 (L.map byt).toArray (M.map byt).toArray Tryd.underlying23 hi]
  have hc : Tryd.prog.cellsOf 5 = 1 := by kernel_rfl
  rw [hc, eqItems_is L M 9998 W _ (fun i hi => by have := List.mem_range.1 hi; omega)]
  congr 1
  by_cases hq : L = M
  · subst hq
    simp
  · rw [decide_eq_false hq, List.all_eq_false]
    refine Classical.byContradiction fun hn => hq (getD_ext h1 h2 fun i hi => ?_); refine Classical.byContradiction fun hne => hn ⟨i, List.mem_range.2 hi, ?_⟩
    simpa using hne
theorem guard24 : Tryd.prog.eqGuardType Tryd.prog.depth 23 = false := by kernel_rfl


theorem key_info {k : List UInt8} (h : k.length = 32) : (Tryd.prog.info? 23).map (·.size) = some (k.map byt).length := by rw [List.length_map, h]; kernel_rfl
theorem key_infoA {k : List UInt8} (h : k.length = 32) : (Tryd.prog.info? 23).map (·.size) = some (k.map byt).toArray.size := by have := key_info h; simpa using this
theorem key_len {k : List UInt8} (h : k.length = 32) : (z32.map byt).length = (k.map byt).length := by simp [z32, h]
theorem key_size {k : List UInt8} (h : k.length = 32) : (z32.map byt).toArray.size = (k.map byt).toArray.size := by simp [z32, h]
theorem build24 (W : World) : (Instr.build 23 #[]).run Tryd.prog W = .ok (.agg (z32.map byt).toArray) W := by kernel_rfl
theorem z32_length : z32.length = 32 := by simp [z32]

theorem uand (a : UInt8) (b : Nat) (hb : b < 256) : bits .and .u8 (a.toNat : Int) (b : Int) = ((a &&& UInt8.ofNat b).toNat : Int) := by
  have h := (bits_nat .u8 8 (by decide) wraps_u8 a.toNat b a.toNat_lt hb).1
  rw [h, UInt8.toNat_and, UInt8.toNat_ofNat', Nat.mod_eq_of_lt hb]
theorem uor (a : UInt8) (b : Nat) (hb : b < 256) : bits .or .u8 (a.toNat : Int) (b : Int) = ((a ||| UInt8.ofNat b).toNat : Int) := by
  have h := (bits_nat .u8 8 (by decide) wraps_u8 a.toNat b a.toNat_lt hb).2
  rw [h, UInt8.toNat_or, UInt8.toNat_ofNat', Nat.mod_eq_of_lt hb]
/-- The scalar of 32 bytes. -/
def clampL (k : List UInt8) : List UInt8 := (k.set 0 (k.getD 0 0 &&& 248)).set 31 (k.getD 31 0 &&& 127 ||| 64)
theorem clamp_length (k : List UInt8) : (clampL k).length = k.length := by simp [clampL]

set_option maxRecDepth 100000 in
set_option maxHeartbeats 2000000 in
theorem clamp_any (k : List UInt8) (hk : k.length = 32) (w : World) : Calls Tryd.prog 18 #[.agg (k.map byt).toArray] w fun e w' => e = .returned (.agg ((clampL k).map byt).toArray) ∧ Below w.heap.size w w' := by
  go_enter Tryd.func18, Tryd.ntmps18
  go_upto_region 1 with (first | (refine wpList_boxAt rfl 23 (.tmp 0) rfl (k.map byt) rfl (w.heap.size) rfl ?_) | (refine wpList_newAt rfl 23 rfl (z32.map byt) zero23 (w.heap.size + 1) (size1 _ _) ?_))
  have b0 : Blk ((w.alloc (.cells (k.map byt).toArray 23)).alloc (.cells ((z32.map byt)).toArray 23)) (w.heap.size) (k.map byt) 23 := by
    have := (Blk.new w (k.map byt) 23).alloc (.cells ((z32.map byt)).toArray 23)
    simpa using this
  have b1 : Blk ((w.alloc (.cells (k.map byt).toArray 23)).alloc (.cells ((z32.map byt)).toArray 23)) (w.heap.size + 1) ((z32.map byt)) 23 := by
    have := Blk.new (w.alloc (.cells (k.map byt).toArray 23)) ((z32.map byt)) 23
    simpa using this
  have be : Below w.heap.size w ((w.alloc (.cells (k.map byt).toArray 23)).alloc (.cells ((z32.map byt)).toArray 23)) := by go_grown
  generalize ((w.alloc (.cells (k.map byt).toArray 23)).alloc (.cells ((z32.map byt)).toArray 23)) = w1 at b0 b1 be ⊢
  obtain ⟨n, hn⟩ : ∃ n, w.heap.size = n := ⟨_, rfl⟩
  rw [hn] at b0 b1 be ⊢
  try simp only [Act.put, List.setIfInBounds_toArray, List.set_cons_zero, List.set_cons_succ]
  obtain ⟨a, ha⟩ : ∃ a, k.getD 0 0 = a := ⟨_, rfl⟩
  obtain ⟨b, hb⟩ : ∃ b, k.getD 31 0 = b := ⟨_, rfl⟩
  have hc0 : w1.cell? ⟨n, 0, none⟩ = some (.int .u8 (a.toNat : Int)) := by rw [b0.cell, byts_at k 0 (by omega), ha]
  have hf0 := b0.frozen 0
  obtain ⟨A, hA2⟩ : ∃ A, a &&& 248 = A := ⟨_, rfl⟩
  have e1 : bits .and .u8 (a.toNat : Int) 248 = (A.toNat : Int) := by rw [← hA2]; exact uand a 248 (by decide)
  have HA2 := hide hA2
  clear hA2
  have B0 := hide b0
  have B1 := hide b1
  have BE := hide be
  have HA := hide ha
  have HB := hide hb
  have HK := hide hk
  clear b0 b1 be ha hb hk
  go_upto_region 2 with fail
  have c0 : Blk (w1.setCell ⟨n, 0, none⟩ (.int .u8 (A.toNat : Int))) n ((k.set 0 A).map byt) 23 := by
    have := B0.out.set 0 (.int .u8 (A.toNat : Int))
    rwa [byt_set] at this
  have c1 := B1.out.setOther n 0 (.int .u8 (A.toNat : Int)) (by omega)
  have ce : Below n w (w1.setCell ⟨n, 0, none⟩ (.int .u8 (A.toNat : Int))) := BE.out.setCell (by simp) _
  generalize w1.setCell ⟨n, 0, none⟩ (.int .u8 (A.toNat : Int)) = w2 at c0 c1 ce ⊢
  clear hc0 hf0 e1 B0 B1 BE
  obtain ⟨q, hq⟩ : ∃ q, q = k.set 0 A := ⟨_, rfl⟩
  rw [← hq] at c0
  have hql : q.length = 32 := by rw [hq, List.length_set]; exact HK.out
  have hc1 : w2.cell? ⟨n, 31, none⟩ = some (.int .u8 (b.toNat : Int)) := by
    rw [c0.cell, byts_at q 31 (by omega), hq, List.getD_eq_getElem?_getD, List.getElem?_set_ne (by decide), ← List.getD_eq_getElem?_getD, HB.out]
  have hf1 := c0.frozen 31
  obtain ⟨B, hB2⟩ : ∃ B, b &&& 127 = B := ⟨_, rfl⟩
  obtain ⟨C, hC2⟩ : ∃ C, B ||| 64 = C := ⟨_, rfl⟩
  have e1 : bits .and .u8 (b.toNat : Int) 127 = (B.toNat : Int) := by rw [← hB2]; exact uand b 127 (by decide)
  have e2 : bits .or .u8 (B.toNat : Int) 64 = (C.toNat : Int) := by rw [← hC2]; exact uor B 64 (by decide)
  have HB2 := hide hB2
  have HC2 := hide hC2
  clear hB2 hC2
  have B0 := hide c0
  have B1 := hide c1
  have BE := hide ce
  have HQ := hide hq
  have HL := hide hql
  clear c0 c1 ce hq hql
  go_upto_region 3 with fail
  have c0 : Blk (w2.setCell ⟨n, 31, none⟩ (.int .u8 (C.toNat : Int))) n ((q.set 31 C).map byt) 23 := by
    have := B0.out.set 31 (.int .u8 (C.toNat : Int))
    rwa [byt_set] at this
  have c1 := B1.out.setOther n 31 (.int .u8 (C.toNat : Int)) (by omega)
  have ce : Below n w (w2.setCell ⟨n, 31, none⟩ (.int .u8 (C.toNat : Int))) := BE.out.setCell (by simp) _
  generalize w2.setCell ⟨n, 31, none⟩ (.int .u8 (C.toNat : Int)) = w3 at c0 c1 ce ⊢
  clear hc1 hf1 e1 e2 B0 B1 BE
  have hR : q.set 31 C = clampL k := by unfold clampL; rw [HA.out, HB.out, HA2.out, HB2.out, HC2.out, HQ.out]
  rw [hR] at c0
  have hl : (clampL k).length = 32 := by rw [clamp_length]; exact HK.out
  clear hR
  obtain ⟨R, hR⟩ : ∃ R, clampL k = R := ⟨_, rfl⟩
  rw [hR] at c0 hl
  have HR := hide hR
  clear hR
  go_wp2_with (first | (refine wpList_load_row rfl 23 (.tmp 1) rfl n rfl 23 (R.map byt).toArray (0, 0) _ c0 Tryd.underlying23 rfl (key_infoA hl) ?_) | (refine wpList_store_row rfl 23 (.tmp 2) (.tmp 12) rfl (n + 1) (R.map byt).toArray rfl rfl 23 (z32.map byt).toArray c1 (key_infoA hl) (key_size hl) (byts_one _) ?_))
  refine bodyPost_ret (results_cell_row Tryd.results18 _ _ (n + 1) 23 (R.map byt).toArray (0, 0) _ rfl (c1.setRow _) Tryd.underlying23 rfl (key_infoA hl)) rfl ?_
  exact ⟨by rw [HR.out], by first | (rw [hn]; exact below_setRow ce _ _ (by omega)) | exact below_setRow ce _ _ (by omega)⟩
/-- The u-coordinate of the scalar times the point. -/
def timesL (k u : List UInt8) : List UInt8 := tellE (mulE (ladL (clampL k) (readE u) 255).1.x (invE (ladL (clampL k) (readE u) 255).1.z))
theorem times_length (k u : List UInt8) : (timesL k u).length = 32 := tell_length _

set_option maxRecDepth 100000 in
set_option maxHeartbeats 2000000 in
theorem times_any (k u : List UInt8) (hk : k.length = 32) (hu : u.length = 32) (w : World) : Calls Tryd.prog 15 #[.agg (k.map byt).toArray, .agg (u.map byt).toArray] w fun e w' => e = .returned (.agg ((timesL k u).map byt).toArray) ∧ Below w.heap.size w w' := by
  have c1 := fun W => clamp_any k hk W
  have hc : (clampL k).length = 32 := by rw [clamp_length]; exact hk
  have c2 := fun W => read_any u hu W
  have c3 := fun W => ladder_any (clampL k) hc (readE u) W
  have c4 := fun W => whole_any (ladL (clampL k) (readE u) 255).1 W
  have c5 := fun W => bytes_any (mulE (ladL (clampL k) (readE u) 255).1.x (invE (ladL (clampL k) (readE u) 255).1.z)) W
  have hT : timesL k u = tellE (mulE (ladL (clampL k) (readE u) 255).1.x (invE (ladL (clampL k) (readE u) 255).1.z)) := rfl
  rw [← hT] at c5
  have hl := times_length k u
  clear hT
  generalize mulE (ladL (clampL k) (readE u) 255).1.x (invE (ladL (clampL k) (readE u) 255).1.z) = M at c4 c5
  generalize (ladL (clampL k) (readE u) 255).1 = R at c3 c4
  generalize readE u = U at c2 c3
  generalize clampL k = C at c1 c3
  generalize timesL k u = T at c5 hl ⊢
  go_enter Tryd.func15, Tryd.ntmps15
  go_upto_region 1 with (first | (refine wpList_boxAt rfl 23 (.tmp 0) rfl (k.map byt) rfl (w.heap.size) rfl ?_) | (refine wpList_boxAt rfl 23 (.tmp 1) rfl (u.map byt) rfl (w.heap.size + 1) (by simp) ?_) | (refine wpList_newAt rfl 23 rfl (z32.map byt) zero23 (w.heap.size + 1 + 1) (size2 _ _ _) ?_))
  have b0 : Blk (((w.alloc (.cells (k.map byt).toArray 23)).alloc (.cells (u.map byt).toArray 23)).alloc (.cells ((z32.map byt)).toArray 23)) (w.heap.size) (k.map byt) 23 := by
    have := ((Blk.new w (k.map byt) 23).alloc (.cells (u.map byt).toArray 23)).alloc (.cells ((z32.map byt)).toArray 23)
    simpa using this
  have b1 : Blk (((w.alloc (.cells (k.map byt).toArray 23)).alloc (.cells (u.map byt).toArray 23)).alloc (.cells ((z32.map byt)).toArray 23)) (w.heap.size + 1) (u.map byt) 23 := by
    have := (Blk.new (w.alloc (.cells (k.map byt).toArray 23)) (u.map byt) 23).alloc (.cells ((z32.map byt)).toArray 23)
    simpa using this
  have b2 : Blk (((w.alloc (.cells (k.map byt).toArray 23)).alloc (.cells (u.map byt).toArray 23)).alloc (.cells ((z32.map byt)).toArray 23)) (w.heap.size + 1 + 1) ((z32.map byt)) 23 := by
    have := Blk.new ((w.alloc (.cells (k.map byt).toArray 23)).alloc (.cells (u.map byt).toArray 23)) ((z32.map byt)) 23
    simpa using this
  have be : Below w.heap.size w (((w.alloc (.cells (k.map byt).toArray 23)).alloc (.cells (u.map byt).toArray 23)).alloc (.cells ((z32.map byt)).toArray 23)) := by go_grown
  generalize (((w.alloc (.cells (k.map byt).toArray 23)).alloc (.cells (u.map byt).toArray 23)).alloc (.cells ((z32.map byt)).toArray 23)) = w1 at b0 b1 b2 be ⊢
  obtain ⟨n, hn⟩ : ∃ n, w.heap.size = n := ⟨_, rfl⟩
  rw [hn] at b0 b1 b2 be ⊢
  try simp only [Act.put, List.setIfInBounds_toArray, List.set_cons_zero, List.set_cons_succ]
  refine reg_putT (by kernel_rfl) 7 rfl rfl (by kernel_rfl) rfl rfl 23 (.tmp 4) (.tmp 11) rfl ?_
  simp only [List.take_succ_cons, List.take_zero]
  refine wpLex_cons2 _ (uni_row rfl 23 (.tmp 2) rfl (n) (k.map byt) 23 rfl (fun W hW => b0.on hW) Tryd.underlying23 rfl (key_info hk)) (by simp only [Act.put, List.setIfInBounds_toArray, List.set_cons_zero, List.set_cons_succ]; rfl) ?_; refine wpLex_cons2 _ (uni_callF (by rfl) 18 [Operand.tmp 5] #[23] rfl [.agg (k.map byt).toArray] (.agg (C.map byt).toArray) rfl enter18 (fun W hW => c1 W)) (by simp only [Act.put, List.setIfInBounds_toArray, List.set_cons_zero, List.set_cons_succ]; rfl) ?_; refine wpLex_cons2 _ (uni_row rfl 23 (.tmp 3) rfl (n + 1) (u.map byt) 23 rfl (fun W hW => b1.on hW) Tryd.underlying23 rfl (key_info hu)) (by simp only [Act.put, List.setIfInBounds_toArray, List.set_cons_zero, List.set_cons_succ]; rfl) ?_; refine wpLex_cons2 _ (uni_callF (by rfl) 26 [Operand.tmp 7] #[23] rfl [.agg (u.map byt).toArray] (U.v) rfl enter26 (fun W hW => c2 W)) (by simp only [Act.put, List.setIfInBounds_toArray, List.set_cons_zero, List.set_cons_succ]; rfl) ?_; refine wpLex_cons2 _ (uni_callF (by rfl) 25 [Operand.tmp 6, Operand.tmp 8] #[23, 71] rfl [(.agg (C.map byt).toArray), (U.v)] (R.v) rfl enter25 (fun W hW => c3 W)) (by simp only [Act.put, List.setIfInBounds_toArray, List.set_cons_zero, List.set_cons_succ]; rfl) ?_; refine wpLex_cons2 _ (uni_callF (by rfl) 27 [Operand.tmp 9] #[73] rfl [(R.v)] (M.v) rfl enter27 (fun W hW => c4 W)) (by simp only [Act.put, List.setIfInBounds_toArray, List.set_cons_zero, List.set_cons_succ]; rfl) ?_; refine wpLex_cons2 _ (uni_callF (by rfl) 28 [Operand.tmp 10] #[71] rfl [(M.v)] (.agg (T.map byt).toArray) rfl enter28 (fun W hW => c5 W)) (by simp only [Act.put, List.setIfInBounds_toArray, List.set_cons_zero, List.set_cons_succ]; rfl) ?_; refine ⟨n + 1 + 1, T.map byt, z32.map byt, 23, rfl, rfl, b2, key_info hl, key_len hl, byts_one _, fun wz hW => ?_⟩
  go_wp2
  refine bodyPost_ret (results_cell_row Tryd.results15 _ _ (n + 1 + 1) 23 (T.map byt).toArray (0, 0) _ rfl ((b2.on hW).setRow _) Tryd.underlying23 rfl (key_infoA hl)) rfl ?_
  exact ⟨rfl, by first | (rw [hn]; exact below_setRow (be.trans (hW.mono (by have := be.size; omega))) _ _ (by omega)) | exact below_setRow (be.trans (hW.mono (by have := be.size; omega))) _ _ (by omega)⟩
/-- What is shared, or that it is nothing. -/
theorem results_cellvar {P : Program} {fn : Func} {p q : Tmp} {ty : TypeId} (h : fn.results = #[.cell p ty, .tmp q]) (tmps : Array Value) (w : World) (g : Nat) (t : TypeId) (cs : Array Value) (d : TypeDesc) (v : Value)
    (hp : tmps.getD p undef = .pointer (some ⟨g, 0, none⟩)) (hq : tmps.getD q undef = v) (hg : w.heap[g]? = some (.cells cs t (0, 0)))
    (hu : P.underlying ty = some d) (hd : (match d with | .struct _ | .array _ _ => true | _ => false) = true) (hi : (P.info? ty).map (·.size) = some cs.size) :
    (results fn tmps).run P w = .ok (.tuple #[.agg cs, v]) w := by
  have hp' : tmps[p]?.getD undef = .pointer (some ⟨g, 0, none⟩) := by simpa using hp
  have hq' : tmps[q]?.getD undef = v := by simpa using hq
  simp [results, h, hp', hq', asAddr, run_loadVar_row w g t ty cs (0, 0) d hg hu hd hi]
set_option maxRecDepth 100000 in
set_option maxHeartbeats 2000000 in
theorem shared_walk (k u : List UInt8) (hk : k.length = 32) (hu : u.length = 32) (w : World) : Calls Tryd.prog 8 #[.agg (k.map byt).toArray, .agg (u.map byt).toArray] w fun e w' => e = .returned (.tuple #[.agg ((timesL k u).map byt).toArray, .int .i64 (if timesL k u = z32 then 70 else 0)]) ∧ Below w.heap.size w w' := by
  have c1 := fun W => times_any k u hk hu W
  have hl := times_length k u
  obtain ⟨Z, hZ⟩ : ∃ Z, z32 = Z := ⟨_, rfl⟩
  have hzl : Z.length = 32 := by rw [← hZ]; exact z32_length
  have hbz : ∀ W, (Instr.build 23 #[]).run Tryd.prog W = .ok (.agg (Z.map byt).toArray) W := fun W => by rw [← hZ]; exact build24 W
  have zsz : (z32.map byt).toArray.size = (Z.map byt).toArray.size := by rw [hZ]
  have he := fun W => eq23 (timesL k u) Z hl hzl W
  rw [hZ]
  generalize timesL k u = T at c1 hl he ⊢
  obtain ⟨E, hE⟩ : ∃ E : Int, (if T = Z then 70 else 0) = E := ⟨_, rfl⟩
  obtain ⟨q, hq⟩ : ∃ q, decide (T = Z) = q := ⟨_, rfl⟩
  rw [hE]
  rw [hq] at he
  have HE := hide hE
  have HQ := hide hq
  clear hE hZ hq
  go_enter Tryd.func8, Tryd.ntmps8
  go_upto_region 1 with (first | (refine wpList_boxAt rfl 23 (.tmp 0) rfl (k.map byt) rfl (w.heap.size) rfl ?_) | (refine wpList_boxAt rfl 23 (.tmp 1) rfl (u.map byt) rfl (w.heap.size + 1) (by simp) ?_) | (refine wpList_newAt rfl 23 rfl (z32.map byt) zero23 (w.heap.size + 1 + 1) (size2 _ _ _) ?_))
  have b0 : Blk (((w.alloc (.cells (k.map byt).toArray 23)).alloc (.cells (u.map byt).toArray 23)).alloc (.cells ((z32.map byt)).toArray 23)) (w.heap.size) (k.map byt) 23 := by
    have := ((Blk.new w (k.map byt) 23).alloc (.cells (u.map byt).toArray 23)).alloc (.cells ((z32.map byt)).toArray 23)
    simpa using this
  have b1 : Blk (((w.alloc (.cells (k.map byt).toArray 23)).alloc (.cells (u.map byt).toArray 23)).alloc (.cells ((z32.map byt)).toArray 23)) (w.heap.size + 1) (u.map byt) 23 := by
    have := (Blk.new (w.alloc (.cells (k.map byt).toArray 23)) (u.map byt) 23).alloc (.cells ((z32.map byt)).toArray 23)
    simpa using this
  have b2 : Blk (((w.alloc (.cells (k.map byt).toArray 23)).alloc (.cells (u.map byt).toArray 23)).alloc (.cells ((z32.map byt)).toArray 23)) (w.heap.size + 1 + 1) ((z32.map byt)) 23 := by
    have := Blk.new ((w.alloc (.cells (k.map byt).toArray 23)).alloc (.cells (u.map byt).toArray 23)) ((z32.map byt)) 23
    simpa using this
  have be : Below w.heap.size w (((w.alloc (.cells (k.map byt).toArray 23)).alloc (.cells (u.map byt).toArray 23)).alloc (.cells ((z32.map byt)).toArray 23)) := by go_grown
  generalize (((w.alloc (.cells (k.map byt).toArray 23)).alloc (.cells (u.map byt).toArray 23)).alloc (.cells ((z32.map byt)).toArray 23)) = w1 at b0 b1 b2 be ⊢
  obtain ⟨n, hn⟩ : ∃ n, w.heap.size = n := ⟨_, rfl⟩
  rw [hn] at b0 b1 b2 be ⊢
  try simp only [Act.put, List.setIfInBounds_toArray, List.set_cons_zero, List.set_cons_succ]
  have hlow := b2.lt
  refine lst_newT 3 rfl rfl rfl rfl 6 rfl 23 rfl (z32.map byt) zero23 rfl rfl (.tmp 9) rfl ?_
  simp only [List.take_succ_cons, List.take_zero]
  refine wpLex_cons2 _ (uni_row rfl 23 (.tmp 2) rfl (n) (k.map byt) 23 rfl (fun W hW => b0.on hW) Tryd.underlying23 rfl (key_info hk)) (by simp only [Act.put, List.setIfInBounds_toArray, List.set_cons_zero, List.set_cons_succ]; rfl) ?_; refine wpLex_cons2 _ (uni_row rfl 23 (.tmp 3) rfl (n + 1) (u.map byt) 23 rfl (fun W hW => b1.on hW) Tryd.underlying23 rfl (key_info hu)) (by simp only [Act.put, List.setIfInBounds_toArray, List.set_cons_zero, List.set_cons_succ]; rfl) ?_; refine wpLex_cons2 _ (uni_callF (by rfl) 15 [Operand.tmp 7, Operand.tmp 8] #[23, 23] rfl [.agg (k.map byt).toArray, .agg (u.map byt).toArray] (.agg (T.map byt).toArray) rfl enter15 (fun W hW => c1 W)) (by simp only [Act.put, List.setIfInBounds_toArray, List.set_cons_zero, List.set_cons_succ]; rfl) ?_; refine ⟨(T.map byt), rfl, by simp, by simp, key_info hl, key_len hl, byts_one _, fun gct w2 lo0 hW ct => ?_⟩
  simp only [Act.put, List.setIfInBounds_toArray, List.set_cons_zero, List.set_cons_succ]
  replace b0 := b0.on hW
  replace b1 := b1.on hW
  replace b2 := b2.on hW
  replace be := be.trans (hW.mono (by have := be.size; omega))
  have lct : n + 1 + 1 < gct := Nat.lt_of_lt_of_le hlow lo0
  clear hlow hW lo0  w1
  clear c1
  go_upto_region 2 with fail
  refine lst_all ?_; refine wpLex_cons2 _ (uni_row rfl 23 (.tmp 6) rfl (gct) (T.map byt) 23 rfl (fun W hW => ct.on hW) Tryd.underlying23 rfl (key_info hl)) (by simp only [Act.put, List.setIfInBounds_toArray, List.set_cons_zero, List.set_cons_succ]; rfl) ?_; refine wpLex_cons2 _ (uni_build0 (by rfl) 23 rfl (.agg (Z.map byt).toArray) hbz) (by simp only [Act.put, List.setIfInBounds_toArray, List.set_cons_zero, List.set_cons_succ]; rfl) ?_; refine wpLex_cons2 _ (uni_val (by rfl) (Op.binOp BinOp.eql 23 (Operand.tmp 10) (Operand.tmp 11) 23) rfl (.bool q) (fun o' ho W _ => by have hg := guard24; go_simp)) (by simp only [Act.put, List.setIfInBounds_toArray, List.set_cons_zero, List.set_cons_succ]; rfl) ?_
  intro w3 hW
  replace b0 := b0.on hW
  replace b1 := b1.on hW
  replace b2 := b2.on hW
  replace ct := ct.on hW
  replace be := be.trans (hW.mono (by have := be.size; omega))
  clear hW w2 he
  by_cases hT : T = Z
  · have hq1 : q = true := by rw [← HQ.out]; exact decide_eq_true hT
    rw [hq1]
    have HB := hide hT
    clear hT HQ hq1
    go_upto_region 3 with fail
    refine lst_then 1 ?_
    simp only [List.take_succ_cons, List.take_zero]
    refine wpLex_cons2 _ (uni_build0 (by rfl) 23 rfl (.agg (Z.map byt).toArray) hbz) (by simp only [Act.put, List.setIfInBounds_toArray, List.set_cons_zero, List.set_cons_succ]; rfl) ?_
    intro w4 hW
    simp only [List.drop_succ_cons, List.drop_zero]
    replace b2 := b2.on hW
    replace be := be.trans (hW.mono (by have := be.size; omega))
    clear hW hbz
    refine lst_row rfl rfl 23 (.tmp 4) (.tmp 13) rfl (n + 1 + 1) (Z.map byt) (z32.map byt) 23 rfl rfl b2 (key_info hzl) (by simpa using zsz) (byts_one _) ?_; refine lst_val rfl (Op.assign (Operand.const (Value.int IntKind.i64 70))) rfl (.int .i64 70) (fun o' ho => by go_simp) (by simp only [Act.put, List.setIfInBounds_toArray, List.set_cons_zero, List.set_cons_succ]; rfl) ?_; refine wpList_nil ?_
    go_wp2
    refine bodyPost_ret (results_cellvar Tryd.results8 _ _ (n + 1 + 1) 23 (Z.map byt).toArray _ (.int .i64 70) rfl rfl (b2.setRow _) Tryd.underlying23 rfl (key_infoA hzl)) rfl ?_
    exact ⟨by rw [← HE.out, if_pos HB.out, HB.out], by first | (rw [hn]; exact below_setRow be _ _ (by omega)) | exact below_setRow be _ _ (by omega)⟩
  · have hq1 : q = false := by rw [← HQ.out]; exact decide_eq_false hT
    rw [hq1]
    have HT := hide hT
    clear hT HQ hq1 hbz
    go_wp2_with (first | (refine wpList_load_row rfl 23 (.tmp 6) rfl gct rfl 23 (T.map byt).toArray (0, 0) _ ct Tryd.underlying23 rfl (key_infoA hl) ?_) | (refine wpList_store_row rfl 23 (.tmp 4) (.tmp 14) rfl (n + 1 + 1) (T.map byt).toArray rfl rfl 23 (z32.map byt).toArray b2 (key_infoA hl) (key_size hl) (byts_one _) ?_))
    refine bodyPost_ret (results_cellvar Tryd.results8 _ _ (n + 1 + 1) 23 (T.map byt).toArray _ (.int .i64 0) rfl rfl (b2.setRow _) Tryd.underlying23 rfl (key_infoA hl)) rfl ?_
    exact ⟨by rw [← HE.out, if_neg HT.out], by first | (rw [hn]; exact below_setRow be _ _ (by omega)) | exact below_setRow be _ _ (by omega)⟩
end Go.Proofs.YtoceepmehmacbaaDoor.Cv
