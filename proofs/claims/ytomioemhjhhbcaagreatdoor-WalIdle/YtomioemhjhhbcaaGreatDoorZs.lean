import Derived.Test.YtomioemhjhhbcaaGreatDoorZr
set_option linter.unusedVariables false
set_option linter.unusedSimpArgs false
namespace Go.Proofs.YtomioemhjhhbcaaGreatDoor
open Go.RowKit

/-- A list of pages, whatever they are. -/
structure Qr (w : World) (v : Value) (m : Nat) (nI : Nat → Int) (vI : Nat → Value) (lI : Nat → Nat) : Prop where
  len : ∀ (ty : TypeId) (W : World), (Builtin.len_ #[36] ty #[v]).run Tryz.prog W = .ok (.int .i64 (m : Int)) W
  at_ : ∀ i, i < m → ∃ ad, (∀ W, (Instr.indexAt 36 v (.int .i64 (i : Int))).run Tryz.prog W = .ok (.pointer (some ad)) W) ∧ ∀ W, Below w.heap.size w W → (Instr.loadAt 52 (.pointer (some ad))).run Tryz.prog W = .ok (.agg [.int .i64 (nI i), vI i].toArray) W
  sl : ∀ i, i < m → ∃ ao c, vI i = .slice ao (lI i) c
def snI (n : Nat) (nI : Nat → Int) (t : Nat) : List Value := (List.range n).map fun (j : Nat) => Value.bool (decide (∃ i, i < t ∧ nI i = (j : Int)))
theorem snI_zero (n : Nat) (nI : Nat → Int) : snI n nI 0 = List.replicate n (Value.bool false) := by
  apply List.ext_getElem?
  intro i
  simp only [snI, List.getElem?_map, List.getElem?_replicate]
  by_cases h : i < n <;> simp [h]
theorem snI_get (n : Nat) (nI : Nat → Int) (t i : Nat) (h : i < n) : (snI n nI t)[i]? = some (.bool (decide (∃ j, j < t ∧ nI j = (i : Int)))) := by
  simp [snI, h]
theorem snI_set (n : Nat) (nI : Nat → Int) (t i : Nat) (h : i < n) (e : nI t = (i : Int)) : (snI n nI t).set i (.bool true) = snI n nI (t + 1) := by
  apply List.ext_getElem?
  intro a
  rw [List.getElem?_set]
  have hl : (snI n nI t).length = n := by simp [snI]
  rcases Nat.lt_or_ge a n with ha | ha
  · rw [snI_get n nI (t + 1) a ha, hl, snI_get n nI t a ha]
    by_cases ea : i = a
    · subst ea
      rw [if_pos rfl, if_pos h]
      congr 2
      exact (decide_eq_true ⟨t, by omega, e⟩).symm
    · rw [if_neg ea]
      congr 2
      refine decide_eq_decide.2 ⟨?_, ?_⟩
      · rintro ⟨j, hj, hj2⟩
        exact ⟨j, by omega, hj2⟩
      · rintro ⟨j, hj, hj2⟩
        rcases Nat.lt_or_ge j t with h1 | h1
        · exact ⟨j, h1, hj2⟩
        · obtain rfl : j = t := by omega
          omega
  · have e1 : (snI n nI (t + 1))[a]? = none := List.getElem?_eq_none (by simp [snI]; omega)
    have e2 : (snI n nI t)[a]? = none := List.getElem?_eq_none (by rw [hl]; omega)
    rw [e1, e2]
    by_cases ea : i = a
    · omega
    · simp [ea]
set_option maxRecDepth 100000 in
set_option maxHeartbeats 1000000 in
theorem has_no {w : World} {q p n : Nat} {x : Value} (hb : Blk w q (lgC p n x) 87) (i : Int) (hi : ¬ (0 ≤ i ∧ i < (n : Int))) : Calls Tryz.prog 47 #[.pointer (some ⟨q, 0, none⟩), .int .i64 i] w fun e w' => e = .returned (.bool false) ∧ w' = w := by
  rcases Classical.em (0 ≤ i) with h0 | h0
  · refine calls_of_args [.pointer (some ⟨q, 0, none⟩), .int .i64 i] Tryz.func47 rfl 13 Tryz.ntmps47 (by show 2 ≤ 13; decide) ?_
    refine EW.seq ?_
    refine EW.region ?_
    first | refine WL.assign rfl rfl rfl ?_
    refine WL.done ?_
    refine EW.on ?_
    refine EW.seq ?_
    refine EW.region ?_
    first | refine WL.move rfl rfl rfl ?_
    refine WL.bin rfl rfl rfl rfl (int_ge_t (by omega) _ _ _) ?_
    first | refine WL.move rfl rfl rfl ?_
    first | refine WL.move rfl rfl rfl ?_ | refine WL.skip _ rfl rfl rfl ?_
    first | refine WL.move rfl rfl rfl ?_ | refine WL.skip _ rfl rfl rfl ?_
    refine WL.call [.pointer (some ⟨q, 0, none⟩)] enter17 rfl rfl rfl (pages_any hb) ?_
    rintro _ w1 ⟨rfl, hz⟩
    rw [hz]
    refine ⟨_, rfl, ?_⟩
    refine WL.bin rfl rfl rfl rfl (int_lt_f (by omega) _ _ _) ?_
    first | refine WL.pick rfl rfl rfl rfl ?_
    first | refine WL.assign rfl rfl rfl ?_
    refine WL.done ?_
    refine EW.on ?_
    refine EW.ret ?_
    exact EW.returns Tryz.results47 rfl ⟨rfl, rfl⟩
  · refine calls_of_args [.pointer (some ⟨q, 0, none⟩), .int .i64 i] Tryz.func47 rfl 13 Tryz.ntmps47 (by show 2 ≤ 13; decide) ?_
    refine EW.seq ?_
    refine EW.region ?_
    first | refine WL.assign rfl rfl rfl ?_
    refine WL.done ?_
    refine EW.on ?_
    refine EW.seq ?_
    refine EW.region ?_
    first | refine WL.move rfl rfl rfl ?_
    refine WL.bin rfl rfl rfl rfl (int_ge_f (by omega) _ _ _) ?_
    first | refine WL.move rfl rfl rfl ?_
    first | refine WL.move rfl rfl rfl ?_ | refine WL.skip _ rfl rfl rfl ?_
    first | refine WL.move rfl rfl rfl ?_ | refine WL.skip _ rfl rfl rfl ?_
    refine WL.skip _ rfl rfl rfl ?_
    refine WL.skip _ rfl rfl rfl ?_
    first | refine WL.pick rfl rfl rfl rfl ?_
    first | refine WL.assign rfl rfl rfl ?_
    refine WL.done ?_
    refine EW.on ?_
    refine EW.ret ?_
    exact EW.returns Tryz.results47 rfl ⟨rfl, rfl⟩
theorem var52 (w : World) (n : Int) (v : Value) (hv : ∃ ao l c, v = .slice ao l c) : ∃ w1 w2 q, (Instr.alloc 52 true (.tuple #[])).run Tryz.prog w = .ok (.pointer (some ⟨q, 0, none⟩)) w1 ∧ (Instr.storeAt 52 (.pointer (some ⟨q, 0, none⟩)) (.agg [.int .i64 n, v].toArray)).run Tryz.prog w1 = .ok () w2 ∧ Blk w2 q [.int .i64 n, v] 52 ∧ Below w.heap.size w w2 ∧ w.heap.size ≤ q := by
  obtain ⟨w1, q, r1, b1, l1, hq⟩ := new111 w
  obtain ⟨ao, l, c, rfl⟩ := hv
  refine ⟨w1, _, q, r1, run_storeR b1 (by show _ = some 2; kernel_rfl) rfl (by simp [Value.oneCell']), b1.setRow _, ?_, by omega⟩
  refine l1.trans ⟨rfl, rfl, rfl, ?_, fun k hk => setRow_other _ q k _ (by omega)⟩
  rw [setRow_size]; exact Nat.le_refl _
theorem ldq {W : World} {q : Nat} {n : Int} {v : Value} {t : TypeId} (hb : Blk W q [.int .i64 n, v] t) : (Instr.loadAt 3 (.pointer (some ⟨q, 0, none⟩))).run Tryz.prog W = .ok (.int .i64 n) W := ldc3 hb rfl
theorem ldqb {W : World} {q : Nat} {n : Int} {v : Value} {t : TypeId} (hb : Blk W q [.int .i64 n, v] t) : (Instr.loadAt 50 (.pointer (some ⟨q, 1, none⟩))).run Tryz.prog W = .ok v W := by
  have hc : W.cell? ⟨q, 1, none⟩ = some v := (hb.cell 1).trans rfl
  have hf := hb.frozen 1
  go_simp
theorem len50 (ao : Option Addr) (n c : Nat) (W : World) (ty : TypeId) : (Builtin.len_ #[50] ty #[.slice ao n c]).run Tryz.prog W = .ok (.int .i64 (n : Int)) W := by go_simp
def rnE (q : Nat) (v : Value) (qs n m : Nat) (t : Nat) : List (Nat × Value) := [(0, .pointer (some ⟨q, 0, none⟩)), (6, .slice (some ⟨qs, 0, none⟩) n n), (12, v), (13, .int .i64 (m : Int)), (14, .int .i64 (t : Int))]
structure RnR (w : World) (nI : Nat → Int) (qs n k : Nat) (t : Nat) (W : World) : Prop where
  b : Below w.heap.size w W
  s : Blk W qs (snI n nI t) 4
  le : t ≤ k
/-- What is wrong with a page. -/
def Bad (n : Nat) (nI : Nat → Int) (lI : Nat → Nat) (k : Nat) (code : Int) : Prop :=
  (¬ (0 ≤ nI k ∧ nI k < (n : Int)) ∧ code = 4) ∨ ((0 ≤ nI k ∧ nI k < (n : Int)) ∧ lI k ≠ 1024 ∧ code = 82) ∨ ((0 ≤ nI k ∧ nI k < (n : Int)) ∧ lI k = 1024 ∧ (∃ j, j < k ∧ nI j = nI k) ∧ code = 91)
set_option maxRecDepth 100000 in
set_option maxHeartbeats 1000000 in
theorem refusal_no {w : World} {q p n : Nat} {y : Value} (hb : Blk w q (lgC p n y) 87) (v : Value) {m : Nat} {nI : Nat → Int} {vI : Nat → Value} {lI : Nat → Nat} (hp : Qr w v m nI vI lI) (hm : m ≤ 1000) (hn2 : n ≤ 1000) (k : Nat) (hk : k < m) (hg : ∀ i, i < k → 0 ≤ nI i ∧ nI i < (n : Int) ∧ lI i = 1024 ∧ ∀ j, j < i → nI j ≠ nI i) (code : Int) (hbad : Bad n nI lI k code) : Calls Tryz.prog 30 #[.pointer (some ⟨q, 0, none⟩), v] w fun e w' => e = .returned (.tuple #[.int .i64 (k : Int), .int .i64 code]) ∧ Below w.heap.size w w' := by
  obtain ⟨wq, qs, rm, s1, e1, hqs⟩ := mk76 w n (by omega)
  rw [← snI_zero n nI] at s1
  refine calls_of_args [.pointer (some ⟨q, 0, none⟩), v] Tryz.func30 rfl 41 Tryz.ntmps30 (by show 2 ≤ 41; decide) ?_
  refine EW.seq ?_
  refine EW.region ?_
  first | refine WL.assign rfl rfl rfl ?_
  first | refine WL.assign rfl rfl rfl ?_
  refine WL.done ?_
  refine EW.on ?_
  refine EW.seq ?_
  refine EW.region ?_
  first | refine WL.move rfl rfl rfl ?_
  refine WL.call [.pointer (some ⟨q, 0, none⟩)] enter17 rfl rfl rfl (pages_any hb) ?_
  rintro _ w1 ⟨rfl, hz⟩
  rw [hz]
  refine ⟨_, rfl, ?_⟩
  refine WL.mks rfl rfl rfl rfl rm ?_
  first | refine WL.assign rfl rfl rfl ?_
  refine WL.done ?_
  refine EW.on ?_
  refine EW.seq ?_
  refine EW.seq ?_
  refine EW.region ?_
  first | refine WL.move rfl rfl rfl ?_
  refine WL.len rfl rfl rfl (hp.len _ _) ?_
  first | refine WL.move rfl rfl rfl ?_
  refine WL.done ?_
  refine EW.on ?_
  refine EW.block ?_
  refine EW.loop (rnE q v qs n m) (RnR w nI qs n k) (fun t => m - t) 0 [0, 6, 12, 13, 14] rfl ⟨e1, s1, Nat.zero_le _⟩ ?_
  rintro t wi ⟨ei, si, hle⟩
  show EW _ _ _ _ [(0, .pointer (some ⟨q, 0, none⟩)), (6, .slice (some ⟨qs, 0, none⟩) n n), (12, v), (13, .int .i64 (m : Int)), (14, .int .i64 (t : Int))] _
  refine EW.seq ?_
  refine EW.region ?_
  refine WL.bin rfl rfl rfl rfl (int_lt_t (by omega) _ _ _) ?_
  refine WL.done ?_
  refine EW.on ?_
  refine EW.seq ?_
  refine EW.cond_t rfl ?_
  refine EW.skip ?_
  refine EW.on ?_
  refine EW.seq ?_
  refine EW.block ?_
  refine EW.seq ?_
  obtain hlt | ⟨rfl, ⟨hA, rfl⟩ | ⟨hB0, hB, rfl⟩ | ⟨hB0, hB, hC0, rfl⟩⟩ : t < k ∨ (t = k ∧ Bad n nI lI k code) := by
    rcases Nat.lt_or_ge t k with h | h
    · exact .inl h
    · exact .inr ⟨by omega, hbad⟩
  · obtain ⟨g1, g2, g3, g4⟩ := hg t hlt
    obtain ⟨xn, hxn⟩ : ∃ xn : Nat, nI t = (xn : Int) := ⟨(nI t).toNat, by omega⟩
    have hxl : xn < n := by omega
    have hnew : ¬ ∃ j, j < t ∧ nI j = (xn : Int) := fun ⟨j, hj, e⟩ => g4 j hj (by omega)
    obtain ⟨ad, ix, lx⟩ := hp.at_ t (by omega)
    obtain ⟨aov, cv, hsl⟩ := hp.sl t (by omega)
    obtain ⟨wv, w3, q3, r3, s3, b3, e3, hq3⟩ := var52 wi (nI t) (vI t) ⟨_, _, _, hsl⟩
    have e03 := ei.trans (e3.mono ei.size)
    have sn3 := si.on e3
    refine EW.region ?_
    first | refine WL.move rfl rfl rfl ?_
    refine WL.index rfl rfl rfl rfl (ix _) ?_
    refine WL.load rfl rfl rfl (lx _ ei) ?_
    refine WL.new rfl rfl r3 ?_
    first | refine WL.assign rfl rfl rfl ?_
    refine WL.store rfl rfl rfl s3 ?_
    refine WL.done ?_
    refine EW.on ?_
    refine EW.seq ?_
    refine EW.seq ?_
    refine EW.region ?_
    first | refine WL.move rfl rfl rfl ?_
    refine WL.field rfl rfl rfl (fld111_0 q3 _) ?_
    refine WL.load rfl rfl rfl (ldq b3) ?_
    rw [hxn]
    refine WL.call [.pointer (some ⟨q, 0, none⟩), .int .i64 (xn : Int)] enter47 rfl rfl rfl (has_ok (hb.on e03) xn hxl) ?_
    rintro _ w4 ⟨rfl, hz4⟩
    rw [hz4]
    refine ⟨_, rfl, ?_⟩
    first | refine WL.un rfl rfl rfl (not_t _ _) ?_
    refine WL.done ?_
    refine EW.on ?_
    refine EW.cond_f rfl ?_
    refine EW.skip ?_
    refine EW.on ?_
    refine EW.seq ?_
    refine EW.seq ?_
    refine EW.region ?_
    refine WL.field rfl rfl rfl (fld111_1 q3 _) ?_
    refine WL.load rfl rfl rfl (ldqb b3) ?_
    refine WL.len rfl rfl rfl (by rw [hsl]; exact len50 _ _ _ _ _) ?_
    refine WL.bin rfl rfl rfl rfl (int_ne_f (by omega) _ _ _) ?_
    refine WL.done ?_
    refine EW.on ?_
    refine EW.cond_f rfl ?_
    refine EW.skip ?_
    refine EW.on ?_
    refine EW.seq ?_
    refine EW.seq ?_
    refine EW.region ?_
    first | refine WL.move rfl rfl rfl ?_
    refine WL.field rfl rfl rfl (fld111_0 q3 _) ?_
    refine WL.load rfl rfl rfl (ldq b3) ?_
    refine WL.index (v := .pointer (some ⟨qs, xn, none⟩)) rfl rfl rfl rfl (by rw [hxn]; exact idx114 qs xn n hxl _) ?_
    refine WL.load rfl rfl rfl (ldb sn3 ((snI_get n nI t xn hxl).trans (by rw [decide_eq_false hnew]))) ?_
    refine WL.done ?_
    refine EW.on ?_
    refine EW.cond_f rfl ?_
    refine EW.skip ?_
    refine EW.on ?_
    refine EW.region ?_
    first | refine WL.move rfl rfl rfl ?_
    refine WL.field rfl rfl rfl (fld111_0 q3 _) ?_
    refine WL.load rfl rfl rfl (ldq b3) ?_
    refine WL.index (v := .pointer (some ⟨qs, xn, none⟩)) rfl rfl rfl rfl (by rw [hxn]; exact idx114 qs xn n hxl _) ?_
    obtain ⟨w5, s5, b5, x5⟩ := stb true sn3 (snI_get n nI t xn hxl)
    rw [snI_set n nI t xn hxl hxn] at b5
    refine WL.store rfl rfl rfl s5 ?_
    refine WL.done ?_
    refine pn_block ?_
    refine EW.on ?_
    refine EW.region ?_
    refine WL.bin rfl rfl rfl rfl (int_add (c := ((t + 1 : Nat) : Int)) (by rw [IntKind.wrap_i64]; omega) _ _ _) ?_
    first | refine WL.move rfl rfl rfl ?_
    refine WL.done ?_
    refine EW.again (E := rnE q v qs n m) (R := RnR w nI qs n k) (m := fun t => m - t) (x := t) (t + 1) [0, 6, 12, 13, 14] rfl ⟨below_of_new e03 x5 (fun k hk => by omega), b5, by omega⟩ (by show _ - (t + 1) < _ - t; omega)
  · skip
    obtain ⟨ad, ix, lx⟩ := hp.at_ t (by omega)
    obtain ⟨aov, cv, hsl⟩ := hp.sl t (by omega)
    obtain ⟨wv, w3, q3, r3, s3, b3, e3, hq3⟩ := var52 wi (nI t) (vI t) ⟨_, _, _, hsl⟩
    have e03 := ei.trans (e3.mono ei.size)
    have sn3 := si.on e3
    refine EW.region ?_
    first | refine WL.move rfl rfl rfl ?_
    refine WL.index rfl rfl rfl rfl (ix _) ?_
    refine WL.load rfl rfl rfl (lx _ ei) ?_
    refine WL.new rfl rfl r3 ?_
    first | refine WL.assign rfl rfl rfl ?_
    refine WL.store rfl rfl rfl s3 ?_
    refine WL.done ?_
    refine EW.on ?_
    refine EW.seq ?_
    refine EW.seq ?_
    refine EW.region ?_
    first | refine WL.move rfl rfl rfl ?_
    refine WL.field rfl rfl rfl (fld111_0 q3 _) ?_
    refine WL.load rfl rfl rfl (ldq b3) ?_
    refine WL.call [.pointer (some ⟨q, 0, none⟩), .int .i64 (nI t)] enter47 rfl rfl rfl (has_no (hb.on e03) (nI t) hA) ?_
    rintro _ w4 ⟨rfl, hz4⟩
    rw [hz4]
    refine ⟨_, rfl, ?_⟩
    first | refine WL.un rfl rfl rfl (not_t _ _) ?_
    refine WL.done ?_
    refine EW.on ?_
    refine EW.cond_t rfl ?_
    refine EW.seq ?_
    refine EW.region ?_
    first | refine WL.move rfl rfl rfl ?_
    first | refine WL.assign rfl rfl rfl ?_
    first | refine WL.assign rfl rfl rfl ?_
    refine WL.done ?_
    refine EW.on ?_
    refine EW.ret ?_
    refine pr_then ?_
    refine pr_block ?_
    refine pr_then ?_
    refine pr_then ?_
    refine pr_block ?_
    refine pr_then ?_
    exact EW.returns2 Tryz.results30 rfl rfl ⟨rfl, e03⟩
  · obtain ⟨xn, hxn⟩ : ∃ xn : Nat, nI t = (xn : Int) := ⟨(nI t).toNat, by omega⟩
    have hxl : xn < n := by omega
    obtain ⟨ad, ix, lx⟩ := hp.at_ t (by omega)
    obtain ⟨aov, cv, hsl⟩ := hp.sl t (by omega)
    obtain ⟨wv, w3, q3, r3, s3, b3, e3, hq3⟩ := var52 wi (nI t) (vI t) ⟨_, _, _, hsl⟩
    have e03 := ei.trans (e3.mono ei.size)
    have sn3 := si.on e3
    refine EW.region ?_
    first | refine WL.move rfl rfl rfl ?_
    refine WL.index rfl rfl rfl rfl (ix _) ?_
    refine WL.load rfl rfl rfl (lx _ ei) ?_
    refine WL.new rfl rfl r3 ?_
    first | refine WL.assign rfl rfl rfl ?_
    refine WL.store rfl rfl rfl s3 ?_
    refine WL.done ?_
    refine EW.on ?_
    refine EW.seq ?_
    refine EW.seq ?_
    refine EW.region ?_
    first | refine WL.move rfl rfl rfl ?_
    refine WL.field rfl rfl rfl (fld111_0 q3 _) ?_
    refine WL.load rfl rfl rfl (ldq b3) ?_
    rw [hxn]
    refine WL.call [.pointer (some ⟨q, 0, none⟩), .int .i64 (xn : Int)] enter47 rfl rfl rfl (has_ok (hb.on e03) xn hxl) ?_
    rintro _ w4 ⟨rfl, hz4⟩
    rw [hz4]
    refine ⟨_, rfl, ?_⟩
    first | refine WL.un rfl rfl rfl (not_t _ _) ?_
    refine WL.done ?_
    refine EW.on ?_
    refine EW.cond_f rfl ?_
    refine EW.skip ?_
    refine EW.on ?_
    refine EW.seq ?_
    refine EW.seq ?_
    refine EW.region ?_
    refine WL.field rfl rfl rfl (fld111_1 q3 _) ?_
    refine WL.load rfl rfl rfl (ldqb b3) ?_
    refine WL.len rfl rfl rfl (by rw [hsl]; exact len50 _ _ _ _ _) ?_
    refine WL.bin rfl rfl rfl rfl (int_ne_t (by omega) _ _ _) ?_
    refine WL.done ?_
    refine EW.on ?_
    refine EW.cond_t rfl ?_
    refine EW.seq ?_
    refine EW.region ?_
    first | refine WL.move rfl rfl rfl ?_
    first | refine WL.assign rfl rfl rfl ?_
    first | refine WL.assign rfl rfl rfl ?_
    refine WL.done ?_
    refine EW.on ?_
    refine EW.ret ?_
    refine pr_then ?_
    refine pr_block ?_
    refine pr_then ?_
    refine pr_then ?_
    refine pr_block ?_
    refine pr_then ?_
    exact EW.returns2 Tryz.results30 rfl rfl ⟨rfl, e03⟩
  · obtain ⟨xn, hxn⟩ : ∃ xn : Nat, nI t = (xn : Int) := ⟨(nI t).toNat, by omega⟩
    have hxl : xn < n := by omega
    have hC : ∃ j, j < t ∧ nI j = (xn : Int) := by
      obtain ⟨j, hj, e⟩ := hC0
      exact ⟨j, hj, by omega⟩
    obtain ⟨ad, ix, lx⟩ := hp.at_ t (by omega)
    obtain ⟨aov, cv, hsl⟩ := hp.sl t (by omega)
    obtain ⟨wv, w3, q3, r3, s3, b3, e3, hq3⟩ := var52 wi (nI t) (vI t) ⟨_, _, _, hsl⟩
    have e03 := ei.trans (e3.mono ei.size)
    have sn3 := si.on e3
    refine EW.region ?_
    first | refine WL.move rfl rfl rfl ?_
    refine WL.index rfl rfl rfl rfl (ix _) ?_
    refine WL.load rfl rfl rfl (lx _ ei) ?_
    refine WL.new rfl rfl r3 ?_
    first | refine WL.assign rfl rfl rfl ?_
    refine WL.store rfl rfl rfl s3 ?_
    refine WL.done ?_
    refine EW.on ?_
    refine EW.seq ?_
    refine EW.seq ?_
    refine EW.region ?_
    first | refine WL.move rfl rfl rfl ?_
    refine WL.field rfl rfl rfl (fld111_0 q3 _) ?_
    refine WL.load rfl rfl rfl (ldq b3) ?_
    rw [hxn]
    refine WL.call [.pointer (some ⟨q, 0, none⟩), .int .i64 (xn : Int)] enter47 rfl rfl rfl (has_ok (hb.on e03) xn hxl) ?_
    rintro _ w4 ⟨rfl, hz4⟩
    rw [hz4]
    refine ⟨_, rfl, ?_⟩
    first | refine WL.un rfl rfl rfl (not_t _ _) ?_
    refine WL.done ?_
    refine EW.on ?_
    refine EW.cond_f rfl ?_
    refine EW.skip ?_
    refine EW.on ?_
    refine EW.seq ?_
    refine EW.seq ?_
    refine EW.region ?_
    refine WL.field rfl rfl rfl (fld111_1 q3 _) ?_
    refine WL.load rfl rfl rfl (ldqb b3) ?_
    refine WL.len rfl rfl rfl (by rw [hsl]; exact len50 _ _ _ _ _) ?_
    refine WL.bin rfl rfl rfl rfl (int_ne_f (by omega) _ _ _) ?_
    refine WL.done ?_
    refine EW.on ?_
    refine EW.cond_f rfl ?_
    refine EW.skip ?_
    refine EW.on ?_
    refine EW.seq ?_
    refine EW.seq ?_
    refine EW.region ?_
    first | refine WL.move rfl rfl rfl ?_
    refine WL.field rfl rfl rfl (fld111_0 q3 _) ?_
    refine WL.load rfl rfl rfl (ldq b3) ?_
    refine WL.index (v := .pointer (some ⟨qs, xn, none⟩)) rfl rfl rfl rfl (by rw [hxn]; exact idx114 qs xn n hxl _) ?_
    refine WL.load rfl rfl rfl (ldb sn3 ((snI_get n nI t xn hxl).trans (by rw [decide_eq_true hC]))) ?_
    refine WL.done ?_
    refine EW.on ?_
    refine EW.cond_t rfl ?_
    refine EW.seq ?_
    refine EW.region ?_
    first | refine WL.move rfl rfl rfl ?_
    first | refine WL.assign rfl rfl rfl ?_
    first | refine WL.assign rfl rfl rfl ?_
    refine WL.done ?_
    refine EW.on ?_
    refine EW.ret ?_
    refine pr_then ?_
    refine pr_block ?_
    refine pr_then ?_
    refine pr_then ?_
    refine pr_block ?_
    refine pr_then ?_
    exact EW.returns2 Tryz.results30 rfl rfl ⟨rfl, e03⟩
end Go.Proofs.YtomioemhjhhbcaaGreatDoor
