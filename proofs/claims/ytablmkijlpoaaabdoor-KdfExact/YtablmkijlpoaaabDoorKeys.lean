import Derived.Test.YtablmkijlpoaaabDoorExp3
namespace Go.Proofs.YtablmkijlpoaaabDoor
open Go.RowKit

theorem Tryd.info45 : (Tryd.prog.info? 45).map (fun i => (i.zero, i.size, i.bytes)) = some (some (.agg (z32.map byt).toArray), 32, 32) := by kernel_rfl

theorem made_keys (n : Nat) : madeCells (Value.agg (z32.map byt).toArray).cells (n * 32) = ((List.replicate (32 * n) (0 : UInt8)).map byt).toArray := by
  have h : ∀ j : Nat, (z32.map byt).toArray[j % 32]! = byt 0 := fun j => by
    have h1 : j % 32 < z32.length := Nat.mod_lt _ (by decide)
    rw [getElem!_pos _ _ (by rw [List.size_toArray, List.length_map]; exact h1), List.getElem_toArray, List.getElem_map]
    exact congrArg byt (List.eq_of_mem_replicate (List.getElem_mem h1))
  apply Array.ext
  · rw [size_madeCells, List.size_toArray, List.length_map, List.length_replicate]; omega
  · intro i h1 h2
    simp only [madeCells, Value.cells, Array.getElem_map, Array.getElem_range, List.getElem_toArray, List.getElem_map, List.getElem_replicate]
    rw [show (z32.map byt).toArray.size = 32 from rfl]
    exact h i

/-- 'make([]Key, n)'. -/
theorem wpList_mkK {ops : Array Oper} {rest : List Oper} {o : Oper} {a : Act} {w : World} {Q : Exit → Act → World → Prop} (hgd : o.guard = none) (x y : Operand) (ho : o.op = .makeSlice 44 x y) (l : Nat) (li : Int) (hli : li = l)
    (hx : a.eval x = .int .i64 li) (hy : a.eval y = .int .i64 li) (hc : l ≤ 255) (g : Nat) (hg : g = w.heap.size)
    (h : wpList Tryd.prog ops Q rest (a.put o.dst (.slice (some ⟨g, 0, none⟩) l l)) (w.alloc (.cells ((List.replicate (32 * l) 0).map byt).toArray 45))) : wpList Tryd.prog ops Q (o :: rest) a w := by
  subst hli hg
  obtain ⟨i0, hi, hz0, hz1, hz2⟩ := info_parts Tryd.info45
  have hrun := run_makeSlice (P := Tryd.prog) w 44 45 i0 _ Tryd.underlying44 hi hz0 .i64 .i64 l l (by omega) (by omega) (by rw [hz1]; omega) (by rw [hz2]; omega) (by omega)
  rw [hz1, Int.toNat_natCast, made_keys] at hrun
  refine wpList_plain hgd fun K hK => ?_
  unfold Oper.wp
  simp only [execOp, ho, hx, hy, Sem.run_bind, hrun, Result.andThen_ok]
  exact hK _ _ h

/-- The bytes and the keys. -/
structure Kk (w x : World) (g gk : Nat) (X L : List UInt8) : Prop where
  bl : Blk x g (X.map byt) 5
  bk : Blk x gk (L.map byt) 45
  be : Below w.heap.size w x
  lk : w.heap.size ≤ gk
  ne : g ≠ gk
def kkL (X : List UInt8) (n k : Nat) : List UInt8 := X.take (32 * k) ++ List.replicate (32 * n - 32 * k) 0
theorem kkL_length (X : List UInt8) (n k : Nat) (hX : X.length = 32 * n) (hk : k ≤ n) : (kkL X n k).length = 32 * n := by
  unfold kkL
  rw [List.length_append, List.length_take, List.length_replicate]; omega
theorem kkL_succ (X : List UInt8) (n k : Nat) (hX : X.length = 32 * n) (hk : k < n) : (kkL X n k).take (32 * k) ++ (X.drop (32 * k)).take 32 ++ (kkL X n k).drop (32 * k + ((X.drop (32 * k)).take 32).length) = kkL X n (k + 1) := by
  have h1 : ((X.drop (32 * k)).take 32).length = 32 := by rw [List.length_take, List.length_drop]; omega
  have h2 : (X.take (32 * k)).length = 32 * k := by rw [List.length_take]; omega
  have e1 : (kkL X n k).take (32 * k) = X.take (32 * k) := by
    unfold kkL
    rw [List.take_append_of_le_length (by omega), List.take_of_length_le (by omega)]
  have e2 : (kkL X n k).drop (32 * k + 32) = List.replicate (32 * n - 32 * (k + 1)) 0 := by
    unfold kkL
    rw [List.drop_append, List.drop_eq_nil_of_le (by omega), List.nil_append, h2, List.drop_replicate]
    congr 1
    omega
  rw [h1, e1, e2]
  unfold kkL
  rw [show 32 * (k + 1) = 32 * k + 32 by omega, List.take_add]
theorem kkL_zero (X : List UInt8) (n : Nat) : kkL X n 0 = List.replicate (32 * n) 0 := by simp [kkL]
theorem kkL_all (X : List UInt8) (n : Nat) (hX : X.length = 32 * n) : kkL X n n = X := by
  unfold kkL
  rw [Nat.sub_self, List.replicate_zero, List.append_nil, List.take_of_length_le (by omega)]

theorem keys_low (vs vk vi : Value) (n : Int) (w : World) (h0 : n < 0) : Calls Tryd.prog 28 #[vs, vk, vi, .int .i64 n] w fun e w' => e = .returned (.tuple #[.slice none 0 0, .int .i64 4]) ∧ w' = w := by
  go_enter Tryd.func28, Tryd.ntmps28
  go_wp2_with (go_at_call 41; refine (bounded_low n 255 _ h0).mono ?_; rintro e w' ⟨rfl, rfl⟩)
  go_ret2
  exact ⟨rfl, rfl⟩
theorem keys_high (vs vk vi : Value) (n : Int) (w : World) (h0 : 255 < n) : Calls Tryd.prog 28 #[vs, vk, vi, .int .i64 n] w fun e w' => e = .returned (.tuple #[.slice none 0 0, .int .i64 30]) ∧ w' = w := by
  go_enter Tryd.func28, Tryd.ntmps28
  go_wp2_with (go_at_call 41; refine (bounded_high n 255 _ (by omega) h0).mono ?_; rintro e w' ⟨rfl, rfl⟩)
  go_ret2
  exact ⟨rfl, rfl⟩

set_option maxHeartbeats 400000 in
set_option maxRecDepth 100000 in
/-- 'Keys'. -/
theorem keys_ok (vs vk vi : Value) (salt key info X : List UInt8) (n : Nat) (w : World) (hs : Has w vs salt) (hk : Has w vk key) (hi : Has w vi info) (hK : Kst w) (hsl : salt.length ≤ 1152921504606846976) (hkl : key.length ≤ 1000000000000000000) (hil : info.length ≤ 900000000000000000) (hn : n ≤ 255) (hX : exOut (macOf salt key) info (32 * n) = X) :
    Calls Tryd.prog 28 #[vs, vk, vi, .int .i64 (n : Int)] w fun e w' => ∃ g, e = .returned (.tuple #[.slice (some ⟨g, 0, none⟩) n n, .int .i64 0]) ∧ Blk w' g (X.map byt) 45 ∧ Below w.heap.size w w' ∧ w.heap.size ≤ g := by
  have XL : Hid (X.length = 32 * n) := hide (by rw [← hX]; exact exOut_length (macOf salt key) info (32 * n))
  obtain ⟨M, hM⟩ : ∃ M, 32 * n = M := ⟨_, rfl⟩
  have HMZ : Hid (32 * (n : Int) = (M : Int)) := hide (by omega)
  have HS := hide hs
  have HKY := hide hk
  have HI := hide hi
  have HK := hide hK
  have HSL := hide hsl
  have HKL := hide hkl
  have HIL := hide hil
  rw [hM] at hX
  have HX := hide hX
  have HM := hide hM
  have hnz : (n : Int) ≤ 255 := by omega
  have hn0 : (0 : Int) ≤ (n : Int) := by omega
  clear hs hk hi hK hsl hkl hil hX hM
  go_enter Tryd.func28, Tryd.ntmps28
  go_wp2_with (first
    | (go_at_call 41; refine (bounded_ok (n : Int) 255 _ hn0 hnz).mono ?_; rintro e w' ⟨rfl, rfl⟩)
    | fail)
  rw [HMZ.out]
  refine (derive_ok vs vk vi salt key info M w' HS.out HKY.out HI.out HK.out HSL.out HKL.out HIL.out (by have := HM.out; omega)).mono ?_
  rintro e w1 ⟨g, rfl, hT⟩
  rw [HX.out] at hT
  have T1 := hide hT
  clear hT
  have X2 : Hid (Kk w' (w1.alloc (.cells ((List.replicate (32 * n) 0).map byt).toArray 45)) g w1.heap.size X (kkL X n 0)) := by
    rw [kkL_zero]
    exact ⟨T1.out.bl.alloc _, Blk.new w1 _ _, T1.out.be.alloc T1.out.be.size _, T1.out.be.size, by have := T1.out.bl.lt; omega⟩
  obtain ⟨gk, hgk⟩ : ∃ gk, gk = w1.heap.size := ⟨_, rfl⟩
  rw [← hgk] at X2
  go_wp2_with (first
    | (refine wpList_mkK rfl (.tmp 32) (.tmp 32) rfl n n rfl rfl rfl (by omega) gk hgk ?_; clear hgk; generalize w1.alloc (.cells ((List.replicate (32 * n) 0).map byt).toArray 45) = w2 at X2 ⊢)
    | fail)
  clear T1
  go_loopw [36] (fun i wr => ∃ k : Nat, k ≤ n ∧ i = .int .i64 (k : Int) ∧ Hid (Kk w' wr g gk X (kkL X n k))) (fun i _ => n - (intOf i).toNat)
  case atStart => exact ⟨0, by omega, rfl, X2⟩
  case round =>
    obtain ⟨k, hk, rfl, hx⟩ := hrel
    by_cases hlt : k < n
    · have hlz : (k : Int) < (n : Int) := by omega
      go_upto_region 11 with fail
      have hMn := HM.out
      have X3 : Kk w' { wr with drawn := wr.drawn + 1 } g gk X (kkL X n k) := ⟨hx.out.bl, hx.out.bk, hx.out.be.drew, hx.out.lk, hx.out.ne⟩
      refine wp_region_noPanic ?_
      refine wp_region_any (by kernel_rfl) ?_
      generalize { wr with drawn := wr.drawn + 1 } = w3 at X3 ⊢
      have HC : Has w3 (.slice (some ⟨g, 32 * k, none⟩) (M - 32 * k) (M - 32 * k)) (X.drop (32 * k)) := by
        have h := (X3.bl.has M (by rw [XL.out, hMn])).cut (32 * k) M (by omega) (by rw [XL.out]; omega)
        have e : cutV (.slice (some ⟨g, 0, none⟩) M M) (32 * k) M = .slice (some ⟨g, 32 * k, none⟩) (M - 32 * k) (M - 32 * k) := by
          unfold cutV sliced
          simp only [Nat.mul_one]
          rw [if_neg (by omega)]
          show Value.slice (some ((⟨g, 0, none⟩ : Addr).add (32 * k))) _ _ = _
          rw [add_plain]
        rw [e, List.take_of_length_le (by rw [List.length_drop, XL.out]; omega)] at h
        exact h
      have q1 : IntKind.i64.wrap (32 * (k : Int)) = 32 * (k : Int) := by rw [IntKind.wrap_i64]; omega
      have c1 : (0 : Int) ≤ 32 * (k : Int) := by omega
      have c2 : 32 * (k : Int) ≤ (M : Int) := by omega
      have c3 : (32 * (k : Int)).toNat = 32 * k := by omega
      have c4 : ¬ M = 32 * k := by omega
      have c5 : k * 32 = 32 * k := by omega
      refine take_any (i := 0) rfl rfl (.move (.tmp 13)) rfl 39 rfl (v := (.slice (some ⟨gk, 0, none⟩) n n)) (by kernel_rfl) (by kernel_rfl) (by kernel_rfl) (fun _ _ _ h => h) (fun o' ho w => by go_simp) ?_
      simp only [Act.put, List.setIfInBounds_toArray, List.set_cons_zero, List.set_cons_succ]
      refine take_any (i := 1) rfl rfl (.move (.tmp 14)) rfl 40 rfl (v := (.int .i64 (k : Int))) (by kernel_rfl) (by kernel_rfl) (by kernel_rfl) (fun _ _ _ h => h) (fun o' ho w => by go_simp) ?_
      simp only [Act.put, List.setIfInBounds_toArray, List.set_cons_zero, List.set_cons_succ]
      refine take_any (i := 2) rfl rfl (.indexAddr 44 (.tmp 39) (.tmp 40)) rfl 41 rfl (v := (.pointer (some ⟨gk, 32 * k, none⟩))) (by kernel_rfl) (by kernel_rfl) (by kernel_rfl) (fun _ _ _ h => h) (fun o' ho w => by go_simp) ?_
      simp only [Act.put, List.setIfInBounds_toArray, List.set_cons_zero, List.set_cons_succ]
      refine take_any (i := 3) rfl rfl (.slice 45 (.tmp 41) none none none) rfl 42 rfl (v := (.slice (some ⟨gk, 32 * k, none⟩) 32 32)) (by kernel_rfl) (by kernel_rfl) (by kernel_rfl) (fun _ _ _ h => h) (fun o' ho w => by go_simp) ?_
      simp only [Act.put, List.setIfInBounds_toArray, List.set_cons_zero, List.set_cons_succ]
      refine take_any (i := 4) rfl rfl (.move (.tmp 11)) rfl 43 rfl (v := (.slice (some ⟨g, 0, none⟩) M M)) (by kernel_rfl) (by kernel_rfl) (by kernel_rfl) (fun _ _ _ h => h) (fun o' ho w => by go_simp) ?_
      simp only [Act.put, List.setIfInBounds_toArray, List.set_cons_zero, List.set_cons_succ]
      refine take_any (i := 5) rfl rfl (.move (.tmp 14)) rfl 44 rfl (v := (.int .i64 (k : Int))) (by kernel_rfl) (by kernel_rfl) (by kernel_rfl) (fun _ _ _ h => h) (fun o' ho w => by go_simp) ?_
      simp only [Act.put, List.setIfInBounds_toArray, List.set_cons_zero, List.set_cons_succ]
      refine take_any (i := 6) rfl rfl (.binOp .mul 3 (.const (.int .i64 32)) (.tmp 44) 3) rfl 45 rfl (v := (.int .i64 (32 * (k : Int)))) (by kernel_rfl) (by kernel_rfl) (by kernel_rfl) (fun _ _ _ h => h) (fun o' ho w => by go_simp) ?_
      simp only [Act.put, List.setIfInBounds_toArray, List.set_cons_zero, List.set_cons_succ]
      refine take_any (i := 7) rfl rfl (.slice 29 (.tmp 43) (some (.tmp 45)) none none) rfl 46 rfl (v := (.slice (some ⟨g, 32 * k, none⟩) (M - 32 * k) (M - 32 * k))) (by kernel_rfl) (by kernel_rfl) (by kernel_rfl) (fun _ _ _ h => h) (fun o' ho w => by go_simp) ?_
      simp only [Act.put, List.setIfInBounds_toArray, List.set_cons_zero, List.set_cons_succ]
      refine only_one (i := 8) (by kernel_rfl) ?_
      refine op_cpb rfl rfl (.tmp 42) (.tmp 46) rfl 47 rfl gk (32 * k) 32 32 rfl (.slice (some ⟨g, 32 * k, none⟩) (M - 32 * k) (M - 32 * k)) (X.drop (32 * k)) rfl HC (kkL X n k) 45 X3.bk (by rw [kkL_length X n k XL.out hk]; omega) ?_
      intro q w4 hb4 hf4
      rw [kkL_succ X n k XL.out hlt] at hb4
      have X4 : Hid (Kk w' w4 g gk X (kkL X n (k + 1))) := ⟨X3.bl.fx hf4 (fun e : g = gk => X3.ne e), hb4, X3.be.trans (hf4.below (fun j hj (e : j = gk) => by have := X3.lk; omega) X3.be.size), X3.lk, X3.ne⟩
      clear hb4 hf4 X3 HC q1 c1 c2 c3 c4 c5
      simp only [Act.put, List.setIfInBounds_toArray, List.set_cons_zero, List.set_cons_succ]
      refine wpAny_done (by kernel_rfl) (NoPanic.normal ?_) _
      go_wp2
      go_roundw
      case rel => exact ⟨k + 1, by omega, by go_num, X4⟩
      case measure => simp [intOf]; omega
    · obtain rfl : k = n := by omega
      rw [kkL_all X k XL.out] at hx
      go_wp2
      go_ret2
      exact ⟨gk, rfl, hx.out.bk, hx.out.be, hx.out.lk⟩
end Go.Proofs.YtablmkijlpoaaabDoor
