import Derived.Test.YtbghjabojgedaaaDoorCf
set_option linter.unusedVariables false
set_option linter.unusedSimpArgs false
namespace Go.Proofs.YtbghjabojgedaaaDoor
open Go.RowKit

theorem made_keys (n : Nat) : madeCells (Value.agg (z32.map byt).toArray).cells (n * 32) = ((List.replicate (32 * n) (0 : UInt8)).map byt).toArray := by
  have h : ∀ j : Nat, (z32.map byt).toArray[j % 32]! = byt 0 := fun j => by
    have h1 : j % 32 < z32.length := Nat.mod_lt _ (by decide)
    rw [getElem!_pos _ _ (by rw [List.size_toArray, List.length_map]; exact h1), List.getElem_toArray, List.getElem_map]
    exact congrArg byt (List.eq_of_mem_replicate (List.getElem_mem h1))
  apply Array.ext
  · rw [size_madeCells, List.size_toArray, List.length_map, List.length_replicate]; omega
  · intro i h1 h2
    simp only [madeCells, Value.cells, Array.getElem_map, Array.getElem_range, List.getElem_toArray, List.getElem_map, List.getElem_replicate]
    rw [show (z32.map byt).toArray.size = 32 from rfl]
    exact h i

/-- The chain's key behind n steps, and the messages' keys. -/
def ahK (K : List UInt8) : Nat → List UInt8
  | 0 => K
  | n + 1 => nxK (ahK K n)
def ahL (K : List UInt8) : Nat → List UInt8
  | 0 => []
  | n + 1 => ahL K n ++ msK (ahK K n)
theorem ahK_len (K : List UInt8) (hK : K.length = 32) : ∀ n, (ahK K n).length = 32
  | 0 => hK
  | n + 1 => nxK_len _
theorem ahL_len (K : List UInt8) : ∀ n, (ahL K n).length = 32 * n
  | 0 => rfl
  | n + 1 => by rw [ahL, List.length_append, ahL_len K n, msK_len]; omega
theorem ahK_add (K : List UInt8) (m : Nat) : ∀ n, ahK (ahK K m) n = ahK K (m + n)
  | 0 => rfl
  | n + 1 => by rw [ahK, ahK_add K m n]; rfl
theorem ahL_add (K : List UInt8) (m : Nat) : ∀ n, ahL K m ++ ahL (ahK K m) n = ahL K (m + n)
  | 0 => by simp [ahL]
  | n + 1 => by rw [ahL, ← List.append_assoc, ahL_add K m n, ahK_add]; rfl
theorem infoK : (Tryd.prog.info? 23).map (fun i => (i.zero, i.size, i.bytes)) = some (some (.agg (z32.map byt).toArray), 32, 32) := by kernel_rfl
theorem ul24 : Tryd.prog.underlying 24 = some (.slice 23) := by kernel_rfl
theorem mksK (n : Nat) (hn : n ≤ 256) (w : World) : ∃ w1 g, (Instr.makeSlice 24 (.int .i64 (n : Int)) (.int .i64 (n : Int))).run Tryd.prog w = .ok (.slice (some ⟨g, 0, none⟩) n n) w1 ∧ Blk w1 g ((List.replicate (32 * n) (0 : UInt8)).map byt) 23 ∧ Below w.heap.size w w1 ∧ g = w.heap.size := by
  obtain ⟨i0, hi, hz0, hz1, hz2⟩ := info_parts infoK
  have hrun := run_makeSlice (P := Tryd.prog) w 24 23 i0 _ ul24 hi hz0 .i64 .i64 n n (by omega) (by omega) (by rw [hz1]; omega) (by rw [hz2]; omega) (by omega)
  rw [hz1, Int.toNat_natCast, made_keys] at hrun
  exact ⟨_, _, hrun, Blk.new _ _ _, below_new _ _, rfl⟩
theorem Blk.thereM {w : World} {g : Nat} {cs : List Value} {t : TypeId} (h : Blk w g cs t) (o k : Nat) (hk : o + k ≤ cs.length) : w.there g o k := fun j hj =>
  ⟨by rw [h.cell, List.getElem?_eq_getElem (by omega)]; rfl, h.frozen _⟩
/-- A key of a list of one's own is written. -/
theorem stM {w : World} {g i : Nat} {X D : List UInt8} {t : TypeId} (h : Blk w g (X.map byt) t) (hi : 32 * i + 32 ≤ X.length) (hD : D.length = 32) : ∃ w', (Instr.storeAt 23 (.pointer (some ⟨g, 32 * i, none⟩)) (kv D)).run Tryd.prog w = .ok () w' ∧ Blk w' g ((X.take (32 * i) ++ D ++ X.drop (32 * (i + 1))).map byt) t ∧ Fx (fun k => k = g) w w' := by
  refine ⟨_, run_storeAt_mid w g (32 * i) 23 (D.map byt).toArray (h.thereM _ _ (by simp [hD]; omega)) (by simpa using i23 hD) (bytsOne D), ?_, Fx.setCells (S := fun k => k = g) g rfl _ _ _⟩
  have := Blk.setCells (D.map byt) (32 * i) w _ h (by simp [hD]; omega)
  rw [List.length_map, hD] at this
  simp only [List.map_append, List.map_take, List.map_drop]
  rw [show 32 * (i + 1) = 32 * i + 32 by omega]
  exact this
def agX (K : List UInt8) (n t : Nat) : List UInt8 := ahL K t ++ List.replicate (32 * (n - t)) 0
theorem agX_len (K : List UInt8) (n t : Nat) (h : t ≤ n) : (agX K n t).length = 32 * n := by
  unfold agX
  rw [List.length_append, ahL_len, List.length_replicate]; omega
theorem agX_succ (K : List UInt8) (n t : Nat) (h : t < n) : (agX K n t).take (32 * t) ++ msK (ahK K t) ++ (agX K n t).drop (32 * (t + 1)) = agX K n (t + 1) := by
  have hl := ahL_len K t
  unfold agX
  rw [List.take_append_of_le_length (by omega), List.take_of_length_le (by omega), List.drop_append, List.drop_eq_nil_of_le (by omega), List.nil_append, hl, List.drop_replicate, ahL]
  congr 2
  omega
theorem agX_all (K : List UInt8) (n : Nat) : agX K n n = ahL K n := by simp [agX]
theorem agX_zero (K : List UInt8) (n : Nat) : agX K n 0 = List.replicate (32 * n) 0 := by simp [agX, ahL]
def agE (n q p g t : Nat) : List (Nat × Value) := [(2, .pointer (some ⟨q, 0, none⟩)), (4, .pointer (some ⟨p, 0, none⟩)), (5, .slice (some ⟨g, 0, none⟩) n n), (17, .int .i64 (n : Int)), (18, .int .i64 (t : Int))]
def AgI (w : World) (K : List UInt8) (n q p g t : Nat) (W : World) : Prop := t ≤ n ∧ Blk W q ((ahK K t).map byt) 23 ∧ Blk W p (z32.map byt) 23 ∧ Blk W g ((agX K n t).map byt) 23 ∧ Below w.heap.size w W
theorem bld23 (W : World) : (Instr.build 23 ([] : List (Nat × Value)).toArray).run Tryd.prog W = .ok (kv z32) W := by kernel_rfl
theorem ext_3 (a b c : Value) (W : World) : (Instr.extract (.tuple #[a, b, c]) 0).run Tryd.prog W = .ok a W ∧ (Instr.extract (.tuple #[a, b, c]) 1).run Tryd.prog W = .ok b W ∧ (Instr.extract (.tuple #[a, b, c]) 2).run Tryd.prog W = .ok c W := by
  refine ⟨?_, ?_, ?_⟩ <;> go_simp
set_option maxRecDepth 100000 in
set_option maxHeartbeats 1000000 in
theorem ahead_ok (K : List UInt8) (hK : K.length = 32) (n : Nat) (hn : n ≤ 256) (w : World) (hS : Kst w) : Calls Tryd.prog 6 #[kv K, .int .i64 (n : Int)] w fun e w' => ∃ g, e = .returned (.tuple #[kv (ahK K n), .slice (some ⟨g, 0, none⟩) n n, .int .i64 0]) ∧ Blk w' g ((ahL K n).map byt) 23 ∧ Below w.heap.size w w' ∧ w.heap.size ≤ g := by
  obtain ⟨w1, q, r1, b1, l1, hq⟩ := box23 K w
  obtain ⟨w2, p, r2, b2, l2, hp⟩ := new23 w1
  obtain ⟨w3, g, r3, b3, l3, hg⟩ := mksK n hn w2
  have z1 : ¬ (n : Int) < 0 := by omega
  have z2 : ¬ (256 : Int) < (n : Int) := by omega
  have L3 := bt (bt l1 l2) l3
  have hpq : p ≠ q := by have := b1.lt; omega
  have hgp : g ≠ p := by have := b2.lt; omega
  have hgq : g ≠ q := by have := (b1.on l2).lt; omega
  refine calls_of_args [kv K, .int .i64 (n : Int)] Tryd.func6 rfl 32 Tryd.ntmps6 (by show 2 ≤ 32; decide) ?_
  refine EW.seq ?_
  refine EW.region ?_
  refine WL.box rfl rfl rfl r1 ?_
  refine WL.new rfl rfl r2 ?_
  first | refine WL.assign rfl rfl rfl ?_
  first | refine WL.assign rfl rfl rfl ?_
  refine WL.done ?_
  refine EW.on ?_
  refine EW.seq ?_
  refine EW.seq ?_
  refine EW.region ?_
  first | refine WL.move rfl rfl rfl ?_
  first | refine WL.bin rfl rfl rfl rfl (int_lt_t ‹_› _ _ _) ?_ | refine WL.bin rfl rfl rfl rfl (int_lt_f ‹_› _ _ _) ?_ | refine WL.bin rfl rfl rfl rfl (int_lt_d _ _ _ _ _) ?_
  first | refine WL.move rfl rfl rfl ?_
  first | refine WL.move rfl rfl rfl ?_ | refine WL.skip _ rfl rfl rfl ?_
  first | refine WL.bin rfl rfl rfl rfl (int_gt_t ‹_› _ _ _) ?_ | refine WL.bin rfl rfl rfl rfl (int_gt_f ‹_› _ _ _) ?_ | refine WL.bin rfl rfl rfl rfl (int_gt_d _ _ _ _ _) ?_ | refine WL.skip _ rfl rfl rfl ?_
  first | refine WL.pick rfl rfl rfl rfl ?_
  refine WL.done ?_
  refine EW.on ?_
  refine EW.cond_f rfl ?_
  refine EW.skip ?_
  refine EW.on ?_
  refine EW.seq ?_
  refine EW.region ?_
  first | refine WL.move rfl rfl rfl ?_
  refine WL.mks rfl rfl rfl rfl r3 ?_
  first | refine WL.assign rfl rfl rfl ?_
  refine WL.done ?_
  refine EW.on ?_
  refine EW.seq ?_
  refine EW.seq ?_
  refine EW.region ?_
  first | refine WL.move rfl rfl rfl ?_
  first | refine WL.move rfl rfl rfl ?_
  refine WL.done ?_
  refine EW.on ?_
  refine EW.block ?_
  refine EW.loop (agE n q p g) (AgI w K n q p g) (fun t => n - t) 0 [2, 4, 5, 17, 18] rfl ⟨Nat.zero_le _, (b1.on l2).on l3, b2.on l3, by rw [agX_zero]; exact b3, L3⟩ ?_
  rintro t wi ⟨htl, bq, bp, bg, be⟩
  have hKt := ahK_len K hK t
  show EW _ _ _ _ [(2, .pointer (some ⟨q, 0, none⟩)), (4, .pointer (some ⟨p, 0, none⟩)), (5, .slice (some ⟨g, 0, none⟩) n n), (17, .int .i64 (n : Int)), (18, .int .i64 (t : Int))] _
  refine EW.seq ?_
  refine EW.region ?_
  first | refine WL.bin rfl rfl rfl rfl (int_lt_t ‹_› _ _ _) ?_ | refine WL.bin rfl rfl rfl rfl (int_lt_f ‹_› _ _ _) ?_ | refine WL.bin rfl rfl rfl rfl (int_lt_d _ _ _ _ _) ?_
  refine WL.done ?_
  refine EW.on ?_
  refine EW.seq ?_
  refine EW.cond_d rfl (fun h19 => ?_) (fun h19 => ?_)
  · refine EW.skip ?_
    refine EW.on ?_
    refine EW.seq ?_
    refine EW.block ?_
    refine EW.seq ?_
    refine EW.region ?_
    first | refine WL.move rfl rfl rfl ?_
    first | refine WL.assign rfl rfl rfl ?_
    refine WL.done ?_
    refine EW.on ?_
    have hlt : t < n := by omega
    refine EW.region ?_
    first | refine WL.move rfl rfl rfl ?_
    first | refine WL.move rfl rfl rfl ?_
    refine WL.load rfl rfl rfl (ld23 bq hKt) ?_
    refine WL.call [kv (ahK K t)] enter8 rfl rfl rfl (step_any (ahK K t) _ _ hKt rfl rfl wi ((hS.on be))) ?_
    rintro e w5 ⟨rfl, l5⟩
    refine ⟨_, rfl, ?_⟩
    obtain ⟨w6, s6, b6, f6⟩ := st23 (bq.on l5) hKt (nxK_len (ahK K t))
    obtain ⟨w7, s7, b7, f7⟩ := stM ((bg.on l5).fx f6 hgq) (i := t) (by rw [agX_len K n t htl]; omega) (msK_len (ahK K t))
    first | refine WL.move rfl rfl rfl ?_
    first | refine WL.extract rfl rfl rfl (ext_2 _ _ _).1 ?_
    first | refine WL.extract rfl rfl rfl (ext_2 _ _ _).2 ?_
    refine WL.store rfl rfl rfl s6 ?_
    refine WL.index rfl rfl rfl rfl (idxL g n n t hlt _) ?_
    refine WL.store rfl rfl rfl s7 ?_
    refine WL.done ?_
    refine pn_block ?_
    refine EW.on ?_
    refine EW.region ?_
    refine WL.bin rfl rfl rfl rfl (int_add (c := ((t + 1 : Nat) : Int)) (by rw [IntKind.wrap_i64]; omega) _ _ _) ?_
    first | refine WL.move rfl rfl rfl ?_
    refine WL.done ?_
    refine EW.again (E := agE n q p g) (R := AgI w K n q p g) (m := fun t => n - t) (x := t) (t + 1) [2, 4, 5, 17, 18] rfl ⟨by omega, b6.fx f7 (fun e => hgq e.symm), ((bp.on l5).fx f6 hpq).fx f7 (fun e => hgp e.symm), ?_, bf (bf (bt be l5) f6 (by omega)) f7 (by have := l1.size; have := l2.size; omega)⟩ (by show n - (t + 1) < n - t; omega)
    rw [← agX_succ K n t hlt]
    exact b7
  · refine EW.exit ?_
    refine px_then ?_
    refine px_then ?_
    refine px_block ?_
    refine EW.on ?_
    refine EW.seq ?_
    obtain rfl : t = n := by omega
    refine EW.region ?_
    refine WL.load rfl rfl rfl (ld23 bq hKt) ?_
    first | refine WL.move rfl rfl rfl ?_
    obtain ⟨w8, s8, b8, f8⟩ := st23 bp z32l hKt
    refine WL.store rfl rfl rfl s8 ?_
    first | refine WL.assign rfl rfl rfl ?_
    first | refine WL.assign rfl rfl rfl ?_
    refine WL.done ?_
    refine EW.on ?_
    refine EW.ret ?_
    exact EW.retKTT Tryd.results6 rfl rfl rfl b8 hKt ⟨g, rfl, by rw [← agX_all]; exact bg.fx f8 hgp, bf be f8 (by have := l1.size; omega), by have := l1.size; have := l2.size; omega⟩
set_option maxRecDepth 100000 in
set_option maxHeartbeats 1000000 in
theorem ahead_no (K : List UInt8) (n : Int) (hn : n < 0 ∨ 256 < n) (w : World) : Calls Tryd.prog 6 #[kv K, .int .i64 n] w fun e w' => e = .returned (.tuple #[kv z32, .slice none 0 0, .int .i64 4]) ∧ Below w.heap.size w w' := by
  obtain ⟨w1, q, r1, b1, l1, hq⟩ := box23 K w
  obtain ⟨w2, p, r2, b2, l2, hp⟩ := new23 w1
  rcases Classical.em (n < 0) with z1 | z1
  · refine calls_of_args [kv K, .int .i64 n] Tryd.func6 rfl 32 Tryd.ntmps6 (by show 2 ≤ 32; decide) ?_
    refine EW.seq ?_
    refine EW.region ?_
    refine WL.box rfl rfl rfl r1 ?_
    refine WL.new rfl rfl r2 ?_
    first | refine WL.assign rfl rfl rfl ?_
    first | refine WL.assign rfl rfl rfl ?_
    refine WL.done ?_
    refine EW.on ?_
    refine EW.seq ?_
    refine EW.seq ?_
    refine EW.region ?_
    first | refine WL.move rfl rfl rfl ?_
    first | refine WL.bin rfl rfl rfl rfl (int_lt_t ‹_› _ _ _) ?_ | refine WL.bin rfl rfl rfl rfl (int_lt_f ‹_› _ _ _) ?_ | refine WL.bin rfl rfl rfl rfl (int_lt_d _ _ _ _ _) ?_
    first | refine WL.move rfl rfl rfl ?_
    first | refine WL.move rfl rfl rfl ?_ | refine WL.skip _ rfl rfl rfl ?_
    first | refine WL.bin rfl rfl rfl rfl (int_gt_t ‹_› _ _ _) ?_ | refine WL.bin rfl rfl rfl rfl (int_gt_f ‹_› _ _ _) ?_ | refine WL.bin rfl rfl rfl rfl (int_gt_d _ _ _ _ _) ?_ | refine WL.skip _ rfl rfl rfl ?_
    first | refine WL.pick rfl rfl rfl rfl ?_
    refine WL.done ?_
    refine EW.on ?_
    refine EW.cond_t rfl ?_
    refine EW.seq ?_
    refine EW.region ?_
    refine WL.buildN [] rfl rfl rfl (bld23 _) ?_
    obtain ⟨w3, r3, b3, f3⟩ := st23 b2 z32l z32l
    refine WL.store rfl rfl rfl r3 ?_
    first | refine WL.assign rfl rfl rfl ?_
    first | refine WL.assign rfl rfl rfl ?_
    refine WL.done ?_
    refine EW.on ?_
    refine EW.ret ?_
    refine pr_then ?_
    exact EW.retKTT Tryd.results6 rfl rfl rfl b3 z32l ⟨rfl, bf (bt l1 l2) f3 (by have := l1.size; omega)⟩
  · have z2 : 256 < n := by omega
    refine calls_of_args [kv K, .int .i64 n] Tryd.func6 rfl 32 Tryd.ntmps6 (by show 2 ≤ 32; decide) ?_
    refine EW.seq ?_
    refine EW.region ?_
    refine WL.box rfl rfl rfl r1 ?_
    refine WL.new rfl rfl r2 ?_
    first | refine WL.assign rfl rfl rfl ?_
    first | refine WL.assign rfl rfl rfl ?_
    refine WL.done ?_
    refine EW.on ?_
    refine EW.seq ?_
    refine EW.seq ?_
    refine EW.region ?_
    first | refine WL.move rfl rfl rfl ?_
    first | refine WL.bin rfl rfl rfl rfl (int_lt_t ‹_› _ _ _) ?_ | refine WL.bin rfl rfl rfl rfl (int_lt_f ‹_› _ _ _) ?_ | refine WL.bin rfl rfl rfl rfl (int_lt_d _ _ _ _ _) ?_
    first | refine WL.move rfl rfl rfl ?_
    first | refine WL.move rfl rfl rfl ?_ | refine WL.skip _ rfl rfl rfl ?_
    first | refine WL.bin rfl rfl rfl rfl (int_gt_t ‹_› _ _ _) ?_ | refine WL.bin rfl rfl rfl rfl (int_gt_f ‹_› _ _ _) ?_ | refine WL.bin rfl rfl rfl rfl (int_gt_d _ _ _ _ _) ?_ | refine WL.skip _ rfl rfl rfl ?_
    first | refine WL.pick rfl rfl rfl rfl ?_
    refine WL.done ?_
    refine EW.on ?_
    refine EW.cond_t rfl ?_
    refine EW.seq ?_
    refine EW.region ?_
    refine WL.buildN [] rfl rfl rfl (bld23 _) ?_
    obtain ⟨w3, r3, b3, f3⟩ := st23 b2 z32l z32l
    refine WL.store rfl rfl rfl r3 ?_
    first | refine WL.assign rfl rfl rfl ?_
    first | refine WL.assign rfl rfl rfl ?_
    refine WL.done ?_
    refine EW.on ?_
    refine EW.ret ?_
    refine pr_then ?_
    exact EW.retKTT Tryd.results6 rfl rfl rfl b3 z32l ⟨rfl, bf (bt l1 l2) f3 (by have := l1.size; omega)⟩
end Go.Proofs.YtbghjabojgedaaaDoor
