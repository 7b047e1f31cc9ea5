import Derived.Test.YtnfikgnploockaaDoorSb
set_option linter.unusedVariables false
set_option linter.unusedSimpArgs false
namespace Go.Proofs.YtnfikgnploockaaDoor
open Go.RowKit

def z24 : List UInt8 := List.replicate 24 0
theorem zv99 (w : World) : (zeroValue 99).run Tryd.prog w = .ok (.agg (z24.map byt).toArray) w := (zero_of_info (show (Tryd.prog.info? 99).map (fun i => (i.zero, i.size)) = some (some (.agg (z24.map byt).toArray), 24) by kernel_rfl)).1 w
theorem new99 (w : World) : ∃ w1 q, (Instr.alloc 99 true (.tuple #[])).run Tryd.prog w = .ok (.pointer (some ⟨q, 0, none⟩)) w1 ∧ Blk w1 q (z24.map byt) 99 ∧ Below w.heap.size w w1 ∧ q = w.heap.size :=
  ⟨_, _, run_newR 99 _ zv99 w _ rfl, Blk.new _ _ _, below_new _ _, rfl⟩
theorem u64_lt_f {a b : Int} (h : ¬ a < b) (W : World) (x y : Operand) : (do eqGuard .lss 78 x y (.int .u64 a) (.int .u64 b); binOp .lss 78 (.int .u64 a) (.int .u64 b) : Sem Value).run Tryd.prog W = .ok (.bool false) W := by
  go_simp
theorem sl99 (q : Nat) (W : World) : (Instr.sliceAt 99 (.pointer (some ⟨q, 0, none⟩)) none (some (.int .i64 6)) none).run Tryd.prog W = .ok (.slice (some ⟨q, 0, none⟩) 6 24) W := by
  go_simp
  try simp
theorem Blk.holds {w : World} {q : Nat} {bs : List UInt8} {t : TypeId} (h : Blk w q (bs.map byt) t) (d : Array UInt8) (hd : ∀ j, j < d.size → bs[j]? = some d[j]!) : Sort.Holds (fun (b : UInt8) => Value.int .u8 (b.toNat : Int)) w q 0 d := fun j hj => by
  refine ⟨?_, ?_⟩
  · rw [Nat.zero_add, h.cell j, List.getElem?_map, hd j hj]; rfl
  · rw [Nat.zero_add]; exact h.frozen j
theorem putRow_below {w0 w : World} {q off n : Nat} (d : Array UInt8) (hb : Below w0.heap.size w0 w) (hq : w0.heap.size ≤ q) : Below w0.heap.size w0 ((Sort.putRow (fun (b : UInt8) => Value.int .u8 (b.toNat : Int)) w q off d).drewN n) := by
  refine hb.trans ⟨rfl, rfl, rfl, ?_, fun k hk => ?_⟩
  · show w.heap.size ≤ (Sort.putRow _ w q off d).heap.size
    rw [Sort.size_putRow]
    exact Nat.le_refl _
  · show (Sort.putRow _ w q off d).heap[k]? = w.heap[k]?
    unfold Sort.putRow Sort.mapBlock
    simp only [Array.getElem?_modify]
    rw [if_neg (by omega)]
theorem nd6 (r : Nat) (hr : r < 100000) : Lib.nDigits (100000 + r) = 6 := Lib.nDigits_unique 5 _ (by show 100000 ≤ _; omega) (by show _ < 1000000; omega)
theorem row_has {w1 : World} {q n r v' : Nat} {dk : Array UInt8} (b1 : Blk w1 q (z24.map byt) 99) (hr : r < 100000) (hF : Lib.FmtInv (Array.replicate 6 (0 : UInt8)).size (100000 + r) 0 v' dk) : Has ((Sort.putRow (fun (b : UInt8) => Value.int .u8 (b.toNat : Int)) w1 q 0 dk).drewN n) (.slice (some ⟨q, 0, none⟩) 6 24) (49 :: d5 r) := by
  have hs : dk.size = 6 := hF.size
  refine .inr ⟨⟨q, 0, none⟩, 24, rfl, by show 6 ≤ 24; decide, fun i u hu => ?_⟩
  have hi : i < 6 := (List.getElem?_eq_some_iff.1 hu).1
  rw [add_plain, World.cell?_drewN]
  have h := Sort.cell?_putRow (fun (b : UInt8) => Value.int .u8 (b.toNat : Int)) w1 q 0 (Array.replicate 6 0) dk (b1.holds _ (by decide)) (by rw [hs]; rfl) i (by omega)
  rw [Nat.zero_add] at h
  rw [h]
  have hd := hF.done i (Nat.zero_le _) hi
  have e : dk[i]! = u := by
    rw [hd]
    have : i = 0 ∨ i = 1 ∨ i = 2 ∨ i = 3 ∨ i = 4 ∨ i = 5 := by omega
    rcases this with rfl | rfl | rfl | rfl | rfl | rfl <;> (simp only [d5, List.getElem?_cons_zero, List.getElem?_cons_succ, Option.some.injEq] at hu; subst hu)
    · exact dg_one r hr
    all_goals exact dg_up r _ (by decide)
  rw [e]; rfl
set_option maxRecDepth 100000 in
set_option maxHeartbeats 1000000 in
theorem fmt52 (r : Nat) (hr : r < 100000) (w : World) (hS : Pst w) : Calls Tryd.prog 52 #[.int .u64 ((100000 + r : Nat) : Int), .int .i64 10] w fun e w' => e = .returned (sv (49 :: d5 r)) ∧ Below w.heap.size w w' := by
  have h100 : ¬ ((100000 + r : Nat) : Int) < 100 := by omega
  obtain ⟨w1, q, r1, b1, l1, hq⟩ := new99 w
  have hS1 := hS.on l1
  refine calls_of_args [.int .u64 ((100000 + r : Nat) : Int), .int .i64 10] Tryd.func52 rfl 32 Tryd.ntmps52 (by show 2 ≤ 32; decide) ?_
  refine EW.seq ?_
  refine EW.region ?_
  first | refine WL.assign rfl rfl rfl ?_
  refine WL.done ?_
  refine EW.on ?_
  refine EW.seq ?_
  refine EW.seq ?_
  refine EW.region ?_
  first | refine WL.move rfl rfl rfl ?_
  refine WL.bin rfl rfl rfl rfl (int_eq_t rfl _ _ _) ?_
  refine WL.done ?_
  refine EW.on ?_
  refine EW.cond_t rfl ?_
  refine EW.seq ?_
  refine EW.seq ?_
  refine EW.region ?_
  first | refine WL.move rfl rfl rfl ?_
  refine WL.bin rfl rfl rfl rfl (u64_lt_f h100 _ _ _) ?_
  refine WL.done ?_
  refine EW.on ?_
  refine EW.cond_f rfl ?_
  refine EW.skip ?_
  refine EW.on ?_
  refine EW.seq ?_
  refine EW.region ?_
  refine WL.new rfl rfl r1 ?_
  refine WL.done ?_
  refine EW.on ?_
  refine EW.seq ?_
  refine EW.region ?_
  first | refine WL.move rfl rfl rfl ?_
  refine WL.call [.int .u64 ((100000 + r : Nat) : Int)] enter58 rfl rfl rfl (nd_any _ (by omega) (by omega) w1 hS1) ?_
  rintro _ wz ⟨rfl, hz⟩
  rw [hz]
  refine ⟨_, rfl, ?_⟩
  rw [nd6 r hr]
  first | refine WL.assign rfl rfl rfl ?_
  refine WL.done ?_
  refine EW.on ?_
  refine EW.seq ?_
  refine EW.region ?_
  first | refine WL.move rfl rfl rfl ?_
  refine WL.sliceH rfl rfl rfl rfl (sl99 q _) ?_
  first | refine WL.move rfl rfl rfl ?_
  refine WL.call [.slice (some ⟨q, 0, none⟩) 6 24, .int .u64 ((100000 + r : Nat) : Int)] enter59 rfl rfl rfl (fb_any q 0 24 _ (Array.replicate 6 0) w1 (b1.holds _ (by decide)) (by show _ < 1000000; omega) (by omega) (by decide)) ?_
  rintro _ _ ⟨rfl, m, v', dk, rfl, hF⟩
  refine ⟨_, rfl, ?_⟩
  have hb2 := putRow_below (off := 0) (n := m) dk l1 (by omega : w.heap.size ≤ q)
  have hc := row_has (n := m) b1 hr hF
  generalize (Sort.putRow (fun (b : UInt8) => Value.int .u8 (b.toNat : Int)) w1 q 0 dk).drewN m = w2 at hb2 hc ⊢
  refine WL.done ?_
  refine EW.on ?_
  refine EW.seq ?_
  refine EW.region ?_
  first | refine WL.move rfl rfl rfl ?_
  refine WL.sliceH rfl rfl rfl rfl (sl99 q _) ?_
  refine WL.conv rfl rfl rfl hc.convert ?_
  first | refine WL.assign rfl rfl rfl ?_
  refine WL.done ?_
  refine EW.on ?_
  refine EW.ret ?_
  refine pr_then ?_
  exact EW.returns Tryd.results52 rfl ⟨rfl, hb2⟩
set_option maxRecDepth 100000 in
set_option maxHeartbeats 1000000 in
theorem fmt42 (r : Nat) (hr : r < 100000) (w : World) (hS : Pst w) : Calls Tryd.prog 42 #[.int .u64 ((100000 + r : Nat) : Int), .int .i64 10] w fun e w' => e = .returned (sv (49 :: d5 r)) ∧ Below w.heap.size w w' := by
  refine calls_of_args [.int .u64 ((100000 + r : Nat) : Int), .int .i64 10] Tryd.func42 rfl 8 Tryd.ntmps42 (by show 2 ≤ 8; decide) ?_
  refine EW.seq ?_
  refine EW.region ?_
  first | refine WL.assign rfl rfl rfl ?_
  refine WL.done ?_
  refine EW.on ?_
  refine EW.seq ?_
  refine EW.region ?_
  first | refine WL.move rfl rfl rfl ?_
  first | refine WL.move rfl rfl rfl ?_
  refine WL.call [.int .u64 ((100000 + r : Nat) : Int), .int .i64 10] enter52 rfl rfl rfl (fmt52 r hr w hS) ?_
  rintro _ w1 ⟨rfl, hb⟩
  refine ⟨_, rfl, ?_⟩
  first | refine WL.assign rfl rfl rfl ?_
  refine WL.done ?_
  refine EW.on ?_
  refine EW.ret ?_
  exact EW.returns Tryd.results42 rfl ⟨rfl, hb⟩
end Go.Proofs.YtnfikgnploockaaDoor
