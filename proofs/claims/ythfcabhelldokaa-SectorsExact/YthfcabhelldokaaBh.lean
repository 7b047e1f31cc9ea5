import Derived.Test.YthfcabhelldokaaTbG
import Derived.Test.YthfcabhelldokaaArm
set_option linter.unusedVariables false
set_option linter.unusedSimpArgs false
namespace Go.Proofs.Ythfcabhelldokaa
open Go.RowKit

theorem ne39_f (u : BitVec 64) (W : World) (x y : Operand) : (do eqGuard .neq 39 x y (wv u) (wv u); binOp .neq 39 (wv u) (wv u) : Sem Value).run Try.prog W = .ok (.bool false) W := by
  unfold wv
  go_simp
theorem eq39z (W : World) (x y : Operand) : (do eqGuard .eql 39 x y (.int .u64 0) (.int .u64 0); binOp .eql 39 (.int .u64 0) (.int .u64 0) : Sem Value).run Try.prog W = .ok (.bool true) W := by go_simp
theorem st39 {ad : Addr} {u : Value} {W : World} (h : W.cell? ad = some u) (hf : W.frozen? ad = false) : (Instr.storeAt 39 (.pointer (some ad)) (.int .u64 6148914691236517205)).run Try.prog W = .ok () (W.setCell ad (.int .u64 6148914691236517205)) := by go_simp
theorem sl36h (g n cap m : Nat) (hm : m ≤ cap) (W : World) : (Instr.sliceAt 36 (.slice (some ⟨g, 0, none⟩) n cap) none (some (.int .i64 (m : Int))) none).run Try.prog W = .ok (.slice (some ⟨g, 0, none⟩) m cap) W := by
  have ht : Try.prog.underlying 36 = some (.slice (Try.prog.elem 36)) := by rw [elem36]; exact Try.underlying36
  rw [run_sliceAt_slice W 36 _ _ _ _ ht, run_slice_h W 36 _ _ cap ht .i64 m (by omega) (by omega), elem36]
  obtain ⟨i0, hi, h0⟩ : ∃ i0, Try.prog.info? 39 = some i0 ∧ i0.size = 1 := by
    have := size39
    rw [Option.map_eq_some_iff] at this
    obtain ⟨a, b, c⟩ := this
    exact ⟨a, b, c⟩
  simp [Result.andThen, sizeOf, typeInfo, hi, h0, sliced, Addr.add]
theorem idx36c (g n cap m : Nat) (h : m < n) (W : World) : (Instr.indexAt 36 (.slice (some ⟨g, 0, none⟩) n cap) (.int .i64 (m : Int))).run Try.prog W = .ok (.pointer (some ⟨g, m, none⟩)) W := by
  rw [idx36 ⟨g, 0, none⟩ n cap m h W, add_plain]
def skE (g0 g1 t : Nat) : List (Nat × Value) := [(2, .pointer (some ⟨g0, 0, none⟩)), (3, .pointer (some ⟨g1, 0, none⟩)), (5, .int .i64 (t : Int))]
set_option maxRecDepth 100000 in
set_option maxHeartbeats 1000000 in
theorem sameKeep_law {W : World} (va vc : Value) (ta oa tc oc : Int) (ks : List (BitVec 64)) (ha : Has64 W va ks) (hc : Has64 W vc ks) (hkl : ks.length ≤ 1000000000) : Calls Try.prog 70 #[.agg (lossC va ta oa).toArray, .agg (lossC vc tc oc).toArray] W fun e w' => e = .returned (.bool true) ∧ Below W.heap.size W w' := by
  obtain ⟨g0, hg0⟩ : ∃ g, W.heap.size = g := ⟨_, rfl⟩
  have hbox := run_boxR (P := Try.prog) 38 (lossC va ta oa) W g0 hg0
  have b0 : Blk (W.alloc (.cells (lossC va ta oa).toArray 38)) g0 (lossC va ta oa) 38 := Blk.newAt hg0
  have be0 : Below W.heap.size W (W.alloc (.cells (lossC va ta oa).toArray 38)) := below_new W _
  have sz0 : (W.alloc (.cells (lossC va ta oa).toArray 38)).heap.size = g0 + 1 := by simp [hg0]
  obtain ⟨w0, hw0⟩ : ∃ w0, W.alloc (.cells (lossC va ta oa).toArray 38) = w0 := ⟨_, rfl⟩
  rw [hw0] at hbox b0 be0 sz0
  have hbox1 := run_boxR (P := Try.prog) 38 (lossC vc tc oc) w0 (g0 + 1) sz0
  have b1 : Blk (w0.alloc (.cells (lossC vc tc oc).toArray 38)) (g0 + 1) (lossC vc tc oc) 38 := Blk.newAt sz0
  have be1 : Below w0.heap.size w0 (w0.alloc (.cells (lossC vc tc oc).toArray 38)) := below_new w0 _
  have b01 := b0.on be1
  obtain ⟨w1, hw1⟩ : ∃ w1, w0.alloc (.cells (lossC vc tc oc).toArray 38) = w1 := ⟨_, rfl⟩
  rw [hw1] at hbox1 b1 be1 b01
  have be : Below W.heap.size W w1 := be0.trans (be1.mono be0.size)
  have ha1 := ha.below be
  have hc1 := hc.below be
  have hlen := hc1.len2
  have r0 : ∀ V, Below w1.heap.size w1 V → V.cell? ⟨g0, 0, none⟩ = some va := fun V hV => ((b01.on hV).cell 0).trans rfl
  have r1 : ∀ V, Below w1.heap.size w1 V → V.cell? ⟨g0 + 1, 0, none⟩ = some vc := fun V hV => ((b1.on hV).cell 0).trans rfl
  refine calls_of_args [.agg (lossC va ta oa).toArray, .agg (lossC vc tc oc).toArray] Try.func70 rfl 24 Try.ntmps70 (by show 2 ≤ 24; decide) ?_
  refine EW.seq ?_
  refine EW.region ?_
  refine WL.box rfl rfl rfl hbox ?_
  refine WL.box rfl rfl rfl hbox1 ?_
  first | refine WL.assign rfl rfl rfl ?_
  refine WL.done ?_
  refine EW.on ?_
  refine EW.seq ?_
  refine EW.seq ?_
  refine EW.region ?_
  first | refine WL.assign rfl rfl rfl ?_
  refine WL.done ?_
  refine EW.on ?_
  refine EW.block ?_
  refine EW.loop (skE g0 (g0 + 1)) (fun t w' => t ≤ ks.length ∧ Below w1.heap.size w1 w') (fun t => ks.length - t) 0 [2, 3, 5] rfl ⟨Nat.zero_le _, Below.refl _ _⟩ ?_
  rintro t wr ⟨ht, hbe⟩
  show EW _ _ _ _ [(2, .pointer (some ⟨g0, 0, none⟩)), (3, .pointer (some ⟨g0 + 1, 0, none⟩)), (5, .int .i64 (t : Int))] _
  by_cases hlt : t < ks.length
  · have z1 : (t : Int) < (ks.length : Int) := Int.ofNat_lt.2 hlt
    have tn := tnB t _ hlt (by omega)
    obtain ⟨u, hu⟩ : ∃ u, ks[t]? = some u := ⟨_, List.getElem?_eq_getElem hlt⟩
    have bd : Below w1.heap.size w1 { wr with drawn := wr.drawn + 1 } := hbe.trans ((below_drawn wr).mono hbe.size)
    rcases ha1 with ⟨_, e⟩ | ⟨ad, cap, ea, _, ca⟩
    · rw [e] at hlt; simp at hlt
    rcases hc1 with ⟨_, e⟩ | ⟨bd2, cap2, ec, _, cc⟩
    · rw [e] at hlt; simp at hlt
    rw [ea] at r0
    rw [ec] at r1 hlen
    have q0 : ∀ V, Below w1.heap.size w1 V → V.cell? (ad.add t) = some (wv u) := fun V hV => (hV.cell (cell_lt (ca t u hu))).trans (ca t u hu)
    have q1 : ∀ V, Below w1.heap.size w1 V → V.cell? (bd2.add t) = some (wv u) := fun V hV => (hV.cell (cell_lt (cc t u hu))).trans (cc t u hu)
    refine EW.seq ?_
    refine EW.seq ?_
    refine EW.region ?_
    first | refine WL.move rfl rfl rfl ?_
    refine WL.field rfl rfl rfl (fld38_0 _ _) ?_
    refine WL.load rfl rfl rfl (ld36 (r1 _ hbe)) ?_
    refine WL.len rfl rfl rfl (hlen _ _) ?_
    first | refine WL.bin rfl rfl rfl rfl (int_lt_t ‹_› _ _ _) ?_ | refine WL.bin rfl rfl rfl rfl (int_lt_f ‹_› _ _ _) ?_
    refine WL.done ?_
    refine EW.on ?_
    refine EW.cond_t rfl ?_
    refine EW.skip ?_
    refine EW.on ?_
    refine EW.seq ?_
    refine EW.block ?_
    refine EW.seq ?_
    refine EW.ord [(0, false), (1, false), (2, false), (3, false), (4, false), (5, false), (6, false), (7, false), (8, false), (9, false), (10, false)] (fun V => Below w1.heap.size w1 V) (by kernel_rfl) rfl (by kernel_rfl) bd ?_
    simp only [ordOps, List.getD_cons_zero, List.getD_cons_succ]
    refine OE.field rfl rfl rfl (fun V => fld38_0 _ V) ?_
    refine OE.load rfl rfl rfl (fun V hV => ld36 (r0 V hV)) ?_
    refine OE.move rfl rfl rfl ?_
    refine OE.index rfl rfl rfl rfl (fun V => idx36 ad _ cap t hlt V) ?_
    refine OE.load rfl rfl rfl (fun V hV => ld39 (q0 V hV)) ?_
    refine OE.field rfl rfl rfl (fun V => fld38_0 _ V) ?_
    refine OE.load rfl rfl rfl (fun V hV => ld36 (r1 V hV)) ?_
    refine OE.move rfl rfl rfl ?_
    refine OE.index rfl rfl rfl rfl (fun V => idx36 bd2 _ cap2 t hlt V) ?_
    refine OE.load rfl rfl rfl (fun V hV => ld39 (q1 V hV)) ?_
    refine OE.bin rfl rfl rfl rfl (fun V => ne39_f u V _ _) ?_
    refine fun a ha W5 hW => ?_
    rw [hW]
    revert a ha
    refine EW.on ?_
    refine EW.cond_f rfl ?_
    refine EW.skip ?_
    refine pn_block ?_
    refine EW.on ?_
    refine EW.region ?_
    first | refine WL.move rfl rfl rfl ?_
    first | refine WL.bin rfl rfl rfl rfl (int_add ‹_› _ _ _) ?_
    first | refine WL.assign rfl rfl rfl ?_
    refine WL.done ?_
    exact EW.again (t + 1) [2, 3, 5] rfl ⟨hlt, bd⟩ (by show ks.length - (t + 1) < ks.length - t; omega)
  · have z1 : ¬ (t : Int) < (ks.length : Int) := fun hh => hlt (Int.ofNat_lt.1 hh)
    refine EW.seq ?_
    refine EW.seq ?_
    refine EW.region ?_
    first | refine WL.move rfl rfl rfl ?_
    refine WL.field rfl rfl rfl (fld38_0 _ _) ?_
    refine WL.load rfl rfl rfl (ld36 (r1 _ hbe)) ?_
    refine WL.len rfl rfl rfl (hlen _ _) ?_
    first | refine WL.bin rfl rfl rfl rfl (int_lt_t ‹_› _ _ _) ?_ | refine WL.bin rfl rfl rfl rfl (int_lt_f ‹_› _ _ _) ?_
    refine WL.done ?_
    refine EW.on ?_
    refine EW.cond_f rfl ?_
    refine EW.exit ?_
    repeat refine px_then ?_
    refine px_block ?_
    refine EW.on ?_
    refine EW.seq ?_
    refine EW.region ?_
    first | refine WL.assign rfl rfl rfl ?_
    refine WL.done ?_
    refine EW.on ?_
    refine EW.ret ?_
    repeat (first | refine pr_then ?_ | refine pr_block ?_)
    exact EW.returns Try.results70 rfl ⟨rfl, be.trans (hbe.mono be.size)⟩
theorem tw_past (ks : List (BitVec 64)) (j : Nat) (hj : j < 2) : (tw ks ks.length)[ks.length + j]? = some (.int .u64 0) := by
  unfold tw
  rw [List.take_length, List.getElem?_append_right (by simp), List.length_map, Nat.add_sub_cancel_left, List.getElem?_replicate_of_lt (by omega)]
def spE (g0 n t : Nat) : List (Nat × Value) := [(1, .pointer (some ⟨g0, 0, none⟩)), (3, .int .i64 (n : Int)), (4, .bool true), (5, .int .i64 (t : Int))]
set_option maxRecDepth 100000 in
set_option maxHeartbeats 1000000 in
theorem spoil_law {W : World} (g : Nat) (ks : List (BitVec 64)) (torn off : Int) (hb : Blk W g (tw ks ks.length) 39) (hkl : ks.length ≤ 1000000000) : Calls Try.prog 71 #[.agg (lossC (.slice (some ⟨g, 0, none⟩) ks.length (ks.length + 2)) torn off).toArray] W fun e w' => e = .returned (.bool true) ∧ Fx (fun k => k = g) W w' := by
  obtain ⟨g0, hg0⟩ : ∃ g, W.heap.size = g := ⟨_, rfl⟩
  have hgl := hb.lt
  have hbox := run_boxR (P := Try.prog) 38 (lossC (.slice (some ⟨g, 0, none⟩) ks.length (ks.length + 2)) torn off) W g0 hg0
  have b0 : Blk (W.alloc (.cells (lossC (.slice (some ⟨g, 0, none⟩) ks.length (ks.length + 2)) torn off).toArray 38)) g0 (lossC (.slice (some ⟨g, 0, none⟩) ks.length (ks.length + 2)) torn off) 38 := Blk.newAt hg0
  have be0 : Below W.heap.size W (W.alloc (.cells (lossC (.slice (some ⟨g, 0, none⟩) ks.length (ks.length + 2)) torn off).toArray 38)) := below_new W _
  have hb0 := hb.on be0
  obtain ⟨w0, hw0⟩ : ∃ w0, W.alloc (.cells (lossC (.slice (some ⟨g, 0, none⟩) ks.length (ks.length + 2)) torn off).toArray 38) = w0 := ⟨_, rfl⟩
  rw [hw0] at hbox b0 be0 hb0
  have r0 : ∀ V, Fx (fun k => k = g) w0 V → V.cell? ⟨g0, 0, none⟩ = some (.slice (some ⟨g, 0, none⟩) ks.length (ks.length + 2)) := fun V hV => ((b0.fx hV (fun e => by omega)).cell 0).trans rfl
  have q0 : w0.cell? ⟨g, ks.length, none⟩ = some (.int .u64 0) := (hb0.cell _).trans (tw_past ks 0 (by decide))
  have q1 : w0.cell? ⟨g, ks.length + 1, none⟩ = some (.int .u64 0) := (hb0.cell _).trans (tw_past ks 1 (by decide))
  have a2 : IntKind.i64.wrap ((ks.length : Int) + 2) = ((ks.length + 2 : Nat) : Int) := by rw [IntKind.wrap_i64]; omega
  have a1 : IntKind.i64.wrap ((ks.length : Int) + 1) = ((ks.length + 1 : Nat) : Int) := by rw [IntKind.wrap_i64]; omega
  have hr := r0 w0 (Fx.refl _ _)
  have hlen : ∀ V ty, (Builtin.len_ #[36] ty #[.slice (some ⟨g, 0, none⟩) ks.length (ks.length + 2)]).run Try.prog V = .ok (.int .i64 (ks.length : Int)) V := fun V ty => by go_simp
  have htl : (tw ks ks.length).length = ks.length + 2 := tw_length ks _ (Nat.le_refl _)
  refine calls_of_args [.agg (lossC (.slice (some ⟨g, 0, none⟩) ks.length (ks.length + 2)) torn off).toArray] Try.func71 rfl 40 Try.ntmps71 (by show 1 ≤ 40; decide) ?_
  refine EW.seq ?_
  refine EW.region ?_
  refine WL.box rfl rfl rfl hbox ?_
  first | refine WL.assign rfl rfl rfl ?_
  refine WL.done ?_
  refine EW.on ?_
  refine EW.seq ?_
  refine EW.region ?_
  refine WL.field rfl rfl rfl (fld38_0 _ _) ?_
  refine WL.load rfl rfl rfl (ld36 hr) ?_
  refine WL.len rfl rfl rfl (hlen _ _) ?_
  first | refine WL.assign rfl rfl rfl ?_
  refine WL.done ?_
  refine EW.on ?_
  refine EW.seq ?_
  refine EW.region ?_
  refine WL.field rfl rfl rfl (fld38_0 _ _) ?_
  refine WL.load rfl rfl rfl (ld36 hr) ?_
  first | refine WL.move rfl rfl rfl ?_
  refine WL.bin rfl rfl rfl rfl (int_add a2 _ _ _) ?_
  refine WL.sliceH rfl rfl rfl rfl (sl36h g _ _ _ (Nat.le_refl _) _) ?_
  first | refine WL.move rfl rfl rfl ?_
  refine WL.index rfl rfl rfl rfl (idx36c g _ _ _ (by omega) _) ?_
  refine WL.load rfl rfl rfl (ld39 q0) ?_
  refine WL.bin rfl rfl rfl rfl (eq39z _ _ _) ?_
  first | refine WL.move rfl rfl rfl ?_
  refine WL.field rfl rfl rfl (fld38_0 _ _) ?_
  refine WL.load rfl rfl rfl (ld36 hr) ?_
  first | refine WL.move rfl rfl rfl ?_ | refine WL.skip _ rfl rfl rfl ?_
  refine WL.bin rfl rfl rfl rfl (int_add a2 _ _ _) ?_
  refine WL.sliceH rfl rfl rfl rfl (sl36h g _ _ _ (Nat.le_refl _) _) ?_
  first | refine WL.move rfl rfl rfl ?_ | refine WL.skip _ rfl rfl rfl ?_
  refine WL.bin rfl rfl rfl rfl (int_add a1 _ _ _) ?_
  refine WL.index rfl rfl rfl rfl (idx36c g _ _ _ (by omega) _) ?_
  refine WL.load rfl rfl rfl (ld39 q1) ?_
  refine WL.bin rfl rfl rfl rfl (eq39z _ _ _) ?_
  first | refine WL.pick rfl rfl rfl rfl ?_
  first | refine WL.assign rfl rfl rfl ?_
  refine WL.done ?_
  refine EW.on ?_
  refine EW.seq ?_
  refine EW.seq ?_
  refine EW.region ?_
  first | refine WL.assign rfl rfl rfl ?_
  refine WL.done ?_
  refine EW.on ?_
  refine EW.block ?_
  refine EW.loop (spE g0 ks.length) (fun t w' => t ≤ ks.length ∧ Fx (fun k => k = g) w0 w' ∧ ∃ cs, Blk w' g cs 39 ∧ cs.length = ks.length + 2) (fun t => ks.length - t) 0 [1, 3, 4, 5] rfl ⟨Nat.zero_le _, Fx.refl _ _, _, hb0, htl⟩ ?_
  rintro t wr ⟨ht, hfx, cs, hcs, hcl⟩
  show EW _ _ _ _ [(1, .pointer (some ⟨g0, 0, none⟩)), (3, .int .i64 (ks.length : Int)), (4, .bool true), (5, .int .i64 (t : Int))] _
  by_cases hlt : t < ks.length
  · have z1 : (t : Int) < (ks.length : Int) := Int.ofNat_lt.2 hlt
    have tn := tnB t _ hlt (by omega)
    obtain ⟨u, hu⟩ : ∃ u, cs[t]? = some u := ⟨_, List.getElem?_eq_getElem (by omega)⟩
    have s1 := st39 ((hcs.cell t).trans hu) (hcs.frozen t)
    have f1 : Fx (fun k => k = g) wr (wr.setCell ⟨g, t, none⟩ (.int .u64 6148914691236517205)) := Fx.setCell wr g t _ rfl
    refine EW.seq ?_
    refine EW.seq ?_
    refine EW.region ?_
    first | refine WL.move rfl rfl rfl ?_
    first | refine WL.move rfl rfl rfl ?_
    first | refine WL.bin rfl rfl rfl rfl (int_lt_t ‹_› _ _ _) ?_ | refine WL.bin rfl rfl rfl rfl (int_lt_f ‹_› _ _ _) ?_
    refine WL.done ?_
    refine EW.on ?_
    refine EW.cond_t rfl ?_
    refine EW.skip ?_
    refine EW.on ?_
    refine EW.seq ?_
    refine EW.block ?_
    refine EW.region ?_
    refine WL.field rfl rfl rfl (fld38_0 _ _) ?_
    refine WL.load rfl rfl rfl (ld36 (r0 _ hfx)) ?_
    first | refine WL.move rfl rfl rfl ?_
    refine WL.index rfl rfl rfl rfl (idx36c g _ _ _ hlt _) ?_
    refine WL.store rfl rfl rfl s1 ?_
    refine WL.done ?_
    refine pn_block ?_
    refine EW.on ?_
    refine EW.region ?_
    first | refine WL.move rfl rfl rfl ?_
    first | refine WL.bin rfl rfl rfl rfl (int_add ‹_› _ _ _) ?_
    first | refine WL.assign rfl rfl rfl ?_
    refine WL.done ?_
    exact EW.again (t + 1) [1, 3, 4, 5] rfl ⟨hlt, hfx.and f1, _, hcs.set t _, by rw [List.length_set]; exact hcl⟩ (by show ks.length - (t + 1) < ks.length - t; omega)
  · have z1 : ¬ (t : Int) < (ks.length : Int) := fun hh => hlt (Int.ofNat_lt.1 hh)
    refine EW.seq ?_
    refine EW.seq ?_
    refine EW.region ?_
    first | refine WL.move rfl rfl rfl ?_
    first | refine WL.move rfl rfl rfl ?_
    first | refine WL.bin rfl rfl rfl rfl (int_lt_t ‹_› _ _ _) ?_ | refine WL.bin rfl rfl rfl rfl (int_lt_f ‹_› _ _ _) ?_
    refine WL.done ?_
    refine EW.on ?_
    refine EW.cond_f rfl ?_
    refine EW.exit ?_
    repeat refine px_then ?_
    refine px_block ?_
    refine EW.on ?_
    refine EW.seq ?_
    refine EW.region ?_
    first | refine WL.move rfl rfl rfl ?_
    first | refine WL.assign rfl rfl rfl ?_
    refine WL.done ?_
    refine EW.on ?_
    refine EW.ret ?_
    repeat (first | refine pr_then ?_ | refine pr_block ?_)
    exact EW.returns Try.results71 rfl ⟨rfl, (Fx.of_below be0).and hfx⟩
def armE (D : Dv) (step : Int) : Int := if D.down then 80 else if step < 0 then 4 else 0
def armX (D : Dv) (step : Int) (ks : List (BitVec 64)) (torn off : Int) : Dv := if D.down ∨ step < 0 then D else if step = 0 then armD D 0 [] 0 0 else armD D step.toNat ks torn off
theorem dev_arm {w : World} {L : Lay} {D : Dv} (h : Dev w L D) (step : Int) (v : Value) (ks : List (BitVec 64)) (torn off : Int) (hv : Has64 w v ks) (hvn : ∀ k, v.ownBlock = some k → ¬ L.F k) (hkl : ks.length ≤ 17592186044416) :
    Calls Try.prog 19 #[.pointer (some ⟨L.p, 0, none⟩), .int .i64 step, .agg (lossC v torn off).toArray] w fun e w' => e = .returned (.int .i64 (armE D step)) ∧ ∃ L', Turn w w' L L' ∧ Dev w' L' (armX D step ks torn off) := by
  unfold armE armX
  by_cases hd : D.down = true
  · rw [if_pos hd, if_pos (.inl hd)]
    exact (arm_no h hd step v torn off).mono fun e w' ⟨h1, h2, h3⟩ => ⟨h1, L, h2, h3⟩
  · have hd' : D.down = false := by simpa using hd
    rw [if_neg hd]
    by_cases hs : step < 0
    · rw [if_pos hs, if_pos (.inr hs)]
      exact (arm_neg h hd' step hs v torn off).mono fun e w' ⟨h1, h2, h3⟩ => ⟨h1, L, h2, h3⟩
    · rw [if_neg hs, if_neg (fun e => e.elim hd hs)]
      by_cases h0 : step = 0
      · subst h0
        rw [if_pos rfl]
        exact arm_zero h hd' v torn off
      · rw [if_neg h0]
        obtain ⟨k, hk⟩ : ∃ k : Nat, step = (k : Int) := ⟨step.toNat, (Int.toNat_of_nonneg (by omega)).symm⟩
        subst hk
        rw [Int.toNat_natCast]
        exact arm_ok h hd' k (by omega) v ks torn off hv (fun k hk e => hvn k hk (.inl e)) hkl
theorem ref_arm {w : World} {L : Rl} {D : Dv} (h : RDev w L D) (step : Int) (v : Value) (ks : List (BitVec 64)) (torn off : Int) (hv : Has64 w v ks) (hvn : ∀ k, ks ≠ [] → v.ownBlock = some k → ¬ L.F k) (hkl : ks.length ≤ 100000000) :
    Calls Try.prog 67 #[.pointer (some ⟨L.p, 0, none⟩), .int .i64 step, .agg (lossC v torn off).toArray] w fun e w' => e = .returned (.int .i64 (armE D step)) ∧ ∃ L', RT w w' L L' ∧ RDev w' L' (armX D step ks torn off) := by
  unfold armE armX
  by_cases hd : D.down = true
  · rw [if_pos hd, if_pos (.inl hd)]
    exact (rarm_no h hd step v torn off).mono fun e w' ⟨h1, h2, h3⟩ => ⟨h1, L, h2, h3⟩
  · have hd' : D.down = false := by simpa using hd
    rw [if_neg hd]
    by_cases hs : step < 0
    · rw [if_pos hs, if_pos (.inr hs)]
      exact (rarm_neg h hd' step hs v torn off).mono fun e w' ⟨h1, h2, h3⟩ => ⟨h1, L, h2, h3⟩
    · rw [if_neg hs, if_neg (fun e => e.elim hd hs)]
      obtain ⟨k, hk⟩ : ∃ k : Nat, step = (k : Int) := ⟨step.toNat, (Int.toNat_of_nonneg (by omega)).symm⟩
      subst hk
      have hq := rarm_ok h hd' k v ks torn off hv (fun k hn hk e => hvn k hn hk (.inl e)) hkl
      by_cases h0 : (k : Int) = 0
      · rw [if_pos h0]
        have h0' : k = 0 := by omega
        refine hq.mono fun e w' ⟨h1, L', h2, h3⟩ => ⟨h1, L', h2, h3.fit _ ⟨rfl, rfl, rfl, ?_, rfl, rfl⟩ (fun e => absurd rfl e)⟩
        show 0 = k
        exact h0'.symm
      · rw [if_neg h0, Int.toNat_natCast]
        exact hq
def crX (D : Dv) (ks : List (BitVec 64)) (torn off : Int) : Dv := if D.down then D else crashD D ks torn off
theorem dev_crash {w : World} {L : Lay} {D : Dv} (h : Dev w L D) (v : Value) (ks : List (BitVec 64)) (torn off : Int) (hv : Has64 w v ks) (hvn : ∀ k, v.ownBlock = some k → ¬ L.F k) :
    Calls Try.prog 15 #[.pointer (some ⟨L.p, 0, none⟩), .agg (lossC v torn off).toArray] w fun e w' => e = .returned (.int .i64 (crashE D)) ∧ ∃ L', Turn w w' L L' ∧ Dev w' L' (crX D ks torn off) := by
  unfold crashE crX
  by_cases hd : D.down = true
  · rw [if_pos hd, if_pos hd]
    exact (crash_no h hd v torn off).mono fun e w' ⟨h1, h2, h3⟩ => ⟨h1, L, h2, h3⟩
  · rw [if_neg hd, if_neg hd]
    exact (crash_any h (by simpa using hd) v ks torn off hv (fun k hk e => hvn k hk (.inr (.inl e)))).mono fun e w' ⟨h1, h2, h3⟩ => ⟨h1, _, h2, h3⟩
theorem ref_crash {w : World} {L : Rl} {D : Dv} (h : RDev w L D) (v : Value) (ks : List (BitVec 64)) (torn off : Int) (hv : Has64 w v ks) (hvn : ∀ k, ks ≠ [] → v.ownBlock = some k → ¬ L.F k) :
    Calls Try.prog 68 #[.pointer (some ⟨L.p, 0, none⟩), .agg (lossC v torn off).toArray] w fun e w' => e = .returned (.int .i64 (crashE D)) ∧ ∃ L', RT w w' L L' ∧ RDev w' L' (crX D ks torn off) := by
  unfold crashE crX
  by_cases hd : D.down = true
  · rw [if_pos hd, if_pos hd]
    exact (rcrash_no h hd v torn off).mono fun e w' ⟨h1, h2, h3⟩ => ⟨h1, L, h2, h3⟩
  · rw [if_neg hd, if_neg hd]
    exact (rcrash_ok h (by simpa using hd) v ks torn off hv (fun k hn hk e => hvn k hn hk (.inr (.inl e)))).mono fun e w' ⟨h1, h2, h3⟩ => ⟨h1, _, h2, h3⟩
end Go.Proofs.Ythfcabhelldokaa
