import Derived.Test.YtnakeieeopbeiaaGf
set_option linter.unusedVariables false
set_option linter.unusedSimpArgs false
namespace Go.Proofs.Ytnakeieeopbeiaa
open Go.RowKit

structure Nm (a : List Nat) : Prop where
  ln : a.length = 16
  dg : ∀ j, a.getD j 0 < 65536
theorem numD_nm (V : Nat) : Nm (numD V) := ⟨numD_length V, numD_dig V⟩
theorem minD_nm {a b : List Nat} (ha : Nm a) (hb : Nm b) : Nm (minD a b 16) := ⟨by rw [minD_length]; exact ha.ln, minD_digits ha.dg hb.dg 16⟩
theorem primeD_nm : Nm primeD := ⟨primeD_length, primeD_dig⟩
theorem Nm.nv {a : List Nat} (h : Nm a) : nV a = dpre a 16 := by unfold nV; rw [h.ln]
theorem box49 (l : List Nat) (w : World) : (Instr.box 49 (.agg (dv l).toArray)).run Try.prog w = .ok (.pointer (some ⟨w.heap.size, 0, none⟩)) (w.alloc (.cells (dv l).toArray 49)) := run_boxR 49 (dv l) w w.heap.size rfl
def sumL (a b : List Nat) (t : Nat) : List Nat := (List.range t).map fun j => a.getD j 0 + b.getD j 0
theorem sumL_length (a b : List Nat) (t : Nat) : (sumL a b t).length = t := by simp [sumL]
theorem sumL_next (a b : List Nat) (t : Nat) : sumL a b t ++ [a.getD t 0 + b.getD t 0] = sumL a b (t + 1) := by simp [sumL, List.range_succ]
theorem sumL_getD (a b : List Nat) (t j : Nat) (h : j < t) : (sumL a b t).getD j 0 = a.getD j 0 + b.getD j 0 := by
  rw [List.getD_eq_getElem?_getD]
  simp [sumL, h]
theorem sumL_val (a b : List Nat) (n : Nat) : ∀ t, t ≤ n → dpre (sumL a b n) t = dpre a t + dpre b t
  | 0, _ => rfl
  | t + 1, h => by
    rw [dpre, dpre, dpre, sumL_val a b n t (by omega), sumL_getD a b n t (by omega), Nat.add_mul]
    omega
theorem sumL_dig {a b : List Nat} (ha : ∀ j, a.getD j 0 < 65536) (hb : ∀ j, b.getD j 0 < 65536) (t j : Nat) : (sumL a b t).getD j 0 < 1125899906842624 := by
  rcases Nat.lt_or_ge j t with h | h
  · rw [sumL_getD a b t j h]
    have := ha j
    have := hb j
    omega
  · rw [getD_past (by rw [sumL_length]; exact h)]; decide
/-- One digit more; the blocks it leaves. -/
theorem push78b (w : World) (v : Value) (ds : List Nat) (hown : w.ownsRow 0 3 1 v ds.length (dv ds)) (d : Nat) (hl : ds.length ≤ 1000) (ty : TypeId) :
    ∃ w1 ao l c w2, (Instr.buildSlice 78 1 #[(0, .int .i64 (d : Int))]).run Try.prog w = .ok (.slice (some ⟨w.heap.size, 0, none⟩) 1 1) w1 ∧ (Builtin.append_ #[78, 78] ty #[v, .slice (some ⟨w.heap.size, 0, none⟩) 1 1]).run Try.prog w1 = .ok (.slice ao l c) w2 ∧ w2.ownsRow 0 3 1 (.slice ao l c) (ds ++ [d]).length (dv (ds ++ [d])) ∧ Fx (fun k => v.ownBlock = some k) w w2 ∧ (∀ k, Value.ownBlock (.slice ao l c) = some k → v.ownBlock = some k ∨ w.heap.size ≤ k) ∧ Below w.heap.size w w1 := by
  obtain ⟨w1, ao, l, c, w2, h1, h2, h3, h4, h5⟩ := push78 w v ds hown d hl ty
  refine ⟨w1, ao, l, c, w2, h1, h2, h3, h4, h5, ?_⟩
  have := bs78 (d : Int) w
  rw [h1] at this
  injection this with _ e
  rw [e]; exact below_new _ _
def adL (n : Nat) (y : Nat × Value) : List (Nat × Value) := [(2, .pointer (some ⟨n, 0, none⟩)), (3, .pointer (some ⟨n + 1, 0, none⟩)), (4, .pointer (some ⟨n + 2, 0, none⟩)), (5, y.2), (6, .int .i64 (y.1 : Int))]
def AdL (n : Nat) (a b : List Nat) (w : World) (y : Nat × Value) (w' : World) : Prop := y.1 ≤ 16 ∧ Blk w' n (dv a) 49 ∧ Blk w' (n + 1) (dv b) 49 ∧ Blk w' (n + 2) (dv z16) 49 ∧ w'.ownsRow 0 3 1 y.2 (sumL a b y.1).length (dv (sumL a b y.1)) ∧ (∀ k, y.2.ownBlock = some k → n + 3 ≤ k) ∧ Below n w w'
theorem three {w : World} (a b : List Nat) : ∃ w1 w2 w3, (Instr.box 49 (.agg (dv a).toArray)).run Try.prog w = .ok (.pointer (some ⟨w.heap.size, 0, none⟩)) w1 ∧ (Instr.box 49 (.agg (dv b).toArray)).run Try.prog w1 = .ok (.pointer (some ⟨w.heap.size + 1, 0, none⟩)) w2 ∧ (Instr.alloc 49 true (.tuple #[])).run Try.prog w2 = .ok (.pointer (some ⟨w.heap.size + 2, 0, none⟩)) w3 ∧ Blk w3 w.heap.size (dv a) 49 ∧ Blk w3 (w.heap.size + 1) (dv b) 49 ∧ Blk w3 (w.heap.size + 2) (dv z16) 49 ∧ w3.heap.size = w.heap.size + 3 ∧ Below w.heap.size w w3 := by
  obtain ⟨w1, hw1⟩ : ∃ w1, w.alloc (.cells (dv a).toArray 49) = w1 := ⟨_, rfl⟩
  have s1 : w1.heap.size = w.heap.size + 1 := by rw [← hw1]; simp
  have b1 : Blk w1 w.heap.size (dv a) 49 := by rw [← hw1]; exact Blk.new _ _ _
  have e1 : Below w.heap.size w w1 := by rw [← hw1]; exact below_new _ _
  obtain ⟨w2, hw2⟩ : ∃ w2, w1.alloc (.cells (dv b).toArray 49) = w2 := ⟨_, rfl⟩
  have s2 : w2.heap.size = w.heap.size + 2 := by rw [← hw2]; simp [s1]
  have b2 : Blk w2 w1.heap.size (dv b) 49 := by rw [← hw2]; exact Blk.new _ _ _
  have e2 : Below w1.heap.size w1 w2 := by rw [← hw2]; exact below_new _ _
  obtain ⟨w3, hw3⟩ : ∃ w3, w2.alloc (.cells (dv z16).toArray 49) = w3 := ⟨_, rfl⟩
  have s3 : w3.heap.size = w.heap.size + 3 := by rw [← hw3]; simp [s2]
  have b3 : Blk w3 w2.heap.size (dv z16) 49 := by rw [← hw3]; exact Blk.new _ _ _
  have e3 : Below w2.heap.size w2 w3 := by rw [← hw3]; exact below_new _ _
  have r1 := box49 a w
  have r2 := box49 b w1
  have r3 := new49 w2
  rw [hw1] at r1
  rw [hw2] at r2
  rw [hw3] at r3
  have c1 := (b1.on e2).on e3
  have c2 := b2.on e3
  have e4 : Below w.heap.size w w3 := (e1.trans (e2.mono (by omega))).trans (e3.mono (by omega))
  rw [s1] at r2 c2
  rw [s2] at r3 b3
  exact ⟨w1, w2, w3, r1, r2, r3, c1, c2, b3, s3, e4⟩
set_option maxRecDepth 100000 in
set_option maxHeartbeats 1000000 in
theorem add_num (a b : List Nat) (ha : Nm a) (hb : Nm b) (w : World) : Calls Try.prog 39 #[.agg (dv a).toArray, .agg (dv b).toArray] w fun e w' => e = .returned (.agg (dv (numD ((dpre a 16 + dpre b 16) % PP))).toArray) ∧ Below w.heap.size w w' := by
  obtain ⟨w1, w2, w3, r1, r2, r3, ba, bb, bz, hs3, be3⟩ := three (w := w) a b
  obtain ⟨n, hn⟩ : ∃ n, w.heap.size = n := ⟨_, rfl⟩
  rw [hn] at r1 r2 r3 ba bb bz hs3 be3
  rw [hn]
  refine calls_of_args [.agg (dv a).toArray, .agg (dv b).toArray] Try.func39 rfl 23 Try.ntmps39 (by show 2 ≤ 23; decide) ?_
  refine EW.seq ?_
  refine EW.region ?_
  refine WL.box rfl rfl rfl r1 ?_
  refine WL.box rfl rfl rfl r2 ?_
  refine WL.new rfl rfl r3 ?_
  refine WL.done ?_
  refine EW.on ?_
  refine EW.seq ?_
  refine EW.region ?_
  first | refine WL.assign rfl rfl rfl ?_
  refine WL.done ?_
  refine EW.on ?_
  refine EW.seq ?_
  refine EW.seq ?_
  refine EW.region ?_
  first | refine WL.assign rfl rfl rfl ?_
  refine WL.done ?_
  refine EW.on ?_
  refine EW.block ?_
  refine EW.loop (adL n) (AdL n a b w) (fun y => 16 - y.1) (0, .slice none 0 0) [2, 3, 4, 5, 6] rfl ⟨by decide, ba, bb, bz, World.ownsRow_nil _ _ _ _, fun k hk => by simp [Value.ownBlock] at hk, be3⟩ ?_
  clear r1 r2 r3 ba bb bz be3 hs3
  rintro ⟨t, x⟩ wr ⟨ht, ba, bb, bz, ho, hnb, hbe⟩
  have ht : t ≤ 16 := ht
  have ho : wr.ownsRow 0 3 1 x (sumL a b t).length (dv (sumL a b t)) := ho
  have hnb : ∀ k, x.ownBlock = some k → n + 3 ≤ k := hnb
  have hzl := bz.lt
  have hsl := sumL_length a b t
  show EW _ _ _ _ [(2, .pointer (some ⟨n, 0, none⟩)), (3, .pointer (some ⟨n + 1, 0, none⟩)), (4, .pointer (some ⟨n + 2, 0, none⟩)), (5, x), (6, .int .i64 (t : Int))] _
  by_cases h1 : t < 16
  · have z1 : (t : Int) < 16 := by omega
    have tn := tnD t (by omega)
    have hla := ha.ln
    have hlb := hb.ln
    have hda := ha.dg t
    have hdb := hb.dg t
    have had := waddN (a.getD t 0) (b.getD t 0) (by omega)
    obtain ⟨wd, hwd⟩ : ∃ wd, { wr with drawn := wr.drawn + 1 } = wd := ⟨_, rfl⟩
    have bed : Below wr.heap.size wr wd := by rw [← hwd]; exact below_drawn wr
    have bad := ba.on bed
    have bbd := bb.on bed
    have bzd := bz.on bed
    have hbed := hbe.trans (bed.mono (by omega))
    have hsd := bed.size
    have hod := ownsRow_fx ho (Fx.of_below (S := fun _ => False) bed) (fun _ _ s => s)
    obtain ⟨w1, ao, l, c, w2, hbs, hap, hown2, hfx, hnw, hb1⟩ := push78b wd x (sumL a b t) hod (a.getD t 0 + b.getD t 0) (by omega) 78
    have hs1 := hb1.size
    have hs2 := hfx.size
    rw [sumL_next] at hown2
    have hS : ∀ {V : World}, Blk V n (dv a) 49 → Blk V (n + 1) (dv b) 49 → V.cell? ⟨n, t, none⟩ = some (.int .i64 ((a.getD t 0 : Nat) : Int)) ∧ V.cell? ⟨n + 1, t, none⟩ = some (.int .i64 ((b.getD t 0 : Nat) : Int)) := fun h1 h2 => ⟨(h1.cell t).trans (dv_at _ t (by omega)), (h2.cell t).trans (dv_at _ t (by omega))⟩
    have ba2 := bad.fx hfx (fun e => by have := hnb _ e; omega)
    have bb2 := bbd.fx hfx (fun e => by have := hnb _ e; omega)
    have bz2 := bzd.fx hfx (fun e => by have := hnb _ e; omega)
    refine EW.seq ?_
    refine EW.seq ?_
    refine EW.region ?_
    first | refine WL.move rfl rfl rfl ?_
    refine WL.bin rfl rfl rfl rfl (int_lt_t z1 _ _ _) ?_
    refine WL.done ?_
    refine EW.on ?_
    refine EW.cond_t rfl ?_
    refine EW.skip ?_
    refine EW.on ?_
    refine EW.seq ?_
    refine EW.block ?_
    refine EW.chain 8 2 1 (fun V => V.cell? ⟨n, t, none⟩ = some (.int .i64 ((a.getD t 0 : Nat) : Int)) ∧ V.cell? ⟨n + 1, t, none⟩ = some (.int .i64 ((b.getD t 0 : Nat) : Int))) (by kernel_rfl) rfl (by kernel_rfl) (by rw [hwd]; exact hS bad bbd) (by kernel_rfl) ?_
    rw [hwd]
    simp only [List.take_succ_cons, List.take_zero, List.drop_succ_cons, List.drop_zero, List.map_cons, List.map_nil, List.cons_append, List.nil_append, List.append_nil]
    refine OE.move rfl rfl rfl ?_
    refine OE.move rfl rfl rfl ?_
    refine OE.index rfl rfl rfl rfl (fun V => idx49 n t h1 V) ?_
    refine OE.load rfl rfl rfl (fun V hV => ld3 hV.1) ?_
    refine OE.move rfl rfl rfl ?_
    refine OE.index rfl rfl rfl rfl (fun V => idx49 (n + 1) t h1 V) ?_
    refine OE.load rfl rfl rfl (fun V hV => ld3 hV.2) ?_
    refine OE.bin rfl rfl rfl rfl (fun V => int_add had V _ _) ?_
    refine OE.bsl (fun V => V.cell? ⟨n, t, none⟩ = some (.int .i64 ((a.getD t 0 : Nat) : Int)) ∧ V.cell? ⟨n + 1, t, none⟩ = some (.int .i64 ((b.getD t 0 : Nat) : Int))) rfl rfl (hS (bad.on hb1) (bbd.on hb1)) (fun V h => h) rfl hbs ?_
    refine OE.app (fun V => V.cell? ⟨n, t, none⟩ = some (.int .i64 ((a.getD t 0 : Nat) : Int)) ∧ V.cell? ⟨n + 1, t, none⟩ = some (.int .i64 ((b.getD t 0 : Nat) : Int))) rfl rfl (hS ba2 bb2) (fun V h => h) rfl rfl hap ?_
    refine fun W5 hW => ?_
    rw [hW]
    refine WL.assign rfl rfl rfl ?_
    refine WL.done ?_
    refine pn_block ?_
    refine EW.on ?_
    refine EW.region ?_
    first | refine WL.move rfl rfl rfl ?_
    first | refine WL.bin rfl rfl rfl rfl (int_add ‹_› _ _ _) ?_
    first | refine WL.assign rfl rfl rfl ?_
    refine WL.done ?_
    refine EW.again (E := adL n) (R := AdL n a b w) (m := fun y => 16 - y.1) (x := (t, x)) (t + 1, .slice ao l c) [2, 3, 4, 5, 6] rfl ⟨by show t + 1 ≤ 16; omega, ba2, bb2, bz2, hown2, fun k hk => ?_, hbed.trans (hfx.below (fun k hk e => by have := hnb _ e; omega) (by omega))⟩ (by show 16 - (t + 1) < 16 - t; omega)
    rcases hnw k hk with e | e
    · exact hnb k e
    · omega
  · have z1 : ¬ (t : Int) < 16 := by omega
    obtain rfl : t = 16 := by omega
    have hred := reduced_law x (sumL a b 16) wr (own_dig ho (by omega)) (by omega) (by omega) (sumL_dig ha.dg hb.dg 16)
    have hval : nV (sumL a b 16) = dpre a 16 + dpre b 16 := by unfold nV; rw [hsl]; exact sumL_val a b 16 16 (Nat.le_refl _)
    rw [hval] at hred
    refine EW.seq ?_
    refine EW.seq ?_
    refine EW.region ?_
    first | refine WL.move rfl rfl rfl ?_
    refine WL.bin rfl rfl rfl rfl (int_lt_f z1 _ _ _) ?_
    refine WL.done ?_
    refine EW.on ?_
    refine EW.cond_f rfl ?_
    refine EW.exit ?_
    repeat refine px_then ?_
    refine px_block ?_
    refine EW.on ?_
    refine EW.seq ?_
    refine EW.region ?_
    first | refine WL.move rfl rfl rfl ?_
    refine WL.call [x] enter46 rfl rfl rfl hred ?_
    rintro x w5 ⟨rfl, hb5⟩
    refine ⟨_, rfl, ?_⟩
    refine WL.store rfl rfl rfl (st49 z16_length (numD_length _) (bz.on hb5)) ?_
    refine WL.done ?_
    refine EW.on ?_
    refine EW.ret ?_
    repeat (first | refine pr_then ?_ | refine pr_block ?_)
    exact EW.returnsC Try.results39 rfl ((bz.on hb5).setRow (dv (numD ((dpre a 16 + dpre b 16) % PP)))) Try.underlying49 rfl (info49 (numD_length _)) ⟨rfl, below_setRow (hbe.trans (hb5.mono (by omega))) (n + 2) _ (by omega)⟩
end Go.Proofs.Ytnakeieeopbeiaa
