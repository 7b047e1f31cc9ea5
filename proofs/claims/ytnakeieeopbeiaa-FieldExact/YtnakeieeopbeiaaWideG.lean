import Derived.Test.YtnakeieeopbeiaaGh
import Derived.Test.YtnakeieeopbeiaaUniG
import Derived.Deep.RegionHeld3
import Derived.Handy
set_option linter.unusedVariables false
set_option linter.unusedSimpArgs false
namespace Go.Proofs.Ytnakeieeopbeiaa
open Go.RowKit

def zd32 : List Nat := List.replicate 32 0
theorem mk32 (w : World) : (Instr.makeSlice 78 (.int .i64 32) (.int .i64 32)).run Try.prog w = .ok (.slice (some ⟨w.heap.size, 0, none⟩) 32 32) (w.alloc (.cells (dv zd32).toArray 3)) := by kernel_rfl
theorem dig32 {W : World} {g : Nat} {l : List Nat} (hl : l.length = 32) (hb : Blk W g (dv l) 3) : Dig W (.slice (some ⟨g, 0, none⟩) 32 32) l := ⟨g, 32, by rw [hl], by omega, hb.lt, fun i hi => (hb.cell i).trans (dv_at l i hi)⟩
theorem addD_in {l : List Nat} {i : Nat} (v : Nat) (h : i < l.length) : addD l i v = l.set i (l.getD i 0 + v) := by
  unfold addD
  rw [show i + 1 - l.length = 0 by omega]; simp
theorem zd32_getD (j : Nat) : zd32.getD j 0 = 0 := by
  rw [List.getD_eq_getElem?_getD, zd32, List.getElem?_replicate]
  split <;> rfl
theorem dpre_zero {l : List Nat} (h : ∀ j, l.getD j 0 = 0) : ∀ t, dpre l t = 0
  | 0 => rfl
  | t + 1 => by rw [dpre, dpre_zero h t, h t]; simp
theorem mul_lt16 {a b : Nat} (ha : a < 65536) (hb : b < 65536) : a * b ≤ 4294836225 := Nat.mul_le_mul (show a ≤ 65535 by omega) (show b ≤ 65535 by omega)
theorem wmulN (a b : Nat) (h : a * b ≤ 4294836225) : IntKind.i64.wrap ((a : Int) * (b : Int)) = ((a * b : Nat) : Int) := by
  rw [← Int.natCast_mul]
  generalize a * b = c at h ⊢
  rw [IntKind.wrap_i64]; omega
structure MuD (a b : List Nat) (i k : Nat) (d : List Nat) : Prop where
  ln : d.length = 32
  vl : nV d = dpre a i * dpre b 16 + a.getD i 0 * 65536 ^ i * dpre b k
  dg : ∀ j, d.getD j 0 ≤ (i * 16 + k) * 4294836225
theorem mu_key (A x P D y K : Nat) : A + x * P * D + x * y * (P * K) = A + x * P * (D + y * K) := by
  rw [Nat.mul_add, Nat.add_assoc]
  congr 2
  simp only [Nat.mul_comm, Nat.mul_left_comm]
theorem mu_dg {x n v M : Nat} (h : x ≤ n * M) (hv : v ≤ M) : x + v ≤ (n + 1) * M := by rw [Nat.add_mul, Nat.one_mul]; exact Nat.add_le_add h hv
theorem dpre_0 (l : List Nat) : dpre l 0 = 0 := rfl
theorem dpre_s (l : List Nat) (t : Nat) : dpre l (t + 1) = dpre l t + l.getD t 0 * 65536 ^ t := rfl
theorem MuD.begin (a b : List Nat) : MuD a b 0 0 zd32 := ⟨by simp [zd32], by unfold nV; rw [dpre_zero zd32_getD, dpre_0, dpre_0, Nat.zero_mul, Nat.mul_zero], fun j => by rw [zd32_getD]; exact Nat.zero_le _⟩
theorem MuD.step {a b d : List Nat} {i k : Nat} (ha : Nm a) (hb : Nm b) (hi : i < 16) (hk : k < 16) (h : MuD a b i k d) : MuD a b i (k + 1) (d.set (i + k) (d.getD (i + k) 0 + a.getD i 0 * b.getD k 0)) := by
  have hl := h.ln
  have e := addD_in (l := d) (i := i + k) (a.getD i 0 * b.getD k 0) (by omega)
  have hm := mul_lt16 (ha.dg i) (hb.dg k)
  rw [← e]
  refine ⟨by rw [addD_length]; omega, ?_, fun j => ?_⟩
  · rw [nV_add, h.vl, dpre_s b k, Nat.pow_add]
    exact mu_key _ _ _ _ _ _
  · rw [addD_getD, ← Nat.add_assoc]
    refine mu_dg (h.dg j) ?_
    split
    · exact hm
    · exact Nat.zero_le _
theorem MuD.next {a b d : List Nat} {i : Nat} (h : MuD a b i 16 d) : MuD a b (i + 1) 0 d := ⟨h.ln, by rw [h.vl, dpre_s a i, Nat.add_mul, dpre_0, Nat.mul_zero, Nat.add_zero], fun j => by rw [show (i + 1) * 16 + 0 = i * 16 + 16 by omega]; exact h.dg j⟩
theorem mu_small {x : Nat} {i k : Nat} (hi : i ≤ 16) (hk : k ≤ 16) (h : x ≤ (i * 16 + k) * 4294836225) : x < 1125899906842624 - 4294836225 := by
  have : (i * 16 + k) * 4294836225 ≤ (16 * 16 + 16) * 4294836225 := Nat.mul_le_mul_right _ (by omega)
  exact Nat.lt_of_le_of_lt (Nat.le_trans h this) (by decide)
def muE (n : Nat) (y : Nat × List Nat) : List (Nat × Value) := [(2, .pointer (some ⟨n, 0, none⟩)), (3, .pointer (some ⟨n + 1, 0, none⟩)), (4, .pointer (some ⟨n + 2, 0, none⟩)), (5, .slice (some ⟨n + 3, 0, none⟩) 32 32), (6, .int .i64 (y.1 : Int))]
def MuR (n : Nat) (a b : List Nat) (w : World) (y : Nat × List Nat) (w' : World) : Prop := y.1 ≤ 16 ∧ MuD a b y.1 0 y.2 ∧ Blk w' n (dv a) 49 ∧ Blk w' (n + 1) (dv b) 49 ∧ Blk w' (n + 2) (dv z16) 49 ∧ Blk w' (n + 3) (dv y.2) 3 ∧ Below n w w'
def mkE (n i : Nat) (y : Nat × List Nat) : List (Nat × Value) := [(2, .pointer (some ⟨n, 0, none⟩)), (3, .pointer (some ⟨n + 1, 0, none⟩)), (4, .pointer (some ⟨n + 2, 0, none⟩)), (5, .slice (some ⟨n + 3, 0, none⟩) 32 32), (6, .int .i64 (i : Int)), (7, .int .i64 (y.1 : Int))]
def MkR (n i : Nat) (a b : List Nat) (w : World) (y : Nat × List Nat) (w' : World) : Prop := y.1 ≤ 16 ∧ MuD a b i y.1 y.2 ∧ Blk w' n (dv a) 49 ∧ Blk w' (n + 1) (dv b) 49 ∧ Blk w' (n + 2) (dv z16) 49 ∧ Blk w' (n + 3) (dv y.2) 3 ∧ Below n w w'
set_option maxRecDepth 100000 in
set_option maxHeartbeats 1000000 in
theorem mul_num (a b : List Nat) (ha : Nm a) (hb : Nm b) (w : World) : Calls Try.prog 41 #[.agg (dv a).toArray, .agg (dv b).toArray] w fun e w' => e = .returned (.agg (dv (numD ((dpre a 16 * dpre b 16) % PP))).toArray) ∧ Below w.heap.size w w' := by
  obtain ⟨w1, w2, w3, r1, r2, r3, ba, bb, bz, hs3, be3⟩ := three (w := w) a b
  obtain ⟨n, hn⟩ : ∃ n, w.heap.size = n := ⟨_, rfl⟩
  rw [hn] at r1 r2 r3 ba bb bz hs3 be3
  rw [hn]
  obtain ⟨w4, hw4⟩ : ∃ w4, w3.alloc (.cells (dv zd32).toArray 3) = w4 := ⟨_, rfl⟩
  have bd : Blk w4 w3.heap.size (dv zd32) 3 := by rw [← hw4]; exact Blk.new _ _ _
  have e4 : Below w3.heap.size w3 w4 := by rw [← hw4]; exact below_new _ _
  have r4 := mk32 w3
  rw [hw4] at r4
  have ba4 := ba.on e4
  have bb4 := bb.on e4
  have bz4 := bz.on e4
  have be4 := be3.trans (e4.mono (by omega))
  rw [hs3] at r4 bd
  refine calls_of_args [.agg (dv a).toArray, .agg (dv b).toArray] Try.func41 rfl 38 Try.ntmps41 (by show 2 ≤ 38; decide) ?_
  refine EW.seq ?_
  refine EW.region ?_
  refine WL.box rfl rfl rfl r1 ?_
  refine WL.box rfl rfl rfl r2 ?_
  refine WL.new rfl rfl r3 ?_
  refine WL.done ?_
  refine EW.on ?_
  refine EW.seq ?_
  refine EW.region ?_
  refine WL.mks rfl rfl rfl rfl r4 ?_
  first | refine WL.assign rfl rfl rfl ?_
  refine WL.done ?_
  refine EW.on ?_
  refine EW.seq ?_
  refine EW.seq ?_
  refine EW.region ?_
  first | refine WL.assign rfl rfl rfl ?_
  refine WL.done ?_
  refine EW.on ?_
  refine EW.block ?_
  refine EW.loop (muE n) (MuR n a b w) (fun y => 16 - y.1) (0, zd32) [2, 3, 4, 5, 6] rfl ⟨by decide, MuD.begin a b, ba4, bb4, bz4, bd, be4⟩ ?_
  clear r1 r2 r3 r4 ba bb bz be3 hs3 ba4 bb4 bz4 bd be4 e4 hw4
  rintro ⟨i, d⟩ wr ⟨hi, hD, ba, bb, bz, bd, hbe⟩
  have hi : i ≤ 16 := hi
  have hD : MuD a b i 0 d := hD
  have bd : Blk wr (n + 3) (dv d) 3 := bd
  show EW _ _ _ _ [(2, .pointer (some ⟨n, 0, none⟩)), (3, .pointer (some ⟨n + 1, 0, none⟩)), (4, .pointer (some ⟨n + 2, 0, none⟩)), (5, .slice (some ⟨n + 3, 0, none⟩) 32 32), (6, .int .i64 (i : Int))] _
  by_cases h1 : i < 16
  · have z1 : (i : Int) < 16 := by omega
    have tn := tnD i (by omega)
    refine EW.seq ?_
    refine EW.seq ?_
    refine EW.region ?_
    first | refine WL.move rfl rfl rfl ?_
    refine WL.bin rfl rfl rfl rfl (int_lt_t z1 _ _ _) ?_
    refine WL.done ?_
    refine EW.on ?_
    refine EW.cond_t rfl ?_
    refine EW.skip ?_
    refine EW.on ?_
    refine EW.seq ?_
    refine EW.block ?_
    refine EW.seq ?_
    refine EW.region ?_
    first | refine WL.assign rfl rfl rfl ?_
    refine WL.done ?_
    refine EW.on ?_
    refine EW.block ?_
    refine EW.loop (mkE n i) (MkR n i a b w) (fun y => 16 - y.1) (0, d) [2, 3, 4, 5, 6, 7] rfl ⟨Nat.zero_le _, hD, ba, bb, bz, bd, hbe⟩ ?_
    clear ba bb bz bd hbe hD
    rintro ⟨k, c⟩ wq ⟨hk, hD, ba, bb, bz, bd, hbe⟩
    have hk : k ≤ 16 := hk
    have hD : MuD a b i k c := hD
    have bd : Blk wq (n + 3) (dv c) 3 := bd
    have hcl := hD.ln
    have hdl := bd.lt
    show EW _ _ _ _ [(2, .pointer (some ⟨n, 0, none⟩)), (3, .pointer (some ⟨n + 1, 0, none⟩)), (4, .pointer (some ⟨n + 2, 0, none⟩)), (5, .slice (some ⟨n + 3, 0, none⟩) 32 32), (6, .int .i64 (i : Int)), (7, .int .i64 (k : Int))] _
    by_cases h2 : k < 16
    · have z2 : (k : Int) < 16 := by omega
      have tk := tnD k (by omega)
      have hla := ha.ln
      have hlb := hb.ln
      have hm := mul_lt16 (ha.dg i) (hb.dg k)
      have hcd := mu_small hi hk (hD.dg (i + k))
      have hmw := wmulN (a.getD i 0) (b.getD k 0) hm
      have hst0 := hD.step ha hb h1 h2
      obtain ⟨X, hX⟩ : ∃ X, a.getD i 0 * b.getD k 0 = X := ⟨_, rfl⟩
      rw [hX] at hm hmw hst0
      have had1 := waddN i k (by omega)
      have had2 := waddN (c.getD (i + k) 0) X (by omega)
      obtain ⟨wd, hwd⟩ : ∃ wd, { wq with drawn := wq.drawn + 1 } = wd := ⟨_, rfl⟩
      have bed : Below wq.heap.size wq wd := by rw [← hwd]; exact below_drawn wq
      have bad := ba.on bed
      have bbd := bb.on bed
      have bzd := bz.on bed
      have bdd := bd.on bed
      have hbed := hbe.trans (bed.mono (by omega))
      have hsd := bed.size
      have ca : wd.cell? ⟨n, i, none⟩ = some (.int .i64 ((a.getD i 0 : Nat) : Int)) := (bad.cell i).trans (dv_at _ i (by omega))
      have cb : wd.cell? ⟨n + 1, k, none⟩ = some (.int .i64 ((b.getD k 0 : Nat) : Int)) := (bbd.cell k).trans (dv_at _ k (by omega))
      have cc : wd.cell? ⟨n + 3, i + k, none⟩ = some (.int .i64 ((c.getD (i + k) 0 : Nat) : Int)) := (bdd.cell (i + k)).trans (dv_at _ (i + k) (by omega))
      have hix : ∀ V, (Instr.indexAt 78 (.slice (some ⟨n + 3, 0, none⟩) 32 32) (.int .i64 ((i + k : Nat) : Int))).run Try.prog V = .ok (.pointer (some ⟨n + 3, i + k, none⟩)) V := fun V => idx78 (n + 3) 32 32 (i + k) (by omega) V
      have hst := st3 (z := ((c.getD (i + k) 0 + X : Nat) : Int)) cc (bdd.frozen (i + k))
      have bd4 := bdd.set (i + k) (.int .i64 ((c.getD (i + k) 0 + X : Nat) : Int))
      rw [dv_set] at bd4
      have be4 := hbed.trans ((Fx.setCell (S := fun k => k = n + 3) wd (n + 3) (i + k) (.int .i64 ((c.getD (i + k) 0 + X : Nat) : Int)) rfl).below (B := n) (fun k hk e => by omega) (by omega))
      refine EW.seq ?_
      refine EW.seq ?_
      refine EW.region ?_
      first | refine WL.move rfl rfl rfl ?_
      refine WL.bin rfl rfl rfl rfl (int_lt_t z2 _ _ _) ?_
      refine WL.done ?_
      refine EW.on ?_
      refine EW.cond_t rfl ?_
      refine EW.skip ?_
      refine EW.on ?_
      refine EW.seq ?_
      refine EW.block ?_
      refine EW.chain 18 0 2 (fun V => V.cell? ⟨n, i, none⟩ = some (.int .i64 ((a.getD i 0 : Nat) : Int)) ∧ V.cell? ⟨n + 1, k, none⟩ = some (.int .i64 ((b.getD k 0 : Nat) : Int)) ∧ V.cell? ⟨n + 3, i + k, none⟩ = some (.int .i64 ((c.getD (i + k) 0 : Nat) : Int))) (by kernel_rfl) rfl (by kernel_rfl) (by rw [hwd]; exact ⟨ca, cb, cc⟩) (by kernel_rfl) ?_
      rw [hwd]
      simp only [List.take_succ_cons, List.take_zero, List.drop_succ_cons, List.drop_zero, List.map_cons, List.map_nil, List.cons_append, List.nil_append, List.append_nil]
      refine OE.move rfl rfl rfl ?_
      refine OE.move rfl rfl rfl ?_
      refine OE.move rfl rfl rfl ?_
      refine OE.bin rfl rfl rfl rfl (fun V => int_add had1 V _ _) ?_
      refine OE.move rfl rfl rfl ?_
      refine OE.move rfl rfl rfl ?_
      refine OE.move rfl rfl rfl ?_
      refine OE.bin rfl rfl rfl rfl (fun V => int_add had1 V _ _) ?_
      refine OE.index rfl rfl rfl rfl (fun V => hix V) ?_
      refine OE.load rfl rfl rfl (fun V hV => ld3 hV.2.2) ?_
      refine OE.move rfl rfl rfl ?_
      refine OE.index rfl rfl rfl rfl (fun V => idx49 n i h1 V) ?_
      refine OE.load rfl rfl rfl (fun V hV => ld3 hV.1) ?_
      refine OE.move rfl rfl rfl ?_
      refine OE.index rfl rfl rfl rfl (fun V => idx49 (n + 1) k h2 V) ?_
      refine OE.load rfl rfl rfl (fun V hV => ld3 hV.2.1) ?_
      refine OE.bin rfl rfl rfl rfl (fun V => int_mul hmw V _ _) ?_
      refine OE.bin rfl rfl rfl rfl (fun V => int_add had2 V _ _) ?_
      refine fun W5 hW => ?_
      rw [hW]
      refine WL.index rfl rfl rfl rfl (hix _) ?_
      refine WL.store rfl rfl rfl hst ?_
      refine WL.done ?_
      refine pn_block ?_
      refine EW.on ?_
      refine EW.region ?_
      first | refine WL.move rfl rfl rfl ?_
      refine WL.bin rfl rfl rfl rfl (int_add tk _ _ _) ?_
      first | refine WL.assign rfl rfl rfl ?_
      refine WL.done ?_
      refine EW.again (E := mkE n i) (R := MkR n i a b w) (m := fun y => 16 - y.1) (x := (k, c)) (k + 1, c.set (i + k) (c.getD (i + k) 0 + X)) [2, 3, 4, 5, 6, 7] rfl ⟨by show k + 1 ≤ 16; omega, hst0, bad.setOther _ _ _ (by omega), bbd.setOther _ _ _ (by omega), bzd.setOther _ _ _ (by omega), bd4, be4⟩ (by show 16 - (k + 1) < 16 - k; omega)
    · have z2 : ¬ (k : Int) < 16 := by omega
      obtain rfl : k = 16 := by omega
      refine EW.seq ?_
      refine EW.seq ?_
      refine EW.region ?_
      first | refine WL.move rfl rfl rfl ?_
      refine WL.bin rfl rfl rfl rfl (int_lt_f z2 _ _ _) ?_
      refine WL.done ?_
      refine EW.on ?_
      refine EW.cond_f rfl ?_
      refine EW.exit ?_
      repeat refine px_then ?_
      refine px_block ?_
      refine pn_block ?_
      refine EW.on ?_
      refine EW.region ?_
      first | refine WL.move rfl rfl rfl ?_
      refine WL.bin rfl rfl rfl rfl (int_add tn _ _ _) ?_
      first | refine WL.assign rfl rfl rfl ?_
      refine WL.done ?_
      refine EW.again (E := muE n) (R := MuR n a b w) (m := fun y => 16 - y.1) (x := (i, d)) (i + 1, c) [2, 3, 4, 5, 6] rfl ⟨by show i + 1 ≤ 16; omega, hD.next, ba, bb, bz, bd, hbe⟩ (by show 16 - (i + 1) < 16 - i; omega)
  · have z1 : ¬ (i : Int) < 16 := by omega
    obtain rfl : i = 16 := by omega
    have hdl := bd.lt
    have hred := reduced_law (.slice (some ⟨n + 3, 0, none⟩) 32 32) d wr (dig32 hD.ln bd) (by rw [hD.ln]; decide) (by rw [hD.ln]; decide) (fun j => Nat.lt_of_lt_of_le (mu_small (Nat.le_refl _) (Nat.zero_le _) (hD.dg j)) (by decide))
    have hval : nV d = dpre a 16 * dpre b 16 := by rw [hD.vl, dpre_0, Nat.mul_zero, Nat.add_zero]
    rw [hval] at hred
    refine EW.seq ?_
    refine EW.seq ?_
    refine EW.region ?_
    first | refine WL.move rfl rfl rfl ?_
    refine WL.bin rfl rfl rfl rfl (int_lt_f z1 _ _ _) ?_
    refine WL.done ?_
    refine EW.on ?_
    refine EW.cond_f rfl ?_
    refine EW.exit ?_
    repeat refine px_then ?_
    refine px_block ?_
    refine EW.on ?_
    refine EW.seq ?_
    refine EW.region ?_
    first | refine WL.move rfl rfl rfl ?_
    refine WL.call [.slice (some ⟨n + 3, 0, none⟩) 32 32] enter46 rfl rfl rfl hred ?_
    rintro x w5 ⟨rfl, hb5⟩
    refine ⟨_, rfl, ?_⟩
    refine WL.store rfl rfl rfl (st49 z16_length (numD_length _) (bz.on hb5)) ?_
    refine WL.done ?_
    refine EW.on ?_
    refine EW.ret ?_
    repeat (first | refine pr_then ?_ | refine pr_block ?_)
    exact EW.returnsC Try.results41 rfl ((bz.on hb5).setRow (dv (numD ((dpre a 16 * dpre b 16) % PP)))) Try.underlying49 rfl (info49 (numD_length _)) ⟨rfl, below_setRow (hbe.trans (hb5.mono (by omega))) (n + 2) _ (by omega)⟩
end Go.Proofs.Ytnakeieeopbeiaa

set_option linter.unusedVariables false
set_option linter.unusedSimpArgs false
namespace Go.Proofs.Ytnakeieeopbeiaa
open Go.RowKit

/-- The upper word of a product, as math/bits reckons it. -/
def mhi (x y : BitVec 64) : BitVec 64 :=
  let t := (x >>> 32) * (y &&& 4294967295#64) + ((x &&& 4294967295#64) * (y &&& 4294967295#64)) >>> 32
  (x >>> 32) * (y >>> 32) + t >>> 32 + ((t &&& 4294967295#64) + (x &&& 4294967295#64) * (y >>> 32)) >>> 32

theorem lo32 (x : BitVec 64) : (x &&& 4294967295#64).toNat = x.toNat % 4294967296 := by
  rw [BitVec.toNat_and]
  exact Nat.and_two_pow_sub_one_eq_mod x.toNat 32
theorem hi32 (x : BitVec 64) : (x >>> 32).toNat = x.toNat / 4294967296 := by
  rw [BitVec.toNat_ushiftRight, Nat.shiftRight_eq_div_pow]

theorem mhi_nat (x y : BitVec 64) : (mhi x y).toNat = x.toNat * y.toNat / 18446744073709551616 := by
  have hx := wlt x
  have hy := wlt y
  unfold mhi
  simp only [BitVec.toNat_add, BitVec.toNat_mul, lo32, hi32]
  obtain ⟨a, ha⟩ : ∃ a, x.toNat / 4294967296 = a := ⟨_, rfl⟩
  obtain ⟨b, hb⟩ : ∃ b, x.toNat % 4294967296 = b := ⟨_, rfl⟩
  obtain ⟨c, hc⟩ : ∃ c, y.toNat / 4294967296 = c := ⟨_, rfl⟩
  obtain ⟨d, hd⟩ : ∃ d, y.toNat % 4294967296 = d := ⟨_, rfl⟩
  rw [ha, hb, hc, hd]
  have hx' : x.toNat = 4294967296 * a + b := by omega
  have hy' : y.toNat = 4294967296 * c + d := by omega
  have la : a < 4294967296 := by omega
  have lb : b < 4294967296 := by omega
  have lc : c < 4294967296 := by omega
  have ld : d < 4294967296 := by omega
  rw [hx', hy']
  have e : (4294967296 * a + b) * (4294967296 * c + d) = 18446744073709551616 * (a * c) + 4294967296 * (a * d) + 4294967296 * (b * c) + b * d := by
    grind
  rw [e]
  have m1 : a * c ≤ 4294967295 * 4294967295 := Nat.mul_le_mul (by omega) (by omega)
  have m2 : a * d ≤ 4294967295 * 4294967295 := Nat.mul_le_mul (by omega) (by omega)
  have m3 : b * c ≤ 4294967295 * 4294967295 := Nat.mul_le_mul (by omega) (by omega)
  have m4 : b * d ≤ 4294967295 * 4294967295 := Nat.mul_le_mul (by omega) (by omega)
  generalize a * c = ac at *
  generalize a * d = ad at *
  generalize b * c = bc at *
  generalize b * d = bd at *
  clear e hx' hy' ha hb hc hd hx hy
  omega

set_option maxRecDepth 100000 in
theorem mul64_any (x y : BitVec 64) (w : World) :
    Calls Try.prog 44 #[.int .u64 (wn x), .int .u64 (wn y)] w fun e w' => e = .returned (.tuple #[.int .u64 (wn (mhi x y)), .int .u64 (wn (x * y))]) ∧ w' = w := by
  have h1 := wand32
  have h2 := wshr32
  have h3 := wmul
  have h4 := wadd
  go_enter Try.func44, Try.ntmps44
  go_wp2
  simp [bodyPost, results, Try.results44, go_sem]
  rfl

/-- The carry of a sum. -/
def cry (x y : BitVec 64) : BitVec 64 := BitVec.ofNat 64 ((x.toNat + y.toNat) / 18446744073709551616)
def cry3 (x y c : BitVec 64) : BitVec 64 := BitVec.ofNat 64 ((x.toNat + y.toNat + c.toNat) / 18446744073709551616)
theorem cry_nat (x y : BitVec 64) : (cry x y).toNat = (x.toNat + y.toNat) / 18446744073709551616 := by
  have := wlt x
  have := wlt y
  unfold cry
  rw [BitVec.toNat_ofNat]; omega
theorem cry_le (x y : BitVec 64) : (cry x y).toNat ≤ 1 := by
  have := wlt x
  have := wlt y
  rw [cry_nat]; omega

theorem add64 (x y c : BitVec 64) (hc : c.toNat ≤ 1) (w : World) : (callFunc 45 #[.int .u64 (wn x), .int .u64 (wn y), .int .u64 (wn c)]).run Try.prog w =
    .ok (.value (.tuple #[.int .u64 (wn (x + y + c)), .int .u64 (wn (cry3 x y c))])) w := by
  have := wlt x
  have := wlt y
  rw [run_callFunc_extern Try.func45 (by kernel_rfl) (by kernel_rfl) (by kernel_rfl) (e := add64Entry) (by kernel_rfl), run_add64 (wn x) (wn y) (wn c) (wn_nonneg x) (wn_nonneg y) (wn_nonneg c) (by unfold wn; omega)]
  simp only [Result.andThen]
  have e1 : (wn x + wn y + wn c) % 18446744073709551616 = wn (x + y + c) := by
    unfold wn
    rw [BitVec.toNat_add, BitVec.toNat_add]; omega
  have e2 : (wn x + wn y + wn c) / 18446744073709551616 = wn (cry3 x y c) := by
    unfold wn cry3
    rw [BitVec.toNat_ofNat]; omega
  rw [e1, e2]
theorem add64_0 (x y : BitVec 64) (w : World) : (callFunc 45 #[.int .u64 (wn x), .int .u64 (wn y), .int .u64 0]).run Try.prog w =
    .ok (.value (.tuple #[.int .u64 (wn (x + y)), .int .u64 (wn (cry x y))])) w := by
  have := add64 x y 0#64 (by decide) w
  have e : cry3 x y 0#64 = cry x y := rfl
  rw [e, BitVec.add_zero] at this
  exact this

/-- A number of 128 bits. -/
def wd (h l : BitVec 64) : Value := .agg #[.int .u64 (wn h), .int .u64 (wn l)]
def plh (h l x y : BitVec 64) : BitVec 64 := h + mhi x y + cry l (x * y)
def pll (l x y : BitVec 64) : BitVec 64 := l + x * y

set_option maxRecDepth 100000 in
theorem plus_any (h l x y : BitVec 64) (w : World) :
    Calls Try.prog 28 #[.agg #[.int .u64 (wn h), .int .u64 (wn l)], .int .u64 (wn x), .int .u64 (wn y)] w fun e w' => e = .returned (.agg #[.int .u64 (wn (plh h l x y)), .int .u64 (wn (pll l x y))]) ∧ Below w.heap.size w w' := by
  have hc := cry_le l (x * y)
  go_enter Try.func28, Try.ntmps28
  go_wp2_with (first | (go_at_call 44; refine (mul64_any x y _).mono ?_; rintro e w' ⟨rfl, rfl⟩) | simp only [add64_0] | simp only [add64 _ _ _ hc])
  simp [bodyPost, results, Try.results28, go_sem]
  refine ⟨⟨rfl, rfl⟩, ?_⟩
  go_grown

/-- What lies above 51 bits. -/
def abv (h l : BitVec 64) : BitVec 64 := h <<< 13 ||| l >>> 51

set_option maxRecDepth 100000 in
theorem above_any (h l : BitVec 64) (w : World) :
    Calls Try.prog 30 #[.agg #[.int .u64 (wn h), .int .u64 (wn l)]] w fun e w' => e = .returned (.int .u64 (wn (abv h l))) ∧ Below w.heap.size w w' := by
  have h1 := wshl13
  have h2 := wshr51
  have h3 := wor
  go_enter Try.func30, Try.ntmps30
  go_wp2
  go_ret
  refine ⟨rfl, ?_⟩
  go_grown

/-- The limbs of an element. -/
structure L5 where
  a : BitVec 64
  b : BitVec 64
  c : BitVec 64
  d : BitVec 64
  e : BitVec 64
def L5.list (x : L5) : List (BitVec 64) := [x.a, x.b, x.c, x.d, x.e]
def L5.cs (x : L5) : List Value := [.int .u64 (wn x.a), .int .u64 (wn x.b), .int .u64 (wn x.c), .int .u64 (wn x.d), .int .u64 (wn x.e)]
def L5.v (x : L5) : Value := .agg x.cs.toArray
def carr (x : L5) : L5 := ⟨(x.a &&& mk51) + 19#64 * x.e >>> 51, (x.b &&& mk51) + x.a >>> 51, (x.c &&& mk51) + x.b >>> 51, (x.d &&& mk51) + x.c >>> 51, (x.e &&& mk51) + x.d >>> 51⟩

set_option maxRecDepth 100000 in
theorem carried_any (x : L5) (w : World) :
    Calls Try.prog 29 #[.agg #[.int .u64 (wn x.a), .int .u64 (wn x.b), .int .u64 (wn x.c), .int .u64 (wn x.d), .int .u64 (wn x.e)]] w fun e w' => e = .returned (carr x).v ∧ Below w.heap.size w w' := by
  have h1 := wand51
  have h2 := wshr51
  have h3 := wadd
  have h4 := wmul19
  obtain ⟨a, b, c, d, e⟩ := x
  go_enter Try.func29, Try.ntmps29
  go_wp2
  simp [bodyPost, results, Try.results29, go_sem]
  refine ⟨rfl, ?_⟩
  go_grown

def small (n : BitVec 32) : L5 := ⟨n.setWidth 64, 0, 0, 0, 0⟩
theorem small_wn (n : BitVec 32) : (n.toNat : Int) = wn (n.setWidth 64) := by
  have := n.isLt
  unfold wn
  rw [BitVec.toNat_setWidth]; omega

set_option maxRecDepth 100000 in
theorem small_any (n : BitVec 32) (w : World) :
    Calls Try.prog 14 #[.int .u32 (n.toNat : Int)] w fun e w' => e = .returned (small n).v ∧ Below w.heap.size w w' := by
  have h1 : IntKind.u64.wrap (n.toNat : Int) = wn (n.setWidth 64) := by
    rw [← small_wn, IntKind.wrap_u64]
    have := n.isLt
    omega
  obtain ⟨m, hm⟩ : ∃ m : Int, m = (n.toNat : Int) := ⟨_, rfl⟩
  rw [← hm] at h1 ⊢
  clear hm
  go_enter Try.func14, Try.ntmps14
  go_wp2
  simp [bodyPost, results, Try.results14, go_sem]
  refine ⟨rfl, ?_⟩
  go_grown

end Go.Proofs.Ytnakeieeopbeiaa
