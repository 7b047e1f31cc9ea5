import Derived.Test.YtnakeieeopbeiaaGk
set_option linter.unusedVariables false
set_option linter.unusedSimpArgs false
namespace Go.Proofs.Ytnakeieeopbeiaa
open Go.RowKit

def cpB (l : List UInt8) (t : Nat) : List UInt8 := l.take t ++ List.replicate (32 - t) 0
theorem cpB_length (l : List UInt8) (t : Nat) (h : l.length = 32) (ht : t ≤ 32) : (cpB l t).length = 32 := by simp [cpB]; omega
theorem cpB_next (ds : List UInt8) (t : Nat) (h : ds.length = 32) (ht : t < 32) : cpB ds (t + 1) = (cpB ds t).set t (ds.getD t 0) := by
  apply List.ext_getElem?
  intro j
  have m1 : min (t + 1) ds.length = t + 1 := by omega
  have m2 : min t ds.length = t := by omega
  unfold cpB
  simp only [List.getElem?_set, List.getElem?_append, List.length_take, List.getElem?_take, List.getElem?_replicate, List.length_append, List.length_replicate, m1, m2]
  rcases Nat.lt_trichotomy j t with e | e | e
  · rw [if_pos (show j < t + 1 by omega), if_pos (show j < t + 1 by omega), if_neg (show ¬ t = j by omega), if_pos e, if_pos e]
  · subst e
    have hj : j < ds.length := by omega
    rw [if_pos (show j < j + 1 by omega), if_pos (show j < j + 1 by omega), if_pos rfl, if_pos (show j < j + (32 - j) by omega), List.getD_eq_getElem?_getD]
    simp [hj]
  · rw [if_neg (show ¬ j < t + 1 by omega), if_neg (show ¬ t = j by omega), if_neg (show ¬ j < t by omega)]
    by_cases e2 : j < 32
    · rw [if_pos (by omega), if_pos (by omega)]
    · rw [if_neg (by omega), if_neg (by omega)]
theorem u8m (x : Nat) : UInt8.ofNat (x % 256) = UInt8.ofNat x := by
  apply UInt8.toNat_inj.1
  rw [UInt8.toNat_ofNat', UInt8.toNat_ofNat']; omega
theorem byt_setN (L : List UInt8) (j v : Nat) (h : v < 256) : (L.map byt).set j (.int .u8 (v : Int)) = (L.set j (UInt8.ofNat v)).map byt := by
  rw [List.map_set]
  congr 1
  show _ = Value.int .u8 ((UInt8.ofNat v).toNat : Int)
  rw [UInt8.toNat_ofNat', Nat.mod_eq_of_lt h]
theorem nb_lo {a : List Nat} (ha : Nm a) {t : Nat} (ht : t < 16) : (nb (dpre a 16)).getD (2 * t) 0 = UInt8.ofNat (a.getD t 0 % 256) := by
  rw [nb_at _ _ (by omega), ← dpre_digit ha.dg 16 t ht, show (256 : Nat) ^ (2 * t) = 65536 ^ t by rw [Nat.pow_mul]]
  generalize dpre a 16 / 65536 ^ t = X
  rw [show X % 65536 % 256 = X % 256 by omega, u8m]
theorem nb_hi {a : List Nat} (ha : Nm a) {t : Nat} (ht : t < 16) : (nb (dpre a 16)).getD (2 * t + 1) 0 = UInt8.ofNat (a.getD t 0 / 256) := by
  rw [nb_at _ _ (by omega), ← dpre_digit ha.dg 16 t ht, Nat.pow_succ, show (256 : Nat) ^ (2 * t) = 65536 ^ t by rw [Nat.pow_mul], ← Nat.div_div_eq_div_mul]
  generalize dpre a 16 / 65536 ^ t = X
  rw [show X % 65536 / 256 = X / 256 % 256 by omega, u8m]
theorem zero22 (w : World) : (zeroValue 22).run Try.prog w = .ok (.agg (z32.map byt).toArray) w := by rw [Try.zeroValue22]; rfl
theorem z32_len : z32.length = 32 := by simp [z32]
theorem new22 (w : World) : (Instr.alloc 22 true (.tuple #[])).run Try.prog w = .ok (.pointer (some ⟨w.heap.size, 0, none⟩)) (w.alloc (.cells (z32.map byt).toArray 22)) := run_newR 22 (z32.map byt) zero22 w w.heap.size rfl
theorem info22 {l : List UInt8} (h : l.length = 32) : (Try.prog.info? 22).map (·.size) = some (l.map byt).length := by rw [List.length_map, h]; kernel_rfl
theorem ld22 {w : World} {g : Nat} {l : List UInt8} {t : TypeId} (h : l.length = 32) (hb : Blk w g (l.map byt) t) : (Instr.loadAt 22 (.pointer (some ⟨g, 0, none⟩))).run Try.prog w = .ok (.agg (l.map byt).toArray) w := run_loadR hb Try.underlying22 rfl (info22 h)
theorem st22 {w : World} {g : Nat} {o l : List UInt8} {t : TypeId} (ho : o.length = 32) (h : l.length = 32) (hb : Blk w g (o.map byt) t) : (Instr.storeAt 22 (.pointer (some ⟨g, 0, none⟩)) (.agg (l.map byt).toArray)).run Try.prog w = .ok () (w.setRow g (l.map byt).toArray) := run_storeR hb (info22 h) (by rw [List.length_map, List.length_map, ho, h]) (byts_one l)
theorem cv35 (b : Nat) (h : b < 256) (W : World) : (Go.convert 3 5 (.int .i64 (b : Int))).run Try.prog W = .ok (.int .u8 (b : Int)) W := by
  have h1 : IntKind.u8.wrap (b : Int) = (b : Int) := by rw [IntKind.wrap_u8]; omega
  go_simp
theorem st5 {ad : Addr} {u : Value} {z : Int} {W : World} (h : W.cell? ad = some u) (hf : W.frozen? ad = false) : (Instr.storeAt 5 (.pointer (some ad)) (.int .u8 z)).run Try.prog W = .ok () (W.setCell ad (.int .u8 z)) := by go_simp
def byE (n : Nat) (t : Nat) : List (Nat × Value) := [(1, .pointer (some ⟨n, 0, none⟩)), (2, .pointer (some ⟨n + 1, 0, none⟩)), (3, .pointer (some ⟨n + 2, 0, none⟩)), (4, .int .i64 (t : Int))]
def ByR (n : Nat) (a : List Nat) (w : World) (t : Nat) (w' : World) : Prop := t ≤ 16 ∧ Blk w' n (dv a) 49 ∧ Blk w' (n + 1) (z32.map byt) 22 ∧ Blk w' (n + 2) ((cpB (nb (dpre a 16)) (2 * t)).map byt) 22 ∧ Below n w w'
set_option maxRecDepth 100000 in
set_option maxHeartbeats 1000000 in
theorem bytes_num (a : List Nat) (ha : Nm a) (w : World) : Calls Try.prog 43 #[.agg (dv a).toArray] w fun e w' => e = .returned (.agg ((nb (dpre a 16)).map byt).toArray) ∧ Below w.heap.size w w' := by
  obtain ⟨w1, hw1⟩ : ∃ w1, w.alloc (.cells (dv a).toArray 49) = w1 := ⟨_, rfl⟩
  have s1 : w1.heap.size = w.heap.size + 1 := by rw [← hw1]; simp
  have b1 : Blk w1 w.heap.size (dv a) 49 := by rw [← hw1]; exact Blk.new _ _ _
  have e1 : Below w.heap.size w w1 := by rw [← hw1]; exact below_new _ _
  obtain ⟨w2, hw2⟩ : ∃ w2, w1.alloc (.cells (z32.map byt).toArray 22) = w2 := ⟨_, rfl⟩
  have s2 : w2.heap.size = w.heap.size + 2 := by rw [← hw2]; simp [s1]
  have b2 : Blk w2 w1.heap.size (z32.map byt) 22 := by rw [← hw2]; exact Blk.new _ _ _
  have e2 : Below w1.heap.size w1 w2 := by rw [← hw2]; exact below_new _ _
  obtain ⟨w3, hw3⟩ : ∃ w3, w2.alloc (.cells (z32.map byt).toArray 22) = w3 := ⟨_, rfl⟩
  have b3 : Blk w3 w2.heap.size (z32.map byt) 22 := by rw [← hw3]; exact Blk.new _ _ _
  have e3 : Below w2.heap.size w2 w3 := by rw [← hw3]; exact below_new _ _
  have r1 := box49 a w
  have r2 := new22 w1
  have r3 := new22 w2
  rw [hw1] at r1
  rw [hw2] at r2
  rw [hw3] at r3
  have c1 := (b1.on e2).on e3
  have c2 := b2.on e3
  have be3 : Below w.heap.size w w3 := (e1.trans (e2.mono (by omega))).trans (e3.mono (by omega))
  rw [s1] at r2 c2
  rw [s2] at r3 b3
  obtain ⟨n, hn⟩ : ∃ n, w.heap.size = n := ⟨_, rfl⟩
  rw [hn] at r1 r2 r3 c1 c2 b3 be3
  rw [hn]
  have hla := ha.ln
  have hN := nb_length (dpre a 16)
  obtain ⟨B, hB⟩ : ∃ B, nb (dpre a 16) = B := ⟨_, rfl⟩
  refine calls_of_args [.agg (dv a).toArray] Try.func43 rfl 27 Try.ntmps43 (by show 1 ≤ 27; decide) ?_
  refine EW.seq ?_
  refine EW.region ?_
  refine WL.box rfl rfl rfl r1 ?_
  refine WL.new rfl rfl r2 ?_
  refine WL.done ?_
  refine EW.on ?_
  refine EW.seq ?_
  refine EW.region ?_
  refine WL.new rfl rfl r3 ?_
  refine WL.done ?_
  refine EW.on ?_
  refine EW.seq ?_
  refine EW.seq ?_
  refine EW.region ?_
  first | refine WL.assign rfl rfl rfl ?_
  refine WL.done ?_
  refine EW.on ?_
  refine EW.block ?_
  refine EW.loop (byE n) (ByR n a w) (fun t => 16 - t) 0 [1, 2, 3, 4] rfl ⟨by decide, c1, c2, b3, be3⟩ ?_
  clear r1 r2 r3 b3 c1 c2 be3
  rintro t wr ⟨ht, ba, bz, bx, hbe⟩
  have hxl := bx.lt
  rw [hB] at bx hN
  show EW _ _ _ _ [(1, .pointer (some ⟨n, 0, none⟩)), (2, .pointer (some ⟨n + 1, 0, none⟩)), (3, .pointer (some ⟨n + 2, 0, none⟩)), (4, .int .i64 (t : Int))] _
  by_cases h1 : t < 16
  · have z1 : (t : Int) < 16 := by omega
    have tn := tnD t (by omega)
    have m2 := wm2 t (by omega)
    have a1 : IntKind.i64.wrap (((2 * t : Nat) : Int) + 1) = ((2 * t + 1 : Nat) : Int) := tnD (2 * t) (by omega)
    have hda := ha.dg t
    have hlo := nb_lo ha h1
    have hhi := nb_hi ha h1
    rw [hB] at hlo hhi
    have ca : wr.cell? ⟨n, t, none⟩ = some (.int .i64 ((a.getD t 0 : Nat) : Int)) := (ba.cell t).trans (dv_at _ t (by omega))
    obtain ⟨X, hX⟩ : ∃ X, a.getD t 0 = X := ⟨_, rfl⟩
    rw [hX] at hda hlo hhi ca
    have hq : X / 256 < 256 := by omega
    have hr : X % 256 < 256 := by omega
    have l0 := cpB_length B (2 * t) hN (by omega)
    have l1 := cpB_length B (2 * t + 1) hN (by omega)
    have x0 := cpB_next B (2 * t) hN (by omega)
    have x1 := cpB_next B (2 * t + 1) hN (by omega)
    rw [hlo] at x0
    rw [hhi] at x1
    have hc0 := (bx.cell (2 * t)).trans (byt_at _ (2 * t) (by omega))
    have hst0 := st5 (z := ((X % 256 : Nat) : Int)) hc0 (bx.frozen (2 * t))
    have bx4 := bx.set (2 * t) (.int .u8 ((X % 256 : Nat) : Int))
    rw [byt_setN _ _ _ hr, ← x0] at bx4
    have be4 := hbe.trans ((Fx.setCell (S := fun j => j = n + 2) wr (n + 2) (2 * t) (.int .u8 ((X % 256 : Nat) : Int)) rfl).below (B := n) (fun j hj e => by omega) (by omega))
    have ba4 := ba.setOther (n + 2) (2 * t) (.int .u8 ((X % 256 : Nat) : Int)) (by omega)
    have bz4 := bz.setOther (n + 2) (2 * t) (.int .u8 ((X % 256 : Nat) : Int)) (by omega)
    obtain ⟨w4, hw4⟩ : ∃ w4, wr.setCell ⟨n + 2, 2 * t, none⟩ (.int .u8 ((X % 256 : Nat) : Int)) = w4 := ⟨_, rfl⟩
    rw [hw4] at hst0 bx4 be4 ba4 bz4
    have hx4 := bx4.lt
    have ca4 : w4.cell? ⟨n, t, none⟩ = some (.int .i64 ((X : Nat) : Int)) := by rw [← hX]; exact (ba4.cell t).trans (dv_at _ t (by omega))
    have hc1 := (bx4.cell (2 * t + 1)).trans (byt_at _ (2 * t + 1) (by omega))
    have hst1 := st5 (z := ((X / 256 : Nat) : Int)) hc1 (bx4.frozen (2 * t + 1))
    have bx5 := bx4.set (2 * t + 1) (.int .u8 ((X / 256 : Nat) : Int))
    rw [byt_setN _ _ _ hq, ← x1, show 2 * t + 1 + 1 = 2 * (t + 1) by omega, ← hB] at bx5
    have be5 := be4.trans ((Fx.setCell (S := fun j => j = n + 2) w4 (n + 2) (2 * t + 1) (.int .u8 ((X / 256 : Nat) : Int)) rfl).below (B := n) (fun j hj e => by omega) (by omega))
    refine EW.seq ?_
    refine EW.seq ?_
    refine EW.region ?_
    first | refine WL.move rfl rfl rfl ?_
    refine WL.bin rfl rfl rfl rfl (int_lt_t z1 _ _ _) ?_
    refine WL.done ?_
    refine EW.on ?_
    refine EW.cond_t rfl ?_
    refine EW.skip ?_
    refine EW.on ?_
    refine EW.seq ?_
    refine EW.block ?_
    refine EW.seq ?_
    refine EW.region ?_
    first | refine WL.move rfl rfl rfl ?_
    refine WL.bin rfl rfl rfl rfl (int_mul m2 _ _ _) ?_
    first | refine WL.move rfl rfl rfl ?_
    refine WL.index rfl rfl rfl rfl (idx49 n t h1 _) ?_
    refine WL.load rfl rfl rfl (ld3 ca) ?_
    refine WL.bin rfl rfl rfl rfl (remN _ 256 (by decide) _ _ _ (by decide)) ?_
    refine WL.conv rfl rfl rfl (cv35 _ hr _) ?_
    refine WL.index rfl rfl rfl rfl (idx22 (n + 2) (2 * t) (by omega) _) ?_
    refine WL.store rfl rfl rfl hst0 ?_
    refine WL.done ?_
    refine EW.on ?_
    refine EW.region ?_
    first | refine WL.move rfl rfl rfl ?_
    refine WL.bin rfl rfl rfl rfl (int_mul m2 _ _ _) ?_
    refine WL.bin rfl rfl rfl rfl (int_add a1 _ _ _) ?_
    first | refine WL.move rfl rfl rfl ?_
    refine WL.index rfl rfl rfl rfl (idx49 n t h1 _) ?_
    refine WL.load rfl rfl rfl (ld3 ca4) ?_
    refine WL.bin rfl rfl rfl rfl (quoN _ 256 (by decide) (by omega) _ _ _ (by decide)) ?_
    refine WL.conv rfl rfl rfl (cv35 _ hq _) ?_
    refine WL.index rfl rfl rfl rfl (idx22 (n + 2) (2 * t + 1) (by omega) _) ?_
    refine WL.store rfl rfl rfl hst1 ?_
    refine WL.done ?_
    refine pn_block ?_
    refine EW.on ?_
    refine EW.region ?_
    first | refine WL.move rfl rfl rfl ?_
    refine WL.bin rfl rfl rfl rfl (int_add tn _ _ _) ?_
    first | refine WL.assign rfl rfl rfl ?_
    refine WL.done ?_
    refine EW.again (E := byE n) (R := ByR n a w) (m := fun t => 16 - t) (x := t) (t + 1) [1, 2, 3, 4] rfl ⟨by omega, ba4.setOther _ _ _ (by omega), bz4.setOther _ _ _ (by omega), bx5, be5⟩ (by show 16 - (t + 1) < 16 - t; omega)
  · have z1 : ¬ (t : Int) < 16 := by omega
    obtain rfl : t = 16 := by omega
    rw [show cpB B (2 * 16) = B from by unfold cpB; rw [List.take_of_length_le (by omega)]; simp] at bx
    refine EW.seq ?_
    refine EW.seq ?_
    refine EW.region ?_
    first | refine WL.move rfl rfl rfl ?_
    refine WL.bin rfl rfl rfl rfl (int_lt_f z1 _ _ _) ?_
    refine WL.done ?_
    refine EW.on ?_
    refine EW.cond_f rfl ?_
    refine EW.exit ?_
    repeat refine px_then ?_
    refine px_block ?_
    refine EW.on ?_
    refine EW.seq ?_
    refine EW.region ?_
    refine WL.load rfl rfl rfl (ld22 hN bx) ?_
    refine WL.store rfl rfl rfl (st22 z32_len hN bz) ?_
    refine WL.done ?_
    refine EW.on ?_
    refine EW.ret ?_
    repeat (first | refine pr_then ?_ | refine pr_block ?_)
    exact EW.returnsC Try.results43 rfl (bz.setRow (B.map byt)) Try.underlying22 rfl (info22 hN) ⟨by rw [← hB], below_setRow hbe (n + 1) _ (by omega)⟩
end Go.Proofs.Ytnakeieeopbeiaa
