import Derived.Test.YtnakeieeopbeiaaGl
set_option linter.unusedVariables false
set_option linter.unusedSimpArgs false
namespace Go.Proofs.Ytnakeieeopbeiaa
open Go.RowKit

/-- Bit i of a key. -/
def kbt (k : List UInt8) (i : Nat) : Bool := decide (bD k (i / 8) / 2 ^ (i % 8) % 2 = 1)
/-- The document's power, of numbers. -/
def pN (V : Nat) (k : List UInt8) : Nat → Nat
  | 0 => 1
  | j + 1 => if kbt k (255 - j) = true then pN V k j * pN V k j % PP * V % PP else pN V k j * pN V k j % PP
theorem PP_pos : 0 < PP := by decide
theorem PP_lt : PP < 65536 ^ 16 := by decide
theorem pN_lt (V : Nat) (k : List UInt8) : ∀ j, pN V k j < PP
  | 0 => by show 1 < PP; decide
  | j + 1 => by
    rw [pN]
    split
    · exact Nat.mod_lt _ PP_pos
    · exact Nat.mod_lt _ PP_pos
theorem num_of {V : Nat} (h : V < PP) : dpre (numD V) 16 = V := num_val V (Nat.lt_trans h PP_lt)
theorem and1N (m : Nat) (h : m < 256) : bits .and .u8 (m : Int) (1 : Int) = ((m % 2 : Nat) : Int) := by
  have h := (bits_nat .u8 8 (by decide) wraps_u8 m 1 h (by decide)).1
  have e : m &&& 1 = m % 2 := Nat.and_two_pow_sub_one_eq_mod m 1
  rw [← e]
  exact h
theorem shr5 (b s : Nat) (hs : s < 8) (W : World) (x y : Operand) : (do eqGuard .shr 5 x y (.int .u8 (b : Int)) (.int .i64 (s : Int)); binOp .shr 5 (.int .u8 (b : Int)) (.int .i64 (s : Int)) : Sem Value).run Try.prog W = .ok (.int .u8 ((b / 2 ^ s : Nat) : Int)) W := by
  obtain ⟨m, hm⟩ : ∃ m, m = b / 2 ^ s := ⟨_, rfl⟩
  have e1 : (b : Int) / 2 ^ s = (m : Int) := by
    rw [hm, Int.natCast_ediv, Int.natCast_pow]
    rfl
  rw [← hm]
  clear hm
  go_simp
theorem and5 (b : Nat) (hb : b < 256) (W : World) (x y : Operand) : (do eqGuard .and 5 x y (.int .u8 (b : Int)) (.int .u8 1); binOp .and 5 (.int .u8 (b : Int)) (.int .u8 1) : Sem Value).run Try.prog W = .ok (.int .u8 ((b % 2 : Nat) : Int)) W := by
  have e2 := and1N b hb
  go_simp
theorem eq5_t (a : Nat) (h : a = 1) (W : World) (x y : Operand) : (do eqGuard .eql 5 x y (.int .u8 (a : Int)) (.int .u8 1); binOp .eql 5 (.int .u8 (a : Int)) (.int .u8 1) : Sem Value).run Try.prog W = .ok (.bool true) W := by
  subst h
  go_simp
theorem eq5_f (a : Nat) (h : ¬ a = 1) (W : World) (x y : Operand) : (do eqGuard .eql 5 x y (.int .u8 (a : Int)) (.int .u8 1); binOp .eql 5 (.int .u8 (a : Int)) (.int .u8 1) : Sem Value).run Try.prog W = .ok (.bool false) W := by
  have h1 : ¬ (a : Int) = 1 := by omega
  go_simp
def pwE (n g : Nat) (j : Nat) : List (Nat × Value) := [(2, .pointer (some ⟨n, 0, none⟩)), (3, .pointer (some ⟨n + 1, 0, none⟩)), (4, .pointer (some ⟨n + 2, 0, none⟩)), (5, .pointer (some ⟨g, 0, none⟩)), (6, .int .i64 (255 - (j : Int)))]
def PwR (n g : Nat) (a : List Nat) (k : List UInt8) (w : World) (j : Nat) (w' : World) : Prop := j ≤ 256 ∧ Blk w' n (dv a) 49 ∧ Blk w' (n + 1) (k.map byt) 22 ∧ Blk w' (n + 2) (dv z16) 49 ∧ Blk w' g (dv (numD (pN (dpre a 16) k j))) 49 ∧ Below n w w'
theorem three22 {w : World} (a : List Nat) (k : List UInt8) : ∃ w1 w2 w3, (Instr.box 49 (.agg (dv a).toArray)).run Try.prog w = .ok (.pointer (some ⟨w.heap.size, 0, none⟩)) w1 ∧ (Instr.box 22 (.agg (k.map byt).toArray)).run Try.prog w1 = .ok (.pointer (some ⟨w.heap.size + 1, 0, none⟩)) w2 ∧ (Instr.alloc 49 true (.tuple #[])).run Try.prog w2 = .ok (.pointer (some ⟨w.heap.size + 2, 0, none⟩)) w3 ∧ Blk w3 w.heap.size (dv a) 49 ∧ Blk w3 (w.heap.size + 1) (k.map byt) 22 ∧ Blk w3 (w.heap.size + 2) (dv z16) 49 ∧ w3.heap.size = w.heap.size + 3 ∧ Below w.heap.size w w3 := by
  obtain ⟨w1, hw1⟩ : ∃ w1, w.alloc (.cells (dv a).toArray 49) = w1 := ⟨_, rfl⟩
  have s1 : w1.heap.size = w.heap.size + 1 := by rw [← hw1]; simp
  have b1 : Blk w1 w.heap.size (dv a) 49 := by rw [← hw1]; exact Blk.new _ _ _
  have e1 : Below w.heap.size w w1 := by rw [← hw1]; exact below_new _ _
  obtain ⟨w2, hw2⟩ : ∃ w2, w1.alloc (.cells (k.map byt).toArray 22) = w2 := ⟨_, rfl⟩
  have s2 : w2.heap.size = w.heap.size + 2 := by rw [← hw2]; simp [s1]
  have b2 : Blk w2 w1.heap.size (k.map byt) 22 := by rw [← hw2]; exact Blk.new _ _ _
  have e2 : Below w1.heap.size w1 w2 := by rw [← hw2]; exact below_new _ _
  obtain ⟨w3, hw3⟩ : ∃ w3, w2.alloc (.cells (dv z16).toArray 49) = w3 := ⟨_, rfl⟩
  have s3 : w3.heap.size = w.heap.size + 3 := by rw [← hw3]; simp [s2]
  have b3 : Blk w3 w2.heap.size (dv z16) 49 := by rw [← hw3]; exact Blk.new _ _ _
  have e3 : Below w2.heap.size w2 w3 := by rw [← hw3]; exact below_new _ _
  have r1 := box49 a w
  have r2 := box22 k w1
  have r3 := new49 w2
  rw [hw1] at r1
  rw [hw2] at r2
  rw [hw3] at r3
  have c1 := (b1.on e2).on e3
  have c2 := b2.on e3
  have e4 : Below w.heap.size w w3 := (e1.trans (e2.mono (by omega))).trans (e3.mono (by omega))
  rw [s1] at r2 c2
  rw [s2] at r3 b3
  exact ⟨w1, w2, w3, r1, r2, r3, c1, c2, b3, s3, e4⟩
set_option maxRecDepth 100000 in
set_option maxHeartbeats 1000000 in
theorem pow_num (a : List Nat) (k : List UInt8) (ha : Nm a) (hk : k.length = 32) (w : World) : Calls Try.prog 50 #[.agg (dv a).toArray, .agg (k.map byt).toArray] w fun e w' => e = .returned (.agg (dv (numD (pN (dpre a 16) k 256))).toArray) ∧ Below w.heap.size w w' := by
  obtain ⟨w1, w2, w3, r1, r2, r3, ba, bk, bz, hs3, be3⟩ := three22 (w := w) a k
  obtain ⟨n, hn⟩ : ∃ n, w.heap.size = n := ⟨_, rfl⟩
  rw [hn] at r1 r2 r3 ba bk bz hs3 be3
  rw [hn]
  have hone := int_num 1 (by decide) w3
  refine calls_of_args [.agg (dv a).toArray, .agg (k.map byt).toArray] Try.func50 rfl 28 Try.ntmps50 (by show 2 ≤ 28; decide) ?_
  refine EW.seq ?_
  refine EW.region ?_
  refine WL.box rfl rfl rfl r1 ?_
  refine WL.box rfl rfl rfl r2 ?_
  refine WL.new rfl rfl r3 ?_
  refine WL.done ?_
  refine EW.on ?_
  refine EW.seq ?_
  refine EW.region ?_
  refine WL.call [.int .u64 1] enter38 rfl rfl rfl hone ?_
  rintro x w4 ⟨rfl, hb4⟩
  refine ⟨_, rfl, ?_⟩
  obtain ⟨g, hg⟩ : ∃ g, w4.heap.size = g := ⟨_, rfl⟩
  have hs4 := hb4.size
  have hnew := new49 w4
  have hbg := Blk.new w4 (dv z16) 49
  have e5 : Below w4.heap.size w4 (w4.alloc (.cells (dv z16).toArray 49)) := below_new _ _
  have hst := st49 z16_length (numD_length 1) hbg
  have ba5 := ((ba.on hb4).on e5).setRowOther w4.heap.size (dv (numD 1)).toArray (by omega)
  have bk5 := ((bk.on hb4).on e5).setRowOther w4.heap.size (dv (numD 1)).toArray (by omega)
  have bz5 := ((bz.on hb4).on e5).setRowOther w4.heap.size (dv (numD 1)).toArray (by omega)
  have bg5 := hbg.setRow (dv (numD 1))
  have be5 := below_setRow ((be3.trans (hb4.mono (by omega))).trans (e5.mono (by omega))) w4.heap.size (dv (numD 1)).toArray (by omega)
  rw [hg] at hnew hst ba5 bk5 bz5 bg5 be5
  refine WL.new rfl rfl hnew ?_
  refine WL.store rfl rfl rfl hst ?_
  refine WL.done ?_
  refine EW.on ?_
  refine EW.seq ?_
  refine EW.seq ?_
  refine EW.region ?_
  first | refine WL.assign rfl rfl rfl ?_
  refine WL.done ?_
  refine EW.on ?_
  refine EW.block ?_
  refine EW.loop (pwE n g) (PwR n g a k w) (fun j => 256 - j) 0 [2, 3, 4, 5, 6] rfl ⟨by decide, ba5, bk5, bz5, bg5, be5⟩ ?_
  clear r1 r2 r3 ba bk bz be3 hone hnew hbg e5 hst ba5 bk5 bz5 bg5 be5
  rintro j wr ⟨hj, ba, bk, bz, bg, hbe⟩
  have hgl := bg.lt
  obtain ⟨V, hV⟩ : ∃ V, dpre a 16 = V := ⟨_, rfl⟩
  rw [hV] at bg
  have hpl := pN_lt V k j
  have hpn := numD_nm (pN V k j)
  have hsq : ∀ W, Calls Try.prog 41 #[.agg (dv (numD (pN V k j))).toArray, .agg (dv (numD (pN V k j))).toArray] W fun e w' => e = .returned (.agg (dv (numD (pN V k j * pN V k j % PP))).toArray) ∧ Below W.heap.size W w' := fun W => by
    have h := mul_num (numD (pN V k j)) (numD (pN V k j)) hpn hpn W
    rw [num_of hpl] at h
    exact h
  obtain ⟨q, hq⟩ : ∃ q, pN V k j * pN V k j % PP = q := ⟨_, rfl⟩
  have hql : q < PP := by rw [← hq]; exact Nat.mod_lt _ PP_pos
  have hmu : ∀ W, Calls Try.prog 41 #[.agg (dv (numD q)).toArray, .agg (dv a).toArray] W fun e w' => e = .returned (.agg (dv (numD (q * V % PP))).toArray) ∧ Below W.heap.size W w' := fun W => by
    have h := mul_num (numD q) a (numD_nm q) ha W
    rw [num_of hql, hV] at h
    exact h
  rw [hq] at hsq
  show EW _ _ _ _ [(2, .pointer (some ⟨n, 0, none⟩)), (3, .pointer (some ⟨n + 1, 0, none⟩)), (4, .pointer (some ⟨n + 2, 0, none⟩)), (5, .pointer (some ⟨g, 0, none⟩)), (6, .int .i64 (255 - (j : Int)))] _
  by_cases h1 : j < 256
  · have z1 : (0 : Int) ≤ 255 - (j : Int) := by omega
    have tn : IntKind.i64.wrap (255 - (j : Int) - 1) = 255 - ((j + 1 : Nat) : Int) := by rw [IntKind.wrap_i64]; omega
    obtain ⟨b, hb⟩ : ∃ b, 255 - j = b := ⟨_, rfl⟩
    have hbI : 255 - (j : Int) = (b : Int) := by omega
    have hb8 : b / 8 < 32 := by omega
    have hbv := bD_lt k (b / 8)
    have hmv : bD k (b / 8) / 2 ^ (b % 8) < 256 := Nat.lt_of_le_of_lt (Nat.div_le_self _ _) hbv
    have hpn1 : pN V k (j + 1) = if kbt k b = true then q * V % PP else q := by rw [pN, hb, hq]
    have hkb : kbt k b = decide (bD k (b / 8) / 2 ^ (b % 8) % 2 = 1) := rfl
    refine EW.seq ?_
    refine EW.seq ?_
    refine EW.region ?_
    first | refine WL.move rfl rfl rfl ?_
    refine WL.bin rfl rfl rfl rfl (int_ge_t z1 _ _ _) ?_
    refine WL.done ?_
    refine EW.on ?_
    refine EW.cond_t rfl ?_
    refine EW.skip ?_
    refine EW.on ?_
    refine EW.seq ?_
    refine EW.block ?_
    refine EW.seq ?_
    refine EW.region ?_
    refine WL.load rfl rfl rfl (ld49 (numD_length _) bg) ?_
    refine WL.load rfl rfl rfl (ld49 (numD_length _) bg) ?_
    refine WL.call [.agg (dv (numD (pN V k j))).toArray, .agg (dv (numD (pN V k j))).toArray] enter41 rfl rfl rfl (hsq _) ?_
    rintro x w4 ⟨rfl, hb4⟩
    refine ⟨_, rfl, ?_⟩
    refine WL.store rfl rfl rfl (st49 (numD_length _) (numD_length _) (bg.on hb4)) ?_
    refine WL.done ?_
    refine EW.on ?_
    have hs4 := hb4.size
    have ba5 := (ba.on hb4).setRowOther g (dv (numD q)).toArray (by omega)
    have bk5 := (bk.on hb4).setRowOther g (dv (numD q)).toArray (by omega)
    have bz5 := (bz.on hb4).setRowOther g (dv (numD q)).toArray (by omega)
    have bg5 := (bg.on hb4).setRow (dv (numD q))
    have be5 := below_setRow (hbe.trans (hb4.mono (by omega))) g (dv (numD q)).toArray (by omega)
    obtain ⟨w5, hw5⟩ : ∃ w5, w4.setRow g (dv (numD q)).toArray = w5 := ⟨_, rfl⟩
    rw [hw5] at ba5 bk5 bz5 bg5 be5
    rw [hw5]
    have hg5 := bg5.lt
    have cb : w5.cell? ⟨n + 1, b / 8, none⟩ = some (.int .u8 ((bD k (b / 8) : Nat) : Int)) := (bk5.cell _).trans (byt_at k _ (by omega))
    rw [hbI]
    rw [hbI] at tn
    by_cases hbit : bD k (b / 8) / 2 ^ (b % 8) % 2 = 1
    · rw [hkb, decide_eq_true hbit, if_pos rfl] at hpn1
      refine EW.seq ?_
      refine EW.region ?_
      first | refine WL.move rfl rfl rfl ?_
      refine WL.bin rfl rfl rfl rfl (quoN _ 8 (by decide) (by omega) _ _ _ (by decide)) ?_
      refine WL.index rfl rfl rfl rfl (idx22 (n + 1) (b / 8) hb8 _) ?_
      refine WL.load rfl rfl rfl (ld5 cb) ?_
      first | refine WL.move rfl rfl rfl ?_
      refine WL.bin rfl rfl rfl rfl (remN _ 8 (by decide) _ _ _ (by decide)) ?_
      refine WL.bin rfl rfl rfl rfl (shr5 _ _ (Nat.mod_lt _ (by decide)) _ _ _) ?_
      refine WL.bin rfl rfl rfl rfl (and5 _ hmv _ _ _) ?_
      refine WL.bin rfl rfl rfl rfl (eq5_t _ hbit _ _ _) ?_
      refine WL.done ?_
      refine EW.on ?_
      refine EW.cond_t rfl ?_
      refine EW.region ?_
      refine WL.load rfl rfl rfl (ld49 (numD_length _) bg5) ?_
      refine WL.load rfl rfl rfl (ld49 ha.ln ba5) ?_
      refine WL.call [.agg (dv (numD q)).toArray, .agg (dv a).toArray] enter41 rfl rfl rfl (hmu _) ?_
      rintro x w6 ⟨rfl, hb6⟩
      refine ⟨_, rfl, ?_⟩
      refine WL.store rfl rfl rfl (st49 (numD_length _) (numD_length _) (bg5.on hb6)) ?_
      refine WL.done ?_
      refine pn_block ?_
      refine EW.on ?_
      refine EW.region ?_
      first | refine WL.move rfl rfl rfl ?_
      refine WL.bin rfl rfl rfl rfl (int_sub tn _ _ _) ?_
      first | refine WL.assign rfl rfl rfl ?_
      refine WL.done ?_
      have hs6 := hb6.size
      refine EW.again (E := pwE n g) (R := PwR n g a k w) (m := fun j => 256 - j) (x := j) (j + 1) [2, 3, 4, 5, 6] rfl ⟨by omega, (ba5.on hb6).setRowOther _ _ (by omega), (bk5.on hb6).setRowOther _ _ (by omega), (bz5.on hb6).setRowOther _ _ (by omega), ?_, below_setRow (be5.trans (hb6.mono (by omega))) g _ (by omega)⟩ (by show 256 - (j + 1) < 256 - j; omega)
      rw [hV, hpn1]
      exact (bg5.on hb6).setRow _
    · rw [hkb, decide_eq_false hbit, if_neg (by decide)] at hpn1
      refine EW.seq ?_
      refine EW.region ?_
      first | refine WL.move rfl rfl rfl ?_
      refine WL.bin rfl rfl rfl rfl (quoN _ 8 (by decide) (by omega) _ _ _ (by decide)) ?_
      refine WL.index rfl rfl rfl rfl (idx22 (n + 1) (b / 8) hb8 _) ?_
      refine WL.load rfl rfl rfl (ld5 cb) ?_
      first | refine WL.move rfl rfl rfl ?_
      refine WL.bin rfl rfl rfl rfl (remN _ 8 (by decide) _ _ _ (by decide)) ?_
      refine WL.bin rfl rfl rfl rfl (shr5 _ _ (Nat.mod_lt _ (by decide)) _ _ _) ?_
      refine WL.bin rfl rfl rfl rfl (and5 _ hmv _ _ _) ?_
      refine WL.bin rfl rfl rfl rfl (eq5_f _ hbit _ _ _) ?_
      refine WL.done ?_
      refine EW.on ?_
      refine EW.cond_f rfl ?_
      refine EW.skip ?_
      refine pn_block ?_
      refine EW.on ?_
      refine EW.region ?_
      first | refine WL.move rfl rfl rfl ?_
      refine WL.bin rfl rfl rfl rfl (int_sub tn _ _ _) ?_
      first | refine WL.assign rfl rfl rfl ?_
      refine WL.done ?_
      refine EW.again (E := pwE n g) (R := PwR n g a k w) (m := fun j => 256 - j) (x := j) (j + 1) [2, 3, 4, 5, 6] rfl ⟨by omega, ba5, bk5, bz5, ?_, be5⟩ (by show 256 - (j + 1) < 256 - j; omega)
      rw [hV, hpn1]
      exact bg5
  · have z1 : ¬ (0 : Int) ≤ 255 - (j : Int) := by omega
    obtain rfl : j = 256 := by omega
    refine EW.seq ?_
    refine EW.seq ?_
    refine EW.region ?_
    first | refine WL.move rfl rfl rfl ?_
    refine WL.bin rfl rfl rfl rfl (int_ge_f z1 _ _ _) ?_
    refine WL.done ?_
    refine EW.on ?_
    refine EW.cond_f rfl ?_
    refine EW.exit ?_
    repeat refine px_then ?_
    refine px_block ?_
    refine EW.on ?_
    refine EW.seq ?_
    refine EW.region ?_
    refine WL.load rfl rfl rfl (ld49 (numD_length _) bg) ?_
    refine WL.store rfl rfl rfl (st49 z16_length (numD_length _) bz) ?_
    refine WL.done ?_
    refine EW.on ?_
    refine EW.ret ?_
    repeat (first | refine pr_then ?_ | refine pr_block ?_)
    exact EW.returnsC Try.results50 rfl (bz.setRow (dv (numD (pN V k 256)))) Try.underlying49 rfl (info49 (numD_length _)) ⟨by rw [hV], below_setRow hbe (n + 2) _ (by omega)⟩
end Go.Proofs.Ytnakeieeopbeiaa
