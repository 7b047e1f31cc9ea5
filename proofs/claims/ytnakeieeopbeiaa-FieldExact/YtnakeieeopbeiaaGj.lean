import Derived.Test.YtnakeieeopbeiaaWideG
import Derived.Test.YtnakeieeopbeiaaByt
import Derived.Test.YtnakeieeopbeiaaNum4
set_option linter.unusedVariables false
set_option linter.unusedSimpArgs false
namespace Go.Proofs.Ytnakeieeopbeiaa
open Go.RowKit

def bD (k : List UInt8) (j : Nat) : Nat := (k.getD j 0).toNat
theorem bD_lt (k : List UInt8) (j : Nat) : bD k j < 256 := (k.getD j 0).toNat_lt
def kdg (k : List UInt8) (j : Nat) : Nat := bD k (2 * j) + 256 * bD k (2 * j + 1)
theorem kdg_lt (k : List UInt8) (j : Nat) : kdg k j < 65536 := by
  have := bD_lt k (2 * j)
  have := bD_lt k (2 * j + 1)
  unfold kdg; omega
def kDt (k : List UInt8) (t : Nat) : List Nat := (List.range t).map (kdg k)
theorem kDt_length (k : List UInt8) (t : Nat) : (kDt k t).length = t := by simp [kDt]
theorem kDt_next (k : List UInt8) (t : Nat) : kDt k t ++ [kdg k t] = kDt k (t + 1) := by simp [kDt, List.range_succ]
theorem kDt_getD (k : List UInt8) (t j : Nat) (h : j < t) : (kDt k t).getD j 0 = kdg k j := by
  rw [List.getD_eq_getElem?_getD]
  simp [kDt, h]
theorem kDt_dig (k : List UInt8) (t j : Nat) : (kDt k t).getD j 0 < 65536 := by
  rcases Nat.lt_or_ge j t with h | h
  · rw [kDt_getD k t j h]; exact kdg_lt k j
  · rw [getD_past (by rw [kDt_length]; exact h)]; decide
theorem kDt_nm (k : List UInt8) : Nm (kDt k 16) := ⟨kDt_length k 16, kDt_dig k 16⟩
theorem kd_key (A x y P : Nat) : A + x * P + y * (P * 256) = A + (x + 256 * y) * P := by
  rw [Nat.add_mul, Nat.add_assoc]
  congr 2
  simp only [Nat.mul_comm, Nat.mul_left_comm]
theorem kDt_val (k : List UInt8) (n : Nat) : ∀ t, t ≤ n → dpre (kDt k n) t = psum k 0 (2 * t)
  | 0, _ => rfl
  | t + 1, h => by
    rw [dpre_s, kDt_val k n t (by omega), kDt_getD k n t (by omega), show 2 * (t + 1) = 2 * t + 1 + 1 by omega, psum, psum, Nat.zero_add, Nat.zero_add, Nat.pow_succ, show (256 : Nat) ^ (2 * t) = 65536 ^ t by rw [Nat.pow_mul]]
    exact (kd_key _ _ _ _).symm
theorem kDt_kn (k : List UInt8) : dpre (kDt k 16) 16 = kn k := kDt_val k 16 16 (Nat.le_refl _)
theorem byt_at (k : List UInt8) (j : Nat) (h : j < k.length) : (k.map byt)[j]? = some (.int .u8 ((bD k j : Nat) : Int)) := by
  rw [List.getElem?_map, List.getElem?_eq_getElem h]
  unfold bD
  rw [List.getD_eq_getElem?_getD, List.getElem?_eq_getElem h]; rfl
theorem box22 (k : List UInt8) (w : World) : (Instr.box 22 (.agg (k.map byt).toArray)).run Try.prog w = .ok (.pointer (some ⟨w.heap.size, 0, none⟩)) (w.alloc (.cells (k.map byt).toArray 22)) := run_boxR 22 (k.map byt) w w.heap.size rfl
theorem idx22 (g m : Nat) (h : m < 32) (W : World) : (Instr.indexAt 22 (.pointer (some ⟨g, 0, none⟩)) (.int .i64 (m : Int))).run Try.prog W = .ok (.pointer (some ⟨g, m, none⟩)) W := by
  have hm : (m : Int) < 32 := by omega
  go_simp
  try simp
  try rw [add_plain]
theorem ld5 {ad : Addr} {v : Value} {W : World} (h : W.cell? ad = some v) : (Instr.loadAt 5 (.pointer (some ad))).run Try.prog W = .ok v W := by go_simp
theorem cv53 (b : Nat) (h : b < 256) (W : World) : (Go.convert 5 3 (.int .u8 (b : Int))).run Try.prog W = .ok (.int .i64 (b : Int)) W := by
  have h1 : IntKind.i64.wrap (b : Int) = (b : Int) := by rw [IntKind.wrap_i64]; omega
  go_simp
theorem wm2 (t : Nat) (h : t < 1000) : IntKind.i64.wrap (2 * (t : Int)) = ((2 * t : Nat) : Int) := by rw [IntKind.wrap_i64]; omega
theorem wm256 (t : Nat) (h : t < 1000) : IntKind.i64.wrap (256 * (t : Int)) = ((256 * t : Nat) : Int) := by rw [IntKind.wrap_i64]; omega
def frE (n : Nat) (y : Nat × Value) : List (Nat × Value) := [(1, .pointer (some ⟨n, 0, none⟩)), (2, .pointer (some ⟨n + 1, 0, none⟩)), (3, y.2), (4, .int .i64 (y.1 : Int))]
def FrR (n : Nat) (k : List UInt8) (w : World) (y : Nat × Value) (w' : World) : Prop := y.1 ≤ 16 ∧ Blk w' n (k.map byt) 22 ∧ Blk w' (n + 1) (dv z16) 49 ∧ w'.ownsRow 0 3 1 y.2 (kDt k y.1).length (dv (kDt k y.1)) ∧ (∀ j, y.2.ownBlock = some j → n + 2 ≤ j) ∧ Below n w w'
theorem fo0_kDt (k : List UInt8) : (kDt k 16).set 15 ((kDt k 16).getD 15 0 % 32768) = fo0 (kDt k 16) := by
  unfold fo0
  rw [List.take_of_length_le (by rw [kDt_length]; exact Nat.le_refl _)]
theorem two22 {w : World} (k : List UInt8) : ∃ w1 w2, (Instr.box 22 (.agg (k.map byt).toArray)).run Try.prog w = .ok (.pointer (some ⟨w.heap.size, 0, none⟩)) w1 ∧ (Instr.alloc 49 true (.tuple #[])).run Try.prog w1 = .ok (.pointer (some ⟨w.heap.size + 1, 0, none⟩)) w2 ∧ Blk w1 w.heap.size (k.map byt) 22 ∧ Below w.heap.size w w1 ∧ w1.heap.size = w.heap.size + 1 ∧ Blk w2 w.heap.size (k.map byt) 22 ∧ Blk w2 (w.heap.size + 1) (dv z16) 49 ∧ w2.heap.size = w.heap.size + 2 ∧ Below w.heap.size w w2 := by
  obtain ⟨w1, hw1⟩ : ∃ w1, w.alloc (.cells (k.map byt).toArray 22) = w1 := ⟨_, rfl⟩
  have s1 : w1.heap.size = w.heap.size + 1 := by rw [← hw1]; simp
  have b1 : Blk w1 w.heap.size (k.map byt) 22 := by rw [← hw1]; exact Blk.new _ _ _
  have e1 : Below w.heap.size w w1 := by rw [← hw1]; exact below_new _ _
  obtain ⟨w2, hw2⟩ : ∃ w2, w1.alloc (.cells (dv z16).toArray 49) = w2 := ⟨_, rfl⟩
  have s2 : w2.heap.size = w.heap.size + 2 := by rw [← hw2]; simp [s1]
  have b2 : Blk w2 w1.heap.size (dv z16) 49 := by rw [← hw2]; exact Blk.new _ _ _
  have e2 : Below w1.heap.size w1 w2 := by rw [← hw2]; exact below_new _ _
  have r1 := box22 k w
  have r2 := new49 w1
  rw [hw1] at r1
  rw [hw2] at r2
  have c1 := b1.on e2
  have e4 : Below w.heap.size w w2 := e1.trans (e2.mono (by omega))
  rw [s1] at r2 b2
  exact ⟨w1, w2, r1, r2, b1, e1, s1, c1, b2, s2, e4⟩
set_option maxRecDepth 100000 in
set_option maxHeartbeats 1000000 in
theorem from_num (k : List UInt8) (hk : k.length = 32) (w : World) : Calls Try.prog 36 #[.agg (k.map byt).toArray] w fun e w' => e = .returned (.agg (dv (numD (nV (fo0 (kDt k 16)) % PP))).toArray) ∧ Below w.heap.size w w' := by
  obtain ⟨w1, w2, r1, r2, _, _, _, bk, bz, hs2, be2⟩ := two22 (w := w) k
  obtain ⟨n, hn⟩ : ∃ n, w.heap.size = n := ⟨_, rfl⟩
  rw [hn] at r1 r2 bk bz hs2 be2
  rw [hn]
  refine calls_of_args [.agg (k.map byt).toArray] Try.func36 rfl 33 Try.ntmps36 (by show 1 ≤ 33; decide) ?_
  refine EW.seq ?_
  refine EW.region ?_
  refine WL.box rfl rfl rfl r1 ?_
  refine WL.new rfl rfl r2 ?_
  refine WL.done ?_
  refine EW.on ?_
  refine EW.seq ?_
  refine EW.region ?_
  first | refine WL.assign rfl rfl rfl ?_
  refine WL.done ?_
  refine EW.on ?_
  refine EW.seq ?_
  refine EW.seq ?_
  refine EW.region ?_
  first | refine WL.assign rfl rfl rfl ?_
  refine WL.done ?_
  refine EW.on ?_
  refine EW.block ?_
  refine EW.loop (frE n) (FrR n k w) (fun y => 16 - y.1) (0, .slice none 0 0) [1, 2, 3, 4] rfl ⟨by decide, bk, bz, World.ownsRow_nil _ _ _ _, fun j hj => by simp [Value.ownBlock] at hj, be2⟩ ?_
  clear r1 r2 bk bz be2 hs2
  rintro ⟨t, x⟩ wr ⟨ht, bk, bz, ho, hnb, hbe⟩
  have ht : t ≤ 16 := ht
  have ho : wr.ownsRow 0 3 1 x (kDt k t).length (dv (kDt k t)) := ho
  have hnb : ∀ j, x.ownBlock = some j → n + 2 ≤ j := hnb
  have hzl := bz.lt
  have hsl := kDt_length k t
  show EW _ _ _ _ [(1, .pointer (some ⟨n, 0, none⟩)), (2, .pointer (some ⟨n + 1, 0, none⟩)), (3, x), (4, .int .i64 (t : Int))] _
  by_cases h1 : t < 16
  · have z1 : (t : Int) < 16 := by omega
    have tn := tnD t (by omega)
    have hb0 := bD_lt k (2 * t)
    have hb1 := bD_lt k (2 * t + 1)
    have m2 := wm2 t (by omega)
    have a1 : IntKind.i64.wrap (((2 * t : Nat) : Int) + 1) = ((2 * t + 1 : Nat) : Int) := tnD (2 * t) (by omega)
    have m6 := wm256 (bD k (2 * t + 1)) (by omega)
    have had := waddN (bD k (2 * t)) (256 * bD k (2 * t + 1)) (by omega)
    rw [show bD k (2 * t) + 256 * bD k (2 * t + 1) = kdg k t from rfl] at had
    obtain ⟨wd, hwd⟩ : ∃ wd, { wr with drawn := wr.drawn + 1 } = wd := ⟨_, rfl⟩
    have bed : Below wr.heap.size wr wd := by rw [← hwd]; exact below_drawn wr
    have bkd := bk.on bed
    have bzd := bz.on bed
    have hbed := hbe.trans (bed.mono (by omega))
    have hsd := bed.size
    have hS : ∀ {V : World}, Blk V n (k.map byt) 22 → V.cell? ⟨n, 2 * t, none⟩ = some (.int .u8 ((bD k (2 * t) : Nat) : Int)) ∧ V.cell? ⟨n, 2 * t + 1, none⟩ = some (.int .u8 ((bD k (2 * t + 1) : Nat) : Int)) := fun h1 => ⟨(h1.cell _).trans (byt_at k _ (by omega)), (h1.cell _).trans (byt_at k _ (by omega))⟩
    have hod := ownsRow_fx ho (Fx.of_below (S := fun _ => False) bed) (fun _ _ s => s)
    obtain ⟨w1, ao, l, c, w2, hbs, hap, hown2, hfx, hnw, hb1'⟩ := push78b wd x (kDt k t) hod (kdg k t) (by omega) 78
    have hs1 := hb1'.size
    have hs2 := hfx.size
    rw [kDt_next] at hown2
    have bk2 := bkd.fx hfx (fun e => by have := hnb _ e; omega)
    have bz2 := bzd.fx hfx (fun e => by have := hnb _ e; omega)
    refine EW.seq ?_
    refine EW.seq ?_
    refine EW.region ?_
    first | refine WL.move rfl rfl rfl ?_
    refine WL.bin rfl rfl rfl rfl (int_lt_t z1 _ _ _) ?_
    refine WL.done ?_
    refine EW.on ?_
    refine EW.cond_t rfl ?_
    refine EW.skip ?_
    refine EW.on ?_
    refine EW.seq ?_
    refine EW.block ?_
    refine EW.chain 14 2 1 (fun V => V.cell? ⟨n, 2 * t, none⟩ = some (.int .u8 ((bD k (2 * t) : Nat) : Int)) ∧ V.cell? ⟨n, 2 * t + 1, none⟩ = some (.int .u8 ((bD k (2 * t + 1) : Nat) : Int))) (by kernel_rfl) rfl (by kernel_rfl) (by rw [hwd]; exact hS bkd) (by kernel_rfl) ?_
    rw [hwd]
    simp only [List.take_succ_cons, List.take_zero, List.drop_succ_cons, List.drop_zero, List.map_cons, List.map_nil, List.cons_append, List.nil_append, List.append_nil]
    refine OE.move rfl rfl rfl ?_
    refine OE.move rfl rfl rfl ?_
    refine OE.bin rfl rfl rfl rfl (fun V => int_mul m2 V _ _) ?_
    refine OE.index rfl rfl rfl rfl (fun V => idx22 n (2 * t) (by omega) V) ?_
    refine OE.load rfl rfl rfl (fun V hV => ld5 hV.1) ?_
    refine OE.conv rfl rfl rfl (fun V _ => cv53 _ hb0 V) ?_
    refine OE.move rfl rfl rfl ?_
    refine OE.bin rfl rfl rfl rfl (fun V => int_mul m2 V _ _) ?_
    refine OE.bin rfl rfl rfl rfl (fun V => int_add a1 V _ _) ?_
    refine OE.index rfl rfl rfl rfl (fun V => idx22 n (2 * t + 1) (by omega) V) ?_
    refine OE.load rfl rfl rfl (fun V hV => ld5 hV.2) ?_
    refine OE.conv rfl rfl rfl (fun V _ => cv53 _ hb1 V) ?_
    refine OE.bin rfl rfl rfl rfl (fun V => int_mul m6 V _ _) ?_
    refine OE.bin rfl rfl rfl rfl (fun V => int_add had V _ _) ?_
    refine OE.bsl (fun V => V.cell? ⟨n, 2 * t, none⟩ = some (.int .u8 ((bD k (2 * t) : Nat) : Int)) ∧ V.cell? ⟨n, 2 * t + 1, none⟩ = some (.int .u8 ((bD k (2 * t + 1) : Nat) : Int))) rfl rfl (hS (bkd.on hb1')) (fun V h => h) rfl hbs ?_
    refine OE.app (fun V => V.cell? ⟨n, 2 * t, none⟩ = some (.int .u8 ((bD k (2 * t) : Nat) : Int)) ∧ V.cell? ⟨n, 2 * t + 1, none⟩ = some (.int .u8 ((bD k (2 * t + 1) : Nat) : Int))) rfl rfl (hS bk2) (fun V h => h) rfl rfl hap ?_
    refine fun W5 hW => ?_
    rw [hW]
    refine WL.assign rfl rfl rfl ?_
    refine WL.done ?_
    refine pn_block ?_
    refine EW.on ?_
    refine EW.region ?_
    first | refine WL.move rfl rfl rfl ?_
    refine WL.bin rfl rfl rfl rfl (int_add tn _ _ _) ?_
    first | refine WL.assign rfl rfl rfl ?_
    refine WL.done ?_
    refine EW.again (E := frE n) (R := FrR n k w) (m := fun y => 16 - y.1) (x := (t, x)) (t + 1, .slice ao l c) [1, 2, 3, 4] rfl ⟨by show t + 1 ≤ 16; omega, bk2, bz2, hown2, fun j hj => ?_, hbed.trans (hfx.below (fun j hj e => by have := hnb _ e; omega) (by omega))⟩ (by show 16 - (t + 1) < 16 - t; omega)
    rcases hnw j hj with e | e
    · exact hnb j e
    · omega
  · have z1 : ¬ (t : Int) < 16 := by omega
    obtain rfl : t = 16 := by omega
    obtain ⟨g, cap, hxe, hcap, hcl, hfr, hset⟩ := own_parts ho (by omega)
    have hgb : x.ownBlock = some g := by rw [hxe]; rfl
    have hgn := hnb g hgb
    have h15 := hcl 15 (by omega)
    have hs := hset 15 ((kDt k 16).getD 15 0 % 32768) (by omega)
    have hst := st3 (z := (((kDt k 16).getD 15 0 % 32768 : Nat) : Int)) h15 (hfr 15)
    rw [fo0_kDt] at hs
    have hix : ∀ V, (Instr.indexAt 78 x (.int .i64 15)).run Try.prog V = .ok (.pointer (some ⟨g, 15, none⟩)) V := fun V => by rw [hxe]; exact idx78 g _ _ 15 (by omega) V
    have bz6 := bz.setOther g 15 (.int .i64 (((kDt k 16).getD 15 0 % 32768 : Nat) : Int)) (by omega)
    have be6 := hbe.trans ((Fx.setCell (S := fun j => j = g) wr g 15 (.int .i64 (((kDt k 16).getD 15 0 % 32768 : Nat) : Int)) rfl).below (B := n) (fun j hj e => by omega) (by omega))
    have hfl := fo0_length (kDt k 16) (by omega)
    have hred := reduced_law x (fo0 (kDt k 16)) _ (own_dig hs (by omega)) (by omega) (by omega) (fun j => by
      rw [fo0_getD _ (by omega) j]
      have := kDt_dig k 16 j
      have := kDt_dig k 16 15
      split
      · omega
      · split
        · omega
        · decide)
    obtain ⟨w6, hw6⟩ : ∃ w6, wr.setCell ⟨g, 15, none⟩ (.int .i64 (((kDt k 16).getD 15 0 % 32768 : Nat) : Int)) = w6 := ⟨_, rfl⟩
    rw [hw6] at hst bz6 be6 hred
    have hz6 := bz6.lt
    refine EW.seq ?_
    refine EW.seq ?_
    refine EW.region ?_
    first | refine WL.move rfl rfl rfl ?_
    refine WL.bin rfl rfl rfl rfl (int_lt_f z1 _ _ _) ?_
    refine WL.done ?_
    refine EW.on ?_
    refine EW.cond_f rfl ?_
    refine EW.exit ?_
    repeat refine px_then ?_
    refine px_block ?_
    refine EW.on ?_
    refine EW.seq ?_
    refine EW.region ?_
    first | refine WL.move rfl rfl rfl ?_
    first | refine WL.move rfl rfl rfl ?_
    refine WL.index rfl rfl rfl rfl (hix _) ?_
    refine WL.load rfl rfl rfl (ld3 h15) ?_
    refine WL.bin rfl rfl rfl rfl (remN _ 32768 (by decide) _ _ _ (by decide)) ?_
    refine WL.index rfl rfl rfl rfl (hix _) ?_
    refine WL.store rfl rfl rfl hst ?_
    refine WL.done ?_
    refine EW.on ?_
    refine EW.seq ?_
    refine EW.region ?_
    first | refine WL.move rfl rfl rfl ?_
    refine WL.call [x] enter46 rfl rfl rfl hred ?_
    rintro x w5 ⟨rfl, hb5⟩
    refine ⟨_, rfl, ?_⟩
    refine WL.store rfl rfl rfl (st49 z16_length (numD_length _) (bz6.on hb5)) ?_
    refine WL.done ?_
    refine EW.on ?_
    refine EW.ret ?_
    repeat (first | refine pr_then ?_ | refine pr_block ?_)
    exact EW.returnsC Try.results36 rfl ((bz6.on hb5).setRow _) Try.underlying49 rfl (info49 (numD_length _)) ⟨rfl, below_setRow (be6.trans (hb5.mono (by omega))) (n + 1) _ (by omega)⟩
end Go.Proofs.Ytnakeieeopbeiaa
