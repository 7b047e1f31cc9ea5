import Derived.Test.YtnfikgnploockaaDoorTurnG
import Derived.Test.YtnfikgnploockaaDoorRefd
set_option linter.unusedVariables false
set_option linter.unusedSimpArgs false
namespace Go.Proofs.YtnfikgnploockaaDoor
open Go.RowKit

theorem u22 : Tryd.prog.underlying 22 = some (.array 32 5) := by kernel_rfl
theorem ld22 {w : World} {q : Nat} {K : List UInt8} {t : TypeId} (hb : Blk w q (K.map byt) t) (hK : K.length = 32) : (Instr.loadAt 22 (.pointer (some ⟨q, 0, none⟩))).run Tryd.prog w = .ok (kv K) w := run_loadR hb u22 rfl (i22 hK)
theorem box22 (K : List UInt8) (w : World) : ∃ w1 q, (Instr.box 22 (kv K)).run Tryd.prog w = .ok (.pointer (some ⟨q, 0, none⟩)) w1 ∧ Blk w1 q (K.map byt) 22 ∧ Below w.heap.size w w1 ∧ q = w.heap.size :=
  ⟨_, _, run_boxR 22 _ w _ rfl, Blk.new _ _ _, below_new _ _, rfl⟩
theorem idx22 (d m : Nat) (h : m < 32) (W : World) : (Instr.indexAt 22 (.pointer (some ⟨d, 0, none⟩)) (.int .i64 (m : Int))).run Tryd.prog W = .ok (.pointer (some ⟨d, m, none⟩)) W := by
  have hm : (m : Int) < 32 := by omega
  have hal : Tryd.prog.arrayLen 22 = 32 := by kernel_rfl
  go_simp
  try simp [add_plain]
/-- The document's tables besides. -/
structure Dst (w : World) : Prop where
  l : Lst w
  r : Rst w
  b : Bst w
theorem Dst.on {w w' : World} (h : Dst w) (hb : Below w.heap.size w w') : Dst w' := ⟨h.l.on hb, h.r.below hb h.r.lt, h.b.below hb h.b.lt⟩
theorem rsum_gen (v : Value) (M D : List UInt8) (hD : sumOf M = D) (w : World) (hv : Has w v M) (hM : M.length ≤ 100000000000000) (hR : Rst w) (hB : Bst w) : Calls Tryd.prog 38 #[v] w fun e w' => e = .returned (kv D) ∧ Below w.heap.size w w' := by
  subst hD
  exact refsum_any v M w hv hM hR hB
theorem Own.ofNew (W : World) (bs : List UInt8) (hl : bs.length ≤ 1000000) : Own (W.alloc (.cells (bs.map byt).toArray 5)) W.heap.size (.slice (some ⟨W.heap.size, 0, none⟩) bs.length bs.length) bs :=
  ⟨by simp, .inr ⟨W.heap.size, bs.length, _, rfl, Nat.le_refl _, heap_alloc_new W _, Nat.le_refl _, by unfold maxLen; omega, by simp, by simp [List.take_of_length_le]⟩⟩
/-- A string's bytes behind bytes of the call's own. -/
theorem Own.appS {w : World} {base : Nat} {v : Value} {bs : List UInt8} (h : Own w base v bs) (l : List UInt8) (hb : bs.length + l.length ≤ 1000000) (hbase : base ≤ w.heap.size) (ty : TypeId) : ∃ v' w', (Builtin.append_ #[27, 9] ty #[v, sv l]).run Tryd.prog w = .ok v' w' ∧ Own w' base v' (bs ++ l) ∧ Below base w w' := by
  obtain ⟨i0, hi, hz0, hz1, hz2⟩ := info_parts Tryd.info5
  have hsz : (⟨l.toArray⟩ : ByteArray).size = l.length := by simp [ByteArray.size]
  obtain ⟨v', w', r1, r2, r3, _⟩ := Lib.run_append_own_string (P := Tryd.prog) (w := w) base 27 9 ty 5 i0 Tryd.underlying27 Tryd.underlying9 hi hz0 hz1 hz2 v _ _ h ⟨l.toArray⟩ (by rw [hsz]; unfold maxLen; omega) (by rw [hsz]; omega) hbase
  refine ⟨v', w', r1, ?_, (grown_fx r3).below (fun k hk e => by have := h.ownBlock k e; omega) hbase⟩
  unfold Own
  rw [List.length_append, List.map_append]
  rw [hsz] at r2
  have e : Lib.strCells ⟨l.toArray⟩ = l.map byt := by simp [Lib.strCells, byt]
  rw [e] at r2
  exact r2
theorem quo_n (n m : Nat) (hm : 0 < m) (hn : n < 4611686018427387904) (W : World) (x y : Operand) : (do eqGuard .quo 3 x y (.int .i64 (n : Int)) (.int .i64 (m : Int)); binOp .quo 3 (.int .i64 (n : Int)) (.int .i64 (m : Int)) : Sem Value).run Tryd.prog W = .ok (.int .i64 ((n / m : Nat) : Int)) W := by
  have hb : ¬ (m : Int) = 0 := by omega
  have e : ((n : Int)).tdiv (m : Int) = ((n / m : Nat) : Int) := by rw [Int.tdiv_eq_ediv_of_nonneg (Int.natCast_nonneg _)]; rfl
  have hw : IntKind.i64.wrap ((n / m : Nat) : Int) = ((n / m : Nat) : Int) := by
    have := Nat.div_le_self n m
    obtain ⟨c, hc⟩ : ∃ c, n / m = c := ⟨_, rfl⟩
    rw [hc] at this ⊢
    rw [IntKind.wrap_i64]; omega
  have h : IntKind.i64.wrap (((n : Int)).tdiv (m : Int)) = ((n / m : Nat) : Int) := by rw [e]; exact hw
  have hm0 : ¬ m = 0 := by omega
  go_simp
  exact_mod_cast hw
/-- The powers of ten downwards. -/
def pw (j : Nat) : Nat := 10000 / 10 ^ j
theorem pw_succ (j : Nat) : pw (j + 1) = pw j / 10 := by
  unfold pw
  rw [Nat.div_div_eq_div_mul, Nat.pow_succ]
theorem pw_lt {j : Nat} (h : j < 5) : pw j = 10 ^ (4 - j) ∧ 1 ≤ pw j ∧ pw j ≤ 10000 := by
  have : j = 0 ∨ j = 1 ∨ j = 2 ∨ j = 3 ∨ j = 4 := by omega
  rcases this with rfl | rfl | rfl | rfl | rfl <;> decide
theorem pw_5 : pw 5 = 0 := by decide
theorem d5_at (n : Nat) {j : Nat} (h : j < 5) : (d5 n)[j]? = some (UInt8.ofNat (48 + n / pw j % 10)) := by
  have : j = 0 ∨ j = 1 ∨ j = 2 ∨ j = 3 ∨ j = 4 := by omega
  rcases this with rfl | rfl | rfl | rfl | rfl <;> rfl
def nE0 (q d k : Nat) : List (Nat × Value) := [(3, .pointer (some ⟨q, 0, none⟩)), (8, .pointer (some ⟨d, 0, none⟩)), (9, .int .i64 (k : Int))]
def nE2 (d : Nat) (x : Nat × Value) : List (Nat × Value) := [(8, .pointer (some ⟨d, 0, none⟩)), (10, x.2), (11, .int .i64 (x.1 : Int))]
def nE4 (B : List UInt8) (d g : Nat) (v : Value) (i : Nat) : List (Nat × Value) := [(8, .pointer (some ⟨d, 0, none⟩)), (10, v), (11, .int .i64 (g : Int)), (12, .int .i64 ((gN (B.take i) : Nat) : Int)), (13, .int .i64 (i : Int))]
def nE6 (d g n : Nat) (y : Nat × Value) : List (Nat × Value) := [(8, .pointer (some ⟨d, 0, none⟩)), (10, y.2), (11, .int .i64 (g : Int)), (12, .int .i64 ((n : Nat) : Int)), (14, .int .i64 ((pw y.1 : Nat) : Int))]
set_option maxRecDepth 100000 in
set_option maxHeartbeats 4000000 in
theorem rhalf_any (name K : List UInt8) (hK : K.length = 32) (w : World) (hD : Dst w) : Calls Tryd.prog 27 #[sv name, kv K] w fun e w' => e = .returned (.tuple #[sv (haD name K), .int .i64 (nmE name)]) ∧ Below w.heap.size w w' := by
  obtain ⟨w1, q, r1, b1, l1, hq⟩ := box22 K w
  have hD1 := hD.on l1
  have hqw : q < w1.heap.size := b1.lt
  refine calls_of_args [sv name, kv K] Tryd.func27 rfl 76 Tryd.ntmps27 (by show 2 ≤ 76; decide) ?_
  refine EW.seq ?_
  refine EW.region ?_
  refine WL.box rfl rfl rfl r1 ?_
  first | refine WL.assign rfl rfl rfl ?_
  first | refine WL.assign rfl rfl rfl ?_
  refine WL.done ?_
  refine EW.on ?_
  refine EW.seq ?_
  refine EW.region ?_
  first | refine WL.move rfl rfl rfl ?_
  refine WL.call [sv name] enter37 rfl rfl rfl (rnamed_any name w1) ?_
  rintro _ wz ⟨rfl, hz⟩
  rw [hz]
  clear hz wz
  refine ⟨_, rfl, ?_⟩
  first | refine WL.assign rfl rfl rfl ?_
  refine WL.done ?_
  refine EW.on ?_
  refine EW.seq ?_
  refine EW.seq ?_
  refine EW.region ?_
  first | refine WL.move rfl rfl rfl ?_
  refine WL.bin rfl rfl rfl rfl (int_ne_d _ _ _ _ _) ?_
  refine WL.done ?_
  refine EW.on ?_
  refine EW.cond_d rfl (fun h18 => ?_) (fun h18 => ?_)
  · refine EW.seq ?_
    refine EW.region ?_
    first | refine WL.move rfl rfl rfl ?_
    first | refine WL.assign rfl rfl rfl ?_
    first | refine WL.assign rfl rfl rfl ?_
    refine WL.done ?_
    refine EW.on ?_
    refine EW.ret ?_
    refine pr_then ?_
    exact EW.returns2 Tryd.results27 rfl rfl ⟨by unfold haD; rw [if_neg h18]; rfl, l1⟩
  · refine EW.skip ?_
    refine EW.on ?_
    refine EW.seq ?_
    replace h18 : nmE name = 0 := by simpa using h18
    have hok := h18
    have hn16 := (nmE_ok.1 hok).2
    obtain ⟨S, hS, hHa⟩ : ∃ S, Sq name K S ∧ haD name K = hP (S 15) 6 := ⟨strS name K, strS_sq name K, by unfold haD; rw [if_pos hok]; unfold half; rfl⟩
    refine EW.region ?_
    first | refine WL.move rfl rfl rfl ?_
    refine WL.len rfl rfl rfl (len_s _ _ _) ?_
    refine WL.conv rfl rfl rfl (conv3_5 _ _) ?_
    refine WL.bslN [(0, byt 1), (1, byt (UInt8.ofNat name.length))] rfl rfl rfl (bsl27_2 _ _ _) ?_
    have l3 := below_new w1 (.cells (([1, UInt8.ofNat name.length] : List UInt8).map byt).toArray 5)
    have o3 := Own.ofNew w1 [1, UInt8.ofNat name.length] (by simp)
    generalize hw3 : w1.alloc (.cells (([1, UInt8.ofNat name.length] : List UInt8).map byt).toArray 5) = w3 at l3 o3 ⊢
    first | refine WL.assign rfl rfl rfl ?_
    refine WL.done ?_
    refine EW.on ?_
    refine EW.seq ?_
    refine EW.region ?_
    first | refine WL.move rfl rfl rfl ?_
    first | refine WL.move rfl rfl rfl ?_
    obtain ⟨v4, w4, r4, o4, l4⟩ := Own.appS o3 name (by simp; omega) l3.size 27
    refine WL.appS rfl rfl rfl rfl r4 ?_
    have l34 := l3.trans l4
    first | refine WL.assign rfl rfl rfl ?_
    refine WL.done ?_
    refine EW.on ?_
    refine EW.seq ?_
    refine EW.region ?_
    first | refine WL.move rfl rfl rfl ?_
    refine WL.slice0 rfl rfl rfl (sl22 q _) ?_
    obtain ⟨v5, w5, r5, o5, l5, _⟩ := o4.app ((b1.on l34).has 32 hK) (by simp; omega) l34.size 27
    refine WL.app rfl rfl rfl rfl r5 ?_
    have l35 := l34.trans l5
    first | refine WL.assign rfl rfl rfl ?_
    refine WL.done ?_
    refine EW.on ?_
    refine EW.seq ?_
    refine EW.region ?_
    first | refine WL.move rfl rfl rfl ?_
    refine WL.call [v5] enter38 rfl rfl rfl (rsum_gen v5 _ (S 0) (by rw [← hS.s0]; simp) w5 o5.has (by simp; omega) (hD1.on l35).r (hD1.on l35).b) ?_
    rintro _ w6 ⟨rfl, l6⟩
    refine ⟨_, rfl, ?_⟩
    obtain ⟨w7, d, r7, b7, l7, hd⟩ := new22 w6
    refine WL.new rfl rfl r7 ?_
    obtain ⟨w8, r8, b8, f8⟩ := st22 b7 z32l (hS.len 0)
    refine WL.store rfl rfl rfl r8 ?_
    have hdw : w1.heap.size ≤ d := by have := l35.size; have := l6.size; omega
    have L8 := bf (bt (bt l35 l6) l7) f8 hdw
    have b1' := ((((b1.on l35).on l6).on l7).fx f8 (fun e => by have e : q = d := e; omega))
    refine WL.done ?_
    refine EW.on ?_
    refine EW.seq ?_
    refine EW.seq ?_
    refine EW.region ?_
    first | refine WL.assign rfl rfl rfl ?_
    refine WL.done ?_
    refine EW.on ?_
    refine EW.block ?_
    refine EW.loop (nE0 q d) (fun k W => k ≤ 15 ∧ Blk W d ((S k).map byt) 22 ∧ Blk W q (K.map byt) 22 ∧ Dst W ∧ Below w1.heap.size w1 W) (fun k => 15 - k) 0 [3, 8, 9] rfl ⟨by omega, b8, b1', hD1.on L8, L8⟩ ?_
    rintro k W0 ⟨hk15, hd0, hq0, hk0, hb0⟩
    refine EW.seq ?_
    refine EW.seq ?_
    refine EW.region ?_
    first | refine WL.move rfl rfl rfl ?_
    refine WL.bin rfl rfl rfl rfl (int_lt_d _ _ _ _ _) ?_
    refine WL.done ?_
    refine EW.on ?_
    refine EW.cond_d rfl (fun h33 => ?_) (fun h33 => ?_)
    · refine EW.skip ?_
      refine EW.on ?_
      refine EW.seq ?_
      refine EW.block ?_
      refine EW.seq ?_
      refine EW.region ?_
      refine WL.slice0 rfl rfl rfl (sl22 d _) ?_
      obtain ⟨v11, w11, r11, o11, l11, _⟩ := (Own.nil W0 W0.heap.size).app (hd0.has 32 (hS.len k)) (by rw [hS.len k]; decide) (Nat.le_refl _) 27
      refine WL.app rfl rfl rfl rfl r11 ?_
      first | refine WL.assign rfl rfl rfl ?_
      refine WL.done ?_
      refine EW.on ?_
      refine EW.seq ?_
      refine EW.region ?_
      first | refine WL.move rfl rfl rfl ?_
      refine WL.slice0 rfl rfl rfl (sl22 q _) ?_
      obtain ⟨v12, w12, r12, o12, l12, _⟩ := o11.app ((hq0.on l11).has 32 hK) (by rw [List.length_append, hS.len k, hK]; decide) l11.size 27
      refine WL.app rfl rfl rfl rfl r12 ?_
      have l112 := l11.trans l12
      first | refine WL.assign rfl rfl rfl ?_
      refine WL.done ?_
      refine EW.on ?_
      refine EW.region ?_
      first | refine WL.move rfl rfl rfl ?_
      refine WL.call [v12] enter38 rfl rfl rfl (rsum_gen v12 _ (S (k + 1)) (by rw [← hS.s1 k, List.nil_append]) w12 o12.has (by rw [List.nil_append, List.length_append, hS.len k, hK]; decide) (hk0.on l112).r (hk0.on l112).b) ?_
      rintro _ w13 ⟨rfl, l13⟩
      refine ⟨_, rfl, ?_⟩
      have l113 := bt l112 l13
      obtain ⟨w14, r14, b14, f14⟩ := st22 (hd0.on l113) (hS.len k) (hS.len (k + 1))
      refine WL.store rfl rfl rfl r14 ?_
      have hb14 := bf (bt hb0 l113) f14 hdw
      refine WL.done ?_
      refine pn_block ?_
      refine EW.on ?_
      refine EW.region ?_
      first | refine WL.move rfl rfl rfl ?_
      refine WL.bin rfl rfl rfl rfl (int_add (c := ((k + 1 : Nat) : Int)) (by rw [IntKind.wrap_i64]; omega) _ _ _) ?_
      first | refine WL.assign rfl rfl rfl ?_
      refine WL.done ?_
      exact EW.again (E := nE0 q d) (R := fun k W => k ≤ 15 ∧ Blk W d ((S k).map byt) 22 ∧ Blk W q (K.map byt) 22 ∧ Dst W ∧ Below w1.heap.size w1 W) (m := fun k => 15 - k) (x := k) (k + 1) [3, 8, 9] rfl ⟨by omega, b14, (hq0.on l113).fx f14 (fun e => by have e : q = d := e; omega), hD1.on hb14, hb14⟩ (by show 15 - (k + 1) < 15 - k; omega)
    · refine EW.exit ?_
      refine px_then ?_
      refine px_then ?_
      refine px_block ?_
      refine EW.on ?_
      refine EW.seq ?_
      obtain rfl : k = 15 := by omega
      refine EW.region ?_
      first | refine WL.assign rfl rfl rfl ?_
      refine WL.done ?_
      refine EW.on ?_
      refine EW.seq ?_
      refine EW.seq ?_
      refine EW.region ?_
      first | refine WL.assign rfl rfl rfl ?_
      refine WL.done ?_
      refine EW.on ?_
      refine EW.block ?_
      refine EW.loop (nE2 d) (fun x W => x.1 ≤ 6 ∧ Own W W0.heap.size x.2 (hP (S 15) x.1) ∧ Below W0.heap.size W0 W) (fun x => 6 - x.1) (0, .slice none 0 0) [8, 10, 11] rfl ⟨by show 0 ≤ 6; omega, Own.nil _ _, Below.refl _ _⟩ ?_
      rintro x Wg ⟨hg, hO, hb⟩
      refine EW.seq ?_
      refine EW.seq ?_
      refine EW.region ?_
      first | refine WL.move rfl rfl rfl ?_
      refine WL.bin rfl rfl rfl rfl (int_lt_d _ _ _ _ _) ?_
      refine WL.done ?_
      refine EW.on ?_
      refine EW.cond_d rfl (fun h44 => ?_) (fun h44 => ?_)
      · refine EW.skip ?_
        refine EW.on ?_
        refine EW.seq ?_
        refine EW.block ?_
        refine EW.seq ?_
        refine EW.region ?_
        first | refine WL.assign rfl rfl rfl ?_
        refine WL.done ?_
        refine EW.on ?_
        refine EW.seq ?_
        refine EW.seq ?_
        refine EW.region ?_
        first | refine WL.assign rfl rfl rfl ?_
        refine WL.done ?_
        refine EW.on ?_
        refine EW.block ?_
        obtain ⟨B, hB⟩ : ∃ B, ((S 15).drop (x.1 * 5)).take 5 = B := ⟨_, rfl⟩
        have hBl : B.length = 5 := by rw [← hB, List.length_take, List.length_drop, hS.len 15]; omega
        have hd9 := hd0.on hb
        refine EW.loop (nE4 B d x.1 x.2) (fun i W => i ≤ 5 ∧ W = Wg) (fun i => 5 - i) 0 [8, 10, 11, 12, 13] rfl ⟨by omega, rfl⟩ ?_
        rintro i W ⟨hi, hz⟩
        rw [hz]
        clear hz W
        refine EW.seq ?_
        refine EW.seq ?_
        refine EW.region ?_
        first | refine WL.move rfl rfl rfl ?_
        refine WL.bin rfl rfl rfl rfl (int_lt_d _ _ _ _ _) ?_
        refine WL.done ?_
        refine EW.on ?_
        refine EW.cond_d rfl (fun h48 => ?_) (fun h48 => ?_)
        · refine EW.skip ?_
          refine EW.on ?_
          refine EW.seq ?_
          refine EW.block ?_
          obtain ⟨u, hu⟩ : ∃ u, B[i]? = some u := ⟨_, List.getElem?_eq_getElem (by omega)⟩
          have hN : gN (B.take i) < 1099511627776 := Nat.lt_of_lt_of_le (gN_lt _) (Nat.le_trans (Nat.pow_le_pow_right (by decide) (show (B.take i).length ≤ 5 by rw [List.length_take]; omega)) (by decide))
          have hub := u.toNat_lt
          have hcu : Wg.cell? ⟨d, 5 * x.1 + i, none⟩ = some (byt u) := by
            rw [← hB, List.getElem?_take_of_lt (by omega), List.getElem?_drop] at hu
            rw [hd9.cell, List.getElem?_map, show 5 * x.1 + i = x.1 * 5 + i by omega, hu]; rfl
          refine EW.region ?_
          first | refine WL.move rfl rfl rfl ?_
          refine WL.bin rfl rfl rfl rfl (int_mul (c := ((gN (B.take i) * 256 : Nat) : Int)) (by rw [IntKind.wrap_i64]; omega) _ _ _) ?_
          first | refine WL.move rfl rfl rfl ?_
          refine WL.bin rfl rfl rfl rfl (int_mul (c := ((5 * x.1 : Nat) : Int)) (by rw [IntKind.wrap_i64]; omega) _ _ _) ?_
          first | refine WL.move rfl rfl rfl ?_
          refine WL.bin rfl rfl rfl rfl (int_add (c := ((5 * x.1 + i : Nat) : Int)) (by rw [IntKind.wrap_i64]; omega) _ _ _) ?_
          refine WL.index rfl rfl rfl rfl (idx22 d (5 * x.1 + i) (by omega) _) ?_
          refine WL.load rfl rfl rfl (ld5 hcu) ?_
          refine WL.conv rfl rfl rfl (conv5_3 u _) ?_
          refine WL.bin rfl rfl rfl rfl (int_add (c := ((gN (B.take i) * 256 + u.toNat : Nat) : Int)) (by rw [IntKind.wrap_i64]; omega) _ _ _) ?_
          first | refine WL.assign rfl rfl rfl ?_
          refine WL.done ?_
          refine pn_block ?_
          refine EW.on ?_
          refine EW.region ?_
          first | refine WL.move rfl rfl rfl ?_
          refine WL.bin rfl rfl rfl rfl (int_add (c := ((i + 1 : Nat) : Int)) (by rw [IntKind.wrap_i64]; omega) _ _ _) ?_
          first | refine WL.assign rfl rfl rfl ?_
          refine WL.done ?_
          exact EW.again (E := nE4 B d x.1 x.2) (R := fun i W => i ≤ 5 ∧ W = Wg) (m := fun i => 5 - i) (x := i) (i + 1) [8, 10, 11, 12, 13] (by unfold nE4; rw [take_succ' hu, gN_snoc]; rfl) ⟨by omega, rfl⟩ (by show 5 - (i + 1) < 5 - i; omega)
        · refine EW.exit ?_
          refine px_then ?_
          refine px_then ?_
          refine px_block ?_
          refine EW.on ?_
          refine EW.seq ?_
          obtain ⟨n, hn⟩ : ∃ n, gN (B.take i) = n := ⟨_, rfl⟩
          have hnB : gN B = n := by rw [← hn, List.take_of_length_le (by omega)]
          have hnlt : n < 1099511627776 := by rw [← hnB]; exact Nat.lt_of_lt_of_le (gN_lt _) (by rw [hBl]; decide)
          unfold nE4
          rw [hn]
          refine EW.region ?_
          first | refine WL.assign rfl rfl rfl ?_
          refine WL.done ?_
          refine EW.on ?_
          refine EW.block ?_
          refine EW.loop (nE6 d x.1 n) (fun y W => y.1 ≤ 5 ∧ Own W W0.heap.size y.2 (hP (S 15) x.1 ++ (d5 n).take y.1) ∧ Below W0.heap.size W0 W) (fun y => 5 - y.1) (0, x.2) [8, 10, 11, 12, 14] (by show keepE _ _ = [(8, .pointer (some ⟨d, 0, none⟩)), (10, x.2), (11, .int .i64 (x.1 : Int)), (12, .int .i64 ((n : Nat) : Int)), (14, .int .i64 ((pw 0 : Nat) : Int))]; rw [show pw 0 = 10000 by decide]; rfl) ⟨by show 0 ≤ 5; omega, by show Own Wg _ x.2 (hP (S 15) x.1 ++ (d5 n).take 0); rw [List.take_zero, List.append_nil]; exact hO, hb⟩ ?_
          rintro y W6 ⟨hy, hO6, hb6⟩
          refine EW.seq ?_
          refine EW.seq ?_
          refine EW.region ?_
          first | refine WL.move rfl rfl rfl ?_
          refine WL.bin rfl rfl rfl rfl (int_ge_d _ _ _ _ _) ?_
          refine WL.done ?_
          refine EW.on ?_
          refine EW.cond_d rfl (fun h62 => ?_) (fun h62 => ?_)
          · refine EW.skip ?_
            refine EW.on ?_
            refine EW.seq ?_
            refine EW.block ?_
            have hy5 : y.1 < 5 := by
              rcases Nat.lt_or_ge y.1 5 with h | h
              · exact h
              · have e : y.1 = 5 := by omega
                rw [e, pw_5] at h62
                omega
            obtain ⟨_, hp1, hp2⟩ := pw_lt hy5
            have hq10 : n / pw y.1 % 10 < 10 := Nat.mod_lt _ (by decide)
            refine EW.region ?_
            first | refine WL.move rfl rfl rfl ?_
            first | refine WL.move rfl rfl rfl ?_
            first | refine WL.move rfl rfl rfl ?_
            refine WL.bin rfl rfl rfl rfl (quo_n n (pw y.1) hp1 (by omega) _ _ _) ?_
            refine WL.bin rfl rfl rfl rfl (int_rem (c := ((n / pw y.1 % 10 : Nat) : Int)) (by decide) (by rw [Int.tmod_eq_emod_of_nonneg (Int.natCast_nonneg _)]; rfl) _ _ _) ?_
            refine WL.bin rfl rfl rfl rfl (int_add (c := ((48 + n / pw y.1 % 10 : Nat) : Int)) (by rw [IntKind.wrap_i64]; omega) _ _ _) ?_
            refine WL.conv rfl rfl rfl (conv3_5 _ _) ?_
            obtain ⟨s1, W2, v2, W3, p1, p2, o2, lb2, _⟩ := hO6.push (UInt8.ofNat (48 + n / pw y.1 % 10)) (by rw [List.length_append, hP_len, List.length_take, d5_len]; omega) hb6.size 27
            refine WL.bslN [(0, byt (UInt8.ofNat (48 + n / pw y.1 % 10)))] rfl rfl rfl p1 ?_
            refine WL.app rfl rfl rfl rfl p2 ?_
            first | refine WL.assign rfl rfl rfl ?_
            refine WL.done ?_
            refine pn_block ?_
            refine EW.on ?_
            refine EW.region ?_
            first | refine WL.move rfl rfl rfl ?_
            refine WL.bin rfl rfl rfl rfl (quo_n (pw y.1) 10 (by decide) (by omega) _ _ _) ?_
            first | refine WL.assign rfl rfl rfl ?_
            refine WL.done ?_
            exact EW.again (E := nE6 d x.1 n) (R := fun y W => y.1 ≤ 5 ∧ Own W W0.heap.size y.2 (hP (S 15) x.1 ++ (d5 n).take y.1) ∧ Below W0.heap.size W0 W) (m := fun y => 5 - y.1) (x := y) (y.1 + 1, v2) [8, 10, 11, 12, 14] (by show keepE _ _ = [(8, .pointer (some ⟨d, 0, none⟩)), (10, v2), (11, .int .i64 (x.1 : Int)), (12, .int .i64 ((n : Nat) : Int)), (14, .int .i64 ((pw (y.1 + 1) : Nat) : Int))]; rw [pw_succ]; rfl) ⟨by show y.1 + 1 ≤ 5; omega, by show Own W3 _ v2 (hP (S 15) x.1 ++ (d5 n).take (y.1 + 1)); rw [take_succ' (d5_at n hy5), ← List.append_assoc]; exact o2, hb6.trans lb2⟩ (by show 5 - (y.1 + 1) < 5 - y.1; omega)
          · refine EW.exit ?_
            refine px_then ?_
            refine px_then ?_
            refine px_block ?_
            refine pn_block ?_
            refine EW.on ?_
            have hy5 : y.1 = 5 := by
              rcases Nat.lt_or_ge y.1 5 with h | h
              · have := (pw_lt h).2.1; omega
              · omega
            refine EW.region ?_
            first | refine WL.move rfl rfl rfl ?_
            refine WL.bin rfl rfl rfl rfl (int_add (c := ((x.1 + 1 : Nat) : Int)) (by rw [IntKind.wrap_i64]; omega) _ _ _) ?_
            first | refine WL.assign rfl rfl rfl ?_
            refine WL.done ?_
            exact EW.again (E := nE2 d) (R := fun x W => x.1 ≤ 6 ∧ Own W W0.heap.size x.2 (hP (S 15) x.1) ∧ Below W0.heap.size W0 W) (m := fun x => 6 - x.1) (x := x) (x.1 + 1, y.2) [8, 10, 11] rfl ⟨by show x.1 + 1 ≤ 6; omega, by show Own W6 _ y.2 (hP (S 15) (x.1 + 1)); rw [hP_succ, hB, hnB]; rw [List.take_of_length_le (by rw [d5_len]; omega)] at hO6; exact hO6, hb6⟩ (by show 6 - (x.1 + 1) < 6 - x.1; omega)
      · refine EW.exit ?_
        refine px_then ?_
        refine px_then ?_
        refine px_block ?_
        refine EW.on ?_
        refine EW.seq ?_
        have h6 : x.1 = 6 := by omega
        rw [h6] at hO
        refine EW.region ?_
        first | refine WL.move rfl rfl rfl ?_
        refine WL.conv rfl rfl rfl hO.has.convert ?_
        first | refine WL.assign rfl rfl rfl ?_
        first | refine WL.assign rfl rfl rfl ?_
        refine WL.done ?_
        refine EW.on ?_
        refine EW.ret ?_
        exact EW.returns2 Tryd.results27 rfl rfl ⟨by rw [hHa, hok]; rfl, bt (bt l1 hb0) hb⟩
end Go.Proofs.YtnfikgnploockaaDoor
