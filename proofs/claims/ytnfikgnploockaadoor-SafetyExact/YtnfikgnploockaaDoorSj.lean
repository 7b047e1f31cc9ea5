import Derived.Test.YtnfikgnploockaaDoorSi
set_option linter.unusedVariables false
set_option linter.unusedSimpArgs false
namespace Go.Proofs.YtnfikgnploockaaDoor
open Go.RowKit

theorem hP_at (D : List UInt8) : ∀ (n g i : Nat), g < n → i < 5 → (hP D n)[5 * g + i]? = (d5 (gN ((D.drop (g * 5)).take 5)))[i]?
  | n + 1, g, i, hg, hi => by
    rw [hP_succ]
    rcases Nat.lt_or_ge g n with h | h
    · rw [List.getElem?_append_left (by rw [hP_len]; omega)]
      exact hP_at D n g i h hi
    · obtain rfl : g = n := by omega
      rw [List.getElem?_append_right (by rw [hP_len]; omega), hP_len, show 5 * g + i - 5 * g = i by omega]
/-- A decimal number's value. -/
def mV (l : List UInt8) : Nat := l.foldl (fun m b => m * 10 + (b.toNat - 48)) 0
theorem mV_snoc (l : List UInt8) (u : UInt8) : mV (l ++ [u]) = mV l * 10 + (u.toNat - 48) := by simp [mV]
theorem dg_nat (n j : Nat) : (Lib.dg n j).toNat = 48 + n / 10 ^ j % 10 := by
  unfold Lib.dg
  rw [UInt8.toNat_ofNat', Nat.mod_eq_of_lt]
  have : n / 10 ^ j % 10 < 10 := Nat.mod_lt _ (by decide)
  omega
theorem mV_d5 (n : Nat) : mV (d5 n) = n % 100000 := by
  unfold mV d5
  simp only [List.foldl_cons, List.foldl_nil, dg_nat, Nat.reducePow]
  omega
theorem d5_dig (n i : Nat) (u : UInt8) (h : (d5 n)[i]? = some u) : 48 ≤ u.toNat ∧ u.toNat ≤ 57 := by
  have hm := List.mem_of_getElem? h
  unfold d5 at hm
  simp only [List.mem_cons, List.not_mem_nil, or_false] at hm
  rcases hm with rfl | rfl | rfl | rfl | rfl <;> (rw [dg_nat]; have := Nat.mod_lt (n / 10 ^ 4) (show 0 < 10 by decide); have := Nat.mod_lt (n / 10 ^ 3) (show 0 < 10 by decide); have := Nat.mod_lt (n / 10 ^ 2) (show 0 < 10 by decide); have := Nat.mod_lt (n / 10 ^ 1) (show 0 < 10 by decide); have := Nat.mod_lt (n / 10 ^ 0) (show 0 < 10 by decide); omega)
theorem mV_lt {l : List UInt8} : ∀ {n : Nat}, l.length ≤ n → (∀ u ∈ l, u.toNat ≤ 57) → mV l < 10 ^ n := by
  have h : ∀ (l : List UInt8) (a n : Nat), (∀ u ∈ l, u.toNat ≤ 57) → a < 10 ^ n → l.foldl (fun m b => m * 10 + (b.toNat - 48)) a < 10 ^ (n + l.length) := by
    intro l
    induction l with
    | nil => intro a n _ h; simpa using h
    | cons u l ih =>
      intro a n hu h
      have := ih (a * 10 + (u.toNat - 48)) (n + 1) (fun v hv => hu v (List.mem_cons_of_mem _ hv)) (by rw [Nat.pow_succ]; have := hu u (List.mem_cons_self ..); omega)
      rwa [List.foldl_cons, List.length_cons, show n + (l.length + 1) = n + 1 + l.length by omega]
  intro n hn hu
  have := h l 0 0 hu (by decide)
  rw [Nat.zero_add] at this
  exact Nat.lt_of_lt_of_le this (Nat.pow_le_pow_right (by decide) hn)
theorem idx25 (d m : Nat) (h : m < 32) (W : World) : (Instr.indexAt 25 (.pointer (some ⟨d, 0, none⟩)) (.int .i64 (m : Int))).run Tryd.prog W = .ok (.pointer (some ⟨d, m, none⟩)) W := by
  have hm : (m : Int) < 32 := by omega
  have hal : Tryd.prog.arrayLen 25 = 32 := by kernel_rfl
  go_simp
  try simp [add_plain]
theorem conv5_3 (u : UInt8) (W : World) : (Go.convert 5 3 (byt u)).run Tryd.prog W = .ok (.int .i64 ((u.toNat : Nat) : Int)) W := by
  have := u.toNat_lt
  unfold byt
  go_simp
  try (rw [IntKind.wrap_i64]; omega)
def jE0 (nm : List UInt8) (q d : Nat) (k : Nat) : List (Nat × Value) := [(0, sv nm), (3, .pointer (some ⟨q, 0, none⟩)), (5, .pointer (some ⟨d, 0, none⟩)), (6, .int .i64 (k : Int))]
def jE2 (H : List UInt8) (d : Nat) (g : Nat) : List (Nat × Value) := [(5, .pointer (some ⟨d, 0, none⟩)), (7, sv H), (9, .int .i64 (g : Int))]
def jE4 (H B : List UInt8) (d g : Nat) (i : Nat) : List (Nat × Value) := [(5, .pointer (some ⟨d, 0, none⟩)), (7, sv H), (9, .int .i64 (g : Int)), (10, .int .i64 ((gN (B.take i) : Nat) : Int)), (11, .int .i64 (i : Int))]
def jE6 (H : List UInt8) (d g n : Nat) (i : Nat) : List (Nat × Value) := [(5, .pointer (some ⟨d, 0, none⟩)), (7, sv H), (9, .int .i64 (g : Int)), (10, .int .i64 ((n : Nat) : Int)), (12, .int .i64 ((mV ((d5 n).take i) : Nat) : Int)), (13, .int .i64 (i : Int))]
set_option maxRecDepth 100000 in
set_option maxHeartbeats 4000000 in
theorem ishash_any (l K : List UInt8) (hK : K.length = 32) (w : World) (hL : Lst w) : Calls Tryd.prog 3 #[sv l, kv K] w fun e w' => e = .returned (.bool true) ∧ Below w.heap.size w w' := by
  obtain ⟨w1, q, r1, b1, l1, hq⟩ := box23 K w
  have hL1 := hL.on l1
  have hqw : q < w1.heap.size := b1.lt
  obtain ⟨name, hnm⟩ : ∃ name, nmd l = name := ⟨_, rfl⟩
  have hok : nmE name = 0 := by rw [← hnm]; exact nmd_ok l
  have hn16 := (nmE_ok.1 hok).2
  obtain ⟨S, hS, hH⟩ : ∃ S, Sq name K S ∧ haD name K = hP (S 15) 6 := ⟨strS name K, strS_sq name K, by unfold haD; rw [if_pos hok]; unfold half; rfl⟩
  refine calls_of_args [sv l, kv K] Tryd.func3 rfl 83 Tryd.ntmps3 (by show 2 ≤ 83; decide) ?_
  refine EW.seq ?_
  refine EW.region ?_
  refine WL.box rfl rfl rfl r1 ?_
  first | refine WL.assign rfl rfl rfl ?_
  refine WL.done ?_
  refine EW.on ?_
  refine EW.seq ?_
  refine EW.region ?_
  first | refine WL.move rfl rfl rfl ?_
  refine WL.call [sv l] enter8 rfl rfl rfl (named_any l w1) ?_
  rintro _ wz ⟨rfl, hz⟩
  rw [hz, hnm]
  clear hz wz
  refine ⟨_, rfl, ?_⟩
  first | refine WL.assign rfl rfl rfl ?_
  refine WL.done ?_
  refine EW.on ?_
  refine EW.seq ?_
  refine EW.region ?_
  first | refine WL.move rfl rfl rfl ?_
  refine WL.len rfl rfl rfl (len_s _ _ _) ?_
  refine WL.conv rfl rfl rfl (conv3_5 _ _) ?_
  refine WL.bslN [(0, byt 1), (1, byt (UInt8.ofNat name.length))] rfl rfl rfl (bsl27_2 _ _ _) ?_
  have l3 := below_new w1 (.cells (([1, UInt8.ofNat name.length] : List UInt8).map byt).toArray 5)
  have hp3 := has_news w1 [1, UInt8.ofNat name.length]
  generalize hw3 : w1.alloc (.cells (([1, UInt8.ofNat name.length] : List UInt8).map byt).toArray 5) = w3 at l3 hp3 ⊢
  first | refine WL.move rfl rfl rfl ?_
  obtain ⟨v4, w4, r4, hp4, l4⟩ := conv_sb name w3
  refine WL.conv rfl rfl rfl r4 ?_
  refine WL.slice0 rfl rfl rfl (sl23 q _) ?_
  have hh := three_all (hp3.below l4) hp4 ((((b1).on l3).on l4).has 32 hK)
  have l5 := below_new w4 (.cells #[.slice (some ⟨w1.heap.size, 0, none⟩) 2 2, v4, .slice (some ⟨q, 0, none⟩) 32 32] 27)
  have hp5 := parts_new w4 [(.slice (some ⟨w1.heap.size, 0, none⟩) 2 2, [1, UInt8.ofNat name.length]), (v4, name), (.slice (some ⟨q, 0, none⟩) 32 32, K)] hh
  refine WL.bslN [(0, .slice (some ⟨w1.heap.size, 0, none⟩) 2 2), (1, v4), (2, .slice (some ⟨q, 0, none⟩) 32 32)] rfl rfl rfl (bsl48_3 _ _ _ ⟨_, _, _, rfl⟩ (by obtain ⟨a, c, e⟩ := hp4.slice; exact ⟨_, _, _, e⟩) ⟨_, _, _, rfl⟩ _) ?_
  change Parts (w4.alloc (.cells #[.slice (some ⟨w1.heap.size, 0, none⟩) 2 2, v4, .slice (some ⟨q, 0, none⟩) 32 32] 27)) (.slice (some ⟨w4.heap.size, 0, none⟩) 3 3) _ at hp5
  generalize w4.alloc (.cells #[.slice (some ⟨w1.heap.size, 0, none⟩) 2 2, v4, .slice (some ⟨q, 0, none⟩) 32 32] 27) = w5 at l5 hp5 ⊢
  refine WL.call [.slice (some ⟨w4.heap.size, 0, none⟩) 3 3] enter9 rfl rfl rfl (sum_gen _ _ ([1, UInt8.ofNat name.length] ++ (name ++ K)) (S 0) (by simp) hS.s0 w5 hp5 (((hL1.on l3).on l4).on l5).k (by simp; omega) (by simp)) ?_
  rintro _ w6 ⟨rfl, l6⟩
  refine ⟨_, rfl, ?_⟩
  obtain ⟨w7, d, r7, b7, l7, hd⟩ := new25 w6
  refine WL.new rfl rfl r7 ?_
  obtain ⟨w8, r8, b8, f8⟩ := st25 b7 z32l (hS.len 0)
  refine WL.store rfl rfl rfl r8 ?_
  have L7 := bt (bt (bt (bt l3 l4) l5) l6) l7
  have hdw : w1.heap.size ≤ d := by have := l3.size; have := l4.size; have := l5.size; have := l6.size; omega
  have L8 := bf L7 f8 hdw
  refine WL.done ?_
  refine EW.on ?_
  refine EW.seq ?_
  refine EW.seq ?_
  refine EW.region ?_
  first | refine WL.assign rfl rfl rfl ?_
  refine WL.done ?_
  refine EW.on ?_
  refine EW.block ?_
  refine EW.loop (jE0 name q d) (fun k W => k ≤ 15 ∧ Blk W d ((S k).map byt) 25 ∧ Blk W q (K.map byt) 23 ∧ Lst W ∧ Below w1.heap.size w1 W) (fun k => 15 - k) 0 [0, 3, 5, 6] rfl ⟨by omega, b8, ((((((b1.on l3).on l4).on l5).on l6).on l7).fx f8 (fun e => by have e : q = d := e; omega)), hL1.on L8, L8⟩ ?_
  rintro k W0 ⟨hk15, hd0, hq0, hk0, hb0⟩
  refine EW.seq ?_
  refine EW.seq ?_
  refine EW.region ?_
  first | refine WL.move rfl rfl rfl ?_
  refine WL.bin rfl rfl rfl rfl (int_lt_d _ _ _ _ _) ?_
  refine WL.done ?_
  refine EW.on ?_
  refine EW.cond_d rfl (fun h26 => ?_) (fun h26 => ?_)
  · refine EW.skip ?_
    refine EW.on ?_
    refine EW.seq ?_
    refine EW.block ?_
    refine EW.ordB [(0, 0, 0), (1, 0, 0), (2, 1, 1), (3, 1, 1), (4, 1, 0)] (by kernel_rfl) rfl (by kernel_rfl) ?_
    simp only [opsZ, List.getD_cons_zero, List.getD_cons_succ]
    refine ZE.slice0 rfl rfl rfl rfl sz0 (fun W => sl25 d W) ?_
    refine ZE.slice0 rfl rfl rfl rfl sz0 (fun W => sl23 q W) ?_
    refine ZE.bsl [(0, .slice (some ⟨d, 0, none⟩) 32 32), (1, .slice (some ⟨q, 0, none⟩) 32 32)] (fun v W' => Parts W' v [(.slice (some ⟨d, 0, none⟩) 32 32, S k), (.slice (some ⟨q, 0, none⟩) 32 32, K)] ∧ Below W0.heap.size W0 W') rfl rfl rfl (fun v W' h => .inr h.2) (fun W hW => ⟨_, _, bsl48_2 _ _ ⟨_, _, _, rfl⟩ ⟨_, _, _, rfl⟩ W, parts_new W [(.slice (some ⟨d, 0, none⟩) 32 32, S k), (.slice (some ⟨q, 0, none⟩) 32 32, K)] (two_all ((hd0.on hW).has 32 (hS.len k)) ((hq0.on hW).has 32 hK)), bt hW (below_new _ _)⟩) ?_
    rintro vp ⟨_, _, _⟩
    refine ZE.callR [vp] (fun v W' => v = kv (S (k + 1)) ∧ Below W0.heap.size W0 W') enter9 rfl rfl rfl (fun v W' h => .inr h.2) (fun W hW => (sum_gen vp _ (S k ++ K) (S (k + 1)) (by simp) (hS.s1 k) W hW.1 (hk0.on hW.2).k (by rw [List.length_append, hS.len k, hK]; decide) (by simp)).mono fun e w' ⟨h1, h2⟩ => ⟨_, h1, rfl, bt hW.2 h2⟩) ?_
    rintro vs ⟨_, rfl, _⟩
    refine ZE.store (fun W => Blk W d ((S (k + 1)).map byt) 25 ∧ Blk W q (K.map byt) 23 ∧ Lst W ∧ Below w1.heap.size w1 W) rfl rfl rfl (fun _ _ => .inl rfl) (fun W hW => ?_) ?_
    · obtain ⟨w', r, b, f⟩ := st25 (hd0.on hW.2) (hS.len k) (hS.len (k + 1))
      exact ⟨w', r, b, (hq0.on hW.2).fx f (fun e => by have e : q = d := e; omega), hL1.on (bf (bt hb0 hW.2) f hdw), bf (bt hb0 hW.2) f hdw⟩
    rintro W1 hE
    refine pn_block ?_
    refine EW.on ?_
    refine EW.region ?_
    first | refine WL.move rfl rfl rfl ?_
    refine WL.bin rfl rfl rfl rfl (int_add (c := ((k + 1 : Nat) : Int)) (by rw [IntKind.wrap_i64]; omega) _ _ _) ?_
    first | refine WL.assign rfl rfl rfl ?_
    refine WL.done ?_
    exact EW.again (E := jE0 name q d) (R := fun k W => k ≤ 15 ∧ Blk W d ((S k).map byt) 25 ∧ Blk W q (K.map byt) 23 ∧ Lst W ∧ Below w1.heap.size w1 W) (m := fun k => 15 - k) (x := k) (k + 1) [0, 3, 5, 6] rfl ⟨by omega, hE⟩ (by show 15 - (k + 1) < 15 - k; omega)
  · refine EW.exit ?_
    refine px_then ?_
    refine px_then ?_
    refine px_block ?_
    refine EW.on ?_
    refine EW.seq ?_
    obtain rfl : k = 15 := by omega
    refine EW.region ?_
    first | refine WL.move rfl rfl rfl ?_
    refine WL.load rfl rfl rfl (ld23 hq0 hK) ?_
    refine WL.call [sv name, kv K] enter10 rfl rfl rfl (half_any name K hK W0 hk0) ?_
    rintro _ w9 ⟨rfl, l9⟩
    rw [hH, hok]
    refine ⟨_, rfl, ?_⟩
    have hd9 := hd0.on l9
    first | refine WL.move rfl rfl rfl ?_
    first | refine WL.extract rfl rfl rfl (ext_2 _ _ _).1 ?_
    first | refine WL.extract rfl rfl rfl (ext_2 _ _ _).2 ?_
    first | refine WL.assign rfl rfl rfl ?_
    first | refine WL.assign rfl rfl rfl ?_
    refine WL.done ?_
    refine EW.on ?_
    refine EW.seq ?_
    refine EW.seq ?_
    refine EW.region ?_
    first | refine WL.move rfl rfl rfl ?_
    refine WL.bin rfl rfl rfl rfl (int_ne_f rfl _ _ _) ?_
    first | refine WL.move rfl rfl rfl ?_
    first | refine WL.move rfl rfl rfl ?_ | refine WL.skip _ rfl rfl rfl ?_
    refine WL.len rfl rfl rfl (len_s _ _ _) ?_
    refine WL.bin rfl rfl rfl rfl (int_ne_f (a := ((hP (S 15) 6).length : Int)) (b := 30) (by rw [hP_len]; rfl) _ _ _) ?_
    first | refine WL.pick rfl rfl rfl rfl ?_
    refine WL.done ?_
    refine EW.on ?_
    refine EW.cond_f rfl ?_
    refine EW.skip ?_
    refine EW.on ?_
    refine EW.seq ?_
    refine EW.seq ?_
    refine EW.region ?_
    first | refine WL.assign rfl rfl rfl ?_
    refine WL.done ?_
    refine EW.on ?_
    refine EW.block ?_
    refine EW.loop (jE2 (hP (S 15) 6) d) (fun g W => g ≤ 6 ∧ W = w9) (fun g => 6 - g) 0 [5, 7, 9] rfl ⟨by omega, rfl⟩ ?_
    rintro g W ⟨hg, hz⟩
    rw [hz]
    clear hz W
    refine EW.seq ?_
    refine EW.seq ?_
    refine EW.region ?_
    first | refine WL.move rfl rfl rfl ?_
    refine WL.bin rfl rfl rfl rfl (int_lt_d _ _ _ _ _) ?_
    refine WL.done ?_
    refine EW.on ?_
    refine EW.cond_d rfl (fun h47 => ?_) (fun h47 => ?_)
    · refine EW.skip ?_
      refine EW.on ?_
      refine EW.seq ?_
      refine EW.block ?_
      refine EW.seq ?_
      refine EW.region ?_
      first | refine WL.assign rfl rfl rfl ?_
      refine WL.done ?_
      refine EW.on ?_
      refine EW.seq ?_
      refine EW.seq ?_
      refine EW.region ?_
      first | refine WL.assign rfl rfl rfl ?_
      refine WL.done ?_
      refine EW.on ?_
      refine EW.block ?_
      obtain ⟨B, hB⟩ : ∃ B, ((S 15).drop (g * 5)).take 5 = B := ⟨_, rfl⟩
      have hBl : B.length = 5 := by rw [← hB, List.length_take, List.length_drop, hS.len 15]; omega
      refine EW.loop (jE4 (hP (S 15) 6) B d g) (fun i W => i ≤ 5 ∧ W = w9) (fun i => 5 - i) 0 [5, 7, 9, 10, 11] rfl ⟨by omega, rfl⟩ ?_
      rintro i W ⟨hi, hz⟩
      rw [hz]
      clear hz W
      refine EW.seq ?_
      refine EW.seq ?_
      refine EW.region ?_
      first | refine WL.move rfl rfl rfl ?_
      refine WL.bin rfl rfl rfl rfl (int_lt_d _ _ _ _ _) ?_
      refine WL.done ?_
      refine EW.on ?_
      refine EW.cond_d rfl (fun h51 => ?_) (fun h51 => ?_)
      · refine EW.skip ?_
        refine EW.on ?_
        refine EW.seq ?_
        refine EW.block ?_
        obtain ⟨u, hu⟩ : ∃ u, B[i]? = some u := ⟨_, List.getElem?_eq_getElem (by omega)⟩
        have hN : gN (B.take i) < 1099511627776 := Nat.lt_of_lt_of_le (gN_lt _) (Nat.le_trans (Nat.pow_le_pow_right (by decide) (show (B.take i).length ≤ 5 by rw [List.length_take]; omega)) (by decide))
        have hub := u.toNat_lt
        have hcu : w9.cell? ⟨d, 5 * g + i, none⟩ = some (byt u) := by
          rw [← hB, List.getElem?_take_of_lt (by omega), List.getElem?_drop] at hu
          rw [hd9.cell, List.getElem?_map, show 5 * g + i = g * 5 + i by omega, hu]; rfl
        refine EW.region ?_
        first | refine WL.move rfl rfl rfl ?_
        refine WL.bin rfl rfl rfl rfl (int_mul (c := ((gN (B.take i) * 256 : Nat) : Int)) (by rw [IntKind.wrap_i64]; omega) _ _ _) ?_
        first | refine WL.move rfl rfl rfl ?_
        refine WL.bin rfl rfl rfl rfl (int_mul (c := ((5 * g : Nat) : Int)) (by rw [IntKind.wrap_i64]; omega) _ _ _) ?_
        first | refine WL.move rfl rfl rfl ?_
        refine WL.bin rfl rfl rfl rfl (int_add (c := ((5 * g + i : Nat) : Int)) (by rw [IntKind.wrap_i64]; omega) _ _ _) ?_
        refine WL.index rfl rfl rfl rfl (idx25 d (5 * g + i) (by omega) _) ?_
        refine WL.load rfl rfl rfl (ld5 hcu) ?_
        refine WL.conv rfl rfl rfl (conv5_3 u _) ?_
        refine WL.bin rfl rfl rfl rfl (int_add (c := ((gN (B.take i) * 256 + u.toNat : Nat) : Int)) (by rw [IntKind.wrap_i64]; omega) _ _ _) ?_
        first | refine WL.assign rfl rfl rfl ?_
        refine WL.done ?_
        refine pn_block ?_
        refine EW.on ?_
        refine EW.region ?_
        first | refine WL.move rfl rfl rfl ?_
        refine WL.bin rfl rfl rfl rfl (int_add (c := ((i + 1 : Nat) : Int)) (by rw [IntKind.wrap_i64]; omega) _ _ _) ?_
        first | refine WL.assign rfl rfl rfl ?_
        refine WL.done ?_
        exact EW.again (E := jE4 (hP (S 15) 6) B d g) (R := fun i W => i ≤ 5 ∧ W = w9) (m := fun i => 5 - i) (x := i) (i + 1) [5, 7, 9, 10, 11] (by unfold jE4; rw [take_succ' hu, gN_snoc]; rfl) ⟨by omega, rfl⟩ (by show 5 - (i + 1) < 5 - i; omega)
      · refine EW.exit ?_
        refine px_then ?_
        refine px_then ?_
        refine px_block ?_
        refine EW.on ?_
        refine EW.seq ?_
        obtain ⟨n, hn⟩ : ∃ n, gN (B.take i) = n := ⟨_, rfl⟩
        have hnB : gN B = n := by rw [← hn, List.take_of_length_le (by omega)]
        unfold jE4
        rw [hn]
        refine EW.region ?_
        first | refine WL.assign rfl rfl rfl ?_
        refine WL.done ?_
        refine EW.on ?_
        refine EW.seq ?_
        refine EW.seq ?_
        refine EW.region ?_
        first | refine WL.assign rfl rfl rfl ?_
        refine WL.done ?_
        refine EW.on ?_
        refine EW.block ?_
        refine EW.loop (jE6 (hP (S 15) 6) d g n) (fun i W => i ≤ 5 ∧ W = w9) (fun i => 5 - i) 0 [5, 7, 9, 10, 12, 13] rfl ⟨by omega, rfl⟩ ?_
        rintro i W ⟨hi, hz⟩
        rw [hz]
        clear hz W
        refine EW.seq ?_
        refine EW.seq ?_
        refine EW.region ?_
        first | refine WL.move rfl rfl rfl ?_
        refine WL.bin rfl rfl rfl rfl (int_lt_d _ _ _ _ _) ?_
        refine WL.done ?_
        refine EW.on ?_
        refine EW.cond_d rfl (fun h65 => ?_) (fun h65 => ?_)
        · refine EW.skip ?_
          refine EW.on ?_
          refine EW.seq ?_
          refine EW.block ?_
          obtain ⟨u, hdu⟩ : ∃ u, (d5 n)[i]? = some u := ⟨_, List.getElem?_eq_getElem (show i < 5 by omega)⟩
          have hHu : (hP (S 15) 6)[5 * g + i]? = some u := by rw [hP_at (S 15) 6 g i (by omega) (by omega), hB, hnB]; exact hdu
          obtain ⟨hu1, hu2⟩ := d5_dig n i u hdu
          have hM : mV ((d5 n).take i) < 100000 := mV_lt (n := 5) (by rw [List.length_take, d5_len]; omega) (fun v hv => by obtain ⟨j, hj⟩ := List.getElem?_of_mem (List.mem_of_mem_take hv); exact (d5_dig n j v hj).2)
          refine EW.region ?_
          first | refine WL.move rfl rfl rfl ?_
          refine WL.bin rfl rfl rfl rfl (int_mul (c := ((mV ((d5 n).take i) * 10 : Nat) : Int)) (by rw [IntKind.wrap_i64]; omega) _ _ _) ?_
          first | refine WL.move rfl rfl rfl ?_
          first | refine WL.move rfl rfl rfl ?_
          refine WL.bin rfl rfl rfl rfl (int_mul (c := ((5 * g : Nat) : Int)) (by rw [IntKind.wrap_i64]; omega) _ _ _) ?_
          first | refine WL.move rfl rfl rfl ?_
          refine WL.bin rfl rfl rfl rfl (int_add (c := ((5 * g + i : Nat) : Int)) (by rw [IntKind.wrap_i64]; omega) _ _ _) ?_
          refine WL.idx rfl rfl rfl rfl (idx_s _ (5 * g + i) u hHu _) ?_
          refine WL.conv rfl rfl rfl (conv5_3 u _) ?_
          refine WL.bin rfl rfl rfl rfl (int_add (c := ((mV ((d5 n).take i) * 10 + u.toNat : Nat) : Int)) (by rw [IntKind.wrap_i64]; omega) _ _ _) ?_
          refine WL.bin rfl rfl rfl rfl (int_sub (c := ((mV ((d5 n).take i) * 10 + (u.toNat - 48) : Nat) : Int)) (by rw [IntKind.wrap_i64]; omega) _ _ _) ?_
          first | refine WL.assign rfl rfl rfl ?_
          refine WL.done ?_
          refine pn_block ?_
          refine EW.on ?_
          refine EW.region ?_
          first | refine WL.move rfl rfl rfl ?_
          refine WL.bin rfl rfl rfl rfl (int_add (c := ((i + 1 : Nat) : Int)) (by rw [IntKind.wrap_i64]; omega) _ _ _) ?_
          first | refine WL.assign rfl rfl rfl ?_
          refine WL.done ?_
          exact EW.again (E := jE6 (hP (S 15) 6) d g n) (R := fun i W => i ≤ 5 ∧ W = w9) (m := fun i => 5 - i) (x := i) (i + 1) [5, 7, 9, 10, 12, 13] (by unfold jE6; rw [take_succ' hdu, mV_snoc]; rfl) ⟨by omega, rfl⟩ (by show 5 - (i + 1) < 5 - i; omega)
        · refine EW.exit ?_
          refine px_then ?_
          refine px_then ?_
          refine px_block ?_
          refine EW.on ?_
          refine EW.seq ?_
          have hd5 : mV ((d5 n).take i) = n % 100000 := by rw [List.take_of_length_le (by rw [d5_len]; omega), mV_d5]
          refine EW.region ?_
          first | refine WL.move rfl rfl rfl ?_
          first | refine WL.move rfl rfl rfl ?_
          refine WL.bin rfl rfl rfl rfl (int_rem (c := ((n % 100000 : Nat) : Int)) (by decide) (by rw [Int.tmod_eq_emod_of_nonneg (by omega)]; rfl) _ _ _) ?_
          refine WL.bin rfl rfl rfl rfl (int_ne_f (a := ((mV ((d5 n).take i) : Nat) : Int)) (b := ((n % 100000 : Nat) : Int)) (by rw [hd5]) _ _ _) ?_
          refine WL.done ?_
          refine EW.on ?_
          refine EW.cond_f rfl ?_
          refine EW.skip ?_
          refine pn_block ?_
          refine EW.on ?_
          refine EW.region ?_
          first | refine WL.move rfl rfl rfl ?_
          refine WL.bin rfl rfl rfl rfl (int_add (c := ((g + 1 : Nat) : Int)) (by rw [IntKind.wrap_i64]; omega) _ _ _) ?_
          first | refine WL.assign rfl rfl rfl ?_
          refine WL.done ?_
          exact EW.again (E := jE2 (hP (S 15) 6) d) (R := fun g W => g ≤ 6 ∧ W = w9) (m := fun g => 6 - g) (x := g) (g + 1) [5, 7, 9] rfl ⟨by omega, rfl⟩ (by show 6 - (g + 1) < 6 - g; omega)
    · refine EW.exit ?_
      refine px_then ?_
      refine px_then ?_
      refine px_block ?_
      refine EW.on ?_
      refine EW.seq ?_
      refine EW.region ?_
      first | refine WL.assign rfl rfl rfl ?_
      refine WL.done ?_
      refine EW.on ?_
      refine EW.ret ?_
      exact EW.returns Tryd.results3 rfl ⟨rfl, bt (bt l1 hb0) l9⟩
end Go.Proofs.YtnfikgnploockaaDoor
