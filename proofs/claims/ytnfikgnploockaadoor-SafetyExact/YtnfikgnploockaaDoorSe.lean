import Derived.Test.YtnfikgnploockaaDoorSd
set_option linter.unusedVariables false
set_option linter.unusedSimpArgs false
namespace Go.Proofs.YtnfikgnploockaaDoor
open Go.RowKit

theorem i25 {K : List UInt8} (h : K.length = 32) : (Tryd.prog.info? 25).map (·.size) = some (K.map byt).length := by rw [List.length_map, h]; kernel_rfl
theorem z25 (w : World) : (zeroValue 25).run Tryd.prog w = .ok (kv z32) w := (zero_of_info (show (Tryd.prog.info? 25).map (fun i => (i.zero, i.size)) = some (some (kv z32), 32) by kernel_rfl)).1 w
theorem box25 (K : List UInt8) (w : World) : ∃ w1 q, (Instr.box 25 (kv K)).run Tryd.prog w = .ok (.pointer (some ⟨q, 0, none⟩)) w1 ∧ Blk w1 q (K.map byt) 25 ∧ Below w.heap.size w w1 ∧ q = w.heap.size :=
  ⟨_, _, run_boxR 25 _ w _ rfl, Blk.new _ _ _, below_new _ _, rfl⟩
theorem new25 (w : World) : ∃ w1 q, (Instr.alloc 25 true (.tuple #[])).run Tryd.prog w = .ok (.pointer (some ⟨q, 0, none⟩)) w1 ∧ Blk w1 q (z32.map byt) 25 ∧ Below w.heap.size w w1 ∧ q = w.heap.size :=
  ⟨_, _, run_newR 25 _ z25 w _ rfl, Blk.new _ _ _, below_new _ _, rfl⟩
theorem st25 {w : World} {q : Nat} {old K : List UInt8} {t : TypeId} (hb : Blk w q (old.map byt) t) (ho : old.length = 32) (hK : K.length = 32) : ∃ w', (Instr.storeAt 25 (.pointer (some ⟨q, 0, none⟩)) (kv K)).run Tryd.prog w = .ok () w' ∧ Blk w' q (K.map byt) t ∧ Fx (fun k => k = q) w w' :=
  ⟨_, run_storeR hb (i25 hK) (by rw [List.length_map, List.length_map, ho, hK]) (bytsOne K), hb.setRow _, Fx.setRow w q _ rfl⟩
theorem ld25 {w : World} {q : Nat} {K : List UInt8} {t : TypeId} (hb : Blk w q (K.map byt) t) (hK : K.length = 32) : (Instr.loadAt 25 (.pointer (some ⟨q, 0, none⟩))).run Tryd.prog w = .ok (kv K) w :=
  run_loadR hb (show Tryd.prog.underlying 25 = some (.array 32 5) by kernel_rfl) rfl (i25 hK)
theorem sl25 (q : Nat) (W : World) : (Instr.sliceAt 25 (.pointer (some ⟨q, 0, none⟩)) none none none).run Tryd.prog W = .ok (.slice (some ⟨q, 0, none⟩) 32 32) W := by
  go_simp
  try simp
  try rw [add_plain]
theorem u25 : Tryd.prog.underlying 25 = some (.array 32 5) := by kernel_rfl
theorem bf {a b c : World} {q : Nat} (h : Below a.heap.size a b) (f : Fx (fun k => k = q) b c) (hq : a.heap.size ≤ q) : Below a.heap.size a c :=
  h.trans (f.below (fun k hk e => by have e : k = q := e; omega) h.size)
theorem cut25 (q a : Nat) (ha : a + 5 ≤ 32) (W : World) : (Instr.sliceAt 25 (.pointer (some ⟨q, 0, none⟩)) (some (.int .i64 (a : Int))) (some (.int .i64 ((a + 5 : Nat) : Int))) none).run Tryd.prog W = .ok (.slice (some ⟨q, a, none⟩) 5 (32 - a)) W := by
  have hal : Tryd.prog.arrayLen 25 = 32 := by kernel_rfl
  rw [run_sliceAt_array_lh W 25 ⟨q, 0, none⟩ (by simp [Program.arrayLen, Program.elem, u25]) .i64 .i64 (a : Int) ((a + 5 : Nat) : Int) (by omega) (by omega) (by rw [hal]; omega)]
  go_simp
  try omega
theorem Blk.hasAt {w : World} {q : Nat} {D : List UInt8} {t : TypeId} (h : Blk w q (D.map byt) t) (a n c : Nat) (ha : a + n ≤ D.length) (hc : n ≤ c) : Has w (.slice (some ⟨q, a, none⟩) n c) ((D.drop a).take n) := by
  have hl : ((D.drop a).take n).length = n := by rw [List.length_take, List.length_drop]; omega
  refine .inr ⟨⟨q, a, none⟩, c, by rw [hl], by rw [hl]; exact hc, fun i u hu => ?_⟩
  have hi : i < n := by have := (List.getElem?_eq_some_iff.1 hu).1; omega
  have e : (⟨q, a, none⟩ : Addr).add i = ⟨q, a + i, none⟩ := by unfold Addr.add; split <;> simp_all
  rw [e, h.cell, List.getElem?_map]
  rw [List.getElem?_take_of_lt hi, List.getElem?_drop] at hu
  rw [hu]; rfl
/-- The digits of a digest's first groups. -/
def hP (D : List UInt8) (g : Nat) : List UInt8 := (List.range g).flatMap fun k => d5 (gN ((D.drop (k * 5)).take 5))
theorem hP_succ (D : List UInt8) (g : Nat) : hP D (g + 1) = hP D g ++ d5 (gN ((D.drop (g * 5)).take 5)) := by simp [hP, List.range_succ]
theorem hP_len (D : List UInt8) (g : Nat) : (hP D g).length = 5 * g := by
  induction g with
  | zero => rfl
  | succ g ih => rw [hP_succ, List.length_append, ih, d5_len]; omega
def hE (q : Nat) (D : List UInt8) (g : Nat) : List (Nat × Value) := [(1, .pointer (some ⟨q, 0, none⟩)), (3, sv (hP D g)), (6, .int .i64 (g : Int))]
set_option maxRecDepth 100000 in
set_option maxHeartbeats 1000000 in
theorem half_digits (D : List UInt8) (hD : D.length = 32) (w : World) (hS : Pst w) : Calls Tryd.prog 22 #[kv D] w fun e w' => e = .returned (sv (hP D 6)) ∧ Below w.heap.size w w' := by
  obtain ⟨w1, q, r1, b1, l1, hq⟩ := box25 D w
  refine calls_of_args [kv D] Tryd.func22 rfl 20 Tryd.ntmps22 (by show 1 ≤ 20; decide) ?_
  refine EW.seq ?_
  refine EW.region ?_
  refine WL.box rfl rfl rfl r1 ?_
  first | refine WL.assign rfl rfl rfl ?_
  refine WL.done ?_
  refine EW.on ?_
  refine EW.seq ?_
  refine EW.region ?_
  first | refine WL.assign rfl rfl rfl ?_
  refine WL.done ?_
  refine EW.on ?_
  refine EW.seq ?_
  refine EW.seq ?_
  refine EW.region ?_
  first | refine WL.move rfl rfl rfl ?_
  refine WL.done ?_
  refine EW.on ?_
  refine EW.block ?_
  refine EW.loop (hE q D) (fun g W => g ≤ 6 ∧ Blk W q (D.map byt) 25 ∧ Pst W ∧ Below w.heap.size w W) (fun g => 6 - g) 0 [1, 3, 6] rfl ⟨by omega, b1, hS.on l1, l1⟩ ?_
  rintro g W ⟨hg, hB, hP, hb⟩
  refine EW.seq ?_
  refine EW.region ?_
  refine WL.bin rfl rfl rfl rfl (int_lt_d _ _ _ _ _) ?_
  refine WL.done ?_
  refine EW.on ?_
  refine EW.seq ?_
  refine EW.cond_d rfl (fun h7 => ?_) (fun h7 => ?_)
  · refine EW.skip ?_
    refine EW.on ?_
    refine EW.seq ?_
    refine EW.block ?_
    refine EW.seq ?_
    refine EW.region ?_
    first | refine WL.move rfl rfl rfl ?_
    first | refine WL.assign rfl rfl rfl ?_
    refine WL.done ?_
    refine EW.on ?_
    refine EW.seq ?_
    refine EW.region ?_
    first | refine WL.move rfl rfl rfl ?_
    refine WL.bin rfl rfl rfl rfl (int_mul (c := ((g * 5 : Nat) : Int)) (by rw [IntKind.wrap_i64]; omega) _ _ _) ?_
    first | refine WL.assign rfl rfl rfl ?_
    refine WL.done ?_
    refine EW.on ?_
    refine EW.region ?_
    first | refine WL.move rfl rfl rfl ?_
    first | refine WL.move rfl rfl rfl ?_
    first | refine WL.move rfl rfl rfl ?_
    refine WL.bin rfl rfl rfl rfl (int_add (c := ((g * 5 + 5 : Nat) : Int)) (by rw [IntKind.wrap_i64]; omega) _ _ _) ?_
    refine WL.slice2 rfl rfl rfl rfl rfl (cut25 q (g * 5) (by omega) _) ?_
    refine WL.call [.slice (some ⟨q, g * 5, none⟩) 5 (32 - g * 5)] enter35 rfl rfl rfl (group_any _ _ (by rw [List.length_take, List.length_drop]; omega) W (hB.hasAt (g * 5) 5 (32 - g * 5) (by omega) (by omega)) hP) ?_
    rintro _ W2 ⟨rfl, hb2⟩
    refine ⟨_, rfl, ?_⟩
    refine WL.bin rfl rfl rfl rfl (str_cat _ _ (by rw [hP_len, d5_len]; omega) _ _ _) ?_
    first | refine WL.assign rfl rfl rfl ?_
    refine WL.done ?_
    refine pn_block ?_
    refine EW.on ?_
    refine EW.region ?_
    refine WL.bin rfl rfl rfl rfl (int_add (c := ((g + 1 : Nat) : Int)) (by rw [IntKind.wrap_i64]; omega) _ _ _) ?_
    first | refine WL.move rfl rfl rfl ?_
    refine WL.done ?_
    exact EW.again (E := hE q D) (R := fun g W => g ≤ 6 ∧ Blk W q (D.map byt) 25 ∧ Pst W ∧ Below w.heap.size w W) (m := fun g => 6 - g) (x := g) (g + 1) [1, 3, 6] (by unfold hE; rw [hP_succ]; rfl) ⟨by omega, hB.on hb2, hP.on hb2, bt hb hb2⟩ (by show 6 - (g + 1) < 6 - g; omega)
  · refine EW.exit ?_
    refine px_then ?_
    refine px_then ?_
    refine px_block ?_
    refine EW.on ?_
    refine EW.seq ?_
    obtain rfl : g = 6 := by omega
    refine EW.region ?_
    first | refine WL.move rfl rfl rfl ?_
    first | refine WL.assign rfl rfl rfl ?_
    refine WL.done ?_
    refine EW.on ?_
    refine EW.ret ?_
    exact EW.returns Tryd.results22 rfl ⟨rfl, hb⟩
theorem conv3_5 (n : Nat) (W : World) : (Go.convert 3 5 (.int .i64 (n : Int))).run Tryd.prog W = .ok (byt (UInt8.ofNat n)) W := by
  unfold byt
  go_simp
  simp [IntKind.wrap, IntKind.bits, IntKind.signed]
theorem bsl27_2 (a b : UInt8) (w : World) : (Instr.buildSlice 27 2 [(0, byt a), (1, byt b)].toArray).run Tryd.prog w = .ok (.slice (some ⟨w.heap.size, 0, none⟩) 2 2) (w.alloc (.cells ([a, b].map byt).toArray 5)) := by
  unfold byt
  go_simp
  try simp
  try rfl
theorem bsl48_3 (v0 v1 v2 : Value) (h0 : ∃ a n c, v0 = .slice a n c) (h1 : ∃ a n c, v1 = .slice a n c) (h2 : ∃ a n c, v2 = .slice a n c) (w : World) : (Instr.buildSlice 48 3 [(0, v0), (1, v1), (2, v2)].toArray).run Tryd.prog w = .ok (.slice (some ⟨w.heap.size, 0, none⟩) 3 3) (w.alloc (.cells #[v0, v1, v2] 27)) := by
  obtain ⟨_, _, _, rfl⟩ := h0
  obtain ⟨_, _, _, rfl⟩ := h1
  obtain ⟨_, _, _, rfl⟩ := h2
  go_simp
  try simp
  try rfl
theorem bsl48_2 (v0 v1 : Value) (h0 : ∃ a n c, v0 = .slice a n c) (h1 : ∃ a n c, v1 = .slice a n c) (w : World) : (Instr.buildSlice 48 2 [(0, v0), (1, v1)].toArray).run Tryd.prog w = .ok (.slice (some ⟨w.heap.size, 0, none⟩) 2 2) (w.alloc (.cells #[v0, v1] 27)) := by
  obtain ⟨_, _, _, rfl⟩ := h0
  obtain ⟨_, _, _, rfl⟩ := h1
  go_simp
  try simp
  try rfl
/-- Digests one behind the other. -/
structure Sq (name K : List UInt8) (S : Nat → List UInt8) : Prop where
  s0 : sumOf ([1, UInt8.ofNat name.length] ++ (name ++ K)) = S 0
  s1 : ∀ k, sumOf (S k ++ K) = S (k + 1)
theorem Sq.len {name K : List UInt8} {S : Nat → List UInt8} (h : Sq name K S) (k : Nat) : (S k).length = 32 := by
  cases k with
  | zero => rw [← h.s0]; exact sumOf_length _
  | succ k => rw [← h.s1]; exact sumOf_length _
def sE (name : List UInt8) (q p d : Nat) (k : Nat) : List (Nat × Value) := [(3, .pointer (some ⟨q, 0, none⟩)), (4, .pointer (some ⟨p, 0, none⟩)), (5, .pointer (some ⟨d, 0, none⟩)), (15, .int .i64 (k : Int))]
set_option maxRecDepth 100000 in
set_option maxHeartbeats 1000000 in
theorem stretched_any (name K : List UInt8) (S : Nat → List UInt8) (hS : Sq name K S) (hn : name.length ≤ 16) (hK : K.length = 32) (w : World) (hk : Kst w) : Calls Tryd.prog 23 #[sv name, kv K] w fun e w' => e = .returned (kv (S 15)) ∧ Below w.heap.size w w' := by
  obtain ⟨w1, q, r1, b1, l1, hq⟩ := box23 K w
  obtain ⟨w2, p, r2, b2, l2, hp⟩ := new25 w1
  have hKs := hk.on l1
  have hks2 := hKs.on l2
  have hqp : q < p := by have := b1.lt; omega
  have hpw : p < w2.heap.size := b2.lt
  refine calls_of_args [sv name, kv K] Tryd.func23 rfl 23 Tryd.ntmps23 (by show 2 ≤ 23; decide) ?_
  refine EW.seq ?_
  refine EW.region ?_
  refine WL.box rfl rfl rfl r1 ?_
  refine WL.new rfl rfl r2 ?_
  refine WL.done ?_
  refine EW.on ?_
  refine EW.seq ?_
  refine EW.region ?_
  first | refine WL.move rfl rfl rfl ?_
  refine WL.len rfl rfl rfl (len_s _ _ _) ?_
  refine WL.conv rfl rfl rfl (conv3_5 _ _) ?_
  refine WL.bslN [(0, byt 1), (1, byt (UInt8.ofNat name.length))] rfl rfl rfl (bsl27_2 _ _ _) ?_
  have l3 := below_new w2 (.cells (([1, UInt8.ofNat name.length] : List UInt8).map byt).toArray 5)
  have hp3 := has_news w2 [1, UInt8.ofNat name.length]
  generalize hw3 : w2.alloc (.cells (([1, UInt8.ofNat name.length] : List UInt8).map byt).toArray 5) = w3 at l3 hp3 ⊢
  first | refine WL.move rfl rfl rfl ?_
  obtain ⟨v4, w4, r4, hp4, l4⟩ := conv_sb name w3
  refine WL.conv rfl rfl rfl r4 ?_
  refine WL.slice0 rfl rfl rfl (sl23 q _) ?_
  have hh := three_all (hp3.below l4) hp4 ((((b1.on l2).on l3).on l4).has 32 hK)
  have l5 := below_new w4 (.cells #[.slice (some ⟨w2.heap.size, 0, none⟩) 2 2, v4, .slice (some ⟨q, 0, none⟩) 32 32] 27)
  have hp5 := parts_new w4 [(.slice (some ⟨w2.heap.size, 0, none⟩) 2 2, [1, UInt8.ofNat name.length]), (v4, name), (.slice (some ⟨q, 0, none⟩) 32 32, K)] hh
  refine WL.bslN [(0, .slice (some ⟨w2.heap.size, 0, none⟩) 2 2), (1, v4), (2, .slice (some ⟨q, 0, none⟩) 32 32)] rfl rfl rfl (bsl48_3 _ _ _ ⟨_, _, _, rfl⟩ (by obtain ⟨a, c, e⟩ := hp4.slice; exact ⟨_, _, _, e⟩) ⟨_, _, _, rfl⟩ _) ?_
  change Parts (w4.alloc (.cells #[.slice (some ⟨w2.heap.size, 0, none⟩) 2 2, v4, .slice (some ⟨q, 0, none⟩) 32 32] 27)) (.slice (some ⟨w4.heap.size, 0, none⟩) 3 3) _ at hp5
  generalize w4.alloc (.cells #[.slice (some ⟨w2.heap.size, 0, none⟩) 2 2, v4, .slice (some ⟨q, 0, none⟩) 32 32] 27) = w5 at l5 hp5 ⊢
  refine WL.call [.slice (some ⟨w4.heap.size, 0, none⟩) 3 3] enter9 rfl rfl rfl (sum_gen _ _ ([1, UInt8.ofNat name.length] ++ (name ++ K)) (S 0) (by simp) hS.s0 w5 hp5 ((((hKs.on l2).on l3).on l4).on l5) (by simp; omega) (by simp)) ?_
  rintro _ w6 ⟨rfl, l6⟩
  refine ⟨_, rfl, ?_⟩
  obtain ⟨w7, d, r7, b7, l7, hd⟩ := new25 w6
  refine WL.new rfl rfl r7 ?_
  obtain ⟨w8, r8, b8, f8⟩ := st25 b7 z32l (hS.len 0)
  refine WL.store rfl rfl rfl r8 ?_
  have L7 := bt (bt (bt (bt l3 l4) l5) l6) l7
  have hdw : w2.heap.size ≤ d := by have := l3.size; have := l4.size; have := l5.size; have := l6.size; omega
  have L8 := bf L7 f8 hdw
  refine WL.done ?_
  refine EW.on ?_
  refine EW.seq ?_
  refine EW.seq ?_
  refine EW.region ?_
  first | refine WL.move rfl rfl rfl ?_
  refine WL.done ?_
  refine EW.on ?_
  refine EW.block ?_
  refine EW.loop (sE name q p d) (fun k W => k ≤ 15 ∧ Blk W d ((S k).map byt) 25 ∧ Blk W q (K.map byt) 23 ∧ Blk W p (z32.map byt) 25 ∧ Kst W ∧ Below w2.heap.size w2 W) (fun k => 15 - k) 0 [3, 4, 5, 15] rfl ⟨by omega, b8, (((((((b1.on l2).on l3).on l4).on l5).on l6).on l7).fx f8 (fun e => by have e : q = d := e; omega)), ((((((b2.on l3).on l4).on l5).on l6).on l7).fx f8 (fun e => by have e : p = d := e; omega)), hks2.on L8, L8⟩ ?_
  rintro k W0 ⟨hk15, hd0, hq0, hp0, hk0, hb0⟩
  refine EW.seq ?_
  refine EW.region ?_
  refine WL.bin rfl rfl rfl rfl (int_lt_d _ _ _ _ _) ?_
  refine WL.done ?_
  refine EW.on ?_
  refine EW.seq ?_
  refine EW.cond_d rfl (fun h16 => ?_) (fun h16 => ?_)
  · refine EW.skip ?_
    refine EW.on ?_
    refine EW.seq ?_
    refine EW.block ?_
    refine EW.ordB [(0, 0, 0), (1, 0, 0), (2, 1, 1), (3, 1, 1), (4, 1, 0)] (by kernel_rfl) rfl (by kernel_rfl) ?_
    simp only [opsZ, List.getD_cons_zero, List.getD_cons_succ]
    refine ZE.slice0 rfl rfl rfl rfl sz0 (fun W => sl25 d W) ?_
    refine ZE.slice0 rfl rfl rfl rfl sz0 (fun W => sl23 q W) ?_
    refine ZE.bsl [(0, .slice (some ⟨d, 0, none⟩) 32 32), (1, .slice (some ⟨q, 0, none⟩) 32 32)] (fun v W' => Parts W' v [(.slice (some ⟨d, 0, none⟩) 32 32, S k), (.slice (some ⟨q, 0, none⟩) 32 32, K)] ∧ Below W0.heap.size W0 W') rfl rfl rfl (fun v W' h => .inr h.2) (fun W hW => ⟨_, _, bsl48_2 _ _ ⟨_, _, _, rfl⟩ ⟨_, _, _, rfl⟩ W, parts_new W [(.slice (some ⟨d, 0, none⟩) 32 32, S k), (.slice (some ⟨q, 0, none⟩) 32 32, K)] (two_all ((hd0.on hW).has 32 (hS.len k)) ((hq0.on hW).has 32 hK)), bt hW (below_new _ _)⟩) ?_
    rintro vp ⟨_, _, _⟩
    refine ZE.callR [vp] (fun v W' => v = kv (S (k + 1)) ∧ Below W0.heap.size W0 W') enter9 rfl rfl rfl (fun v W' h => .inr h.2) (fun W hW => (sum_gen vp _ (S k ++ K) (S (k + 1)) (by simp) (hS.s1 k) W hW.1 (hk0.on hW.2) (by rw [List.length_append, hS.len k, hK]; decide) (by simp)).mono fun e w' ⟨h1, h2⟩ => ⟨_, h1, rfl, bt hW.2 h2⟩) ?_
    rintro vs ⟨_, rfl, _⟩
    refine ZE.store (fun W => Blk W d ((S (k + 1)).map byt) 25 ∧ Blk W q (K.map byt) 23 ∧ Blk W p (z32.map byt) 25 ∧ Kst W ∧ Below w2.heap.size w2 W) rfl rfl rfl (fun _ _ => .inl rfl) (fun W hW => ?_) ?_
    · obtain ⟨w', r, b, f⟩ := st25 (hd0.on hW.2) (hS.len k) (hS.len (k + 1))
      exact ⟨w', r, b, (hq0.on hW.2).fx f (fun e => by have e : q = d := e; omega), (hp0.on hW.2).fx f (fun e => by have e : p = d := e; omega), hks2.on (bf (bt hb0 hW.2) f hdw), bf (bt hb0 hW.2) f hdw⟩
    rintro W1 hE
    refine pn_block ?_
    refine EW.on ?_
    refine EW.region ?_
    refine WL.bin rfl rfl rfl rfl (int_add (c := ((k + 1 : Nat) : Int)) (by rw [IntKind.wrap_i64]; omega) _ _ _) ?_
    first | refine WL.move rfl rfl rfl ?_
    refine WL.done ?_
    exact EW.again (E := sE name q p d) (R := fun k W => k ≤ 15 ∧ Blk W d ((S k).map byt) 25 ∧ Blk W q (K.map byt) 23 ∧ Blk W p (z32.map byt) 25 ∧ Kst W ∧ Below w2.heap.size w2 W) (m := fun k => 15 - k) (x := k) (k + 1) [3, 4, 5, 15] rfl ⟨by omega, hE⟩ (by show 15 - (k + 1) < 15 - k; omega)
  · refine EW.exit ?_
    refine px_then ?_
    refine px_then ?_
    refine px_block ?_
    refine EW.on ?_
    refine EW.seq ?_
    obtain rfl : k = 15 := by omega
    refine EW.region ?_
    refine WL.load rfl rfl rfl (ld25 hd0 (hS.len 15)) ?_
    obtain ⟨w9, r9, b9, f9⟩ := st25 hp0 z32l (hS.len 15)
    refine WL.store rfl rfl rfl r9 ?_
    refine WL.done ?_
    refine EW.on ?_
    refine EW.ret ?_
    exact EW.returnsC Tryd.results23 rfl b9 u25 rfl (i25 (hS.len 15)) ⟨rfl, bf (bt (bt l1 l2) hb0) f9 (by omega)⟩
/-- A name's error. -/
def nmE (l : List UInt8) : Int := if l.length = 0 then 6 else if 16 < l.length then 5 else 0
theorem nmE_ok {l : List UInt8} : nmE l = 0 ↔ ¬ l.length = 0 ∧ l.length ≤ 16 := by
  unfold nmE
  split
  · simp_all
  · split <;> simp_all
set_option maxRecDepth 100000 in
set_option maxHeartbeats 1000000 in
theorem check_any (l : List UInt8) (w : World) : Calls Tryd.prog 21 #[sv l] w fun e w' => e = .returned (.int .i64 (nmE l)) ∧ w' = w := by
  refine calls_of_args [sv l] Tryd.func21 rfl 9 Tryd.ntmps21 (by show 1 ≤ 9; decide) ?_
  refine EW.seq ?_
  refine EW.region ?_
  first | refine WL.assign rfl rfl rfl ?_
  refine WL.done ?_
  refine EW.on ?_
  refine EW.seq ?_
  refine EW.seq ?_
  refine EW.region ?_
  first | refine WL.move rfl rfl rfl ?_
  refine WL.len rfl rfl rfl (len_s _ _ _) ?_
  refine WL.bin rfl rfl rfl rfl (int_eq_d _ _ _ _ _) ?_
  refine WL.done ?_
  refine EW.on ?_
  refine EW.cond_d rfl (fun h5 => ?_) (fun h5 => ?_)
  · refine EW.seq ?_
    refine EW.region ?_
    first | refine WL.assign rfl rfl rfl ?_
    refine WL.done ?_
    refine EW.on ?_
    refine EW.ret ?_
    refine pr_then ?_
    exact EW.returns Tryd.results21 rfl ⟨by unfold nmE; rw [if_pos (by omega)], rfl⟩
  · refine EW.skip ?_
    refine EW.on ?_
    refine EW.seq ?_
    refine EW.seq ?_
    refine EW.region ?_
    first | refine WL.move rfl rfl rfl ?_
    refine WL.len rfl rfl rfl (len_s _ _ _) ?_
    refine WL.bin rfl rfl rfl rfl (int_gt_d _ _ _ _ _) ?_
    refine WL.done ?_
    refine EW.on ?_
    refine EW.cond_d rfl (fun h8 => ?_) (fun h8 => ?_)
    · refine EW.seq ?_
      refine EW.region ?_
      first | refine WL.assign rfl rfl rfl ?_
      refine WL.done ?_
      refine EW.on ?_
      refine EW.ret ?_
      refine pr_then ?_
      exact EW.returns Tryd.results21 rfl ⟨by unfold nmE; rw [if_neg (by omega), if_pos (by omega)], rfl⟩
    · refine EW.skip ?_
      refine EW.on ?_
      refine EW.seq ?_
      refine EW.region ?_
      first | refine WL.assign rfl rfl rfl ?_
      refine WL.done ?_
      refine EW.on ?_
      refine EW.ret ?_
      exact EW.returns Tryd.results21 rfl ⟨by unfold nmE; rw [if_neg (by omega), if_neg (by omega)], rfl⟩
set_option maxRecDepth 100000 in
set_option maxHeartbeats 1000000 in
theorem rnamed_any (l : List UInt8) (w : World) : Calls Tryd.prog 37 #[sv l] w fun e w' => e = .returned (.int .i64 (nmE l)) ∧ w' = w := by
  refine calls_of_args [sv l] Tryd.func37 rfl 9 Tryd.ntmps37 (by show 1 ≤ 9; decide) ?_
  refine EW.seq ?_
  refine EW.region ?_
  first | refine WL.assign rfl rfl rfl ?_
  refine WL.done ?_
  refine EW.on ?_
  refine EW.seq ?_
  refine EW.seq ?_
  refine EW.region ?_
  first | refine WL.move rfl rfl rfl ?_
  refine WL.len rfl rfl rfl (len_s _ _ _) ?_
  refine WL.bin rfl rfl rfl rfl (int_eq_d _ _ _ _ _) ?_
  refine WL.done ?_
  refine EW.on ?_
  refine EW.cond_d rfl (fun h5 => ?_) (fun h5 => ?_)
  · refine EW.seq ?_
    refine EW.region ?_
    first | refine WL.assign rfl rfl rfl ?_
    refine WL.done ?_
    refine EW.on ?_
    refine EW.ret ?_
    refine pr_then ?_
    exact EW.returns Tryd.results37 rfl ⟨by unfold nmE; rw [if_pos (by omega)], rfl⟩
  · refine EW.skip ?_
    refine EW.on ?_
    refine EW.seq ?_
    refine EW.seq ?_
    refine EW.region ?_
    first | refine WL.move rfl rfl rfl ?_
    refine WL.len rfl rfl rfl (len_s _ _ _) ?_
    refine WL.bin rfl rfl rfl rfl (int_gt_d _ _ _ _ _) ?_
    refine WL.done ?_
    refine EW.on ?_
    refine EW.cond_d rfl (fun h8 => ?_) (fun h8 => ?_)
    · refine EW.seq ?_
      refine EW.region ?_
      first | refine WL.assign rfl rfl rfl ?_
      refine WL.done ?_
      refine EW.on ?_
      refine EW.ret ?_
      refine pr_then ?_
      exact EW.returns Tryd.results37 rfl ⟨by unfold nmE; rw [if_neg (by omega), if_pos (by omega)], rfl⟩
    · refine EW.skip ?_
      refine EW.on ?_
      refine EW.seq ?_
      refine EW.region ?_
      first | refine WL.assign rfl rfl rfl ?_
      refine WL.done ?_
      refine EW.on ?_
      refine EW.ret ?_
      exact EW.returns Tryd.results37 rfl ⟨by unfold nmE; rw [if_neg (by omega), if_neg (by omega)], rfl⟩
set_option maxRecDepth 100000 in
set_option maxHeartbeats 1000000 in
theorem code_any (l : List UInt8) (w : World) : Calls Tryd.prog 11 #[sv l] w fun e w' => e = .returned (.int .i64 (nmE l)) ∧ w' = w := by
  refine calls_of_args [sv l] Tryd.func11 rfl 11 Tryd.ntmps11 (by show 1 ≤ 11; decide) ?_
  refine EW.seq ?_
  refine EW.region ?_
  first | refine WL.assign rfl rfl rfl ?_
  refine WL.done ?_
  refine EW.on ?_
  refine EW.seq ?_
  refine EW.block ?_
  refine EW.seq ?_
  refine EW.region ?_
  first | refine WL.move rfl rfl rfl ?_
  refine WL.len rfl rfl rfl (len_s _ _ _) ?_
  refine WL.bin rfl rfl rfl rfl (int_eq_d _ _ _ _ _) ?_
  first | refine WL.assign rfl rfl rfl ?_
  refine WL.done ?_
  refine EW.on ?_
  refine EW.cond_d rfl (fun h3 => ?_) (fun h3 => ?_)
  · refine EW.seq ?_
    refine EW.region ?_
    first | refine WL.assign rfl rfl rfl ?_
    refine WL.done ?_
    refine EW.on ?_
    refine EW.ret ?_
    refine pr_block ?_
    refine pr_then ?_
    exact EW.returns Tryd.results11 rfl ⟨by unfold nmE; rw [if_pos (by omega)], rfl⟩
  · refine EW.seq ?_
    refine EW.region ?_
    first | refine WL.move rfl rfl rfl ?_
    refine WL.len rfl rfl rfl (len_s _ _ _) ?_
    refine WL.bin rfl rfl rfl rfl (int_gt_d _ _ _ _ _) ?_
    first | refine WL.assign rfl rfl rfl ?_
    refine WL.done ?_
    refine EW.on ?_
    refine EW.cond_d rfl (fun h7 => ?_) (fun h7 => ?_)
    · refine EW.seq ?_
      refine EW.region ?_
      first | refine WL.assign rfl rfl rfl ?_
      refine WL.done ?_
      refine EW.on ?_
      refine EW.ret ?_
      refine pr_block ?_
      refine pr_then ?_
      exact EW.returns Tryd.results11 rfl ⟨by unfold nmE; rw [if_neg (by omega), if_pos (by omega)], rfl⟩
    · refine EW.skip ?_
      refine pn_block ?_
      refine EW.on ?_
      refine EW.seq ?_
      refine EW.region ?_
      first | refine WL.assign rfl rfl rfl ?_
      refine WL.done ?_
      refine EW.on ?_
      refine EW.ret ?_
      exact EW.returns Tryd.results11 rfl ⟨by unfold nmE; rw [if_neg (by omega), if_neg (by omega)], rfl⟩
end Go.Proofs.YtnfikgnploockaaDoor
