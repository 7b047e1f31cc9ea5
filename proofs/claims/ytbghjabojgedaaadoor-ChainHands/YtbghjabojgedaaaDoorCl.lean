import Derived.Test.YtbghjabojgedaaaDoorCk
set_option linter.unusedVariables false
set_option linter.unusedSimpArgs false
namespace Go.Proofs.YtbghjabojgedaaaDoor
open Go.RowKit

/-- An append to a list with no room behind it: a new list. -/
theorem Kr.grow {w : World} {g n : Nat} {X : List UInt8} (h : Kr w (.slice (some ⟨g, 0, none⟩) n n) X n) {q m cp : Nat} {Y : List UInt8} (hu : Kr w (.slice (some ⟨q, 0, none⟩) m cp) Y m) (hm : 0 < m) (hl : n + m ≤ 1000) (ty : TypeId) : ∃ v' w', (Builtin.append_ #[24, 24] ty #[.slice (some ⟨g, 0, none⟩) n n, .slice (some ⟨q, 0, none⟩) m cp]).run Tryd.prog w = .ok v' w' ∧ Kr w' v' (X ++ Y) (n + m) ∧ Below w.heap.size w w' ∧ ∀ k, v'.ownBlock = some k → w.heap.size ≤ k := by
  obtain ⟨v', w', r1, r2, r3, r4⟩ := h.push hu hl ty
  obtain ⟨i, hi, hz0, hz1, hz2⟩ := info_parts infoK
  obtain ⟨hy, ⟨e, _⟩ | ⟨g', cp', cur, e, _, hh, hn, _, hs, ht⟩⟩ := hu.row
  · cases e
  simp only [Value.slice.injEq, Option.some.injEq, Addr.mk.injEq, and_true, true_and] at e
  obtain ⟨rfl, rfl⟩ := e
  have hcap := nextcap_le (n + m) n (by omega)
  have q1 := run_append_grow (P := Tryd.prog) w 24 ty 23 i _ ul24 hi hz0 ⟨g, 0, none⟩ n n (X.map byt) (by rw [hz1]; exact h.row.1) (World.ownsRow.cells h.row (g := g) rfl) ⟨q, 0, none⟩ m cp (Y.map byt) (by rw [hz1]; exact hy) (World.ownsRow.cells hu.row (g := q) rfl) (by omega) (by omega) (by
    rw [hz2]
    refine Nat.le_trans (Nat.mul_le_mul (Nat.le_trans hcap (show (n + m) + ((n + m) + 768) / 4 ≤ 2000000000 by omega)) (Nat.le_refl 32)) (by decide))
  have r1' := r1
  rw [r1] at q1
  simp only [Result.ok.injEq] at q1
  obtain ⟨rfl, rfl⟩ := q1
  refine ⟨_, _, r1', r2, (Below.refl w.heap.size w).drew.alloc (Nat.le_refl _) _, fun k hk => ?_⟩
  simp only [Value.ownBlock, Option.some.injEq] at hk
  omega
def u8 (z : Int) : UInt8 := UInt8.ofNat (z % 256).toNat
theorem conv5 (z : Int) (W : World) : (Go.convert 3 5 (.int .i64 z)).run Tryd.prog W = .ok (.int .u8 ((u8 z).toNat : Int)) W := by
  have e : ((u8 z).toNat : Int) = IntKind.u8.wrap z := by
    unfold u8
    rw [UInt8.toNat_ofNat', IntKind.wrap_u8]
    omega
  rw [e]
  go_simp
def mkK (a b : UInt8) : List UInt8 := a :: b :: List.replicate 30 0
theorem mkK_len (a b : UInt8) : (mkK a b).length = 32 := rfl
theorem bldK (a b : UInt8) (W : World) : (Instr.build 23 [(0, .int .u8 (a.toNat : Int)), (1, .int .u8 (b.toNat : Int))].toArray).run Tryd.prog W = .ok (kv (mkK a b)) W := by
  rfl
def mkL (a : UInt8) : Nat → List UInt8
  | 0 => []
  | t + 1 => mkL a t ++ mkK a (u8 (t : Int))
theorem mkL_len (a : UInt8) : ∀ t, (mkL a t).length = 32 * t
  | 0 => rfl
  | t + 1 => by rw [mkL, List.length_append, mkL_len a t, mkK_len]; omega
theorem atK_app {X Y : List UInt8} {n : Nat} (h : X.length = 32 * n) (hY : Y.length = 32) : atK (X ++ Y) n = Y := by
  unfold atK
  rw [List.drop_append, List.drop_eq_nil_of_le (by omega), List.nil_append, h, Nat.sub_self, List.drop_zero, List.take_of_length_le (by omega)]
theorem atK_left {X Y : List UInt8} {n i : Nat} (h : X.length = 32 * n) (hi : i < n) : atK (X ++ Y) i = atK X i := by
  unfold atK
  rw [List.drop_append_of_le_length (by omega), List.take_append_of_le_length (by rw [List.length_drop]; omega)]
theorem atK_mkL (a : UInt8) : ∀ (n i : Nat), i < n → atK (mkL a n) i = mkK a (u8 (i : Int))
  | 0, i, h => by omega
  | n + 1, i, h => by
    rw [mkL]
    rcases Nat.lt_or_ge i n with hi | hi
    · rw [atK_left (mkL_len a n) hi, atK_mkL a n i hi]
    · obtain rfl : i = n := by omega
      exact atK_app (mkL_len a i) (mkK_len _ _)
def bX (X : List UInt8) (a : UInt8) (t : Nat) : List UInt8 := mkL a t ++ X.drop (32 * t)
theorem bX_len {X : List UInt8} (a : UInt8) {n t : Nat} (h : X.length = 32 * n) (ht : t ≤ n) : (bX X a t).length = 32 * n := by
  unfold bX
  rw [List.length_append, mkL_len, List.length_drop]; omega
theorem bX_succ {X : List UInt8} (a : UInt8) (t : Nat) : (bX X a t).take (32 * t) ++ mkK a (u8 (t : Int)) ++ (bX X a t).drop (32 * (t + 1)) = bX X a (t + 1) := by
  have hl := mkL_len a t
  unfold bX
  rw [List.take_append_of_le_length (by omega), List.take_of_length_le (by omega), List.drop_append, List.drop_eq_nil_of_le (by omega), List.nil_append, hl, List.drop_drop, mkL]
  congr 2
  omega
theorem bX_all {X : List UInt8} (a : UInt8) {n : Nat} (h : X.length = 32 * n) : bX X a n = mkL a n := by
  unfold bX
  rw [List.drop_eq_nil_of_le (by omega), List.append_nil]
theorem bslN0 (w : World) : (Instr.buildSlice 24 0 ([] : List (Nat × Value)).toArray).run Tryd.prog w = .ok (.slice (some ⟨w.heap.size, 0, none⟩) 0 0) (w.alloc (.cells #[] 23)) := by
  go_simp
  try rfl
def haE (n q g2 g3 t : Nat) (mk : Int) (v : Value) : List (Nat × Value) := [(1, .int .i64 (n : Int)), (2, .int .i64 mk), (3, .pointer (some ⟨q, 0, none⟩)), (8, .slice (some ⟨g2, 0, none⟩) n n), (11, .slice (some ⟨g3, 0, none⟩) n n), (13, v), (14, .int .i64 (t : Int))]
def HaI (y : World) (X : List UInt8) (mk : Int) (n g3 t : Nat) (W : World) : Prop := t ≤ n ∧ Blk W g3 ((bX X (u8 mk) t).map byt) 23 ∧ Fx (fun k => k = g3) y W
def hbE (n g3 t : Nat) (mk : Int) : List (Nat × Value) := [(2, .int .i64 mk), (11, .slice (some ⟨g3, 0, none⟩) n n), (19, .int .i64 (t : Int))]
def HbI (y : World) (n t : Nat) (W : World) : Prop := t ≤ n ∧ Below y.heap.size y W
set_option maxRecDepth 100000 in
set_option maxHeartbeats 1000000 in
theorem hands_any (K : List UInt8) (hK : K.length = 32) (n mark : Int) (hn : -9223372036854775808 ≤ n ∧ n < 9223372036854775808) (w : World) (hS : Kst w) : Calls Tryd.prog 3 #[kv K, .int .i64 n, .int .i64 mark] w fun e w' => e = .returned (.bool true) ∧ Below w.heap.size w w' := by
  obtain ⟨N0, xn, yn, zn, exn, eyn, ezn, hN0, en⟩ := red n hn 64 (by decide)
  obtain ⟨N, hN⟩ : ∃ N, N = 1 + N0 := ⟨_, rfl⟩
  obtain ⟨w1, q, r1, b1, l1, hq⟩ := box23 K w
  refine calls_of_args [kv K, .int .i64 n, .int .i64 mark] Tryd.func3 rfl 127 Tryd.ntmps3 (by show 3 ≤ 127; decide) ?_
  refine EW.seq ?_
  refine EW.region ?_
  refine WL.box rfl rfl rfl r1 ?_
  first | refine WL.assign rfl rfl rfl ?_
  refine WL.done ?_
  have c3 := b1
  have hs := hS.on l1
  have L := l1
  refine EW.on ?_
  refine EW.seq ?_
  refine EW.region ?_
  first | refine WL.move rfl rfl rfl ?_
  first | refine WL.move rfl rfl rfl ?_
  refine WL.bin rfl rfl rfl rfl (int_add exn _ _ _) ?_
  refine WL.un rfl rfl rfl (neg_i _ eyn _) ?_
  refine WL.max rfl rfl rfl rfl (max_i _ _ _ _) ?_
  rw [ezn]
  refine WL.bin rfl rfl rfl rfl (rem_i _ 64 (by decide) en _ _ _) ?_
  refine WL.bin rfl rfl rfl rfl (int_add (c := (N : Int)) (by rw [IntKind.wrap_i64]; omega) _ _ _) ?_
  first | refine WL.assign rfl rfl rfl ?_
  refine WL.done ?_
  refine EW.on ?_
  refine EW.seq ?_
  refine EW.region ?_
  refine WL.load rfl rfl rfl (ld23 c3 hK) ?_
  first | refine WL.move rfl rfl rfl ?_
  refine WL.call [kv K, .int .i64 (N : Int)] enter6 rfl rfl rfl (ahead_ok K hK N (by omega) _ hs) ?_
  rintro e u2 ⟨g2, rfl, kb2, k2, hg2⟩
  refine ⟨_, rfl, ?_⟩
  obtain ⟨p2, x1, y2, s1, s2, d2, l2, _⟩ := new1 u2 _ (ahK_len K hK N)
  have m2 := bt k2 l2
  first | refine WL.move rfl rfl rfl ?_
  refine WL.extract rfl rfl rfl (ext_3 _ _ _ _).1 ?_
  refine WL.extract rfl rfl rfl (ext_3 _ _ _ _).2.1 ?_
  refine WL.extract rfl rfl rfl (ext_3 _ _ _ _).2.2 ?_
  refine WL.new rfl rfl s1 ?_
  refine WL.store rfl rfl rfl s2 ?_
  first | refine WL.assign rfl rfl rfl ?_
  first | refine WL.assign rfl rfl rfl ?_
  refine WL.done ?_
  replace c3 := c3.on m2
  replace hs := hs.on m2
  replace L := bt L m2
  refine EW.on ?_
  refine EW.seq ?_
  refine EW.region ?_
  refine WL.load rfl rfl rfl (ld23 c3 hK) ?_
  first | refine WL.move rfl rfl rfl ?_
  refine WL.call [kv K, .int .i64 (N : Int)] enter6 rfl rfl rfl (ahead_ok K hK N (by omega) _ hs) ?_
  rintro e u3 ⟨g3, rfl, kb3, k3, hg3⟩
  refine ⟨_, rfl, ?_⟩
  obtain ⟨p3, x1, y3, s1, s2, d3, l3, _⟩ := new1 u3 _ (ahK_len K hK N)
  have m3 := bt k3 l3
  first | refine WL.move rfl rfl rfl ?_
  refine WL.extract rfl rfl rfl (ext_3 _ _ _ _).1 ?_
  refine WL.extract rfl rfl rfl (ext_3 _ _ _ _).2.1 ?_
  refine WL.extract rfl rfl rfl (ext_3 _ _ _ _).2.2 ?_
  refine WL.new rfl rfl s1 ?_
  refine WL.store rfl rfl rfl s2 ?_
  first | refine WL.assign rfl rfl rfl ?_
  first | refine WL.assign rfl rfl rfl ?_
  refine WL.done ?_
  replace c3 := c3.on m3
  replace hs := hs.on m3
  replace L := bt L m3
  have K0 : Kr (y3.alloc (.cells #[] 23)) (.slice (some ⟨y3.heap.size, 0, none⟩) 0 0) [] 0 := Kr.of (Blk.new y3 [] 23) rfl (by omega)
  have K2 : Kr y3 (.slice (some ⟨g2, 0, none⟩) N N) (ahL K N) N := Kr.of ((kb2.on l2).on m3) (ahL_len K N) (by omega)
  obtain ⟨va, y6, a1, a2, a3, a4⟩ := K0.grow (K2.on (below_new _ _)) (by omega) (by omega) 24
  rw [List.nil_append, Nat.zero_add] at a2
  have m6 : Below y3.heap.size y3 y6 := bt (below_new _ _) a3
  have b36 : Blk y6 g3 ((ahL K N).map byt) 23 := (kb3.on l3).on m6
  have hva : ∀ k, va.ownBlock = some k → k ≠ g3 := fun k hk e => by have := a4 k hk; have := (kb3.on l3).lt; have := (below_new y3 (.cells #[] 23)).size; omega
  have hg23 : g2 ≠ g3 := by have := (kb2.on l2).lt; omega
  have hq3 : q ≠ g3 := by have := b1.lt; have := m2.size; omega
  have h0 := hS.lt
  refine EW.on ?_
  refine EW.seq ?_
  refine EW.seq ?_
  refine EW.region ?_
  first | refine WL.move rfl rfl rfl ?_
  first | refine WL.bin rfl rfl rfl rfl (int_ne_f rfl _ _ _) ?_ | refine WL.bin rfl rfl rfl rfl (int_ne_t ‹_› _ _ _) ?_ | refine WL.bin rfl rfl rfl rfl (int_ne_f ‹_› _ _ _) ?_ | refine WL.bin rfl rfl rfl rfl (int_ne_t (by decide) _ _ _) ?_ | refine WL.bin rfl rfl rfl rfl (int_ne_d _ _ _ _ _) ?_
  first | refine WL.move rfl rfl rfl ?_
  first | refine WL.move rfl rfl rfl ?_ | refine WL.skip _ rfl rfl rfl ?_
  first | refine WL.bin rfl rfl rfl rfl (int_ne_f rfl _ _ _) ?_ | refine WL.bin rfl rfl rfl rfl (int_ne_t ‹_› _ _ _) ?_ | refine WL.bin rfl rfl rfl rfl (int_ne_f ‹_› _ _ _) ?_ | refine WL.bin rfl rfl rfl rfl (int_ne_t (by decide) _ _ _) ?_ | refine WL.bin rfl rfl rfl rfl (int_ne_d _ _ _ _ _) ?_ | refine WL.skip _ rfl rfl rfl ?_
  first | refine WL.pick rfl rfl rfl rfl ?_
  first | refine WL.move rfl rfl rfl ?_
  first | refine WL.move rfl rfl rfl ?_ | refine WL.skip _ rfl rfl rfl ?_
  refine WL.len rfl rfl rfl (len24 _ _ _ _ _) ?_
  first | refine WL.move rfl rfl rfl ?_ | refine WL.skip _ rfl rfl rfl ?_
  first | refine WL.bin rfl rfl rfl rfl (int_ne_f rfl _ _ _) ?_ | refine WL.bin rfl rfl rfl rfl (int_ne_t ‹_› _ _ _) ?_ | refine WL.bin rfl rfl rfl rfl (int_ne_f ‹_› _ _ _) ?_ | refine WL.bin rfl rfl rfl rfl (int_ne_t (by decide) _ _ _) ?_ | refine WL.bin rfl rfl rfl rfl (int_ne_d _ _ _ _ _) ?_ | refine WL.skip _ rfl rfl rfl ?_
  first | refine WL.pick rfl rfl rfl rfl ?_
  refine WL.done ?_
  refine EW.on ?_
  refine EW.cond_f rfl ?_
  refine EW.skip ?_
  refine EW.on ?_
  refine EW.seq ?_
  refine EW.region ?_
  refine WL.bslN [] rfl rfl rfl (bslN0 _) ?_
  first | refine WL.move rfl rfl rfl ?_
  refine WL.app rfl rfl rfl rfl a1 ?_
  first | refine WL.assign rfl rfl rfl ?_
  refine WL.done ?_
  replace c3 := c3.on m6
  replace hs := hs.on m6
  replace L := bt L m6
  refine EW.on ?_
  refine EW.seq ?_
  refine EW.seq ?_
  refine EW.region ?_
  first | refine WL.assign rfl rfl rfl ?_
  refine WL.done ?_
  refine EW.on ?_
  refine EW.block ?_
  refine EW.loop (fun t => haE N q g2 g3 t mark va) (HaI y6 (ahL K N) mark N g3) (fun t => N - t) 0 [1, 2, 3, 8, 11, 13, 14] rfl ⟨Nat.zero_le _, by unfold bX; simpa [mkL] using b36, Fx.refl _ _⟩ ?_
  rintro t wi ⟨htl, bg, hf⟩
  show EW _ _ _ _ [(1, .int .i64 (N : Int)), (2, .int .i64 mark), (3, .pointer (some ⟨q, 0, none⟩)), (8, .slice (some ⟨g2, 0, none⟩) N N), (11, .slice (some ⟨g3, 0, none⟩) N N), (13, va), (14, .int .i64 (t : Int))] _
  refine EW.seq ?_
  refine EW.seq ?_
  refine EW.region ?_
  first | refine WL.move rfl rfl rfl ?_
  first | refine WL.move rfl rfl rfl ?_
  refine WL.len rfl rfl rfl (len24 _ _ _ _ _) ?_
  first | refine WL.bin rfl rfl rfl rfl (int_lt_t ‹_› _ _ _) ?_ | refine WL.bin rfl rfl rfl rfl (int_lt_f ‹_› _ _ _) ?_ | refine WL.bin rfl rfl rfl rfl (int_lt_d _ _ _ _ _) ?_
  refine WL.done ?_
  refine EW.on ?_
  refine EW.cond_d rfl (fun h59 => ?_) (fun h59 => ?_)
  · refine EW.skip ?_
    refine EW.on ?_
    refine EW.seq ?_
    refine EW.block ?_
    have hlt : t < N := by omega
    obtain ⟨w7, s7, b7, f7⟩ := stM bg (i := t) (D := mkK (u8 mark) (u8 (t : Int))) (by rw [bX_len _ (ahL_len K N) htl]; omega) (mkK_len _ _)
    refine EW.region ?_
    first | refine WL.move rfl rfl rfl ?_
    first | refine WL.move rfl rfl rfl ?_
    first | refine WL.move rfl rfl rfl ?_
    refine WL.conv rfl rfl rfl (conv5 _ _) ?_
    first | refine WL.move rfl rfl rfl ?_
    refine WL.conv rfl rfl rfl (conv5 _ _) ?_
    refine WL.buildN [(0, .int .u8 ((u8 mark).toNat : Int)), (1, .int .u8 ((u8 (t : Int)).toNat : Int))] rfl rfl rfl (bldK (u8 mark) (u8 (t : Int)) _) ?_
    refine WL.index rfl rfl rfl rfl (idxL g3 N N t hlt _) ?_
    refine WL.store rfl rfl rfl s7 ?_
    refine WL.done ?_
    refine pn_block ?_
    refine EW.on ?_
    refine EW.region ?_
    first | refine WL.move rfl rfl rfl ?_
    refine WL.bin rfl rfl rfl rfl (int_add (c := ((t + 1 : Nat) : Int)) (by rw [IntKind.wrap_i64]; omega) _ _ _) ?_
    first | refine WL.assign rfl rfl rfl ?_
    refine WL.done ?_
    refine EW.again (E := fun t => haE N q g2 g3 t mark va) (R := HaI y6 (ahL K N) mark N g3) (m := fun t => N - t) (x := t) (t + 1) [1, 2, 3, 8, 11, 13, 14] rfl ⟨by omega, ?_, hf.and f7⟩ (by show N - (t + 1) < N - t; omega)
    rw [← bX_succ (u8 mark) t]
    exact b7
  · refine EW.exit ?_
    refine px_then ?_
    refine px_then ?_
    refine px_block ?_
    refine EW.on ?_
    refine EW.seq ?_
    have htN : t = N := by omega
    rw [htN] at bg
    rw [bX_all _ (ahL_len K N)] at bg
    have KB0 : Kr wi (.slice (some ⟨g3, 0, none⟩) N N) (mkL (u8 mark) N) N := Kr.of bg (mkL_len _ N) (by omega)
    obtain ⟨vm, y11, a5, a6, a7, a8⟩ := (KB0.on (below_new wi (.cells ((mkK (u8 mark) 99).map byt).toArray 23))).grow (Kr.of (n := 1) (Blk.new wi ((mkK (u8 mark) 99).map byt) 23) (mkK_len _ _) (by omega)) (by omega) (by omega) 24
    refine EW.region ?_
    first | refine WL.move rfl rfl rfl ?_
    first | refine WL.move rfl rfl rfl ?_
    refine WL.conv rfl rfl rfl (conv5 _ _) ?_
    refine WL.buildN [(0, .int .u8 ((u8 mark).toNat : Int)), (1, .int .u8 99)] rfl rfl rfl (bldK (u8 mark) 99 _) ?_
    refine WL.bslN [(0, kv (mkK (u8 mark) 99))] rfl rfl rfl (bslK _ (mkK_len _ _) _) ?_
    refine WL.app rfl rfl rfl rfl a5 ?_
    first | refine WL.assign rfl rfl rfl ?_
    refine WL.done ?_
    have m11 := bt (below_new wi (.cells ((mkK (u8 mark) 99).map byt).toArray 23)) a7
    replace c3 := (c3.fx hf hq3).on m11
    replace hs := (hs.fx hf (by have := l1.size; have := m2.size; omega)).on m11
    replace L := bt (bf L hf (by have := l1.size; have := m2.size; omega)) m11
    have KA : Kr y11 (.slice (some ⟨g2, 0, none⟩) N N) (ahL K N) N := ((K2.on m6).fx hf (fun k h1 h2 => by simp only [Value.ownBlock, Option.some.injEq] at h1; have h2 : k = g3 := h2; omega)).on m11
    have KO : Kr y11 va (ahL K N) N := (a2.fx hf (fun k h1 h2 => hva k h1 h2)).on m11
    have KB : Kr y11 (.slice (some ⟨g3, 0, none⟩) N N) (mkL (u8 mark) N) N := KB0.on m11
    have KM : Kr y11 vm (mkL (u8 mark) N ++ mkK (u8 mark) 99) (N + 1) := a6
    refine EW.on ?_
    refine EW.seq ?_
    refine EW.seq ?_
    refine EW.region ?_
    first | refine WL.move rfl rfl rfl ?_
    first | refine WL.move rfl rfl rfl ?_
    refine WL.call [.slice (some ⟨g2, 0, none⟩) N N, va] enter7 rfl rfl rfl (same_any _ _ (ahL K N) N (by omega) _ KA KO) ?_
    rintro e y12 ⟨rfl, m12⟩
    refine ⟨_, rfl, ?_⟩
    first | refine WL.un rfl rfl rfl (not_t _ _) ?_
    refine WL.done ?_
    replace c3 := c3.on m12
    replace hs := hs.on m12
    replace L := bt L m12
    replace KA := KA.on m12
    replace KO := KO.on m12
    replace KB := KB.on m12
    replace KM := KM.on m12
    refine EW.on ?_
    refine EW.cond_f rfl ?_
    refine EW.skip ?_
    refine EW.on ?_
    refine EW.seq ?_
    refine EW.region ?_
    refine WL.load rfl rfl rfl (ld23 c3 hK) ?_
    first | refine WL.move rfl rfl rfl ?_
    refine WL.call [kv K, .int .i64 (N : Int)] enter6 rfl rfl rfl (ahead_ok K hK N (by omega) _ hs) ?_
    rintro e u14 ⟨g14, rfl, kb14, k14, hg14⟩
    refine ⟨_, rfl, ?_⟩
    obtain ⟨p14, x1, y14, s1, s2, d14, l14, _⟩ := new1 u14 _ (ahK_len K hK N)
    have m14 := bt k14 l14
    first | refine WL.move rfl rfl rfl ?_
    refine WL.extract rfl rfl rfl (ext_3 _ _ _ _).1 ?_
    refine WL.extract rfl rfl rfl (ext_3 _ _ _ _).2.1 ?_
    refine WL.extract rfl rfl rfl (ext_3 _ _ _ _).2.2 ?_
    refine WL.new rfl rfl s1 ?_
    refine WL.store rfl rfl rfl s2 ?_
    first | refine WL.assign rfl rfl rfl ?_
    first | refine WL.assign rfl rfl rfl ?_
    refine WL.done ?_
    replace c3 := c3.on m14
    replace hs := hs.on m14
    replace L := bt L m14
    replace KA := KA.on m14
    replace KO := KO.on m14
    replace KB := KB.on m14
    replace KM := KM.on m14
    have KC : Kr y14 (.slice (some ⟨g14, 0, none⟩) N N) (ahL K N) N := Kr.of (kb14.on l14) (ahL_len K N) (by omega)
    refine EW.on ?_
    refine EW.seq ?_
    refine EW.seq ?_
    refine EW.region ?_
    first | refine WL.move rfl rfl rfl ?_
    first | refine WL.bin rfl rfl rfl rfl (int_ne_f rfl _ _ _) ?_ | refine WL.bin rfl rfl rfl rfl (int_ne_t ‹_› _ _ _) ?_ | refine WL.bin rfl rfl rfl rfl (int_ne_f ‹_› _ _ _) ?_ | refine WL.bin rfl rfl rfl rfl (int_ne_t (by decide) _ _ _) ?_ | refine WL.bin rfl rfl rfl rfl (int_ne_d _ _ _ _ _) ?_
    first | refine WL.move rfl rfl rfl ?_
    first | refine WL.move rfl rfl rfl ?_ | refine WL.skip _ rfl rfl rfl ?_
    first | refine WL.move rfl rfl rfl ?_ | refine WL.skip _ rfl rfl rfl ?_
    refine WL.call [.slice (some ⟨g14, 0, none⟩) N N, va] enter7 rfl rfl rfl (same_any _ _ (ahL K N) N (by omega) _ KC KO) ?_
    rintro e y15 ⟨rfl, m15⟩
    refine ⟨_, rfl, ?_⟩
    first | refine WL.un rfl rfl rfl (not_t _ _) ?_ | refine WL.skip _ rfl rfl rfl ?_
    first | refine WL.pick rfl rfl rfl rfl ?_
    first | refine WL.move rfl rfl rfl ?_
    first | refine WL.move rfl rfl rfl ?_ | refine WL.skip _ rfl rfl rfl ?_
    first | refine WL.move rfl rfl rfl ?_ | refine WL.skip _ rfl rfl rfl ?_
    refine WL.call [.slice (some ⟨g2, 0, none⟩) N N, va] enter7 rfl rfl rfl (same_any _ _ (ahL K N) N (by omega) _ (KA.on m15) (KO.on m15)) ?_
    rintro e y16 ⟨rfl, m16⟩
    refine ⟨_, rfl, ?_⟩
    first | refine WL.un rfl rfl rfl (not_t _ _) ?_ | refine WL.skip _ rfl rfl rfl ?_
    first | refine WL.pick rfl rfl rfl rfl ?_
    first | refine WL.move rfl rfl rfl ?_
    first | refine WL.move rfl rfl rfl ?_ | refine WL.skip _ rfl rfl rfl ?_
    first | refine WL.move rfl rfl rfl ?_ | refine WL.skip _ rfl rfl rfl ?_
    obtain ⟨gm, ixm, ldm⟩ := KM.item (i := N) (by omega)
    rw [atK_app (mkL_len _ N) (mkK_len _ _)] at ldm
    refine WL.index rfl rfl rfl rfl (ixm _) ?_
    refine WL.load rfl rfl rfl (ldm _ (bt m15 m16)) ?_
    first | refine WL.move rfl rfl rfl ?_ | refine WL.skip _ rfl rfl rfl ?_
    refine WL.conv rfl rfl rfl (conv5 _ _) ?_
    refine WL.buildN [(0, .int .u8 ((u8 mark).toNat : Int)), (1, .int .u8 99)] rfl rfl rfl (bldK (u8 mark) 99 _) ?_
    refine WL.bin rfl rfl rfl rfl (kne _ (mkK_len _ _) _ _ _) ?_
    first | refine WL.pick rfl rfl rfl rfl ?_
    refine WL.done ?_
    replace L := bt (bt L m15) m16
    replace KB := KB.on (bt m15 m16)
    refine EW.on ?_
    refine EW.cond_f rfl ?_
    refine EW.skip ?_
    refine EW.on ?_
    refine EW.seq ?_
    refine EW.seq ?_
    refine EW.region ?_
    first | refine WL.assign rfl rfl rfl ?_
    refine WL.done ?_
    refine EW.on ?_
    refine EW.block ?_
    refine EW.loop (fun t => hbE N g3 t mark) (HbI y16 N) (fun t => N - t) 0 [2, 11, 19] rfl ⟨Nat.zero_le _, Below.refl _ _⟩ ?_
    rintro t wj ⟨htl, be⟩
    show EW _ _ _ _ [(2, .int .i64 mark), (11, .slice (some ⟨g3, 0, none⟩) N N), (19, .int .i64 (t : Int))] _
    refine EW.seq ?_
    refine EW.seq ?_
    refine EW.region ?_
    first | refine WL.move rfl rfl rfl ?_
    first | refine WL.move rfl rfl rfl ?_
    refine WL.len rfl rfl rfl (len24 _ _ _ _ _) ?_
    first | refine WL.bin rfl rfl rfl rfl (int_lt_t ‹_› _ _ _) ?_ | refine WL.bin rfl rfl rfl rfl (int_lt_f ‹_› _ _ _) ?_ | refine WL.bin rfl rfl rfl rfl (int_lt_d _ _ _ _ _) ?_
    refine WL.done ?_
    refine EW.on ?_
    refine EW.cond_d rfl (fun h114 => ?_) (fun h114 => ?_)
    · refine EW.skip ?_
      refine EW.on ?_
      refine EW.seq ?_
      refine EW.block ?_
      refine EW.seq ?_
      have hlt : t < N := by omega
      obtain ⟨gb, ixb, ldb⟩ := KB.item hlt
      rw [atK_mkL _ N t hlt] at ldb
      refine EW.region ?_
      first | refine WL.move rfl rfl rfl ?_
      first | refine WL.move rfl rfl rfl ?_
      refine WL.index rfl rfl rfl rfl (ixb _) ?_
      refine WL.load rfl rfl rfl (ldb _ be) ?_
      first | refine WL.move rfl rfl rfl ?_
      refine WL.conv rfl rfl rfl (conv5 _ _) ?_
      first | refine WL.move rfl rfl rfl ?_
      refine WL.conv rfl rfl rfl (conv5 _ _) ?_
      refine WL.buildN [(0, .int .u8 ((u8 mark).toNat : Int)), (1, .int .u8 ((u8 (t : Int)).toNat : Int))] rfl rfl rfl (bldK (u8 mark) (u8 (t : Int)) _) ?_
      refine WL.bin rfl rfl rfl rfl (kne _ (mkK_len _ _) _ _ _) ?_
      refine WL.done ?_
      refine EW.on ?_
      refine EW.cond_f rfl ?_
      refine EW.skip ?_
      refine pn_block ?_
      refine EW.on ?_
      refine EW.region ?_
      first | refine WL.move rfl rfl rfl ?_
      refine WL.bin rfl rfl rfl rfl (int_add (c := ((t + 1 : Nat) : Int)) (by rw [IntKind.wrap_i64]; omega) _ _ _) ?_
      first | refine WL.assign rfl rfl rfl ?_
      refine WL.done ?_
      refine EW.again (E := fun t => hbE N g3 t mark) (R := HbI y16 N) (m := fun t => N - t) (x := t) (t + 1) [2, 11, 19] rfl ⟨by omega, be⟩ (by show N - (t + 1) < N - t; omega)
    · refine EW.exit ?_
      refine px_then ?_
      refine px_then ?_
      refine px_block ?_
      refine EW.on ?_
      refine EW.seq ?_
      refine EW.region ?_
      first | refine WL.assign rfl rfl rfl ?_
      refine WL.done ?_
      refine EW.on ?_
      refine EW.ret ?_
      exact EW.returns Tryd.results3 rfl ⟨rfl, bt L be⟩
end Go.Proofs.YtbghjabojgedaaaDoor
