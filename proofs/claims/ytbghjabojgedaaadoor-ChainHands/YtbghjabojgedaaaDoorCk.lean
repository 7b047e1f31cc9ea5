import Derived.Test.YtbghjabojgedaaaDoorCh
set_option linter.unusedVariables false
set_option linter.unusedSimpArgs false
namespace Go.Proofs.YtbghjabojgedaaaDoor
open Go.RowKit

theorem neg_i (a : Int) {c : Int} (h : IntKind.i64.wrap (-a) = c) (W : World) : (Op.unary .neg (.int .i64 a)).run Tryd.prog W = .ok (.int .i64 c) W := by
  subst h
  go_simp
theorem max_i (a b : Int) (ty : TypeId) (W : World) : (Builtin.max_ #[3, 3] ty #[.int .i64 a, .int .i64 b]).run Tryd.prog W = .ok (.int .i64 (max a b)) W := by
  go_simp
theorem rem_i (a b : Int) (h : b ≠ 0) {c : Int} (hc : Int.tmod a b = c) (W : World) (x y : Operand) : (do eqGuard .rem 3 x y (.int .i64 a) (.int .i64 b); binOp .rem 3 (.int .i64 a) (.int .i64 b) : Sem Value).run Tryd.prog W = .ok (.int .i64 c) W := by
  subst hc
  go_simp
def strV (bs : List UInt8) : Value := .string ⟨bs.toArray⟩
theorem ba_app (a b : List UInt8) : (⟨a.toArray⟩ : ByteArray) ++ (⟨b.toArray⟩ : ByteArray) = ⟨(a ++ b).toArray⟩ := by
  rw [ByteArray.ext_iff, ByteArray.data_append]
  simp
theorem str_add (a b : List UInt8) (h : a.length + b.length ≤ 9223372036854775807) (W : World) (x y : Operand) : (do eqGuard .add 9 x y (strV a) (strV b); binOp .add 9 (strV a) (strV b) : Sem Value).run Tryd.prog W = .ok (strV (a ++ b)) W := by
  unfold strV
  have e := ba_app a b
  have h' : (⟨a.toArray⟩ : ByteArray).size + (⟨b.toArray⟩ : ByteArray).size ≤ 9223372036854775807 := by simpa [ByteArray.size] using h
  rw [← e]
  generalize (⟨a.toArray⟩ : ByteArray) = s at *
  generalize (⟨b.toArray⟩ : ByteArray) = s' at *
  go_simp
theorem str_eq (a : List UInt8) (W : World) (x y : Operand) : (do eqGuard .eql 9 x y (strV a) (strV a); binOp .eql 9 (strV a) (strV a) : Sem Value).run Tryd.prog W = .ok (.bool true) W := by
  unfold strV
  go_simp
theorem wrap_range (x : Int) : -9223372036854775808 ≤ IntKind.i64.wrap x ∧ IntKind.i64.wrap x < 9223372036854775808 := by rw [IntKind.wrap_i64]; omega
/-- The rest of a number, of whatever sign. -/
theorem red (m : Int) (h : -9223372036854775808 ≤ m ∧ m < 9223372036854775808) (b : Nat) (hb : 0 < b) : ∃ (M : Nat) (x y z : Int), IntKind.i64.wrap (m + 1) = x ∧ IntKind.i64.wrap (-x) = y ∧ max m y = z ∧ M < b ∧ Int.tmod z (b : Int) = (M : Int) := by
  have h0 : 0 ≤ max m (IntKind.i64.wrap (-(IntKind.i64.wrap (m + 1)))) := by
    rw [IntKind.wrap_i64, IntKind.wrap_i64]; omega
  obtain ⟨n, hn⟩ : ∃ n : Nat, max m (IntKind.i64.wrap (-(IntKind.i64.wrap (m + 1)))) = (n : Int) := ⟨_, (Int.toNat_of_nonneg h0).symm⟩
  exact ⟨n % b, _, _, n, rfl, rfl, hn, Nat.mod_lt _ hb, rfl⟩
theorem mac1 {W W' : World} {g : Nat} {v : Value} {K D : List UInt8} {b : UInt8} (hD : macOf K [b] = D) (hg : g = W.heap.size) (e : W' = W.alloc (.cells #[v] 34)) {q : Nat} (hq : Blk W q (K.map byt) 23) (hK : K.length = 32) (hv : Has W v [b]) (hS : Kst W) : Calls Tryd.prog 9 #[.slice (some ⟨q, 0, none⟩) 32 32, .slice (some ⟨g, 0, none⟩) 1 1] W' fun e w' => e = .returned (kv D) ∧ Below W.heap.size W w' := by
  subst e
  exact mac_at W g hg _ K [b] D [(v, [b])] rfl hD (hq.has 32 hK) (fun p hp => by
    obtain rfl := List.mem_singleton.1 hp
    exact hv) hS (by rw [hK]; decide) (by simp) (by simp)
theorem ahead_1 (K : List UInt8) (hK : K.length = 32) (w : World) (hS : Kst w) : Calls Tryd.prog 6 #[kv K, .int .i64 1] w fun e w' => ∃ g, e = .returned (.tuple #[kv (nxK K), .slice (some ⟨g, 0, none⟩) 1 1, .int .i64 0]) ∧ Blk w' g ((msK K).map byt) 23 ∧ Below w.heap.size w w' ∧ w.heap.size ≤ g := by
  have h := ahead_ok K hK 1 (by omega) w hS
  have e1 : ahK K 1 = nxK K := by simp only [ahK]
  have e2 : ahL K 1 = msK K := by simp only [ahL, ahK, List.nil_append]
  rw [e1, e2] at h
  exact h
theorem atK_one (L : List UInt8) (h : L.length = 32) : atK L 0 = L := by
  unfold atK
  rw [Nat.mul_zero, List.drop_zero, List.take_of_length_le (by omega)]
set_option maxRecDepth 100000 in
set_option maxHeartbeats 1000000 in
theorem steps_any (K S : List UInt8) (hK : K.length = 32) (hL : S.length = 32) (m n : Int) (hm : -9223372036854775808 ≤ m ∧ m < 9223372036854775808) (hn : -9223372036854775808 ≤ n ∧ n < 9223372036854775808) (w : World) (hS : Kst w) : Calls Tryd.prog 4 #[kv K, kv S, .int .i64 m, .int .i64 n] w fun e w' => e = .returned (.bool true) ∧ Below w.heap.size w w' := by
  obtain ⟨M, xm, ym, zm, exm, eym, ezm, hM, em⟩ := red m hm 33 (by decide)
  obtain ⟨N, xn, yn, zn, exn, eyn, ezn, hN, en⟩ := red n hn 32 (by decide)
  have rcall4 : ∀ (w : World) (hs : Kst w), Calls Tryd.prog 6 #[kv (ahK K M), .int .i64 (N : Int)] w fun e w' => ∃ g, e = .returned (.tuple #[kv (ahK K (M + N)), .slice (some ⟨g, 0, none⟩) N N, .int .i64 0]) ∧ Blk w' g ((ahL (ahK K M) N).map byt) 23 ∧ Below w.heap.size w w' ∧ w.heap.size ≤ g := fun w hs => by
    have := ahead_ok (ahK K M) (ahK_len K hK M) N (by omega) w hs
    rw [ahK_add] at this
    exact this
  obtain ⟨X, hX⟩ : ∃ X, exOut (macOf K S) rootB 64 = X := ⟨_, rfl⟩
  have hXl : X.length = 64 := by rw [← hX]; exact exOut_length _ _ 64
  have hXa : (X.take 32).length = 32 := by rw [List.length_take, hXl]; decide
  have hXb : (X.drop 32).length = 32 := by rw [List.length_drop, hXl]
  obtain ⟨w1, q4, r1, b1, l1, hq4⟩ := box23 K w
  obtain ⟨w2, q5, r2, b2, l2, hq5⟩ := box23 S w1
  refine calls_of_args [kv K, kv S, .int .i64 m, .int .i64 n] Tryd.func4 rfl 163 Tryd.ntmps4 (by show 4 ≤ 163; decide) ?_
  refine EW.seq ?_
  refine EW.region ?_
  refine WL.box rfl rfl rfl r1 ?_
  refine WL.box rfl rfl rfl r2 ?_
  first | refine WL.assign rfl rfl rfl ?_
  refine WL.done ?_
  have c4 := b1.on l2
  have c5 := b2
  have hs := (hS.on l1).on l2
  have L := bt l1 l2
  refine EW.on ?_
  refine EW.seq ?_
  refine EW.region ?_
  first | refine WL.move rfl rfl rfl ?_
  first | refine WL.move rfl rfl rfl ?_
  refine WL.bin rfl rfl rfl rfl (int_add exm _ _ _) ?_
  refine WL.un rfl rfl rfl (neg_i _ eym _) ?_
  refine WL.max rfl rfl rfl rfl (max_i _ _ _ _) ?_
  rw [ezm]
  refine WL.bin rfl rfl rfl rfl (rem_i _ 33 (by decide) em _ _ _) ?_
  first | refine WL.assign rfl rfl rfl ?_
  refine WL.done ?_
  refine EW.on ?_
  refine EW.seq ?_
  refine EW.region ?_
  first | refine WL.move rfl rfl rfl ?_
  first | refine WL.move rfl rfl rfl ?_
  refine WL.bin rfl rfl rfl rfl (int_add exn _ _ _) ?_
  refine WL.un rfl rfl rfl (neg_i _ eyn _) ?_
  refine WL.max rfl rfl rfl rfl (max_i _ _ _ _) ?_
  rw [ezn]
  refine WL.bin rfl rfl rfl rfl (rem_i _ 32 (by decide) en _ _ _) ?_
  first | refine WL.assign rfl rfl rfl ?_
  refine WL.done ?_
  refine EW.on ?_
  refine EW.seq ?_
  refine EW.region ?_
  refine WL.load rfl rfl rfl (ld23 c4 hK) ?_
  first | refine WL.move rfl rfl rfl ?_
  refine WL.call [kv K, .int .i64 (M : Int)] enter6 rfl rfl rfl (ahead_ok K hK M (by omega) _ hs) ?_
  rintro e u3 ⟨g3, rfl, kb3, k3, hg3⟩
  refine ⟨_, rfl, ?_⟩
  obtain ⟨p3, x1, y3, s1, s2, d3, l3, _⟩ := new1 u3 _ (ahK_len K hK M)
  have m3 := bt k3 l3
  first | refine WL.move rfl rfl rfl ?_
  refine WL.extract rfl rfl rfl (ext_3 _ _ _ _).1 ?_
  refine WL.extract rfl rfl rfl (ext_3 _ _ _ _).2.1 ?_
  refine WL.extract rfl rfl rfl (ext_3 _ _ _ _).2.2 ?_
  refine WL.new rfl rfl s1 ?_
  refine WL.store rfl rfl rfl s2 ?_
  first | refine WL.assign rfl rfl rfl ?_
  first | refine WL.assign rfl rfl rfl ?_
  refine WL.done ?_
  replace c4 := c4.on m3
  replace c5 := c5.on m3
  replace hs := hs.on m3
  replace L := bt L m3
  refine EW.on ?_
  refine EW.seq ?_
  refine EW.region ?_
  refine WL.load rfl rfl rfl (ld23 d3 (ahK_len K hK M)) ?_
  first | refine WL.move rfl rfl rfl ?_
  refine WL.call [kv (ahK K M), .int .i64 (N : Int)] enter6 rfl rfl rfl (rcall4 _ hs) ?_
  rintro e u4 ⟨g4, rfl, kb4, k4, hg4⟩
  refine ⟨_, rfl, ?_⟩
  obtain ⟨p4, x1, y4, s1, s2, d4, l4, _⟩ := new1 u4 _ (ahK_len K hK (M + N))
  have m4 := bt k4 l4
  first | refine WL.move rfl rfl rfl ?_
  refine WL.extract rfl rfl rfl (ext_3 _ _ _ _).1 ?_
  refine WL.extract rfl rfl rfl (ext_3 _ _ _ _).2.1 ?_
  refine WL.extract rfl rfl rfl (ext_3 _ _ _ _).2.2 ?_
  refine WL.new rfl rfl s1 ?_
  refine WL.store rfl rfl rfl s2 ?_
  first | refine WL.assign rfl rfl rfl ?_
  first | refine WL.assign rfl rfl rfl ?_
  refine WL.done ?_
  replace c4 := c4.on m4
  replace c5 := c5.on m4
  replace hs := hs.on m4
  replace L := bt L m4
  refine EW.on ?_
  refine EW.seq ?_
  refine EW.region ?_
  refine WL.load rfl rfl rfl (ld23 c4 hK) ?_
  first | refine WL.move rfl rfl rfl ?_
  first | refine WL.move rfl rfl rfl ?_
  refine WL.bin rfl rfl rfl rfl (int_add (c := ((M + N : Nat) : Int)) (by rw [IntKind.wrap_i64]; omega) _ _ _) ?_
  refine WL.call [kv K, .int .i64 ((M + N : Nat) : Int)] enter6 rfl rfl rfl (ahead_ok K hK (M + N) (by omega) _ hs) ?_
  rintro e u5 ⟨g5, rfl, kb5, k5, hg5⟩
  refine ⟨_, rfl, ?_⟩
  obtain ⟨p5, x1, y5, s1, s2, d5, l5, _⟩ := new1 u5 _ (ahK_len K hK (M + N))
  have m5 := bt k5 l5
  first | refine WL.move rfl rfl rfl ?_
  refine WL.extract rfl rfl rfl (ext_3 _ _ _ _).1 ?_
  refine WL.extract rfl rfl rfl (ext_3 _ _ _ _).2.1 ?_
  refine WL.extract rfl rfl rfl (ext_3 _ _ _ _).2.2 ?_
  refine WL.new rfl rfl s1 ?_
  refine WL.store rfl rfl rfl s2 ?_
  first | refine WL.assign rfl rfl rfl ?_
  first | refine WL.assign rfl rfl rfl ?_
  refine WL.done ?_
  replace c4 := c4.on m5
  replace c5 := c5.on m5
  replace hs := hs.on m5
  replace L := bt L m5
  have K1 : Kr y5 (.slice (some ⟨g3, 0, none⟩) M M) (ahL K M) M := Kr.of (((kb3.on l3).on m4).on m5) (ahL_len K M) (by omega)
  have K2 : Kr y5 (.slice (some ⟨g4, 0, none⟩) N N) (ahL (ahK K M) N) N := Kr.of ((kb4.on l4).on m5) (ahL_len _ N) (by omega)
  have K3 : Kr y5 (.slice (some ⟨g5, 0, none⟩) (M + N) (M + N)) (ahL K (M + N)) (M + N) := Kr.of (kb5.on l5) (ahL_len K (M + N)) (by omega)
  refine EW.on ?_
  refine EW.seq ?_
  refine EW.seq ?_
  refine EW.region ?_
  first | refine WL.move rfl rfl rfl ?_
  first | refine WL.bin rfl rfl rfl rfl (int_ne_f rfl _ _ _) ?_ | refine WL.bin rfl rfl rfl rfl (int_ne_t ‹_› _ _ _) ?_ | refine WL.bin rfl rfl rfl rfl (int_ne_f ‹_› _ _ _) ?_ | refine WL.bin rfl rfl rfl rfl (int_ne_t (by decide) _ _ _) ?_ | refine WL.bin rfl rfl rfl rfl (int_ne_d _ _ _ _ _) ?_
  first | refine WL.move rfl rfl rfl ?_
  first | refine WL.move rfl rfl rfl ?_ | refine WL.skip _ rfl rfl rfl ?_
  first | refine WL.bin rfl rfl rfl rfl (int_ne_f rfl _ _ _) ?_ | refine WL.bin rfl rfl rfl rfl (int_ne_t ‹_› _ _ _) ?_ | refine WL.bin rfl rfl rfl rfl (int_ne_f ‹_› _ _ _) ?_ | refine WL.bin rfl rfl rfl rfl (int_ne_t (by decide) _ _ _) ?_ | refine WL.bin rfl rfl rfl rfl (int_ne_d _ _ _ _ _) ?_ | refine WL.skip _ rfl rfl rfl ?_
  first | refine WL.pick rfl rfl rfl rfl ?_
  first | refine WL.move rfl rfl rfl ?_
  first | refine WL.move rfl rfl rfl ?_ | refine WL.skip _ rfl rfl rfl ?_
  first | refine WL.bin rfl rfl rfl rfl (int_ne_f rfl _ _ _) ?_ | refine WL.bin rfl rfl rfl rfl (int_ne_t ‹_› _ _ _) ?_ | refine WL.bin rfl rfl rfl rfl (int_ne_f ‹_› _ _ _) ?_ | refine WL.bin rfl rfl rfl rfl (int_ne_t (by decide) _ _ _) ?_ | refine WL.bin rfl rfl rfl rfl (int_ne_d _ _ _ _ _) ?_ | refine WL.skip _ rfl rfl rfl ?_
  first | refine WL.pick rfl rfl rfl rfl ?_
  first | refine WL.move rfl rfl rfl ?_
  refine WL.load rfl rfl rfl (ld23 (d4.on m5) (ahK_len K hK (M + N))) ?_
  refine WL.load rfl rfl rfl (ld23 d5 (ahK_len K hK (M + N))) ?_
  refine WL.bin rfl rfl rfl rfl (kne _ (ahK_len K hK (M + N)) _ _ _) ?_
  first | refine WL.pick rfl rfl rfl rfl ?_
  first | refine WL.move rfl rfl rfl ?_
  first | refine WL.move rfl rfl rfl ?_ | refine WL.skip _ rfl rfl rfl ?_
  refine WL.len rfl rfl rfl (len24 _ _ _ _ _) ?_
  first | refine WL.move rfl rfl rfl ?_ | refine WL.skip _ rfl rfl rfl ?_
  first | refine WL.bin rfl rfl rfl rfl (int_ne_f rfl _ _ _) ?_ | refine WL.bin rfl rfl rfl rfl (int_ne_t ‹_› _ _ _) ?_ | refine WL.bin rfl rfl rfl rfl (int_ne_f ‹_› _ _ _) ?_ | refine WL.bin rfl rfl rfl rfl (int_ne_t (by decide) _ _ _) ?_ | refine WL.bin rfl rfl rfl rfl (int_ne_d _ _ _ _ _) ?_ | refine WL.skip _ rfl rfl rfl ?_
  first | refine WL.pick rfl rfl rfl rfl ?_
  first | refine WL.move rfl rfl rfl ?_
  first | refine WL.move rfl rfl rfl ?_ | refine WL.skip _ rfl rfl rfl ?_
  first | refine WL.move rfl rfl rfl ?_ | refine WL.skip _ rfl rfl rfl ?_
  obtain ⟨va, w61, a1, a2, a3, a4⟩ := K1.push K2 (by omega) 24
  rw [ahL_add] at a2
  refine WL.app rfl rfl rfl rfl a1 ?_
  have K3' : Kr w61 (.slice (some ⟨g5, 0, none⟩) (M + N) (M + N)) (ahL K (M + N)) (M + N) := K3.fx a3 (fun k h1 h2 => by simp only [Value.ownBlock, Option.some.injEq] at h1 h2; have := (kb3.on l3).lt; have := m4.size; omega)
  first | refine WL.move rfl rfl rfl ?_ | refine WL.skip _ rfl rfl rfl ?_
  refine WL.call [va, .slice (some ⟨g5, 0, none⟩) (M + N) (M + N)] enter7 rfl rfl rfl (same_any _ _ (ahL K (M + N)) (M + N) (by omega) _ a2 K3') ?_
  rintro e y6 ⟨rfl, m6⟩
  refine ⟨_, rfl, ?_⟩
  first | refine WL.un rfl rfl rfl (not_t _ _) ?_ | refine WL.skip _ rfl rfl rfl ?_
  first | refine WL.pick rfl rfl rfl rfl ?_
  refine WL.done ?_
  replace c4 := (c4.fx a3 (fun e => by simp only [Value.ownBlock, Option.some.injEq] at e; have := b1.lt; have := l2.size; omega)).on m6
  replace c5 := (c5.fx a3 (fun e => by simp only [Value.ownBlock, Option.some.injEq] at e; have := b2.lt; omega)).on m6
  replace hs := (hs.fx a3 (fun e => by simp only [Value.ownBlock, Option.some.injEq] at e; have := b2.lt; omega)).on m6
  replace L := bt (L.trans (a3.below (fun k hk e => by simp only [Value.ownBlock, Option.some.injEq] at e; have := l1.size; have := l2.size; omega) L.size)) m6
  refine EW.on ?_
  refine EW.cond_f rfl ?_
  refine EW.skip ?_
  refine EW.on ?_
  refine EW.seq ?_
  refine EW.region ?_
  refine WL.load rfl rfl rfl (ld23 c4 hK) ?_
  refine WL.call [kv K] enter8 rfl rfl rfl (step_any K _ _ hK rfl rfl _ hs) ?_
  rintro e u8 ⟨rfl, k8⟩
  refine ⟨_, rfl, ?_⟩
  obtain ⟨g8, h8, x1, x2, x3, y8, s1, s2, s3, s4, d8, f8, l8, _, _⟩ := new2 u8 _ _ (nxK_len K) (msK_len K)
  have m8 := bt k8 l8
  first | refine WL.move rfl rfl rfl ?_
  first | refine WL.extract rfl rfl rfl (ext_2 _ _ _).1 ?_
  first | refine WL.extract rfl rfl rfl (ext_2 _ _ _).2 ?_
  refine WL.new rfl rfl s1 ?_
  refine WL.new rfl rfl s2 ?_
  refine WL.store rfl rfl rfl s3 ?_
  refine WL.store rfl rfl rfl s4 ?_
  refine WL.done ?_
  replace c4 := c4.on m8
  replace c5 := c5.on m8
  replace hs := hs.on m8
  replace L := bt L m8
  refine EW.on ?_
  refine EW.seq ?_
  refine EW.region ?_
  refine WL.load rfl rfl rfl (ld23 c4 hK) ?_
  refine WL.call [kv K, .int .i64 1] enter6 rfl rfl rfl (ahead_1 K hK _ hs) ?_
  rintro e u9 ⟨g9, rfl, kb9, k9, hg9⟩
  refine ⟨_, rfl, ?_⟩
  obtain ⟨p9, x1, y9, s1, s2, d9, l9, _⟩ := new1 u9 _ (nxK_len K)
  have m9 := bt k9 l9
  first | refine WL.move rfl rfl rfl ?_
  refine WL.extract rfl rfl rfl (ext_3 _ _ _ _).1 ?_
  refine WL.extract rfl rfl rfl (ext_3 _ _ _ _).2.1 ?_
  refine WL.extract rfl rfl rfl (ext_3 _ _ _ _).2.2 ?_
  refine WL.new rfl rfl s1 ?_
  refine WL.store rfl rfl rfl s2 ?_
  first | refine WL.assign rfl rfl rfl ?_
  first | refine WL.assign rfl rfl rfl ?_
  refine WL.done ?_
  replace c4 := c4.on m9
  replace c5 := c5.on m9
  replace hs := hs.on m9
  replace L := bt L m9
  have d8' := d8.on m9
  have f8' := f8.on m9
  have KL : Kr y9 (.slice (some ⟨g9, 0, none⟩) 1 1) (msK K) 1 := Kr.of (kb9.on l9) (msK_len K) (by omega)
  obtain ⟨gl, ix1, ld1⟩ := KL.item (i := 0) (by omega)
  rw [atK_one _ (msK_len K)] at ld1
  refine EW.on ?_
  refine EW.seq ?_
  refine EW.seq ?_
  refine EW.ordB [(0, 0, 0), (1, 0, 0), (2, 0, 0), (3, 0, 1), (4, 0, 1), (5, 0, 0), (6, 0, 0), (7, 0, 0), (8, 0, 0), (9, 0, 0), (10, 0, 0), (11, 0, 0), (12, 0, 0), (13, 0, 0), (14, 0, 0), (15, 0, 1), (16, 0, 1), (17, 0, 0), (18, 0, 0), (19, 0, 0), (20, 0, 1), (21, 0, 0), (22, 1, 1), (23, 1, 1), (24, 1, 1), (25, 0, 0), (26, 0, 0), (27, 0, 0), (28, 0, 1), (29, 0, 0), (30, 1, 1), (31, 1, 1), (32, 1, 1), (33, 0, 0), (34, 0, 0)] (by kernel_rfl) rfl (by kernel_rfl) ?_
  simp only [opsZ, List.getD_cons_zero, List.getD_cons_succ]
  first | refine ZE.move rfl rfl rfl rfl sz0 ?_
  first | refine ZE.bin rfl rfl rfl rfl rfl sz0 (fun W => int_ne_f rfl W _ _) ?_ | refine ZE.bin rfl rfl rfl rfl rfl sz0 (fun W => int_ne_t ‹_› W _ _) ?_ | refine ZE.bin rfl rfl rfl rfl rfl sz0 (fun W => int_ne_f ‹_› W _ _) ?_ | refine ZE.bin rfl rfl rfl rfl rfl sz0 (fun W => int_ne_t (by decide) W _ _) ?_ | refine ZE.bin rfl rfl rfl rfl rfl sz0 (fun W => int_ne_d _ _ W _ _) ?_
  first | refine ZE.move rfl rfl rfl rfl sz0 ?_
  refine ZE.load rfl rfl rfl rfl sz1 (fun W hW => ld23 (d9.on (sb_of hW)) (nxK_len K)) ?_
  refine ZE.load rfl rfl rfl rfl sz1 (fun W hW => ld23 (d8'.on (sb_of hW)) (nxK_len K)) ?_
  refine ZE.bin rfl rfl rfl rfl rfl sz0 (fun W => kne _ (nxK_len K) W _ _) ?_
  first | refine ZE.pick rfl rfl rfl rfl rfl sz0 ?_
  first | refine ZE.move rfl rfl rfl rfl sz0 ?_
  first | refine ZE.move rfl rfl rfl rfl sz0 ?_ | refine ZE.skip rfl rfl rfl sz0 ?_
  refine ZE.len rfl rfl rfl rfl sz0 (fun W => len24 _ _ _ W _) ?_
  first | refine ZE.bin rfl rfl rfl rfl rfl sz0 (fun W => int_ne_f rfl W _ _) ?_ | refine ZE.bin rfl rfl rfl rfl rfl sz0 (fun W => int_ne_t ‹_› W _ _) ?_ | refine ZE.bin rfl rfl rfl rfl rfl sz0 (fun W => int_ne_f ‹_› W _ _) ?_ | refine ZE.bin rfl rfl rfl rfl rfl sz0 (fun W => int_ne_t (by decide) W _ _) ?_ | refine ZE.bin rfl rfl rfl rfl rfl sz0 (fun W => int_ne_d _ _ W _ _) ?_ | refine ZE.skip rfl rfl rfl sz0 ?_
  first | refine ZE.pick rfl rfl rfl rfl rfl sz0 ?_
  first | refine ZE.move rfl rfl rfl rfl sz0 ?_
  first | refine ZE.move rfl rfl rfl rfl sz0 ?_ | refine ZE.skip rfl rfl rfl sz0 ?_
  refine ZE.index rfl rfl rfl rfl rfl sz0 (fun W => ix1 W) ?_
  refine ZE.load rfl rfl rfl rfl sz1 (fun W hW => ld1 W (sb_of hW)) ?_
  refine ZE.load rfl rfl rfl rfl sz1 (fun W hW => ld23 (f8'.on (sb_of hW)) (msK_len K)) ?_
  refine ZE.bin rfl rfl rfl rfl rfl sz0 (fun W => kne _ (msK_len K) W _ _) ?_
  first | refine ZE.pick rfl rfl rfl rfl rfl sz0 ?_
  first | refine ZE.move rfl rfl rfl rfl sz0 ?_
  refine ZE.load rfl rfl rfl rfl sz1 (fun W hW => ld23 (f8'.on (sb_of hW)) (msK_len K)) ?_
  refine ZE.slice0 rfl rfl rfl rfl sz0 (fun W => sl23 _ W) ?_
  refine ZE.bsl [(0, .int .u8 1)] (fun v W' => ∃ W, Below y9.heap.size y9 W ∧ v = .slice (some ⟨W.heap.size, 0, none⟩) 1 1 ∧ W' = W.alloc (.cells #[byt 1] 5)) rfl rfl rfl (fun v W' ⟨W, h, _, e⟩ => .inr (by rw [e]; exact bt h (below_new _ _))) (fun W hW => ⟨_, _, bsl1 1 W, W, hW, rfl, rfl⟩) ?_
  rintro v1 ⟨_, Wi1, _, rfl, _⟩
  refine ZE.sub (fun W' => Has W' (.slice (some ⟨Wi1.heap.size, 0, none⟩) 1 1) [1] ∧ Below y9.heap.size y9 W') (fun W' hW' => ?_) ?_
  · obtain ⟨W, h1, h2, rfl⟩ := hW'
    simp only [Value.slice.injEq, Option.some.injEq, Addr.mk.injEq, and_true] at h2
    rw [h2]
    exact ⟨has_new1 W 1, bt h1 (below_new _ _)⟩
  refine ZE.bsl [(0, .slice (some ⟨Wi1.heap.size, 0, none⟩) 1 1)] (fun v W' => ∃ W, Has W (.slice (some ⟨Wi1.heap.size, 0, none⟩) 1 1) [1] ∧ Below y9.heap.size y9 W ∧ v = .slice (some ⟨W.heap.size, 0, none⟩) 1 1 ∧ W' = W.alloc (.cells #[.slice (some ⟨Wi1.heap.size, 0, none⟩) 1 1] 34)) rfl rfl rfl (fun v W' ⟨W, _, h, _, e⟩ => .inr (by rw [e]; exact bt h (below_new _ _))) (fun W hW => ⟨_, _, bsl43 _ ⟨_, _, _, rfl⟩ W, W, hW.1, hW.2, rfl, rfl⟩) ?_
  rintro vv1 ⟨_, Wj1, _, _, rfl, _⟩
  refine ZE.callV [.slice (some ⟨q4, 0, none⟩) 32 32, .slice (some ⟨Wj1.heap.size, 0, none⟩) 1 1] (kv (msK K)) (fun W => Below y9.heap.size y9 W) enter9 rfl rfl rfl (fun W h => .inr h) (fun W' hW => ?_) ?_
  · obtain ⟨W, hv, hb, e1, e2⟩ := hW
    simp only [Value.slice.injEq, Option.some.injEq, Addr.mk.injEq, and_true] at e1
    exact (mac1 rfl e1 e2 (c4.on hb) hK hv (hs.on hb)).mono fun e w' h => ⟨h.1, bt hb h.2⟩
  refine ZE.bin rfl rfl rfl rfl rfl sz0 (fun W => kne _ (msK_len K) W _ _) ?_
  first | refine ZE.pick rfl rfl rfl rfl rfl sz0 ?_
  first | refine ZE.move rfl rfl rfl rfl sz0 ?_
  refine ZE.load rfl rfl rfl rfl sz1 (fun W hW => ld23 (d8'.on (sb_of hW)) (nxK_len K)) ?_
  refine ZE.slice0 rfl rfl rfl rfl sz0 (fun W => sl23 _ W) ?_
  refine ZE.bsl [(0, .int .u8 2)] (fun v W' => ∃ W, Below y9.heap.size y9 W ∧ v = .slice (some ⟨W.heap.size, 0, none⟩) 1 1 ∧ W' = W.alloc (.cells #[byt 2] 5)) rfl rfl rfl (fun v W' ⟨W, h, _, e⟩ => .inr (by rw [e]; exact bt h (below_new _ _))) (fun W hW => ⟨_, _, bsl1 2 W, W, hW, rfl, rfl⟩) ?_
  rintro v2 ⟨_, Wi2, _, rfl, _⟩
  refine ZE.sub (fun W' => Has W' (.slice (some ⟨Wi2.heap.size, 0, none⟩) 1 1) [2] ∧ Below y9.heap.size y9 W') (fun W' hW' => ?_) ?_
  · obtain ⟨W, h1, h2, rfl⟩ := hW'
    simp only [Value.slice.injEq, Option.some.injEq, Addr.mk.injEq, and_true] at h2
    rw [h2]
    exact ⟨has_new1 W 2, bt h1 (below_new _ _)⟩
  refine ZE.bsl [(0, .slice (some ⟨Wi2.heap.size, 0, none⟩) 1 1)] (fun v W' => ∃ W, Has W (.slice (some ⟨Wi2.heap.size, 0, none⟩) 1 1) [2] ∧ Below y9.heap.size y9 W ∧ v = .slice (some ⟨W.heap.size, 0, none⟩) 1 1 ∧ W' = W.alloc (.cells #[.slice (some ⟨Wi2.heap.size, 0, none⟩) 1 1] 34)) rfl rfl rfl (fun v W' ⟨W, _, h, _, e⟩ => .inr (by rw [e]; exact bt h (below_new _ _))) (fun W hW => ⟨_, _, bsl43 _ ⟨_, _, _, rfl⟩ W, W, hW.1, hW.2, rfl, rfl⟩) ?_
  rintro vv2 ⟨_, Wj2, _, _, rfl, _⟩
  refine ZE.callV [.slice (some ⟨q4, 0, none⟩) 32 32, .slice (some ⟨Wj2.heap.size, 0, none⟩) 1 1] (kv (nxK K)) (fun W => Below y9.heap.size y9 W) enter9 rfl rfl rfl (fun W h => .inr h) (fun W' hW => ?_) ?_
  · obtain ⟨W, hv, hb, e1, e2⟩ := hW
    simp only [Value.slice.injEq, Option.some.injEq, Addr.mk.injEq, and_true] at e1
    exact (mac1 rfl e1 e2 (c4.on hb) hK hv (hs.on hb)).mono fun e w' h => ⟨h.1, bt hb h.2⟩
  refine ZE.bin rfl rfl rfl rfl rfl sz0 (fun W => kne _ (nxK_len K) W _ _) ?_
  first | refine ZE.pick rfl rfl rfl rfl rfl sz0 ?_
  rintro y10 m10
  replace c4 := c4.on m10
  replace c5 := c5.on m10
  replace hs := hs.on m10
  replace L := bt L m10
  refine EW.on ?_
  refine EW.cond_f rfl ?_
  refine EW.skip ?_
  refine EW.on ?_
  refine EW.seq ?_
  refine EW.region ?_
  refine WL.load rfl rfl rfl (ld23 c4 hK) ?_
  refine WL.load rfl rfl rfl (ld23 c5 hL) ?_
  refine WL.call [kv K, kv S] enter10 rfl rfl rfl (root_any K S X hK hL hX hXl _ hs) ?_
  rintro e u12 ⟨rfl, k12⟩
  refine ⟨_, rfl, ?_⟩
  obtain ⟨g12, h12, x1, x2, x3, y12, s1, s2, s3, s4, d12, f12, l12, _, _⟩ := new2 u12 _ _ hXa hXb
  have m12 := bt k12 l12
  first | refine WL.move rfl rfl rfl ?_
  first | refine WL.extract rfl rfl rfl (ext_2 _ _ _).1 ?_
  first | refine WL.extract rfl rfl rfl (ext_2 _ _ _).2 ?_
  refine WL.new rfl rfl s1 ?_
  refine WL.new rfl rfl s2 ?_
  refine WL.store rfl rfl rfl s3 ?_
  refine WL.store rfl rfl rfl s4 ?_
  refine WL.done ?_
  replace c4 := c4.on m12
  replace c5 := c5.on m12
  replace hs := hs.on m12
  replace L := bt L m12
  refine EW.on ?_
  refine EW.seq ?_
  refine EW.ordB [(0, 0, 0), (1, 0, 0), (2, 1, 1), (3, 1, 1), (4, 1, 1), (5, 0, 0), (6, 0, 0), (7, 0, 0), (8, 0, 0), (9, 0, 0)] (by kernel_rfl) rfl (by kernel_rfl) ?_
  simp only [opsZ, List.getD_cons_zero, List.getD_cons_succ]
  refine ZE.slice0 rfl rfl rfl rfl sz0 (fun W => sl23 _ W) ?_
  refine ZE.slice0 rfl rfl rfl rfl sz0 (fun W => sl23 _ W) ?_
  refine ZE.bsl rootV (fun v W' => ∃ W, Below y12.heap.size y12 W ∧ v = .slice (some ⟨W.heap.size, 0, none⟩) 10 10 ∧ W' = W.alloc (.cells (rootB.map byt).toArray 5)) rfl rfl rfl (fun v W' ⟨W, h, _, e⟩ => .inr (by rw [e]; exact bt h (below_new _ _))) (fun W hW => ⟨_, _, bsl10 W, W, hW, rfl, rfl⟩) ?_
  rintro vi ⟨_, Wi, _, rfl, _⟩
  refine ZE.turn (fun v W' => v = .slice (some ⟨Wi.heap.size, 0, none⟩) 10 10 ∧ Has W' (.slice (some ⟨Wi.heap.size, 0, none⟩) 10 10) rootB ∧ Below y12.heap.size y12 W') rfl (fun i hi => by cases hi; decide) (fun _ W h => .inr h.2.2) (fun W hW a ha => ?_) ?_
  · obtain ⟨W0, h0, e0, rfl⟩ := hW
    simp only [Value.slice.injEq, Option.some.injEq, Addr.mk.injEq, and_true] at e0
    rw [e0]
    refine .inl ⟨_, _, by
      have := conv34 W0
      simp only [execOp, ha.ev (show evE _ (.tmp 146) = _ from rfl), e0]
      rw [Sem.run_bind, this]
      rfl, rfl, has_newsM W0 rootB (10, 11) _ rfl, bt h0 (below_new _ _)⟩
  rintro vj ⟨_, rfl, _, _⟩
  refine ZE.sub (fun W' => Has W' (.slice (some ⟨Wi.heap.size, 0, none⟩) 10 10) rootB ∧ Below y12.heap.size y12 W') (fun W h => h.2) ?_
  refine ZE.callR [.slice (some ⟨q4, 0, none⟩) 32 32, .slice (some ⟨q5, 0, none⟩) 32 32, .slice (some ⟨Wi.heap.size, 0, none⟩) 10 10, .int .i64 64] (fun v W' => ∃ g, v = .tuple #[.slice (some ⟨g, 0, none⟩) 64 64, .int .i64 0] ∧ Blk W' g (X.map byt) 5 ∧ Below y12.heap.size y12 W' ∧ y12.heap.size ≤ g) enter11 rfl rfl rfl (fun v W' ⟨g, _, _, h, _⟩ => .inr h) (fun W hW => ?_) ?_
  · have := derive_ok (.slice (some ⟨q4, 0, none⟩) 32 32) (.slice (some ⟨q5, 0, none⟩) 32 32) (.slice (some ⟨Wi.heap.size, 0, none⟩) 10 10) K S rootB 64 W ((c4.on hW.2).has 32 hK) ((c5.on hW.2).has 32 hL) hW.1 (hs.on hW.2) (by rw [hK]; decide) (by rw [hL]; decide) (by decide) (by decide)
    rw [hX] at this
    refine this.mono fun e w' h => ?_
    obtain ⟨g, rfl, tu⟩ := h
    exact ⟨_, rfl, g, rfl, tu.bl, bt hW.2 tu.be, by have := hW.2.size; have := tu.lp; omega⟩
  rintro vd ⟨_, g, rfl, _, _, _⟩
  refine ZE.sub (fun W' => Blk W' g (X.map byt) 5 ∧ Below y12.heap.size y12 W') (fun W h => ?_) ?_
  · obtain ⟨g', e, h1, h2, _⟩ := h
    simp at e
    subst e
    exact ⟨h1, h2⟩
  refine ZE.move rfl rfl rfl rfl (fun W h => .inl rfl) ?_
  refine ZE.extract rfl rfl rfl rfl (fun W h => .inl rfl) (fun W => (ext_2 _ _ W).1) ?_
  refine ZE.extract rfl rfl rfl rfl (fun W h => .inl rfl) (fun W => (ext_2 _ _ W).2) ?_
  refine ZE.assign rfl rfl rfl rfl (fun W h => .inl rfl) ?_
  refine ZE.assign rfl rfl rfl rfl (fun W h => .inl rfl) ?_
  rintro W5 ⟨d5, d6⟩
  replace L := bt L d6
  refine EW.on ?_
  refine EW.seq ?_
  refine EW.ordB [(0, 0, 0), (1, 0, 0), (2, 0, 0), (3, 0, 0), (4, 0, 1), (5, 0, 0), (6, 0, 1), (7, 0, 0), (8, 0, 1), (9, 0, 0), (10, 0, 0), (11, 0, 0), (12, 0, 0)] (by kernel_rfl) rfl (by kernel_rfl) ?_
  simp only [opsZ, List.getD_cons_zero, List.getD_cons_succ]
  first | refine ZE.move rfl rfl rfl rfl sz0 ?_
  first | refine ZE.bin rfl rfl rfl rfl rfl sz0 (fun W => int_eq_t rfl W _ _) ?_ | refine ZE.bin rfl rfl rfl rfl rfl sz0 (fun W => int_eq_t ‹_› W _ _) ?_ | refine ZE.bin rfl rfl rfl rfl rfl sz0 (fun W => int_eq_f ‹_› W _ _) ?_ | refine ZE.bin rfl rfl rfl rfl rfl sz0 (fun W => int_eq_d _ _ W _ _) ?_
  first | refine ZE.move rfl rfl rfl rfl sz0 ?_
  first | refine ZE.move rfl rfl rfl rfl sz0 ?_ | refine ZE.skip rfl rfl rfl sz0 ?_
  refine ZE.conv (v := strV X) rfl rfl rfl rfl sz1 (fun W hW => (d5.on (sb_of hW)).has 64 hXl |>.convert) ?_
  refine ZE.slice0 rfl rfl rfl rfl sz0 (fun W => sl23 _ W) ?_
  refine ZE.conv (v := strV (X.take 32)) rfl rfl rfl rfl sz1 (fun W hW => ((d12.on d6).on (sb_of hW)).has 32 hXa |>.convert) ?_
  refine ZE.slice0 rfl rfl rfl rfl sz0 (fun W => sl23 _ W) ?_
  refine ZE.conv (v := strV (X.drop 32)) rfl rfl rfl rfl sz1 (fun W hW => ((f12.on d6).on (sb_of hW)).has 32 hXb |>.convert) ?_
  refine ZE.bin rfl rfl rfl rfl rfl sz0 (fun W => str_add _ _ (by rw [hXa, hXb]; decide) W _ _) ?_
  rw [List.take_append_drop]
  refine ZE.bin rfl rfl rfl rfl rfl sz0 (fun W => str_eq _ W _ _) ?_
  first | refine ZE.pick rfl rfl rfl rfl rfl sz0 ?_
  first | refine ZE.assign rfl rfl rfl rfl sz0 ?_
  rintro W6 d7
  refine EW.on ?_
  refine EW.ret ?_
  exact EW.returns Tryd.results4 rfl ⟨rfl, bt L d7⟩
end Go.Proofs.YtbghjabojgedaaaDoor
