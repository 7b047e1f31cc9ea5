import Derived.Test.YtobfebpinkikdaaIb
set_option linter.unusedVariables false
set_option linter.unusedSimpArgs false
namespace Go.Proofs.Ytobfebpinkikdaa
open Go.RowKit

def zrE (q t : Nat) : List (Nat × Value) := [(1, .pointer (some ⟨q, 0, none⟩)), (3, .int .i64 (t : Int))]
def ZrR (w : World) (K : List UInt8) (q : Nat) (t : Nat) (W : World) : Prop := W = w ∧ t ≤ 32 ∧ ∀ i u, i < t → K[i]? = some u → u = 0
theorem ne5_d (v : UInt8) (W : World) (x y : Operand) : (do eqGuard .neq 5 x y (byt v) (.int .u8 0); binOp .neq 5 (byt v) (.int .u8 0) : Sem Value).run Try.prog W = .ok (.bool (decide (¬ v = 0))) W := by
  have e : (v.toNat : Int) = 0 ↔ v = 0 := ⟨fun h => UInt8.toNat_inj.1 (by show v.toNat = 0; omega), fun h => by rw [h]; rfl⟩
  unfold byt
  go_simp
  by_cases h : v = 0
  · subst h; simp
  · have : ¬ (v.toNat : Int) = 0 := fun h' => h (e.1 h')
    simp [h]
    omega
theorem zero_list {K : List UInt8} (h : K.length = 32) (hz : ∀ i u, i < 32 → K[i]? = some u → u = 0) : K = z32 := by
  refine List.eq_replicate_iff.2 ⟨h, fun b hb => ?_⟩
  obtain ⟨i, hi, e⟩ := List.getElem_of_mem hb
  exact hz i b (by omega) (by rw [← e]; exact List.getElem?_eq_getElem hi)
theorem zero_not {K : List UInt8} {i : Nat} {u : UInt8} (hi : i < 32) (h : K[i]? = some u) (hu : ¬ u = 0) : ¬ K = z32 := fun e => by
  rw [e] at h
  unfold z32 at h
  rw [List.getElem?_replicate, if_pos hi] at h
  exact hu (Option.some.inj h).symm
set_option maxRecDepth 100000 in
set_option maxHeartbeats 1000000 in
theorem zero_any (K : List UInt8) (hK : K.length = 32) (w : World) : Calls Try.prog 62 #[kv K] w fun e w' => e = .returned (.bool (decide (K = z32))) ∧ Below w.heap.size w w' := by
  obtain ⟨w1, q, r1, b1, e1, hq⟩ := box_any 23 (K.map byt) w
  refine calls_of_args [kv K] Try.func62 rfl 12 Try.ntmps62 (by show 1 ≤ 12; decide) ?_
  refine EW.seq ?_
  refine EW.region ?_
  refine WL.box rfl rfl rfl r1 ?_
  first | refine WL.assign rfl rfl rfl ?_
  refine WL.done ?_
  refine EW.on ?_
  refine EW.seq ?_
  refine EW.seq ?_
  refine EW.region ?_
  first | refine WL.assign rfl rfl rfl ?_
  refine WL.done ?_
  refine EW.on ?_
  refine EW.block ?_
  refine EW.loop (zrE q) (ZrR w1 K q) (fun t => 32 - t) 0 [1, 3] rfl ⟨rfl, by decide, fun i u h => absurd h (by omega)⟩ ?_
  rintro t wi ⟨hwi, htl, hz⟩
  subst hwi
  show EW _ _ _ _ [(1, .pointer (some ⟨q, 0, none⟩)), (3, .int .i64 (t : Int))] _
  refine EW.seq ?_
  refine EW.seq ?_
  refine EW.region ?_
  first | refine WL.move rfl rfl rfl ?_
  refine WL.bin rfl rfl rfl rfl (int_lt_d _ _ _ _ _) ?_
  refine WL.done ?_
  refine EW.on ?_
  refine EW.cond_d rfl (fun h5 => ?_) (fun h5 => ?_)
  · refine EW.skip ?_
    refine EW.on ?_
    refine EW.seq ?_
    refine EW.block ?_
    refine EW.seq ?_
    have hlt : t < 32 := by omega
    obtain ⟨u, hu⟩ := ofset (l := K) (j := t) (by omega)
    refine EW.region ?_
    first | refine WL.move rfl rfl rfl ?_
    refine WL.index rfl rfl rfl rfl (idxK q 0 t hlt _) ?_
    refine WL.load rfl rfl rfl (ldCell5 (o := 0 + t) b1 (by rw [Nat.zero_add, List.getElem?_map, hu]; rfl)) ?_
    refine WL.bin rfl rfl rfl rfl (ne5_d u _ _ _) ?_
    refine WL.done ?_
    refine EW.on ?_
    refine EW.cond_d rfl (fun h11 => ?_) (fun h11 => ?_)
    · refine EW.seq ?_
      refine EW.region ?_
      first | refine WL.assign rfl rfl rfl ?_
      refine WL.done ?_
      refine EW.on ?_
      refine EW.ret ?_
      refine pr_block ?_
      refine pr_then ?_
      refine pr_then ?_
      refine pr_block ?_
      refine pr_then ?_
      first
        | exact EW.returns Try.results62 rfl ⟨by rw [decide_eq_false (zero_not hlt hu h11)], e1⟩
        | exact EW.returns Try.results62 rfl ⟨by rw [decide_eq_true (zero_list hK (fun i u hi => hz i u (by omega)))], e1⟩
    · refine EW.skip ?_
      refine pn_block ?_
      refine EW.on ?_
      refine EW.region ?_
      first | refine WL.move rfl rfl rfl ?_
      refine WL.bin rfl rfl rfl rfl (int_add (c := ((t + 1 : Nat) : Int)) (by rw [IntKind.wrap_i64]; omega) _ _ _) ?_
      first | refine WL.assign rfl rfl rfl ?_
      refine WL.done ?_
      refine EW.again (E := zrE q) (R := ZrR wi K q) (m := fun t => 32 - t) (x := t) (t + 1) [1, 3] rfl ⟨rfl, by omega, fun i u' hi hu' => ?_⟩ (by show 32 - (t + 1) < 32 - t; omega)
      rcases Nat.lt_or_ge i t with h | h
      · exact hz i u' h hu'
      · obtain rfl : i = t := by omega
        rw [hu] at hu'
        rw [← Option.some.inj hu']
        exact Classical.not_not.1 h11
  · refine EW.exit ?_
    refine px_then ?_
    refine px_then ?_
    refine px_block ?_
    refine EW.on ?_
    refine EW.seq ?_
    refine EW.region ?_
    first | refine WL.assign rfl rfl rfl ?_
    refine WL.done ?_
    refine EW.on ?_
    refine EW.ret ?_
    first
      | exact EW.returns Try.results62 rfl ⟨by rw [decide_eq_false (zero_not hlt hu h11)], e1⟩
      | exact EW.returns Try.results62 rfl ⟨by rw [decide_eq_true (zero_list hK (fun i u hi => hz i u (by omega)))], e1⟩
def vaE (v : Value) (bs : List UInt8) (t : Nat) : List (Nat × Value) := [(0, v), (3, u32v (numB (bs.take t))), (4, .int .i64 (t : Int))]
theorem mulU {x : Nat} (h : x < 16777216) (W : World) (a b : Operand) : (do eqGuard .mul 24 a b (u32v x) (.int .u32 256); binOp .mul 24 (u32v x) (.int .u32 256) : Sem Value).run Try.prog W = .ok (u32v (x * 256)) W := by
  have e : IntKind.u32.wrap ((x : Int) * 256) = ((x * 256 : Nat) : Int) := by rw [IntKind.wrap_u32]; omega
  unfold u32v
  go_simp
theorem addU {x : Nat} (u : UInt8) (h : x < 16777216) (W : World) (a b : Operand) : (do eqGuard .add 24 a b (u32v (x * 256)) (.int .u32 (u.toNat : Int)); binOp .add 24 (u32v (x * 256)) (.int .u32 (u.toNat : Int)) : Sem Value).run Try.prog W = .ok (u32v (x * 256 + u.toNat)) W := by
  have hu := u.toNat_lt
  have e : IntKind.u32.wrap ((x : Int) * 256 + (u.toNat : Int)) = ((x * 256 + u.toNat : Nat) : Int) := by rw [IntKind.wrap_u32]; omega
  unfold u32v
  go_simp
set_option maxRecDepth 100000 in
set_option maxHeartbeats 1000000 in
theorem value_any (v : Value) (bs : List UInt8) (w : World) (hb : Has w v bs) (hl : bs.length ≤ 4) : Calls Try.prog 60 #[v] w fun e w' => e = .returned (u32v (numB bs)) ∧ w' = w := by
  refine calls_of_args [v] Try.func60 rfl 20 Try.ntmps60 (by show 1 ≤ 20; decide) ?_
  refine EW.seq ?_
  refine EW.region ?_
  first | refine WL.assign rfl rfl rfl ?_
  refine WL.done ?_
  refine EW.on ?_
  refine EW.seq ?_
  refine EW.region ?_
  first | refine WL.assign rfl rfl rfl ?_
  refine WL.done ?_
  refine EW.on ?_
  refine EW.seq ?_
  refine EW.seq ?_
  refine EW.region ?_
  first | refine WL.assign rfl rfl rfl ?_
  refine WL.done ?_
  refine EW.on ?_
  refine EW.block ?_
  refine EW.loop (vaE v bs) (NuR w bs.length) (fun t => bs.length - t) 0 [0, 3, 4] rfl ⟨rfl, Nat.zero_le _⟩ ?_
  rintro t wi ⟨hwi, htl⟩
  subst hwi
  show EW _ _ _ _ [(0, v), (3, u32v (numB (bs.take t))), (4, .int .i64 (t : Int))] _
  refine EW.seq ?_
  refine EW.seq ?_
  refine EW.region ?_
  first | refine WL.move rfl rfl rfl ?_
  first | refine WL.move rfl rfl rfl ?_
  refine WL.len rfl rfl rfl (hb.len _ _) ?_
  first | refine WL.bin rfl rfl rfl rfl (int_lt_t ‹_› _ _ _) ?_ | refine WL.bin rfl rfl rfl rfl (int_lt_f ‹_› _ _ _) ?_ | refine WL.bin rfl rfl rfl rfl (int_lt_d _ _ _ _ _) ?_
  refine WL.done ?_
  refine EW.on ?_
  refine EW.cond_d rfl (fun h8 => ?_) (fun h8 => ?_)
  · refine EW.skip ?_
    refine EW.on ?_
    refine EW.seq ?_
    refine EW.block ?_
    have ht : t < bs.length := by omega
    obtain ⟨u, hu⟩ : ∃ u, bs[t]? = some u := ⟨_, List.getElem?_eq_getElem ht⟩
    obtain ⟨ad, iu, lu⟩ := hb.item hu
    have hst : numB (bs.take (t + 1)) = numB (bs.take t) * 256 + u.toNat := by rw [List.take_add_one, hu]; exact numB_snoc _ _
    have hx : numB (bs.take t) < 16777216 := by
      have h1 := numB_lt4 (bs.take t)
      have h2 : 256 ^ (bs.take t).length ≤ 256 ^ 3 := Nat.pow_le_pow_right (by decide) (by rw [List.length_take]; omega)
      omega
    refine EW.region ?_
    first | refine WL.move rfl rfl rfl ?_
    refine WL.bin rfl rfl rfl rfl (mulU hx _ _ _) ?_
    first | refine WL.move rfl rfl rfl ?_
    first | refine WL.move rfl rfl rfl ?_
    refine WL.index rfl rfl rfl rfl (iu _) ?_
    refine WL.load rfl rfl rfl lu ?_
    refine WL.conv rfl rfl rfl (conv57 u _) ?_
    refine WL.bin rfl rfl rfl rfl (addU u hx _ _ _) ?_
    first | refine WL.assign rfl rfl rfl ?_
    refine WL.done ?_
    refine pn_block ?_
    refine EW.on ?_
    refine EW.region ?_
    first | refine WL.move rfl rfl rfl ?_
    refine WL.bin rfl rfl rfl rfl (int_add (c := ((t + 1 : Nat) : Int)) (by rw [IntKind.wrap_i64]; omega) _ _ _) ?_
    first | refine WL.assign rfl rfl rfl ?_
    refine WL.done ?_
    refine EW.again (E := vaE v bs) (R := NuR wi bs.length) (m := fun t => bs.length - t) (x := t) (t + 1) [0, 3, 4] (by rw [vaE, hst]; rfl) ⟨rfl, by omega⟩ (by show bs.length - (t + 1) < bs.length - t; omega)
  · refine EW.exit ?_
    refine px_then ?_
    refine px_then ?_
    refine px_block ?_
    refine EW.on ?_
    refine EW.seq ?_
    have hte : bs.take t = bs := List.take_of_length_le (by omega)
    rw [hte]
    refine EW.region ?_
    first | refine WL.move rfl rfl rfl ?_
    first | refine WL.assign rfl rfl rfl ?_
    refine WL.done ?_
    refine EW.on ?_
    refine EW.ret ?_
    exact EW.returns Try.results60 rfl ⟨rfl, rfl⟩
def sfxB (n : Nat) : Nat → List UInt8
  | 0 => []
  | t + 1 => UInt8.ofNat (n / 256 ^ t % 256) :: sfxB n t
theorem sfx_len (n : Nat) : ∀ t, (sfxB n t).length = t
  | 0 => rfl
  | t + 1 => by rw [sfxB, List.length_cons, sfx_len n t]
theorem sfx4 (n : Nat) : sfxB n 4 = be32 n := rfl
theorem sfx2 {n : Nat} (h : n < 65536) : sfxB n 2 = lenB n := by
  show [UInt8.ofNat (n / 256 ^ 1 % 256), UInt8.ofNat (n / 256 ^ 0 % 256)] = _
  unfold lenB
  rw [Nat.pow_one, Nat.pow_zero, Nat.div_one, Nat.mod_eq_of_lt (a := n / 256) (by omega)]
def nmB (n s t : Nat) : List UInt8 := List.replicate (s - t) 0 ++ sfxB n t
theorem nm_len (n s t : Nat) (h : t ≤ s) : (nmB n s t).length = s := by
  unfold nmB
  rw [List.length_append, List.length_replicate, sfx_len]; omega
theorem nm_set (n s t : Nat) (h : t < s) : (nmB n s t).set (s - t - 1) (UInt8.ofNat (n / 256 ^ t % 256)) = nmB n s (t + 1) := by
  unfold nmB
  obtain ⟨j, hj⟩ : ∃ j, s - t = j + 1 := ⟨s - t - 1, by omega⟩
  have h1 : s - t - 1 = j := by omega
  have h2 : s - (t + 1) = j := by omega
  rw [h1, h2, hj, List.replicate_succ', List.append_assoc, List.set_append_right _ _ (by simp), List.length_replicate, Nat.sub_self]
  rfl
theorem ob_new (w : World) (bs : List UInt8) (hl : bs.length ≤ 1000000) (n : Nat) (hn : bs.length = n) (hn2 : n ≤ 1000000) : Ob (w.alloc (.cells (bs.map byt).toArray 5)) w.heap.size (.slice (some ⟨w.heap.size, 0, none⟩) n n) bs := by
  subst hn
  refine ⟨⟨by simp, .inr ⟨w.heap.size, bs.length, _, rfl, Nat.zero_le _, heap_alloc_new w _, Nat.le_refl _, by unfold maxLen; omega, by simp, by rw [Nat.mul_one]; exact List.take_of_length_le (by simp)⟩⟩, fun k hk => ?_⟩
  simp only [Value.ownBlock, Option.some.injEq] at hk
  omega
def nmE (v : Value) (n s t : Nat) : List (Nat × Value) := [(0, .int .i64 ((n / 256 ^ t : Nat) : Int)), (5, v), (6, .int .i64 ((s : Int) - 1 - (t : Int)))]
def NmI (w : World) (v : Value) (n s t : Nat) (W : World) : Prop := t ≤ s ∧ Ob W w.heap.size v (nmB n s t) ∧ Below w.heap.size w W
theorem conv_x (x : Nat) (W : World) : (Go.convert 3 5 (.int .i64 ((x % 256 : Nat) : Int))).run Try.prog W = .ok (byt (UInt8.ofNat (x % 256))) W := conv_b (by omega) W
theorem quo256 {x : Nat} (h : x < 9223372036854775808) (W : World) (a b : Operand) : (do eqGuard .quo 3 a b (.int .i64 (x : Int)) (.int .i64 256); binOp .quo 3 (.int .i64 (x : Int)) (.int .i64 256) : Sem Value).run Try.prog W = .ok (.int .i64 ((x / 256 : Nat) : Int)) W := by
  have e : (x : Int).tdiv 256 = ((x / 256 : Nat) : Int) := by
    rw [Int.tdiv_eq_ediv_of_nonneg (by omega)]; rfl
  have e2 : IntKind.i64.wrap ((x : Int) / 256) = (x : Int) / 256 := by rw [IntKind.wrap_i64]; omega
  go_simp
theorem rem256 (x : Nat) (W : World) (a b : Operand) : (do eqGuard .rem 3 a b (.int .i64 (x : Int)) (.int .i64 256); binOp .rem 3 (.int .i64 (x : Int)) (.int .i64 256) : Sem Value).run Try.prog W = .ok (.int .i64 ((x % 256 : Nat) : Int)) W :=
  rem_i _ 256 (by decide) (by rw [Int.tmod_eq_emod_of_nonneg (by omega)]; rfl) W a b
set_option maxRecDepth 100000 in
set_option maxHeartbeats 1000000 in
theorem numr_any (n s : Nat) (hs : s ≤ 8) (hn : n < 4294967296) (w : World) : Calls Try.prog 56 #[.int .i64 (n : Int), .int .i64 (s : Int)] w fun e w' => ∃ v, e = .returned v ∧ Ob w' w.heap.size v (sfxB n s) ∧ Below w.heap.size w w' := by
  have ob0 : Ob (w.alloc (.cells ((List.replicate s (0 : UInt8)).map byt).toArray 5)) w.heap.size (.slice (some ⟨w.heap.size, 0, none⟩) s s) (nmB n s 0) := by
    have e : nmB n s 0 = List.replicate s 0 := by simp [nmB, sfxB]
    rw [e]
    exact ob_new w (List.replicate s 0) (by simp; omega) s (by simp) (by omega)
  refine calls_of_args [.int .i64 (n : Int), .int .i64 (s : Int)] Try.func56 rfl 24 Try.ntmps56 (by show 2 ≤ 24; decide) ?_
  refine EW.seq ?_
  refine EW.region ?_
  first | refine WL.assign rfl rfl rfl ?_
  refine WL.done ?_
  refine EW.on ?_
  refine EW.seq ?_
  refine EW.region ?_
  first | refine WL.move rfl rfl rfl ?_
  refine WL.mks rfl rfl rfl rfl (run_mk22 w s (by omega)) ?_
  first | refine WL.assign rfl rfl rfl ?_
  refine WL.done ?_
  refine EW.on ?_
  refine EW.seq ?_
  refine EW.seq ?_
  refine EW.region ?_
  first | refine WL.move rfl rfl rfl ?_
  refine WL.bin rfl rfl rfl rfl (int_sub (c := (s : Int) - 1) (by rw [IntKind.wrap_i64]; omega) _ _ _) ?_
  first | refine WL.assign rfl rfl rfl ?_
  refine WL.done ?_
  refine EW.on ?_
  refine EW.block ?_
  refine EW.loop (nmE (.slice (some ⟨w.heap.size, 0, none⟩) s s) n s) (NmI w (.slice (some ⟨w.heap.size, 0, none⟩) s s) n s) (fun t => s - t) 0 [0, 5, 6] (by simp [nmE]; rfl) ⟨Nat.zero_le _, ob0, below_new _ _⟩ ?_
  rintro t wi ⟨htl, ob, be⟩
  show EW _ _ _ _ [(0, .int .i64 ((n / 256 ^ t : Nat) : Int)), (5, .slice (some ⟨w.heap.size, 0, none⟩) s s), (6, .int .i64 ((s : Int) - 1 - (t : Int)))] _
  refine EW.seq ?_
  refine EW.seq ?_
  refine EW.region ?_
  first | refine WL.move rfl rfl rfl ?_
  refine WL.bin rfl rfl rfl rfl (int_ge_d _ _ _ _ _) ?_
  refine WL.done ?_
  refine EW.on ?_
  refine EW.cond_d rfl (fun h12 => ?_) (fun h12 => ?_)
  · refine EW.skip ?_
    refine EW.on ?_
    refine EW.seq ?_
    refine EW.block ?_
    refine EW.seq ?_
    have hlt : t < s := by omega
    refine EW.region ?_
    first | refine WL.move rfl rfl rfl ?_
    first | refine WL.move rfl rfl rfl ?_
    first | refine WL.move rfl rfl rfl ?_
    refine WL.bin rfl rfl rfl rfl (rem256 _ _ _ _) ?_
    refine WL.conv rfl rfl rfl (conv_x _ _) ?_
    obtain ⟨ad, w5, ix, se, oc5, bc5⟩ := ob.setAt (by have := be.size; omega) (s - t - 1) (by rw [nm_len n s t htl]; omega) (UInt8.ofNat (n / 256 ^ t % 256))
    rw [nm_set n s t hlt] at oc5
    rw [show (s : Int) - 1 - (t : Int) = ((s - t - 1 : Nat) : Int) from by omega]
    refine WL.index rfl rfl rfl rfl (ix _) ?_
    refine WL.store rfl rfl rfl se ?_
    refine WL.done ?_
    refine EW.on ?_
    refine EW.region ?_
    first | refine WL.move rfl rfl rfl ?_
    refine WL.bin rfl rfl rfl rfl (quo256 (by have := Nat.div_le_self n (256 ^ t); omega) _ _ _) ?_
    first | refine WL.assign rfl rfl rfl ?_
    refine WL.done ?_
    refine pn_block ?_
    refine EW.on ?_
    refine EW.region ?_
    first | refine WL.move rfl rfl rfl ?_
    refine WL.bin rfl rfl rfl rfl (int_sub (c := (s : Int) - 1 - ((t + 1 : Nat) : Int)) (by rw [IntKind.wrap_i64]; omega) _ _ _) ?_
    first | refine WL.assign rfl rfl rfl ?_
    refine WL.done ?_
    refine EW.again (E := nmE (.slice (some ⟨w.heap.size, 0, none⟩) s s) n s) (R := NmI w (.slice (some ⟨w.heap.size, 0, none⟩) s s) n s) (m := fun t => s - t) (x := t) (t + 1) [0, 5, 6] (by rw [nmE, Nat.pow_succ, ← Nat.div_div_eq_div_mul]; rfl) ⟨by omega, oc5, be.trans bc5⟩ (by show s - (t + 1) < s - t; omega)
  · refine EW.exit ?_
    refine px_then ?_
    refine px_then ?_
    refine px_block ?_
    refine EW.on ?_
    refine EW.seq ?_
    obtain rfl : t = s := by omega
    refine EW.region ?_
    first | refine WL.move rfl rfl rfl ?_
    first | refine WL.assign rfl rfl rfl ?_
    refine WL.done ?_
    refine EW.on ?_
    refine EW.ret ?_
    exact EW.returns Try.results56 rfl ⟨_, rfl, by have h := ob; simp only [nmB, Nat.sub_self, List.replicate_zero, List.nil_append] at h; exact h, be⟩
end Go.Proofs.Ytobfebpinkikdaa
