import Derived.Test.YtacimelcmkhhlaaJr
set_option linter.unusedVariables false
set_option linter.unusedSimpArgs false
namespace Go.Proofs.Ytacimelcmkhhlaa
open Go.RowKit

theorem Fx.low {w w' : World} {q B : Nat} (h : Fx (fun k => k = q) w w') (hq : B ≤ q) (hw : B ≤ w.heap.size) : Below B w w' := h.below (fun k hk e => by have e : k = q := e; omega) hw
section
variable {P : Program} {n : Fm} {ops : Array Oper} {Q : Exit → Act → World → Prop} {i : Nat} {ty : TypeId} {ps : String} {af : Array Edge} {gd : Option (Nat × Bool)} {r : List Oper} {e : List (Nat × Value)} {w : World}
end
theorem ofset {l : List UInt8} {j : Nat} (h : j < l.length) : ∃ u, l[j]? = some u := ⟨_, List.getElem?_eq_getElem h⟩
theorem ldCell5 {w : World} {q o : Nat} {cs : List Value} {t : TypeId} {u : UInt8} (hb : Blk w q cs t) (h : cs[o]? = some (byt u)) : (Instr.loadAt 5 (.pointer (some ⟨q, o, none⟩))).run Try.prog w = .ok (byt u) w := by
  have hc : w.cell? ⟨q, o, none⟩ = some (byt u) := (hb.cell o).trans h
  unfold byt at *
  go_simp
theorem idxK (q o m : Nat) (h : m < 32) (W : World) : (Instr.indexAt 25 (.pointer (some ⟨q, o, none⟩)) (.int .i64 (m : Int))).run Try.prog W = .ok (.pointer (some ⟨q, o + m, none⟩)) W := by
  have hm : (m : Int) < 32 := by omega
  go_simp
  try simp
  try rw [Addr.add_mid]
section
variable {P : Program} {n : Fm} {ops : Array Oper} {S : Nat → World → Prop} {K : List (Nat × Value) → (World → Prop) → Prop} {i c lv : Nat} {ty : TypeId} {ps : String} {af : Array Edge} {gd : Option (Nat × Bool)} {r : List (Oper × Nat × Nat)} {e : List (Nat × Value)} {C : World → Prop}
end
theorem Ob.setAt {w : World} {b : Nat} {v : Value} {bs : List UInt8} (h : Ob w b v bs) (hbw : b ≤ w.heap.size) (i : Nat) (hi : i < bs.length) (u : UInt8) : ∃ ad w', (∀ W, (Instr.indexAt 38 v (.int .i64 (i : Int))).run Try.prog W = .ok (.pointer (some ad)) W) ∧ (Instr.storeAt 5 (.pointer (some ad)) (byt u)).run Try.prog w = .ok () w' ∧ Ob w' b v (bs.set i u) ∧ Below b w w' := by
  obtain ⟨hx, ⟨rfl, h0⟩ | ⟨g, cp, cur, rfl, hg, hh2, hnc, hc, hs, htk⟩⟩ := h.row
  · simp only [h0] at hi; omega
  · have hcur : i < cur.size := by simp at hs; omega
    have hcell : w.cell? ⟨g, i, none⟩ = some cur[i] := by
      have := (show Blk w g cur.toList 5 from by unfold Blk; simpa using hh2).cell i
      rw [this, Array.getElem?_toList, Array.getElem?_eq_getElem hcur]
    have hbl : Blk w g cur.toList 5 := by unfold Blk; simpa using hh2
    have hbg := h.base g rfl
    refine ⟨⟨g, i, none⟩, w.setCell ⟨g, i, none⟩ (byt u), fun W => ?_, st5 u hcell (hbl.frozen i), ?_, (Fx.setCell (S := fun k => k = g) _ _ _ _ rfl).low hbg hbw⟩
    · have := idx38 ⟨g, 0, none⟩ bs.length cp i hi W
      rwa [add_plain] at this
    · refine ⟨⟨by simp, .inr ⟨g, cp, (cur.toList.set i (byt u)).toArray, by simp, hg, ?_, by simpa using hnc, hc, by simpa using hs, ?_⟩⟩, fun k hk => h.base k (by simpa [Value.ownBlock] using hk)⟩
      · have := hbl.set i (byt u)
        exact this
      · have e1 : (bs.set i u).map byt = (bs.map byt).set i (byt u) := by rw [List.map_set]
        rw [e1, List.length_set, ← htk]
        simp [List.take_set]
section
variable {k : Int} {h : Hl} {n : Int}
end
theorem eq_yes (va vb : Value) (a : List UInt8) (w : World) (ha : Has w va a) (hb : Has w vb a) : Calls Try.prog 17 #[va, vb] w fun e w' => e = .returned (.bool true) ∧ w' = w :=
  (eq_any va vb a a w ha hb).mono fun e w' ⟨h1, h2⟩ => ⟨by rw [h1]; simp, h2⟩
def zrE (q t : Nat) : List (Nat × Value) := [(1, .pointer (some ⟨q, 0, none⟩)), (3, .int .i64 (t : Int))]
def ZrR (w : World) (K : List UInt8) (q : Nat) (t : Nat) (W : World) : Prop := W = w ∧ t ≤ 32 ∧ ∀ i u, i < t → K[i]? = some u → u = 0
theorem ne5_d (v : UInt8) (W : World) (x y : Operand) : (do eqGuard .neq 5 x y (byt v) (.int .u8 0); binOp .neq 5 (byt v) (.int .u8 0) : Sem Value).run Try.prog W = .ok (.bool (decide (¬ v = 0))) W := by
  have e : (v.toNat : Int) = 0 ↔ v = 0 := ⟨fun h => UInt8.toNat_inj.1 (by show v.toNat = 0; omega), fun h => by rw [h]; rfl⟩
  unfold byt
  go_simp
  by_cases h : v = 0
  · subst h; simp
  · have : ¬ (v.toNat : Int) = 0 := fun h' => h (e.1 h')
    simp [h]
    omega
theorem zero_list {K : List UInt8} (h : K.length = 32) (hz : ∀ i u, i < 32 → K[i]? = some u → u = 0) : K = z32 := by
  refine List.eq_replicate_iff.2 ⟨h, fun b hb => ?_⟩
  obtain ⟨i, hi, e⟩ := List.getElem_of_mem hb
  exact hz i b (by omega) (by rw [← e]; exact List.getElem?_eq_getElem hi)
theorem zero_not {K : List UInt8} {i : Nat} {u : UInt8} (hi : i < 32) (h : K[i]? = some u) (hu : ¬ u = 0) : ¬ K = z32 := fun e => by
  rw [e] at h
  unfold z32 at h
  rw [List.getElem?_replicate, if_pos hi] at h
  exact hu (Option.some.inj h).symm
set_option maxRecDepth 100000 in
set_option maxHeartbeats 1000000 in
theorem zero_any (K : List UInt8) (hK : K.length = 32) (w : World) : Calls Try.prog 71 #[kv K] w fun e w' => e = .returned (.bool (decide (K = z32))) ∧ Below w.heap.size w w' := by
  obtain ⟨w1, q, r1, b1, e1, hq⟩ := box_any 25 (K.map byt) w
  refine calls_of_args [kv K] Try.func71 rfl 12 Try.ntmps71 (by show 1 ≤ 12; decide) ?_
  refine EW.seq ?_
  refine EW.region ?_
  refine WL.box rfl rfl rfl r1 ?_
  first | refine WL.assign rfl rfl rfl ?_
  refine WL.done ?_
  refine EW.on ?_
  refine EW.seq ?_
  refine EW.seq ?_
  refine EW.region ?_
  first | refine WL.assign rfl rfl rfl ?_
  refine WL.done ?_
  refine EW.on ?_
  refine EW.block ?_
  refine EW.loop (zrE q) (ZrR w1 K q) (fun t => 32 - t) 0 [1, 3] rfl ⟨rfl, by decide, fun i u h => absurd h (by omega)⟩ ?_
  rintro t wi ⟨hwi, htl, hz⟩
  subst hwi
  show EW _ _ _ _ [(1, .pointer (some ⟨q, 0, none⟩)), (3, .int .i64 (t : Int))] _
  refine EW.seq ?_
  refine EW.seq ?_
  refine EW.region ?_
  first | refine WL.move rfl rfl rfl ?_
  refine WL.bin rfl rfl rfl rfl (int_lt_d _ _ _ _ _) ?_
  refine WL.done ?_
  refine EW.on ?_
  refine EW.cond_d rfl (fun h5 => ?_) (fun h5 => ?_)
  · refine EW.skip ?_
    refine EW.on ?_
    refine EW.seq ?_
    refine EW.block ?_
    refine EW.seq ?_
    have hlt : t < 32 := by omega
    obtain ⟨u, hu⟩ := ofset (l := K) (j := t) (by omega)
    refine EW.region ?_
    first | refine WL.move rfl rfl rfl ?_
    refine WL.index rfl rfl rfl rfl (idxK q 0 t hlt _) ?_
    refine WL.load rfl rfl rfl (ldCell5 (o := 0 + t) b1 (by rw [Nat.zero_add, List.getElem?_map, hu]; rfl)) ?_
    refine WL.bin rfl rfl rfl rfl (ne5_d u _ _ _) ?_
    refine WL.done ?_
    refine EW.on ?_
    refine EW.cond_d rfl (fun h11 => ?_) (fun h11 => ?_)
    · refine EW.seq ?_
      refine EW.region ?_
      first | refine WL.assign rfl rfl rfl ?_
      refine WL.done ?_
      refine EW.on ?_
      refine EW.ret ?_
      refine pr_block ?_
      refine pr_then ?_
      refine pr_then ?_
      refine pr_block ?_
      refine pr_then ?_
      first
        | exact EW.returns Try.results71 rfl ⟨by rw [decide_eq_false (zero_not hlt hu h11)], e1⟩
        | exact EW.returns Try.results71 rfl ⟨by rw [decide_eq_true (zero_list hK (fun i u hi => hz i u (by omega)))], e1⟩
    · refine EW.skip ?_
      refine pn_block ?_
      refine EW.on ?_
      refine EW.region ?_
      first | refine WL.move rfl rfl rfl ?_
      refine WL.bin rfl rfl rfl rfl (int_add (c := ((t + 1 : Nat) : Int)) (by rw [IntKind.wrap_i64]; omega) _ _ _) ?_
      first | refine WL.assign rfl rfl rfl ?_
      refine WL.done ?_
      refine EW.again (E := zrE q) (R := ZrR wi K q) (m := fun t => 32 - t) (x := t) (t + 1) [1, 3] rfl ⟨rfl, by omega, fun i u' hi hu' => ?_⟩ (by show 32 - (t + 1) < 32 - t; omega)
      rcases Nat.lt_or_ge i t with h | h
      · exact hz i u' h hu'
      · obtain rfl : i = t := by omega
        rw [hu] at hu'
        rw [← Option.some.inj hu']
        exact Classical.not_not.1 h11
  · refine EW.exit ?_
    refine px_then ?_
    refine px_then ?_
    refine px_block ?_
    refine EW.on ?_
    refine EW.seq ?_
    refine EW.region ?_
    first | refine WL.assign rfl rfl rfl ?_
    refine WL.done ?_
    refine EW.on ?_
    refine EW.ret ?_
    first
      | exact EW.returns Try.results71 rfl ⟨by rw [decide_eq_false (zero_not hlt hu h11)], e1⟩
      | exact EW.returns Try.results71 rfl ⟨by rw [decide_eq_true (zero_list hK (fun i u hi => hz i u (by omega)))], e1⟩
def sfxB (n : Nat) : Nat → List UInt8
  | 0 => []
  | t + 1 => UInt8.ofNat (n / 256 ^ t % 256) :: sfxB n t
theorem sfx_len (n : Nat) : ∀ t, (sfxB n t).length = t
  | 0 => rfl
  | t + 1 => by rw [sfxB, List.length_cons, sfx_len n t]
theorem sfx4 (n : Nat) : sfxB n 4 = be32 n := rfl
def nmB (n s t : Nat) : List UInt8 := List.replicate (s - t) 0 ++ sfxB n t
theorem nm_len (n s t : Nat) (h : t ≤ s) : (nmB n s t).length = s := by
  unfold nmB
  rw [List.length_append, List.length_replicate, sfx_len]; omega
theorem nm_set (n s t : Nat) (h : t < s) : (nmB n s t).set (s - t - 1) (UInt8.ofNat (n / 256 ^ t % 256)) = nmB n s (t + 1) := by
  unfold nmB
  obtain ⟨j, hj⟩ : ∃ j, s - t = j + 1 := ⟨s - t - 1, by omega⟩
  have h1 : s - t - 1 = j := by omega
  have h2 : s - (t + 1) = j := by omega
  rw [h1, h2, hj, List.replicate_succ', List.append_assoc, List.set_append_right _ _ (by simp), List.length_replicate, Nat.sub_self]
  rfl
theorem ob_new (w : World) (bs : List UInt8) (hl : bs.length ≤ 1000000) (n : Nat) (hn : bs.length = n) (hn2 : n ≤ 1000000) : Ob (w.alloc (.cells (bs.map byt).toArray 5)) w.heap.size (.slice (some ⟨w.heap.size, 0, none⟩) n n) bs := by
  subst hn
  refine ⟨⟨by simp, .inr ⟨w.heap.size, bs.length, _, rfl, Nat.zero_le _, heap_alloc_new w _, Nat.le_refl _, by unfold maxLen; omega, by simp, by rw [Nat.mul_one]; exact List.take_of_length_le (by simp)⟩⟩, fun k hk => ?_⟩
  simp only [Value.ownBlock, Option.some.injEq] at hk
  omega
def nmE (v : Value) (n s t : Nat) : List (Nat × Value) := [(0, .int .i64 ((n / 256 ^ t : Nat) : Int)), (5, v), (6, .int .i64 ((s : Int) - 1 - (t : Int)))]
def NmI (w : World) (v : Value) (n s t : Nat) (W : World) : Prop := t ≤ s ∧ Ob W w.heap.size v (nmB n s t) ∧ Below w.heap.size w W
theorem conv_x (x : Nat) (W : World) : (Go.convert 3 5 (.int .i64 ((x % 256 : Nat) : Int))).run Try.prog W = .ok (byt (UInt8.ofNat (x % 256))) W := conv_b (by omega) W
theorem quo256 {x : Nat} (h : x < 9223372036854775808) (W : World) (a b : Operand) : (do eqGuard .quo 3 a b (.int .i64 (x : Int)) (.int .i64 256); binOp .quo 3 (.int .i64 (x : Int)) (.int .i64 256) : Sem Value).run Try.prog W = .ok (.int .i64 ((x / 256 : Nat) : Int)) W := by
  have e : (x : Int).tdiv 256 = ((x / 256 : Nat) : Int) := by
    rw [Int.tdiv_eq_ediv_of_nonneg (by omega)]; rfl
  have e2 : IntKind.i64.wrap ((x : Int) / 256) = (x : Int) / 256 := by rw [IntKind.wrap_i64]; omega
  go_simp
theorem rem256 (x : Nat) (W : World) (a b : Operand) : (do eqGuard .rem 3 a b (.int .i64 (x : Int)) (.int .i64 256); binOp .rem 3 (.int .i64 (x : Int)) (.int .i64 256) : Sem Value).run Try.prog W = .ok (.int .i64 ((x % 256 : Nat) : Int)) W :=
  rem_i _ 256 (by decide) (by rw [Int.tmod_eq_emod_of_nonneg (by omega)]; rfl) W a b
set_option maxRecDepth 100000 in
set_option maxHeartbeats 1000000 in
theorem numr_any (n s : Nat) (hs : s ≤ 8) (hn : n < 4294967296) (w : World) : Calls Try.prog 69 #[.int .i64 (n : Int), .int .i64 (s : Int)] w fun e w' => ∃ v, e = .returned v ∧ Ob w' w.heap.size v (sfxB n s) ∧ Below w.heap.size w w' := by
  have ob0 : Ob (w.alloc (.cells ((List.replicate s (0 : UInt8)).map byt).toArray 5)) w.heap.size (.slice (some ⟨w.heap.size, 0, none⟩) s s) (nmB n s 0) := by
    have e : nmB n s 0 = List.replicate s 0 := by simp [nmB, sfxB]
    rw [e]
    exact ob_new w (List.replicate s 0) (by simp; omega) s (by simp) (by omega)
  refine calls_of_args [.int .i64 (n : Int), .int .i64 (s : Int)] Try.func69 rfl 24 Try.ntmps69 (by show 2 ≤ 24; decide) ?_
  refine EW.seq ?_
  refine EW.region ?_
  first | refine WL.assign rfl rfl rfl ?_
  refine WL.done ?_
  refine EW.on ?_
  refine EW.seq ?_
  refine EW.region ?_
  first | refine WL.move rfl rfl rfl ?_
  refine WL.mks rfl rfl rfl rfl (run_mk22 w s (by omega)) ?_
  first | refine WL.assign rfl rfl rfl ?_
  refine WL.done ?_
  refine EW.on ?_
  refine EW.seq ?_
  refine EW.seq ?_
  refine EW.region ?_
  first | refine WL.move rfl rfl rfl ?_
  refine WL.bin rfl rfl rfl rfl (int_sub (c := (s : Int) - 1) (by rw [IntKind.wrap_i64]; omega) _ _ _) ?_
  first | refine WL.assign rfl rfl rfl ?_
  refine WL.done ?_
  refine EW.on ?_
  refine EW.block ?_
  refine EW.loop (nmE (.slice (some ⟨w.heap.size, 0, none⟩) s s) n s) (NmI w (.slice (some ⟨w.heap.size, 0, none⟩) s s) n s) (fun t => s - t) 0 [0, 5, 6] (by simp [nmE]; rfl) ⟨Nat.zero_le _, ob0, below_new _ _⟩ ?_
  rintro t wi ⟨htl, ob, be⟩
  show EW _ _ _ _ [(0, .int .i64 ((n / 256 ^ t : Nat) : Int)), (5, .slice (some ⟨w.heap.size, 0, none⟩) s s), (6, .int .i64 ((s : Int) - 1 - (t : Int)))] _
  refine EW.seq ?_
  refine EW.seq ?_
  refine EW.region ?_
  first | refine WL.move rfl rfl rfl ?_
  refine WL.bin rfl rfl rfl rfl (int_ge_d _ _ _ _ _) ?_
  refine WL.done ?_
  refine EW.on ?_
  refine EW.cond_d rfl (fun h12 => ?_) (fun h12 => ?_)
  · refine EW.skip ?_
    refine EW.on ?_
    refine EW.seq ?_
    refine EW.block ?_
    refine EW.seq ?_
    have hlt : t < s := by omega
    refine EW.region ?_
    first | refine WL.move rfl rfl rfl ?_
    first | refine WL.move rfl rfl rfl ?_
    first | refine WL.move rfl rfl rfl ?_
    refine WL.bin rfl rfl rfl rfl (rem256 _ _ _ _) ?_
    refine WL.conv rfl rfl rfl (conv_x _ _) ?_
    obtain ⟨ad, w5, ix, se, oc5, bc5⟩ := ob.setAt (by have := be.size; omega) (s - t - 1) (by rw [nm_len n s t htl]; omega) (UInt8.ofNat (n / 256 ^ t % 256))
    rw [nm_set n s t hlt] at oc5
    rw [show (s : Int) - 1 - (t : Int) = ((s - t - 1 : Nat) : Int) from by omega]
    refine WL.index rfl rfl rfl rfl (ix _) ?_
    refine WL.store rfl rfl rfl se ?_
    refine WL.done ?_
    refine EW.on ?_
    refine EW.region ?_
    first | refine WL.move rfl rfl rfl ?_
    refine WL.bin rfl rfl rfl rfl (quo256 (by have := Nat.div_le_self n (256 ^ t); omega) _ _ _) ?_
    first | refine WL.assign rfl rfl rfl ?_
    refine WL.done ?_
    refine pn_block ?_
    refine EW.on ?_
    refine EW.region ?_
    first | refine WL.move rfl rfl rfl ?_
    refine WL.bin rfl rfl rfl rfl (int_sub (c := (s : Int) - 1 - ((t + 1 : Nat) : Int)) (by rw [IntKind.wrap_i64]; omega) _ _ _) ?_
    first | refine WL.assign rfl rfl rfl ?_
    refine WL.done ?_
    refine EW.again (E := nmE (.slice (some ⟨w.heap.size, 0, none⟩) s s) n s) (R := NmI w (.slice (some ⟨w.heap.size, 0, none⟩) s s) n s) (m := fun t => s - t) (x := t) (t + 1) [0, 5, 6] (by rw [nmE, Nat.pow_succ, ← Nat.div_div_eq_div_mul]; rfl) ⟨by omega, oc5, be.trans bc5⟩ (by show s - (t + 1) < s - t; omega)
  · refine EW.exit ?_
    refine px_then ?_
    refine px_then ?_
    refine px_block ?_
    refine EW.on ?_
    refine EW.seq ?_
    obtain rfl : t = s := by omega
    refine EW.region ?_
    first | refine WL.move rfl rfl rfl ?_
    first | refine WL.assign rfl rfl rfl ?_
    refine WL.done ?_
    refine EW.on ?_
    refine EW.ret ?_
    exact EW.returns Try.results69 rfl ⟨_, rfl, by have h := ob; simp only [nmB, Nat.sub_self, List.replicate_zero, List.nil_append] at h; exact h, be⟩
theorem Ob.own' {W : World} {b : Nat} {v : Value} {bs : List UInt8} (h : Ob W b v bs) : Own W b v bs := by
  obtain ⟨hx, h1 | ⟨g, cp, cur, rfl, hg, hr⟩⟩ := h.row
  · exact ⟨hx, .inl h1⟩
  · exact ⟨hx, .inr ⟨g, cp, cur, rfl, h.base _ rfl, hr⟩⟩
def marks : List UInt8 := [209, 210, 211]
theorem bsl22_3 (a b c : UInt8) (w : World) : (Instr.buildSlice 38 3 [(0, byt a), (1, byt b), (2, byt c)].toArray).run Try.prog w = .ok (.slice (some ⟨w.heap.size, 0, none⟩) 3 3) (w.alloc (.cells ([a, b, c].map byt).toArray 5)) := by
  unfold byt
  go_simp
  try rfl
/-- 'append' of three bytes to bytes of one's own. -/
theorem Ob.push3 {w : World} {b : Nat} {v : Value} {bs : List UInt8} (h : Ob w b v bs) (hbw : b ≤ w.heap.size) (g : Nat) (ys : List UInt8) (hy : ys.length = 3) (hg : Has w (.slice (some ⟨g, 0, none⟩) 3 3) ys) (hl : bs.length ≤ 140737488355328) (ty : TypeId) : ∃ v' w', (Builtin.append_ #[38, 38] ty #[v, .slice (some ⟨g, 0, none⟩) 3 3]).run Try.prog w = .ok v' w' ∧ Ob w' b v' (bs ++ ys) ∧ Below b w w' := by
  rcases hg with ⟨e, _⟩ | ⟨ad, cap, e, h2, h3⟩
  · cases e
  · rw [hy] at e
    simp only [Value.slice.injEq, Option.some.injEq, true_and] at e
    obtain ⟨rfl, rfl⟩ := e
    obtain ⟨v', w', r1, r2, r3⟩ := run_app w b v bs h.own' _ 3 ys h3 (by omega) hbw ty
    rw [hy] at r1
    exact ⟨v', w', r1, r2.ob, (grown_fx r3).below (fun k hk e => by have := h.base k e; omega) hbw⟩
set_option maxRecDepth 100000 in
set_option maxHeartbeats 1000000 in
theorem room_any (v : Value) (bs : List UInt8) (w : World) (hb : Has w v bs) (hl : bs.length ≤ 140737488355328) : Calls Try.prog 46 #[v] w fun e w' => ∃ v', e = .returned v' ∧ Ob w' w.heap.size v' (bs ++ marks) ∧ Below w.heap.size w w' := by
  refine calls_of_args [v] Try.func46 rfl 7 Try.ntmps46 (by show 1 ≤ 7; decide) ?_
  refine EW.seq ?_
  refine EW.region ?_
  first | refine WL.assign rfl rfl rfl ?_
  refine WL.done ?_
  refine EW.on ?_
  refine EW.seq ?_
  refine EW.region ?_
  first | refine WL.move rfl rfl rfl ?_
  obtain ⟨v1, w1, a1, o1, e1⟩ := app_nil hb hl 38
  refine WL.app rfl rfl rfl rfl a1 ?_
  refine WL.bslN [(0, byt 209), (1, byt 210), (2, byt 211)] rfl rfl rfl (bsl22_3 _ _ _ _) ?_
  have e2 := below_new w1 (.cells ([209, 210, 211].map byt).toArray 5)
  have hh2 : Has (w1.alloc (.cells ([209, 210, 211].map byt).toArray 5)) (.slice (some ⟨w1.heap.size, 0, none⟩) 3 3) [209, 210, 211] := Has.new (Blk.new _ _ _) 3 (Nat.le_refl _)
  obtain ⟨w2, hw2⟩ : ∃ w2, w1.alloc (.cells (([209, 210, 211] : List UInt8).map byt).toArray 5) = w2 := ⟨_, rfl⟩
  rw [hw2] at e2 hh2 ⊢
  obtain ⟨v3, w3, a3, o3, e3⟩ := (o1.below e2).push3 (by have := e1.size; have := e2.size; omega) w1.heap.size [209, 210, 211] rfl hh2 hl 38
  refine WL.app rfl rfl rfl rfl a3 ?_
  first | refine WL.assign rfl rfl rfl ?_
  refine WL.done ?_
  refine EW.on ?_
  refine EW.ret ?_
  exact EW.returns Try.results46 rfl ⟨v3, rfl, o3, (e1.trans (e2.mono e1.size)).trans e3⟩
set_option maxRecDepth 100000 in
set_option maxHeartbeats 1000000 in
theorem kept_yes (va vb : Value) (bs : List UInt8) (w : World) (ha : Has w va (bs ++ marks)) (hb : Has w vb bs) (hl : bs.length ≤ 140737488355328) : Calls Try.prog 54 #[va, vb] w fun e w' => e = .returned (.bool true) ∧ Below w.heap.size w w' := by
  refine calls_of_args [va, vb] Try.func54 rfl 9 Try.ntmps54 (by show 2 ≤ 9; decide) ?_
  refine EW.seq ?_
  refine EW.region ?_
  first | refine WL.assign rfl rfl rfl ?_
  refine WL.done ?_
  refine EW.on ?_
  refine EW.seq ?_
  refine EW.region ?_
  first | refine WL.move rfl rfl rfl ?_
  first | refine WL.move rfl rfl rfl ?_
  refine WL.call [vb] enter46 rfl rfl rfl (room_any vb bs _ hb hl) ?_
  rintro _ w1 ⟨v1, rfl, o1, e1⟩
  refine ⟨_, rfl, ?_⟩
  refine WL.call [va, v1] enter17 rfl rfl rfl (eq_yes va v1 (bs ++ marks) _ (ha.below e1) o1.has) ?_
  rintro _ w2 ⟨rfl, hz⟩
  rw [hz]
  clear hz
  refine ⟨_, rfl, ?_⟩
  first | refine WL.assign rfl rfl rfl ?_
  refine WL.done ?_
  refine EW.on ?_
  refine EW.ret ?_
  exact EW.returns Try.results54 rfl ⟨rfl, e1⟩
end Go.Proofs.Ytacimelcmkhhlaa
