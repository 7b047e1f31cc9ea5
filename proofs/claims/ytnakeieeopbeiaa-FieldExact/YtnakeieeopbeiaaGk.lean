import Derived.Test.YtnakeieeopbeiaaGj
set_option linter.unusedVariables false
set_option linter.unusedSimpArgs false
namespace Go.Proofs.Ytnakeieeopbeiaa
open Go.RowKit

theorem LE.assign {P : Program} {N : Nat} {ops : Array Oper} {S : World → Prop} {K : List (Nat × Value) → Prop} {i : Nat} {ty : TypeId} {ps : String} {af : Array Edge} {r : List Oper} {e : List (Nat × Value)} {x : Operand} {v : Value} (hi : decide (i < N) = true) (hx : evE e x = some v) (k : wpLexE P N ops S K r ((i, v) :: e)) : wpLexE P N ops S K (⟨some i, .assign x, ty, ps, af, none⟩ :: r) e :=
  ⟨_, fun j hj => by cases hj; exact of_decide_eq_true hi, fun a ha => .inl ⟨by simp [Region.wanted], .inl fun W _ => by simp [execOp, ha.ev hx]⟩, k⟩
theorem EW.allT {P : Program} {N : Nat} {Q : Exit → Act → World → Prop} {e : List (Nat × Value)} {w : World} {id : Nat} {l : List Oper} (hm : P.follows .mixedOrders = true)
    (hB : (Region.noSelect l.toArray && lexOk .any l.toArray l.length l.length 0 (none_ l.length) && (Region.ready .any l.toArray (firstN l.length 0 (none_ l.length))).isEmpty && full l.length (firstN l.length 0 (none_ l.length))) = true)
    (h : wpLexE P N l.toArray (fun W => Below w.heap.size w W) (fun e' => ∀ W, Below w.heap.size w W → ∀ a, Env N a e' → Q .normal a W) l e) : EW P N (Code.region id l.toArray true) Q e w := fun a ha => by
  refine reg_all hm hB (wpLex_of_E _ e a ha ?_)
  have mono : ∀ {K K' : List (Nat × Value) → Prop} (hK : ∀ e, K e → K' e) (l' : List Oper) (e : List (Nat × Value)), wpLexE P N l.toArray (fun W => Below w.heap.size w W) K l' e → wpLexE P N l.toArray (fun W => Below w.heap.size w W) K' l' e := by
    intro K K' hK l'
    induction l' with
    | nil => exact fun e h => hK e h
    | cons o l' ih => exact fun e ⟨v, h1, h2, h⟩ => ⟨v, h1, h2, ih _ h⟩
  exact mono (fun e' hk a' ha' W hW => hk W hW a' ha') _ _ h
def fiE (n : Nat) (t : Nat) : List (Nat × Value) := [(1, .pointer (some ⟨n, 0, none⟩)), (3, .pointer (some ⟨n + 1, 0, none⟩)), (4, .int .i64 (t : Int))]
def FiR (n : Nat) (k : List UInt8) (w : World) (t : Nat) (w' : World) : Prop := t ≤ 16 ∧ Blk w' n (k.map byt) 22 ∧ Blk w' (n + 1) (dv (cpD (kDt k 16) t)) 49 ∧ Below n w w'
set_option maxRecDepth 100000 in
set_option maxHeartbeats 1000000 in
theorem fits_num (k : List UInt8) (hk : k.length = 32) (w : World) : Calls Try.prog 37 #[.agg (k.map byt).toArray] w fun e w' => e = .returned (.bool (decide (kn k < PP))) ∧ Below w.heap.size w w' := by
  obtain ⟨w1, w2, r1, r2, _, _, _, bk, bz, hs2, be2⟩ := two22 (w := w) k
  obtain ⟨n, hn⟩ : ∃ n, w.heap.size = n := ⟨_, rfl⟩
  rw [hn] at r1 r2 bk bz hs2 be2
  rw [hn]
  have hkl := kDt_length k 16
  refine calls_of_args [.agg (k.map byt).toArray] Try.func37 rfl 27 Try.ntmps37 (by show 1 ≤ 27; decide) ?_
  refine EW.seq ?_
  refine EW.region ?_
  refine WL.box rfl rfl rfl r1 ?_
  first | refine WL.assign rfl rfl rfl ?_
  refine WL.done ?_
  refine EW.on ?_
  refine EW.seq ?_
  refine EW.region ?_
  refine WL.new rfl rfl r2 ?_
  refine WL.done ?_
  refine EW.on ?_
  refine EW.seq ?_
  refine EW.seq ?_
  refine EW.region ?_
  first | refine WL.assign rfl rfl rfl ?_
  refine WL.done ?_
  refine EW.on ?_
  refine EW.block ?_
  refine EW.loop (fiE n) (FiR n k w) (fun t => 16 - t) 0 [1, 3, 4] rfl ⟨by decide, bk, bz, be2⟩ ?_
  clear r1 r2 bk bz be2 hs2
  rintro t wr ⟨ht, bk, bz, hbe⟩
  have hzl := bz.lt
  show EW _ _ _ _ [(1, .pointer (some ⟨n, 0, none⟩)), (3, .pointer (some ⟨n + 1, 0, none⟩)), (4, .int .i64 (t : Int))] _
  by_cases h1 : t < 16
  · have z1 : (t : Int) < 16 := by omega
    have tn := tnD t (by omega)
    have hb0 := bD_lt k (2 * t)
    have hb1 := bD_lt k (2 * t + 1)
    have m2 := wm2 t (by omega)
    have a1 : IntKind.i64.wrap (((2 * t : Nat) : Int) + 1) = ((2 * t + 1 : Nat) : Int) := tnD (2 * t) (by omega)
    have m6 := wm256 (bD k (2 * t + 1)) (by omega)
    have had := waddN (bD k (2 * t)) (256 * bD k (2 * t + 1)) (by omega)
    rw [show bD k (2 * t) + 256 * bD k (2 * t + 1) = kdg k t from rfl] at had
    obtain ⟨wd, hwd⟩ : ∃ wd, { wr with drawn := wr.drawn + 1 } = wd := ⟨_, rfl⟩
    have bed : Below wr.heap.size wr wd := by rw [← hwd]; exact below_drawn wr
    have bkd := bk.on bed
    have bzd := bz.on bed
    have hbed := hbe.trans (bed.mono (by omega))
    have hsd := bed.size
    have hS : ∀ {V : World}, Blk V n (k.map byt) 22 → V.cell? ⟨n, 2 * t, none⟩ = some (.int .u8 ((bD k (2 * t) : Nat) : Int)) ∧ V.cell? ⟨n, 2 * t + 1, none⟩ = some (.int .u8 ((bD k (2 * t + 1) : Nat) : Int)) := fun h1 => ⟨(h1.cell _).trans (byt_at k _ (by omega)), (h1.cell _).trans (byt_at k _ (by omega))⟩
    have hcp := cpD_length (kDt k 16) t (by omega) ht
    have hcn : wd.cell? ⟨n + 1, t, none⟩ = some (.int .i64 (((cpD (kDt k 16) t).getD t 0 : Nat) : Int)) := (bzd.cell t).trans (dv_at _ t (by omega))
    have hst := st3 (z := ((kdg k t : Nat) : Int)) hcn (bzd.frozen t)
    have bz4 := bzd.set t (.int .i64 ((kdg k t : Nat) : Int))
    have hcx := cpD_next (kDt k 16) t (by omega) h1
    rw [kDt_getD k 16 t h1] at hcx
    rw [dv_set, ← hcx] at bz4
    have be4 := hbed.trans ((Fx.setCell (S := fun j => j = n + 1) wd (n + 1) t (.int .i64 ((kdg k t : Nat) : Int)) rfl).below (B := n) (fun j hj e => by omega) (by omega))
    refine EW.seq ?_
    refine EW.seq ?_
    refine EW.region ?_
    first | refine WL.move rfl rfl rfl ?_
    refine WL.bin rfl rfl rfl rfl (int_lt_t z1 _ _ _) ?_
    refine WL.done ?_
    refine EW.on ?_
    refine EW.cond_t rfl ?_
    refine EW.skip ?_
    refine EW.on ?_
    refine EW.seq ?_
    refine EW.block ?_
    refine EW.chain 14 0 2 (fun V => V.cell? ⟨n, 2 * t, none⟩ = some (.int .u8 ((bD k (2 * t) : Nat) : Int)) ∧ V.cell? ⟨n, 2 * t + 1, none⟩ = some (.int .u8 ((bD k (2 * t + 1) : Nat) : Int))) (by kernel_rfl) rfl (by kernel_rfl) (by rw [hwd]; exact hS bkd) (by kernel_rfl) ?_
    rw [hwd]
    simp only [List.take_succ_cons, List.take_zero, List.drop_succ_cons, List.drop_zero, List.map_cons, List.map_nil, List.cons_append, List.nil_append, List.append_nil]
    refine OE.move rfl rfl rfl ?_
    refine OE.move rfl rfl rfl ?_
    refine OE.bin rfl rfl rfl rfl (fun V => int_mul m2 V _ _) ?_
    refine OE.index rfl rfl rfl rfl (fun V => idx22 n (2 * t) (by omega) V) ?_
    refine OE.load rfl rfl rfl (fun V hV => ld5 hV.1) ?_
    refine OE.conv rfl rfl rfl (fun V _ => cv53 _ hb0 V) ?_
    refine OE.move rfl rfl rfl ?_
    refine OE.bin rfl rfl rfl rfl (fun V => int_mul m2 V _ _) ?_
    refine OE.bin rfl rfl rfl rfl (fun V => int_add a1 V _ _) ?_
    refine OE.index rfl rfl rfl rfl (fun V => idx22 n (2 * t + 1) (by omega) V) ?_
    refine OE.load rfl rfl rfl (fun V hV => ld5 hV.2) ?_
    refine OE.conv rfl rfl rfl (fun V _ => cv53 _ hb1 V) ?_
    refine OE.bin rfl rfl rfl rfl (fun V => int_mul m6 V _ _) ?_
    refine OE.bin rfl rfl rfl rfl (fun V => int_add had V _ _) ?_
    refine fun W5 hW => ?_
    rw [hW]
    refine WL.index rfl rfl rfl rfl (idx49 (n + 1) t h1 _) ?_
    refine WL.store rfl rfl rfl hst ?_
    refine WL.done ?_
    refine pn_block ?_
    refine EW.on ?_
    refine EW.region ?_
    first | refine WL.move rfl rfl rfl ?_
    refine WL.bin rfl rfl rfl rfl (int_add tn _ _ _) ?_
    first | refine WL.assign rfl rfl rfl ?_
    refine WL.done ?_
    refine EW.again (E := fiE n) (R := FiR n k w) (m := fun t => 16 - t) (x := t) (t + 1) [1, 3, 4] rfl ⟨by omega, bkd.setOther _ _ _ (by omega), bz4, be4⟩ (by show 16 - (t + 1) < 16 - t; omega)
  · have z1 : ¬ (t : Int) < 16 := by omega
    obtain rfl : t = 16 := by omega
    rw [cpD_end, List.take_of_length_le (by omega)] at bz
    have hle : ∀ W, Calls Try.prog 47 #[.agg (dv (kDt k 16)).toArray, .agg (dv primeD).toArray] W fun e w' => e = .returned (.bool (decide (kn k < PP))) ∧ Below W.heap.size W w' := fun W => by
      have h := less_any (kDt k 16) primeD hkl primeD_length W
      rw [less_val (kDt_dig k 16) primeD_dig, primeD_val, kDt_kn] at h
      exact h
    refine EW.seq ?_
    refine EW.seq ?_
    refine EW.region ?_
    first | refine WL.move rfl rfl rfl ?_
    refine WL.bin rfl rfl rfl rfl (int_lt_f z1 _ _ _) ?_
    refine WL.done ?_
    refine EW.on ?_
    refine EW.cond_f rfl ?_
    refine EW.exit ?_
    repeat refine px_then ?_
    refine px_block ?_
    refine EW.on ?_
    refine EW.seq ?_
    refine EW.allT (by kernel_rfl) (by kernel_rfl) ?_
    refine LE.row rfl rfl (fun W hW => bz.on hW) Try.underlying49 rfl (info49 hkl) ?_
    refine LE.call [] enter48 rfl rfl (fun W _ => primeD_any W) ?_
    refine LE.call [.agg (dv (kDt k 16)).toArray, .agg (dv primeD).toArray] enter47 rfl rfl (fun W _ => hle W) ?_
    refine LE.assign rfl rfl ?_
    intro W hW
    have hbw : Below n w W := hbe.trans (hW.mono (by omega))
    refine EW.on ?_
    refine EW.ret ?_
    repeat (first | refine pr_then ?_ | refine pr_block ?_)
    exact EW.returns Try.results37 rfl ⟨rfl, hbw⟩
theorem remU (k c : Nat) (hc : 0 < c) (W : World) (x y : Operand) (hx : (c : Int) ≠ 0) : (do eqGuard .rem 24 x y (.int .u64 (k : Int)) (.int .u64 (c : Int)); binOp .rem 24 (.int .u64 (k : Int)) (.int .u64 (c : Int)) : Sem Value).run Try.prog W = .ok (.int .u64 ((k % c : Nat) : Int)) W := by
  have q1 : (k : Int).tmod (c : Int) = ((k % c : Nat) : Int) := by rw [Int.tmod_eq_emod_of_nonneg (by omega)]; omega
  have hc0 : ¬ c = 0 := by omega
  go_simp
theorem quoU (k c : Nat) (hc : 0 < c) (hk : k < 18446744073709551616) (W : World) (x y : Operand) (hx : (c : Int) ≠ 0) : (do eqGuard .quo 24 x y (.int .u64 (k : Int)) (.int .u64 (c : Int)); binOp .quo 24 (.int .u64 (k : Int)) (.int .u64 (c : Int)) : Sem Value).run Try.prog W = .ok (.int .u64 ((k / c : Nat) : Int)) W := by
  have q1 : (k : Int).tdiv (c : Int) = ((k / c : Nat) : Int) := by rw [Int.tdiv_eq_ediv_of_nonneg (by omega)]; omega
  have q2 : k / c ≤ k := Nat.div_le_self _ _
  have hc0 : ¬ c = 0 := by omega
  have q3 : IntKind.u64.wrap ((k / c : Nat) : Int) = ((k / c : Nat) : Int) := by
    generalize k / c = n at q2 ⊢
    rw [IntKind.wrap_u64]; omega
  obtain ⟨Q, hQ⟩ : ∃ Q : Int, ((k / c : Nat) : Int) = Q := ⟨_, rfl⟩
  rw [hQ] at q1 q3 ⊢
  go_simp
  try rw [q1, q3]
theorem cv243 (b : Nat) (h : b < 65536) (W : World) : (Go.convert 24 3 (.int .u64 (b : Int))).run Try.prog W = .ok (.int .i64 (b : Int)) W := by
  have h1 : IntKind.i64.wrap (b : Int) = (b : Int) := by rw [IntKind.wrap_i64]; omega
  go_simp
theorem numD_small (k : Nat) (hk : k < 18446744073709551616) : cpD (numD k) 4 = numD k := by
  have hz : ∀ j, 4 ≤ j → (numD k).getD j 0 = 0 := fun j hj => by
    rcases Nat.lt_or_ge j 16 with h | h
    · rw [numD_getD k j h]
      have h1 : 65536 ^ 4 ≤ 65536 ^ j := Nat.pow_le_pow_right (by decide) hj
      rw [Nat.div_eq_of_lt (Nat.lt_of_lt_of_le hk (Nat.le_trans (by decide) h1))]
    · exact getD_past (by rw [numD_length]; exact h)
  have hl := numD_length k
  apply List.ext_getElem?
  intro j
  unfold cpD
  rw [List.getElem?_append, List.length_take, List.getElem?_take, List.getElem?_replicate]
  by_cases e : j < 4
  · rw [if_pos (by omega), if_pos e]
  · rw [if_neg (by omega)]
    by_cases e2 : j < 16
    · rw [if_pos (by omega)]
      have := hz j (by omega)
      rw [List.getD_eq_getElem?_getD] at this
      rw [List.getElem?_eq_getElem (by omega)] at this ⊢
      simp at this
      rw [this]
    · rw [if_neg (by omega), List.getElem?_eq_none (by omega)]
def inE (n k : Nat) (t : Nat) : List (Nat × Value) := [(0, .int .u64 ((k / 65536 ^ t : Nat) : Int)), (2, .pointer (some ⟨n, 0, none⟩)), (3, .pointer (some ⟨n + 1, 0, none⟩)), (4, .int .i64 (t : Int))]
def InR (n k : Nat) (w : World) (t : Nat) (w' : World) : Prop := t ≤ 4 ∧ Blk w' n (dv z16) 49 ∧ Blk w' (n + 1) (dv (cpD (numD k) t)) 49 ∧ Below n w w'
set_option maxRecDepth 100000 in
set_option maxHeartbeats 1000000 in
theorem int_num (k : Nat) (hk : k < 18446744073709551616) (w : World) : Calls Try.prog 38 #[.int .u64 (k : Int)] w fun e w' => e = .returned (.agg (dv (numD k)).toArray) ∧ Below w.heap.size w w' := by
  obtain ⟨w1, hw1⟩ : ∃ w1, w.alloc (.cells (dv z16).toArray 49) = w1 := ⟨_, rfl⟩
  have s1 : w1.heap.size = w.heap.size + 1 := by rw [← hw1]; simp
  have b1 : Blk w1 w.heap.size (dv z16) 49 := by rw [← hw1]; exact Blk.new _ _ _
  have e1 : Below w.heap.size w w1 := by rw [← hw1]; exact below_new _ _
  obtain ⟨w2, hw2⟩ : ∃ w2, w1.alloc (.cells (dv z16).toArray 49) = w2 := ⟨_, rfl⟩
  have b2 : Blk w2 w1.heap.size (dv z16) 49 := by rw [← hw2]; exact Blk.new _ _ _
  have e2 : Below w1.heap.size w1 w2 := by rw [← hw2]; exact below_new _ _
  have r1 := new49 w
  have r2 := new49 w1
  rw [hw1] at r1
  rw [hw2] at r2
  have c1 := b1.on e2
  have be2 : Below w.heap.size w w2 := e1.trans (e2.mono (by omega))
  rw [s1] at r2 b2
  obtain ⟨n, hn⟩ : ∃ n, w.heap.size = n := ⟨_, rfl⟩
  rw [hn] at r1 r2 b2 c1 be2
  rw [hn]
  have hnl := numD_length k
  have hk0 : k / 65536 ^ 0 = k := by rw [Nat.pow_zero, Nat.div_one]
  refine calls_of_args [.int .u64 (k : Int)] Try.func38 rfl 17 Try.ntmps38 (by show 1 ≤ 17; decide) ?_
  refine EW.seq ?_
  refine EW.region ?_
  refine WL.new rfl rfl r1 ?_
  refine WL.done ?_
  refine EW.on ?_
  refine EW.seq ?_
  refine EW.region ?_
  refine WL.new rfl rfl r2 ?_
  refine WL.done ?_
  refine EW.on ?_
  refine EW.seq ?_
  refine EW.seq ?_
  refine EW.region ?_
  first | refine WL.assign rfl rfl rfl ?_
  refine WL.done ?_
  refine EW.on ?_
  refine EW.block ?_
  refine EW.loop (inE n k) (InR n k w) (fun t => 4 - t) 0 [0, 2, 3, 4] (by unfold inE; rw [hk0]; rfl) ⟨by decide, c1, b2, be2⟩ ?_
  clear r1 r2 b2 c1 be2
  rintro t wr ⟨ht, bz, bx, hbe⟩
  have hxl := bx.lt
  show EW _ _ _ _ [(0, .int .u64 ((k / 65536 ^ t : Nat) : Int)), (2, .pointer (some ⟨n, 0, none⟩)), (3, .pointer (some ⟨n + 1, 0, none⟩)), (4, .int .i64 (t : Int))] _
  by_cases h1 : t < 4
  · have z1 : (t : Int) < 4 := by omega
    have tn := tnD t (by omega)
    have hdv : k / 65536 ^ t / 65536 = k / 65536 ^ (t + 1) := by rw [Nat.div_div_eq_div_mul, Nat.pow_succ]
    have hgd := numD_getD k t (by omega)
    have hlt : k / 65536 ^ t < 18446744073709551616 := Nat.lt_of_le_of_lt (Nat.div_le_self _ _) hk
    have hm : k / 65536 ^ t % 65536 < 65536 := Nat.mod_lt _ (by decide)
    have hcx := cpD_next (numD k) t (by omega) (by omega)
    have hcp := cpD_length (numD k) t (by omega) (by omega)
    rw [hgd] at hcx
    have hcn : wr.cell? ⟨n + 1, t, none⟩ = some (.int .i64 (((cpD (numD k) t).getD t 0 : Nat) : Int)) := (bx.cell t).trans (dv_at _ t (by omega))
    have hst := st3 (z := ((k / 65536 ^ t % 65536 : Nat) : Int)) hcn (bx.frozen t)
    have bx4 := bx.set t (.int .i64 ((k / 65536 ^ t % 65536 : Nat) : Int))
    rw [dv_set, ← hcx] at bx4
    have be4 := hbe.trans ((Fx.setCell (S := fun j => j = n + 1) wr (n + 1) t (.int .i64 ((k / 65536 ^ t % 65536 : Nat) : Int)) rfl).below (B := n) (fun j hj e => by omega) (by omega))
    have hrm := fun W x y => remU (k / 65536 ^ t) 65536 (by decide) W x y (by decide)
    have hqu := fun W x y => quoU (k / 65536 ^ t) 65536 (by decide) hlt W x y (by decide)
    rw [hdv] at hqu
    refine EW.seq ?_
    refine EW.seq ?_
    refine EW.region ?_
    first | refine WL.move rfl rfl rfl ?_
    refine WL.bin rfl rfl rfl rfl (int_lt_t z1 _ _ _) ?_
    refine WL.done ?_
    refine EW.on ?_
    refine EW.cond_t rfl ?_
    refine EW.skip ?_
    refine EW.on ?_
    refine EW.seq ?_
    refine EW.block ?_
    refine EW.seq ?_
    refine EW.region ?_
    first | refine WL.move rfl rfl rfl ?_
    first | refine WL.move rfl rfl rfl ?_
    refine WL.bin rfl rfl rfl rfl (hrm _ _ _) ?_
    refine WL.conv rfl rfl rfl (cv243 _ hm _) ?_
    refine WL.index rfl rfl rfl rfl (idx49 (n + 1) t (by omega) _) ?_
    refine WL.store rfl rfl rfl hst ?_
    refine WL.done ?_
    refine EW.on ?_
    refine EW.region ?_
    first | refine WL.move rfl rfl rfl ?_
    refine WL.bin rfl rfl rfl rfl (hqu _ _ _) ?_
    first | refine WL.assign rfl rfl rfl ?_
    refine WL.done ?_
    refine pn_block ?_
    refine EW.on ?_
    refine EW.region ?_
    first | refine WL.move rfl rfl rfl ?_
    refine WL.bin rfl rfl rfl rfl (int_add tn _ _ _) ?_
    first | refine WL.assign rfl rfl rfl ?_
    refine WL.done ?_
    refine EW.again (E := inE n k) (R := InR n k w) (m := fun t => 4 - t) (x := t) (t + 1) [0, 2, 3, 4] rfl ⟨by omega, bz.setOther _ _ _ (by omega), bx4, be4⟩ (by show 4 - (t + 1) < 4 - t; omega)
  · have z1 : ¬ (t : Int) < 4 := by omega
    obtain rfl : t = 4 := by omega
    rw [numD_small k hk] at bx
    refine EW.seq ?_
    refine EW.seq ?_
    refine EW.region ?_
    first | refine WL.move rfl rfl rfl ?_
    refine WL.bin rfl rfl rfl rfl (int_lt_f z1 _ _ _) ?_
    refine WL.done ?_
    refine EW.on ?_
    refine EW.cond_f rfl ?_
    refine EW.exit ?_
    repeat refine px_then ?_
    refine px_block ?_
    refine EW.on ?_
    refine EW.seq ?_
    refine EW.region ?_
    refine WL.load rfl rfl rfl (ld49 hnl bx) ?_
    refine WL.store rfl rfl rfl (st49 z16_length hnl bz) ?_
    refine WL.done ?_
    refine EW.on ?_
    refine EW.ret ?_
    repeat (first | refine pr_then ?_ | refine pr_block ?_)
    exact EW.returnsC Try.results38 rfl (bz.setRow _) Try.underlying49 rfl (info49 hnl) ⟨rfl, below_setRow hbe n _ (Nat.le_refl _)⟩
end Go.Proofs.Ytnakeieeopbeiaa
