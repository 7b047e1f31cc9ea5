import Derived.Test.YtacancfmgnmpiaaXi
set_option linter.unusedVariables false
set_option linter.unusedSimpArgs false
namespace Go.Proofs.Ytacancfmgnmpiaa
open Go.RowKit

section
variable {P : Program} {ops : Array Oper} {Q : Exit → Act → World → Prop} {S : World → Prop}
/-- Operations of one value each, then a last one that yields nothing. -/
theorem reg_lastS {id : Nat} {l : List Oper} {os : Oper} {a : Act} {w : World} (hm : P.follows .mixedOrders = true) (n : Nat) (hl' : l.length = n + 1) (hos : l[n]? = some os)
    (hB : (Region.noSelect l.toArray && lexOk .any l.toArray n n 0 (none_ (n + 1)) && (Region.ready .any l.toArray (firstN n 0 (none_ (n + 1))) == [n]) && full n (firstN n 0 (none_ (n + 1))) && (Region.ready .any l.toArray ((firstN n 0 (none_ (n + 1))).setIfInBounds n true)).isEmpty) = true)
    (hg : os.guard = none) (hd : os.dst = none) (op : Op) (ho : os.op = op)
    (h : wpLex P l.toArray (fun W => Below w.heap.size w W) (fun a' => ∃ F : World → World, (∀ o' : Oper, o'.op = op → ∀ W, Below w.heap.size w W → (execOp a'.eval o').run P W = .ok .skip (F W)) ∧
      ∀ W, Below w.heap.size w W → Q .normal a' (F W)) (l.take n) a) : (Code.region id l.toArray true).wp P Q a w := by
  have hl := cut1 n hl' hos
  have hn : (l.take n).length = n := by simp; omega
  generalize l.take n = pre at hl hn h
  simp only [Bool.and_eq_true, beq_iff_eq] at hB
  obtain ⟨⟨⟨⟨h1, h2⟩, h3⟩, h4⟩, h5⟩ := hB
  have hi : l.toArray[n]? = some os := by simpa using hos
  refine wp_region_any hm ?_
  refine wpAny_of_R (S := fun W => Below w.heap.size w W) (T := n) _ _ _ (fun W => Below w.heap.size w W) (stable_below w) (fun _ h => h) ?_ _ (below_drawn w)
  have := wpAnyR_lex (P := P) (Q := Q) (T := n) (md := .any) (S := fun W => Below w.heap.size w W) (ops := l.toArray) h1 (by simp; omega) (fun W => Below w.heap.size w W) 1 pre 0 (none_ (n + 1)) a (by
      intro j hj; rw [hl]; simp [List.getElem?_append_left hj]) (by rw [hn]; exact h2) (closed_none _) (by simp [none_, hl']) ?_
  · rw [hn, Nat.add_comm] at this
    simpa [none_, hl'] using this
  · refine wpLex_mono ?_ pre a h
    rintro a' ⟨F, hr, hk⟩
    rw [hn]
    unfold wpAnyR
    rw [if_pos h4]
    intro W hW
    refine only_one h3 ?_
    refine op_wp hi hg ?_
    unfold Oper.wp
    rw [hr os ho W hW]
    simp only [Oper.upon]
    refine wpAny_done (by simpa using h5) ?_ 0
    have := hk W hW
    rw [hd]
    exact this
end

/-- The digits of the lowest 255 bits, bit by bit from above. -/
def rdL (k : List UInt8) : Nat → List Nat
  | 0 => z10n
  | j + 1 => (rdL k j).set ((254 - j) / 26) (2 * (rdL k j).getD ((254 - j) / 26) 0 + kb k (254 - j))
theorem rd_len (k : List UInt8) : ∀ j, (rdL k j).length = 10
  | 0 => by simp [rdL, z10n]
  | j + 1 => by rw [rdL, List.length_set, rd_len k j]
def K255 (k : List UInt8) : Nat := kn k % 2 ^ 255
def rdD (K j d : Nat) : Nat := K / 2 ^ (max (26 * d) (255 - j)) % 2 ^ (26 * d + 26 - max (26 * d) (255 - j))
theorem kb_K (k : List UInt8) (i : Nat) (hi : i < 255) : kb k i = K255 k / 2 ^ i % 2 := by
  rw [kb_is k i (by omega)]
  unfold K255
  have e : 2 ^ 255 = 2 ^ i * 2 ^ (255 - i) := by rw [← Nat.pow_add]; congr 1; omega
  rw [e, Nat.mod_mul_right_div_self]
  have e2 : 2 ^ (255 - i) = 2 * 2 ^ (254 - i) := by rw [show 255 - i = (254 - i) + 1 by omega, Nat.pow_succ, Nat.mul_comm]
  rw [e2, Nat.mod_mul_right_mod]
theorem rd_at (k : List UInt8) : ∀ j, j ≤ 255 → ∀ d, d < 10 → (rdL k j).getD d 0 = rdD (K255 k) j d
  | 0, _, d, hd => by
    have hz : ∀ i : Fin 10, z10n.getD i.val 0 = 0 := by decide
    have e : z10n.getD d 0 = 0 := hz ⟨d, hd⟩
    rw [rdL, e, rdD]
    have hlt : K255 k < 2 ^ 255 := Nat.mod_lt _ (Nat.two_pow_pos _)
    rw [Nat.div_eq_of_lt, Nat.zero_mod]
    exact Nat.lt_of_lt_of_le hlt (Nat.pow_le_pow_right (by decide) (by omega))
  | j + 1, hj, d, hd => by
    have ih := rd_at k j (by omega)
    rw [rdL]
    obtain ⟨i, hi⟩ : ∃ i, i = 254 - j := ⟨_, rfl⟩
    rw [← hi]
    have hi10 : i / 26 < 10 := by omega
    by_cases hq : i / 26 = d
    · subst hq
      rw [setD_in _ _ _ (by rw [rd_len]; omega), ih _ hi10, kb_K k i (by omega), rdD, rdD]
      have m1 : max (26 * (i / 26)) (255 - j) = i + 1 := by omega
      have m2 : max (26 * (i / 26)) (255 - (j + 1)) = i := by omega
      rw [m1, m2]
      have e : 2 ^ (26 * (i / 26) + 26 - i) = 2 * 2 ^ (26 * (i / 26) + 26 - (i + 1)) := by
        rw [show 26 * (i / 26) + 26 - i = (26 * (i / 26) + 26 - (i + 1)) + 1 by omega, Nat.pow_succ, Nat.mul_comm]
      rw [e, Nat.mod_mul, Nat.div_div_eq_div_mul, ← Nat.pow_succ, Nat.add_comm]
    · rw [setD_at _ _ _ _ hq, ih d hd, rdD, rdD]
      by_cases hgt : i < 26 * d
      · have m1 : max (26 * d) (255 - j) = 26 * d := by omega
        have m2 : max (26 * d) (255 - (j + 1)) = 26 * d := by omega
        rw [m1, m2]
      · have hle : 26 * d + 26 ≤ i := by omega
        have m1 : 26 * d + 26 - max (26 * d) (255 - j) = 0 := by omega
        have m2 : 26 * d + 26 - max (26 * d) (255 - (j + 1)) = 0 := by omega
        rw [m1, m2, Nat.pow_zero, Nat.mod_one, Nat.mod_one]
theorem digits_val (K : Nat) (t : List Nat) (ht : ∀ d, d < 10 → t.getD d 0 = K / 67108864 ^ d % 67108864) : ∀ r, r ≤ 10 → vs t r = K % 67108864 ^ r
  | 0, _ => by rw [vs, Nat.pow_zero, Nat.mod_one]
  | r + 1, h => by
    rw [vs, digits_val K t ht r (by omega), ht r (by omega), Nat.pow_succ, Nat.mod_mul, Nat.mul_comm (67108864 ^ r)]
theorem rd_dg (k : List UInt8) : Dg (rdL k 255) ∧ V (rdL k 255) = K255 k := by
  have hD : ∀ d, d < 10 → (rdL k 255).getD d 0 = K255 k / 67108864 ^ d % 67108864 := fun d hd => by
    rw [rd_at k 255 (Nat.le_refl _) d hd, rdD]
    have m : max (26 * d) (255 - 255) = 26 * d := by omega
    rw [m, show 26 * d + 26 - 26 * d = 26 by omega, Nat.pow_mul]
  constructor
  · refine ⟨rd_len k 255, fun i => ?_⟩
    rcases Nat.lt_or_ge i 10 with h | h
    · rw [hD i h]; exact Nat.mod_lt _ (by decide)
    · rw [getD_out _ _ (by rw [rd_len]; omega)]; decide
  · show vs _ 10 = _
    rw [digits_val (K255 k) _ hD 10 (Nat.le_refl _)]
    refine Nat.mod_eq_of_lt (Nat.lt_of_lt_of_le (Nat.mod_lt _ (Nat.two_pow_pos 255)) ?_)
    decide +kernel
theorem rd_small (k : List UInt8) (j : Nat) (hj : j ≤ 255) (d : Nat) (hd : d < 10) : (rdL k j).getD d 0 < 67108864 := by
  rw [rd_at k j hj d hd, rdD]
  refine Nat.lt_of_lt_of_le (Nat.mod_lt _ (Nat.two_pow_pos _)) ?_
  exact Nat.pow_le_pow_right (by decide) (show _ ≤ 26 by omega)

structure Rds (n : Nat) (w wx : World) (k : List UInt8) (x : List Nat) : Prop where
  ke : Blk wx n (k.map byt) 24
  re : Blk wx (n + 1) (z10n.map dg) 75
  xx : Blk wx (n + 1 + 1) (x.map dg) 75
  be : Below n w wx
theorem Rds.on {n : Nat} {w wx wy : World} {k : List UInt8} {x : List Nat} (h : Rds n w wx k x) (hb : Below wx.heap.size wx wy) : Rds n w wy k x :=
  ⟨h.ke.on hb, h.re.on hb, h.xx.on hb, h.be.trans (hb.mono (by have := h.ke.lt; omega))⟩
theorem Rds.set {n : Nat} {w wx : World} {k : List UInt8} {x : List Nat} (h : Rds n w wx k x) (j v : Nat) : Rds n w (wx.setCell ⟨n + 1 + 1, j, none⟩ (.int .i64 (v : Int))) k (x.set j v) :=
  ⟨h.ke.setOther _ _ _ (by omega), h.re.setOther _ _ _ (by omega), by rw [← dgs_set]; exact h.xx.set j _, h.be.setCell (by show n ≤ n + 1 + 1; omega) _⟩

set_option maxRecDepth 100000 in
set_option maxHeartbeats 8000000 in
theorem refread_any (k : List UInt8) (lk : k.length = 32) (w : World) : Calls Try.prog 36 #[.agg (k.map byt).toArray] w fun e w' => e = .returned (num (rdL k 255)) ∧ Below w.heap.size w w' := by
  have HS := hide (rd_small k)
  have HB := hide (fun b hb W => bit_any k lk b hb W)
  go_enter Try.func36, Try.ntmps36
  go_upto_region 2 with (first | (refine wpList_boxAt rfl 24 (.tmp 0) rfl (k.map byt) rfl (w.heap.size) rfl ?_) | (refine wpList_newAt rfl 75 rfl (z10n.map dg) zero75 (w.heap.size + 1) (size1 _ _) ?_) | (refine wpList_newAt rfl 75 rfl (z10n.map dg) zero75 (w.heap.size + 1 + 1) (size2 _ _ _) ?_))
  have h0 : Hid (Rds w.heap.size w (((w.alloc (.cells (k.map byt).toArray 24)).alloc (.cells (z10n.map dg).toArray 75)).alloc (.cells (z10n.map dg).toArray 75)) k (rdL k 0)) := by
    refine ⟨((Blk.new _ _ _).alloc _).alloc _, ?_, ?_, by go_grown⟩
    · have := (Blk.new (w.alloc (.cells (k.map byt).toArray 24)) (z10n.map dg) 75).alloc (.cells (z10n.map dg).toArray 75)
      simpa using this
    · have := Blk.new ((w.alloc (.cells (k.map byt).toArray 24)).alloc (.cells (z10n.map dg).toArray 75)) (z10n.map dg) 75
      rw [rdL]
      simpa using this
  generalize ((w.alloc (.cells (k.map byt).toArray 24)).alloc (.cells (z10n.map dg).toArray 75)).alloc (.cells (z10n.map dg).toArray 75) = w1 at h0 ⊢
  obtain ⟨n, hn⟩ : ∃ n, w.heap.size = n := ⟨_, rfl⟩
  rw [hn] at h0 ⊢
  go_wp2
  go_loopw [4] (fun i wr => ∃ j : Nat, j ≤ 255 ∧ i = .int .i64 (254 - (j : Int)) ∧ Hid (Rds n w wr k (rdL k j))) (fun i _ => ((intOf i) + 1).toNat)
  case atStart => exact ⟨0, by omega, rfl, h0⟩
  case round =>
    obtain ⟨j, hj, rfl, hs⟩ := hrel
    have hln := rd_len k j
    have hsm := HS.out j hj
    have hpe : Hid (rdL k (j + 1) = (rdL k j).set ((254 - j) / 26) (2 * (rdL k j).getD ((254 - j) / 26) 0 + kb k (254 - j))) := by rw [rdL]; exact hide rfl
    obtain ⟨L, hL⟩ : ∃ L, rdL k j = L := ⟨_, rfl⟩
    have HL := hide hL
    rw [hL] at hs hln hsm hpe
    clear hL
    by_cases hlt : j < 255
    · obtain ⟨b, hb⟩ : ∃ b, b = 254 - j := ⟨_, rfl⟩
      have hbi : (254 : Int) - (j : Int) = (b : Int) := by omega
      rw [hbi]
      rw [← hb] at hpe
      have hge : (0 : Int) ≤ (b : Int) := by omega
      have hbl : b ≤ 254 := by omega
      obtain ⟨d, hd⟩ : ∃ d, d = b / 26 := ⟨_, rfl⟩
      rw [← hd] at hpe
      have q1 : (b : Int).tdiv 26 = (d : Int) := by rw [Int.tdiv_eq_ediv_of_nonneg (by omega)]; omega
      have q2 : (b : Int) / 26 = (d : Int) := by omega
      have hdz : (d : Int) < 10 := by omega
      have q5 : IntKind.i64.wrap (d : Int) = (d : Int) := wrap64_small (by omega) (by omega)
      have hxs := hsm d (by omega)
      have hx := dgs_at L d (by omega)
      obtain ⟨x, hxx⟩ : ∃ x, L.getD d 0 = x := ⟨_, rfl⟩
      rw [hxx] at hpe hxs hx
      have cb := HB.out b (by omega)
      have hvl := kb_lt k b
      obtain ⟨v, hv⟩ : ∃ v, kb k b = v := ⟨_, rfl⟩
      rw [hv] at hpe cb hvl
      obtain ⟨y, hy⟩ : ∃ y, 2 * x = y := ⟨_, rfl⟩
      obtain ⟨z, hz⟩ : ∃ z, y + v = z := ⟨_, rfl⟩
      rw [hy, hz] at hpe
      have e1 : IntKind.i64.wrap (2 * (x : Int)) = (y : Int) := by rw [wrap64_small (by omega) (by omega)]; omega
      have e2 : IntKind.i64.wrap ((y : Int) + (v : Int)) = (z : Int) := by rw [wrap64_small (by omega) (by omega)]; omega
      have HBB := hide hb
      clear hb hbi hd hxx hv hy hz hxs hsm
      go_upto_region 5 with fail
      refine reg_lastS (by kernel_rfl) 12 rfl rfl (by kernel_rfl) rfl rfl (.store 3 (.tmp 20) (.tmp 19)) rfl ?_
      simp only [List.take_succ_cons, List.take_zero]
      refine wpLex_cons2 _ (uni_val (by rfl) (Op.move (Operand.tmp 4)) rfl (.int .i64 (b : Int)) (fun o' ho W _ => by go_simp)) (by simp only [Act.put, List.setIfInBounds_toArray, List.set_cons_zero, List.set_cons_succ]; rfl) ?_
      refine wpLex_cons2 _ (uni_val (by rfl) (Op.binOp BinOp.quo 3 (Operand.tmp 9) (Operand.const (Value.int IntKind.i64 26)) 3) rfl (.int .i64 (d : Int)) (fun o' ho W _ => by go_simp)) (by simp only [Act.put, List.setIfInBounds_toArray, List.set_cons_zero, List.set_cons_succ]; rfl) ?_
      refine wpLex_cons2 _ (uni_val (by rfl) (Op.move (Operand.tmp 4)) rfl (.int .i64 (b : Int)) (fun o' ho W _ => by go_simp)) (by simp only [Act.put, List.setIfInBounds_toArray, List.set_cons_zero, List.set_cons_succ]; rfl) ?_
      refine wpLex_cons2 _ (uni_val (by rfl) (Op.binOp BinOp.quo 3 (Operand.tmp 11) (Operand.const (Value.int IntKind.i64 26)) 3) rfl (.int .i64 (d : Int)) (fun o' ho W _ => by go_simp)) (by simp only [Act.put, List.setIfInBounds_toArray, List.set_cons_zero, List.set_cons_succ]; rfl) ?_
      refine wpLex_cons2 _ (uni_val (by rfl) (Op.indexAddr 75 (Operand.tmp 3) (Operand.tmp 12)) rfl (.pointer (some ⟨n + 1 + 1, d, none⟩)) (fun o' ho W _ => by go_simp)) (by simp only [Act.put, List.setIfInBounds_toArray, List.set_cons_zero, List.set_cons_succ]; rfl) ?_
      refine wpLex_cons2 _ (uni_cell (by rfl) 3 (.tmp 13) rfl (n + 1 + 1) d (.int .i64 (x : Int)) rfl (fun W hW => ((hs.out.xx.on hW).cell d).trans hx) Try.underlying3 rfl) (by simp only [Act.put, List.setIfInBounds_toArray, List.set_cons_zero, List.set_cons_succ]; rfl) ?_
      refine wpLex_cons2 _ (uni_val (by rfl) (Op.binOp BinOp.mul 3 (Operand.const (Value.int IntKind.i64 2)) (Operand.tmp 14) 3) rfl (.int .i64 (y : Int)) (fun o' ho W _ => by go_simp)) (by simp only [Act.put, List.setIfInBounds_toArray, List.set_cons_zero, List.set_cons_succ]; rfl) ?_
      refine wpLex_cons2 _ (uni_row rfl 24 (.tmp 1) rfl n (k.map byt) 24 rfl (fun W hW => hs.out.ke.on hW) Try.underlying24 rfl (key_info lk)) (by simp only [Act.put, List.setIfInBounds_toArray, List.set_cons_zero, List.set_cons_succ]; rfl) ?_
      refine wpLex_cons2 _ (uni_val (by rfl) (Op.move (Operand.tmp 4)) rfl (.int .i64 (b : Int)) (fun o' ho W _ => by go_simp)) (by simp only [Act.put, List.setIfInBounds_toArray, List.set_cons_zero, List.set_cons_succ]; rfl) ?_
      refine wpLex_cons2 _ (uni_callF (by rfl) 38 [Operand.tmp 16, Operand.tmp 17] #[24, 3] rfl [.agg (k.map byt).toArray, .int .i64 (b : Int)] (.int .i64 (v : Int)) rfl enter38 (fun W hW => cb W)) (by simp only [Act.put, List.setIfInBounds_toArray, List.set_cons_zero, List.set_cons_succ]; rfl) ?_
      refine wpLex_cons2 _ (uni_val (by rfl) (Op.binOp BinOp.add 3 (Operand.tmp 15) (Operand.tmp 18) 3) rfl (.int .i64 (z : Int)) (fun o' ho W _ => by go_simp)) (by simp only [Act.put, List.setIfInBounds_toArray, List.set_cons_zero, List.set_cons_succ]; rfl) ?_
      refine wpLex_cons2 _ (uni_val (by rfl) (Op.indexAddr 75 (Operand.tmp 3) (Operand.tmp 10)) rfl (.pointer (some ⟨n + 1 + 1, d, none⟩)) (fun o' ho W _ => by go_simp)) (by simp only [Act.put, List.setIfInBounds_toArray, List.set_cons_zero, List.set_cons_succ]; rfl) ?_
      refine ⟨fun W => W.setCell ⟨n + 1 + 1, d, none⟩ (.int .i64 (z : Int)), fun o' ho W hW => ?_, fun W hW => ?_⟩
      · have hc := ((hs.out.xx.on hW).cell d).trans hx
        have hf := (hs.out.xx.on hW).frozen d
        go_simp
      · have hs2 := hide ((hs.out.on hW).set d z)
        clear hW
        dsimp only
        generalize W.setCell ⟨n + 1 + 1, d, none⟩ (.int .i64 (z : Int)) = wv at hs2 ⊢
        go_wp2
        go_roundw
        case rel =>
          refine ⟨j + 1, by omega, by have := HBB.out; go_num, ?_⟩
          rw [hpe.out]
          exact hs2
        case measure => have := HBB.out; simp [intOf] <;> omega
    · obtain rfl : j = 255 := by omega
      clear hpe
      go_wp2_with (first | (refine wpList_load_row rfl 75 (.tmp 3) rfl (n + 1 + 1) rfl 75 (L.map dg).toArray (0, 0) _ hs.out.xx Try.underlying75 rfl (nm_infoA hln) ?_) | (refine wpList_store_row rfl 75 (.tmp 2) (.tmp 21) rfl (n + 1) (L.map dg).toArray rfl rfl 75 (z10n.map dg).toArray hs.out.re (nm_infoA hln) (nm_size hln) (dgs_one _) ?_))
      refine bodyPost_ret (results_cell_row Try.results36 _ _ (n + 1) 75 (L.map dg).toArray (0, 0) _ rfl (hs.out.re.setRow _) Try.underlying75 rfl (nm_infoA hln)) rfl ?_
      exact ⟨by rw [HL.out]; rfl, by first | (rw [hn]; exact below_setRow hs.out.be _ _ (by omega)) | exact below_setRow hs.out.be _ _ (by omega)⟩
end Go.Proofs.Ytacancfmgnmpiaa
