import Derived.Test.YtoceepmehmacbaaDoorKXiG
set_option linter.unusedVariables false
set_option linter.unusedSimpArgs false
namespace Go.Proofs.YtoceepmehmacbaaDoor.Cv
open Go.RowKit

section
variable {P : Program} {ops : Array Oper} {Q : Exit → Act → World → Prop} {S : World → Prop}
/-- Operations of one value each, then a last one that yields nothing. -/
theorem reg_lastS {id : Nat} {l : List Oper} {os : Oper} {a : Act} {w : World} (hm : P.follows .mixedOrders = true) (n : Nat) (hl' : l.length = n + 1) (hos : l[n]? = some os)
    (hB : (Region.noSelect l.toArray && lexOk .any l.toArray n n 0 (none_ (n + 1)) && (Region.ready .any l.toArray (firstN n 0 (none_ (n + 1))) == [n]) && full n (firstN n 0 (none_ (n + 1))) && (Region.ready .any l.toArray ((firstN n 0 (none_ (n + 1))).setIfInBounds n true)).isEmpty) = true)
    (hg : os.guard = none) (hd : os.dst = none) (op : Op) (ho : os.op = op)
    (h : wpLex P l.toArray (fun W => Below w.heap.size w W) (fun a' => ∃ F : World → World, (∀ o' : Oper, o'.op = op → ∀ W, Below w.heap.size w W → (execOp a'.eval o').run P W = .ok .skip (F W)) ∧
      ∀ W, Below w.heap.size w W → Q .normal a' (F W)) (l.take n) a) : (Code.region id l.toArray true).wp P Q a w := by
  have hl := cut1 n hl' hos
  have hn : (l.take n).length = n := by simp; omega
  generalize l.take n = pre at hl hn h
  simp only [Bool.and_eq_true, beq_iff_eq] at hB
  obtain ⟨⟨⟨⟨h1, h2⟩, h3⟩, h4⟩, h5⟩ := hB
  have hi : l.toArray[n]? = some os := by simpa using hos
  refine wp_region_any hm ?_; refine wpAny_of_R (S := fun W => Below w.heap.size w W) (T := n) _ _ _ (fun W => Below w.heap.size w W) (stable_below w) (fun _ h => h) ?_ _ (below_drawn w)
  have := wpAnyR_lex (P := P) (Q := Q) (T := n) (md := .any) (S := fun W => Below w.heap.size w W) (ops := l.toArray) h1 (by simp; omega) (fun W => Below w.heap.size w W) 1 pre 0 (none_ (n + 1)) a (by
      intro j hj; rw [hl]; simp [List.getElem?_append_left hj]) (by rw [hn]; exact h2) (closed_none _) (by simp [none_, hl']) ?_
  · rw [hn, Nat.add_comm] at this
    simpa [none_, hl'] using this
  · refine wpLex_mono ?_ pre a h
    rintro a' ⟨F, hr, hk⟩
    rw [hn]
    unfold wpAnyR
    rw [if_pos h4]
    intro W hW
    refine only_one h3 ?_; refine op_wp hi hg ?_
    unfold Oper.wp
    rw [hr os ho W hW]
    simp only [Oper.upon]
    refine wpAny_done (by simpa using h5) ?_ 0
    have := hk W hW
    rw [hd]
    exact this
end

/-- The digits of the lowest 255 bits, bit by bit from above. -/
def rdL (k : List UInt8) : Nat → List Nat
  | 0 => z10n
  | j + 1 => (rdL k j).set ((254 - j) / 26) (2 * (rdL k j).getD ((254 - j) / 26) 0 + kb k (254 - j))
theorem rd_len (k : List UInt8) : ∀ j, (rdL k j).length = 10
  | 0 => by simp [rdL, z10n]
  | j + 1 => by rw [rdL, List.length_set, rd_len k j]
def K255 (k : List UInt8) : Nat := kn k % 2 ^ 255
def rdD (K j d : Nat) : Nat := K / 2 ^ (max (26 * d) (255 - j)) % 2 ^ (26 * d + 26 - max (26 * d) (255 - j))
theorem kb_K (k : List UInt8) (i : Nat) (hi : i < 255) : kb k i = K255 k / 2 ^ i % 2 := by
  rw [kb_is k i (by omega)]
  unfold K255
  have e : 2 ^ 255 = 2 ^ i * 2 ^ (255 - i) := by rw [← Nat.pow_add]; congr 1; omega
  rw [e, Nat.mod_mul_right_div_self]
  have e2 : 2 ^ (255 - i) = 2 * 2 ^ (254 - i) := by rw [show 255 - i = (254 - i) + 1 by omega, Nat.pow_succ, Nat.mul_comm]
  rw [e2, Nat.mod_mul_right_mod]
theorem rd_at (k : List UInt8) : ∀ j, j ≤ 255 → ∀ d, d < 10 → (rdL k j).getD d 0 = rdD (K255 k) j d
  | 0, _, d, hd => by
    have hz : ∀ i : Fin 10, z10n.getD i.val 0 = 0 := by decide
    have e : z10n.getD d 0 = 0 := hz ⟨d, hd⟩
    rw [rdL, e, rdD]
    have hlt : K255 k < 2 ^ 255 := Nat.mod_lt _ (Nat.two_pow_pos _)
    rw [Nat.div_eq_of_lt, Nat.zero_mod]
    exact Nat.lt_of_lt_of_le hlt (Nat.pow_le_pow_right (by decide) (by omega))
  | j + 1, hj, d, hd => by
    have ih := rd_at k j (by omega)
    rw [rdL]
    obtain ⟨i, hi⟩ : ∃ i, i = 254 - j := ⟨_, rfl⟩
    rw [← hi]
    have hi10 : i / 26 < 10 := by omega
    by_cases hq : i / 26 = d
    · subst hq
      rw [setD_in _ _ _ (by rw [rd_len]; omega), ih _ hi10, kb_K k i (by omega), rdD, rdD]
      have m1 : max (26 * (i / 26)) (255 - j) = i + 1 := by omega
      have m2 : max (26 * (i / 26)) (255 - (j + 1)) = i := by omega
      rw [m1, m2]
      have e : 2 ^ (26 * (i / 26) + 26 - i) = 2 * 2 ^ (26 * (i / 26) + 26 - (i + 1)) := by
        rw [show 26 * (i / 26) + 26 - i = (26 * (i / 26) + 26 - (i + 1)) + 1 by omega, Nat.pow_succ, Nat.mul_comm]
      rw [e, Nat.mod_mul, Nat.div_div_eq_div_mul, ← Nat.pow_succ, Nat.add_comm]
    · rw [setD_at _ _ _ _ hq, ih d hd, rdD, rdD]
      by_cases hgt : i < 26 * d
      · have m1 : max (26 * d) (255 - j) = 26 * d := by omega
        have m2 : max (26 * d) (255 - (j + 1)) = 26 * d := by omega
        rw [m1, m2]
      · have hle : 26 * d + 26 ≤ i := by omega
        have m1 : 26 * d + 26 - max (26 * d) (255 - j) = 0 := by omega
        have m2 : 26 * d + 26 - max (26 * d) (255 - (j + 1)) = 0 := by omega
        rw [m1, m2, Nat.pow_zero, Nat.mod_one, Nat.mod_one]
theorem digits_val (K : Nat) (t : List Nat) (ht : ∀ d, d < 10 → t.getD d 0 = K / 67108864 ^ d % 67108864) : ∀ r, r ≤ 10 → vs t r = K % 67108864 ^ r
  | 0, _ => by rw [vs, Nat.pow_zero, Nat.mod_one]
  | r + 1, h => by
    rw [vs, digits_val K t ht r (by omega), ht r (by omega), Nat.pow_succ, Nat.mod_mul, Nat.mul_comm (67108864 ^ r)]
theorem rd_dg (k : List UInt8) : Dg (rdL k 255) ∧ V (rdL k 255) = K255 k := by
  have hD : ∀ d, d < 10 → (rdL k 255).getD d 0 = K255 k / 67108864 ^ d % 67108864 := fun d hd => by
    rw [rd_at k 255 (Nat.le_refl _) d hd, rdD]
    have m : max (26 * d) (255 - 255) = 26 * d := by omega
    rw [m, show 26 * d + 26 - 26 * d = 26 by omega, Nat.pow_mul]
  constructor
  · refine ⟨rd_len k 255, fun i => ?_⟩
    rcases Nat.lt_or_ge i 10 with h | h
    · rw [hD i h]; exact Nat.mod_lt _ (by decide)
    · rw [getD_out _ _ (by rw [rd_len]; omega)]; decide
  · show vs _ 10 = _
    rw [digits_val (K255 k) _ hD 10 (Nat.le_refl _)]
    refine Nat.mod_eq_of_lt (Nat.lt_of_lt_of_le (Nat.mod_lt _ (Nat.two_pow_pos 255)) ?_)
    decide +kernel
theorem rd_small (k : List UInt8) (j : Nat) (hj : j ≤ 255) (d : Nat) (hd : d < 10) : (rdL k j).getD d 0 < 67108864 := by
  rw [rd_at k j hj d hd, rdD]
  refine Nat.lt_of_lt_of_le (Nat.mod_lt _ (Nat.two_pow_pos _)) ?_
  exact Nat.pow_le_pow_right (by decide) (show _ ≤ 26 by omega)

structure Rds (n : Nat) (w wx : World) (k : List UInt8) (x : List Nat) : Prop where
  ke : Blk wx n (k.map byt) 23
  re : Blk wx (n + 1) (z10n.map dg) 134
  xx : Blk wx (n + 1 + 1) (x.map dg) 134
  be : Below n w wx
theorem Rds.on {n : Nat} {w wx wy : World} {k : List UInt8} {x : List Nat} (h : Rds n w wx k x) (hb : Below wx.heap.size wx wy) : Rds n w wy k x :=
  ⟨h.ke.on hb, h.re.on hb, h.xx.on hb, h.be.trans (hb.mono (by have := h.ke.lt; omega))⟩
theorem Rds.set {n : Nat} {w wx : World} {k : List UInt8} {x : List Nat} (h : Rds n w wx k x) (j v : Nat) : Rds n w (wx.setCell ⟨n + 1 + 1, j, none⟩ (.int .i64 (v : Int))) k (x.set j v) :=
  ⟨h.ke.setOther _ _ _ (by omega), h.re.setOther _ _ _ (by omega), by rw [← dgs_set]; exact h.xx.set j _, h.be.setCell (by show n ≤ n + 1 + 1; omega) _⟩

set_option maxRecDepth 100000 in
set_option maxHeartbeats 8000000 in
theorem refread_any (k : List UInt8) (lk : k.length = 32) (w : World) : Calls Tryd.prog 77 #[.agg (k.map byt).toArray] w fun e w' => e = .returned (num (rdL k 255)) ∧ Below w.heap.size w w' := by
  have HS := hide (rd_small k)
  have HB := hide (fun b hb W => bit_any k lk b hb W)
  go_enter Tryd.func77, Tryd.ntmps77
  go_upto_region 2 with (first | (refine wpList_boxAt rfl 23 (.tmp 0) rfl (k.map byt) rfl (w.heap.size) rfl ?_) | (refine wpList_newAt rfl 134 rfl (z10n.map dg) zero75 (w.heap.size + 1) (size1 _ _) ?_) | (refine wpList_newAt rfl 134 rfl (z10n.map dg) zero75 (w.heap.size + 1 + 1) (size2 _ _ _) ?_))
  have h0 : Hid (Rds w.heap.size w (((w.alloc (.cells (k.map byt).toArray 23)).alloc (.cells (z10n.map dg).toArray 134)).alloc (.cells (z10n.map dg).toArray 134)) k (rdL k 0)) := by
    refine ⟨((Blk.new _ _ _).alloc _).alloc _, ?_, ?_, by go_grown⟩
    · have := (Blk.new (w.alloc (.cells (k.map byt).toArray 23)) (z10n.map dg) 134).alloc (.cells (z10n.map dg).toArray 134)
      simpa using this
    · have := Blk.new ((w.alloc (.cells (k.map byt).toArray 23)).alloc (.cells (z10n.map dg).toArray 134)) (z10n.map dg) 134
      rw [rdL]
      simpa using this
  generalize ((w.alloc (.cells (k.map byt).toArray 23)).alloc (.cells (z10n.map dg).toArray 134)).alloc (.cells (z10n.map dg).toArray 134) = w1 at h0 ⊢
  obtain ⟨n, hn⟩ : ∃ n, w.heap.size = n := ⟨_, rfl⟩
  rw [hn] at h0 ⊢
  go_wp2
  go_loopw [4] (fun i wr => ∃ j : Nat, j ≤ 255 ∧ i = .int .i64 (254 - (j : Int)) ∧ Hid (Rds n w wr k (rdL k j))) (fun i _ => ((intOf i) + 1).toNat)
  case atStart => exact ⟨0, by omega, rfl, h0⟩
  case round =>
    obtain ⟨j, hj, rfl, hs⟩ := hrel
    have hln := rd_len k j
    have hsm := HS.out j hj
    have hpe : Hid (rdL k (j + 1) = (rdL k j).set ((254 - j) / 26) (2 * (rdL k j).getD ((254 - j) / 26) 0 + kb k (254 - j))) := by rw [rdL]; exact hide rfl
    obtain ⟨L, hL⟩ : ∃ L, rdL k j = L := ⟨_, rfl⟩
    have HL := hide hL
    rw [hL] at hs hln hsm hpe
    clear hL
    by_cases hlt : j < 255
    · obtain ⟨b, hb⟩ : ∃ b, b = 254 - j := ⟨_, rfl⟩
      have hbi : (254 : Int) - (j : Int) = (b : Int) := by omega
      rw [hbi]
      rw [← hb] at hpe
      have hge : (0 : Int) ≤ (b : Int) := by omega
      have hbl : b ≤ 254 := by omega
      obtain ⟨d, hd⟩ : ∃ d, d = b / 26 := ⟨_, rfl⟩
      rw [← hd] at hpe
      have q1 : (b : Int).tdiv 26 = (d : Int) := by rw [Int.tdiv_eq_ediv_of_nonneg (by omega)]; omega
      have q2 : (b : Int) / 26 = (d : Int) := by omega
      have hdz : (d : Int) < 10 := by omega
      have q5 : IntKind.i64.wrap (d : Int) = (d : Int) := wrap64_small (by omega) (by omega)
      have hxs := hsm d (by omega)
      have hx := dgs_at L d (by omega)
      obtain ⟨x, hxx⟩ : ∃ x, L.getD d 0 = x := ⟨_, rfl⟩
      rw [hxx] at hpe hxs hx
      have cb := HB.out b (by omega)
      have hvl := kb_lt k b
      obtain ⟨v, hv⟩ : ∃ v, kb k b = v := ⟨_, rfl⟩
      rw [hv] at hpe cb hvl
      obtain ⟨y, hy⟩ : ∃ y, 2 * x = y := ⟨_, rfl⟩
      obtain ⟨z, hz⟩ : ∃ z, y + v = z := ⟨_, rfl⟩
      rw [hy, hz] at hpe
      have e1 : IntKind.i64.wrap (2 * (x : Int)) = (y : Int) := by rw [wrap64_small (by omega) (by omega)]; omega
      have e2 : IntKind.i64.wrap ((y : Int) + (v : Int)) = (z : Int) := by rw [wrap64_small (by omega) (by omega)]; omega
      have HBB := hide hb
      clear hb hbi hd hxx hv hy hz hxs hsm
      go_upto_region 5 with fail
      refine reg_lastS (by kernel_rfl) 12 rfl rfl (by kernel_rfl) rfl rfl (.store 3 (.tmp 20) (.tmp 19)) rfl ?_
      simp only [List.take_succ_cons, List.take_zero]
      refine wpLex_cons2 _ (uni_val (by rfl) (Op.move (Operand.tmp 4)) rfl (.int .i64 (b : Int)) (fun o' ho W _ => by go_simp)) (by simp only [Act.put, List.setIfInBounds_toArray, List.set_cons_zero, List.set_cons_succ]; rfl) ?_; refine wpLex_cons2 _ (uni_val (by rfl) (Op.binOp BinOp.quo 3 (Operand.tmp 9) (Operand.const (Value.int IntKind.i64 26)) 3) rfl (.int .i64 (d : Int)) (fun o' ho W _ => by go_simp)) (by simp only [Act.put, List.setIfInBounds_toArray, List.set_cons_zero, List.set_cons_succ]; rfl) ?_; refine wpLex_cons2 _ (uni_val (by rfl) (Op.move (Operand.tmp 4)) rfl (.int .i64 (b : Int)) (fun o' ho W _ => by go_simp)) (by simp only [Act.put, List.setIfInBounds_toArray, List.set_cons_zero, List.set_cons_succ]; rfl) ?_; refine wpLex_cons2 _ (uni_val (by rfl) (Op.binOp BinOp.quo 3 (Operand.tmp 11) (Operand.const (Value.int IntKind.i64 26)) 3) rfl (.int .i64 (d : Int)) (fun o' ho W _ => by go_simp)) (by simp only [Act.put, List.setIfInBounds_toArray, List.set_cons_zero, List.set_cons_succ]; rfl) ?_; refine wpLex_cons2 _ (uni_val (by rfl) (Op.indexAddr 134 (Operand.tmp 3) (Operand.tmp 12)) rfl (.pointer (some ⟨n + 1 + 1, d, none⟩)) (fun o' ho W _ => by go_simp)) (by simp only [Act.put, List.setIfInBounds_toArray, List.set_cons_zero, List.set_cons_succ]; rfl) ?_; refine wpLex_cons2 _ (uni_cell (by rfl) 3 (.tmp 13) rfl (n + 1 + 1) d (.int .i64 (x : Int)) rfl (fun W hW => ((hs.out.xx.on hW).cell d).trans hx) Tryd.underlying3 rfl) (by simp only [Act.put, List.setIfInBounds_toArray, List.set_cons_zero, List.set_cons_succ]; rfl) ?_; refine wpLex_cons2 _ (uni_val (by rfl) (Op.binOp BinOp.mul 3 (Operand.const (Value.int IntKind.i64 2)) (Operand.tmp 14) 3) rfl (.int .i64 (y : Int)) (fun o' ho W _ => by go_simp)) (by simp only [Act.put, List.setIfInBounds_toArray, List.set_cons_zero, List.set_cons_succ]; rfl) ?_; refine wpLex_cons2 _ (uni_row rfl 23 (.tmp 1) rfl n (k.map byt) 23 rfl (fun W hW => hs.out.ke.on hW) Tryd.underlying23 rfl (key_info lk)) (by simp only [Act.put, List.setIfInBounds_toArray, List.set_cons_zero, List.set_cons_succ]; rfl) ?_; refine wpLex_cons2 _ (uni_val (by rfl) (Op.move (Operand.tmp 4)) rfl (.int .i64 (b : Int)) (fun o' ho W _ => by go_simp)) (by simp only [Act.put, List.setIfInBounds_toArray, List.set_cons_zero, List.set_cons_succ]; rfl) ?_; refine wpLex_cons2 _ (uni_callF (by rfl) 79 [Operand.tmp 16, Operand.tmp 17] #[23, 3] rfl [.agg (k.map byt).toArray, .int .i64 (b : Int)] (.int .i64 (v : Int)) rfl enter79 (fun W hW => cb W)) (by simp only [Act.put, List.setIfInBounds_toArray, List.set_cons_zero, List.set_cons_succ]; rfl) ?_; refine wpLex_cons2 _ (uni_val (by rfl) (Op.binOp BinOp.add 3 (Operand.tmp 15) (Operand.tmp 18) 3) rfl (.int .i64 (z : Int)) (fun o' ho W _ => by go_simp)) (by simp only [Act.put, List.setIfInBounds_toArray, List.set_cons_zero, List.set_cons_succ]; rfl) ?_; refine wpLex_cons2 _ (uni_val (by rfl) (Op.indexAddr 134 (Operand.tmp 3) (Operand.tmp 10)) rfl (.pointer (some ⟨n + 1 + 1, d, none⟩)) (fun o' ho W _ => by go_simp)) (by simp only [Act.put, List.setIfInBounds_toArray, List.set_cons_zero, List.set_cons_succ]; rfl) ?_; refine ⟨fun W => W.setCell ⟨n + 1 + 1, d, none⟩ (.int .i64 (z : Int)), fun o' ho W hW => ?_, fun W hW => ?_⟩
      · have hc := ((hs.out.xx.on hW).cell d).trans hx
        have hf := (hs.out.xx.on hW).frozen d
        go_simp
      · have hs2 := hide ((hs.out.on hW).set d z)
        clear hW
        dsimp only
        generalize W.setCell ⟨n + 1 + 1, d, none⟩ (.int .i64 (z : Int)) = wv at hs2 ⊢
        go_wp2
        go_roundw
        case rel =>
          refine ⟨j + 1, by omega, by have := HBB.out; go_num, ?_⟩
          rw [hpe.out]
          exact hs2
        case measure => have := HBB.out; simp [intOf] <;> omega
    · obtain rfl : j = 255 := by omega
      clear hpe
      go_wp2_with (first | (refine wpList_load_row rfl 134 (.tmp 3) rfl (n + 1 + 1) rfl 134 (L.map dg).toArray (0, 0) _ hs.out.xx Tryd.underlying134 rfl (nm_infoA hln) ?_) | (refine wpList_store_row rfl 134 (.tmp 2) (.tmp 21) rfl (n + 1) (L.map dg).toArray rfl rfl 134 (z10n.map dg).toArray hs.out.re (nm_infoA hln) (nm_size hln) (dgs_one _) ?_))
      refine bodyPost_ret (results_cell_row Tryd.results77 _ _ (n + 1) 134 (L.map dg).toArray (0, 0) _ rfl (hs.out.re.setRow _) Tryd.underlying134 rfl (nm_infoA hln)) rfl ?_
      exact ⟨by rw [HL.out]; rfl, by first | (rw [hn]; exact below_setRow hs.out.be _ _ (by omega)) | exact below_setRow hs.out.be _ _ (by omega)⟩
def sbF (a b : List Nat) (i : Nat) : Nat := a.getD i 0 + (if i = 0 then 134216512 else 134217726) - b.getD i 0
theorem sb_one {f z x y v q : Nat} (hz : z = f) (hF : f = x + q - y) (hv : v = x + q) (b2 : y < 67108864) (hq : 67108864 ≤ q := by decide) : z + y = v := by omega
theorem sb_two {x v q : Nat} (hv : v = x + q) (b1 : x < 67108864) (hq : q ≤ 134217728 := by decide) : IntKind.i64.wrap ((x : Int) + (q : Int)) = (v : Int) := by
  rw [wrap64_small (by omega) (by omega)]; omega
theorem sb_three {x y z v q : Nat} (h : z + y = v) (hv : v = x + q) (b1 : x < 67108864) (hq : q ≤ 134217728 := by decide) : IntKind.i64.wrap ((v : Int) - (y : Int)) = (z : Int) := by
  rw [show (v : Int) - (y : Int) = (z : Int) by omega]
  exact wrap64_small (by omega) (by omega)
set_option maxRecDepth 100000 in
set_option maxHeartbeats 4000000 in
theorem sub_walk (a b r : List Nat) (ha : Dg a) (hb : Dg b)
    (c1 : ∀ W, Calls Tryd.prog 88 #[num (upL a (sbF a b) 10)] W fun e w' => e = .returned (num r) ∧ Below W.heap.size W w') (lr : r.length = 10) (w : World) :
    Calls Tryd.prog 81 #[num a, num b] w fun e w' => e = .returned (num r) ∧ Below w.heap.size w w' := by
  have la := ha.len
  have lb := hb.len
  have HA := hide ha.lt
  have HB := hide hb.lt
  clear ha hb
  go_enter Tryd.func81, Tryd.ntmps81
  go_upto_region 1 with (first | (refine wpList_boxAt rfl 134 (.tmp 0) rfl (a.map dg) rfl (w.heap.size) rfl ?_) | (refine wpList_boxAt rfl 134 (.tmp 1) rfl (b.map dg) rfl (w.heap.size + 1) (size1 _ _) ?_) | (refine wpList_newAt rfl 134 rfl (z10n.map dg) zero75 (w.heap.size + 1 + 1) (size2 _ _ _) ?_))
  have h0 : Hid (Ari w.heap.size w (((w.alloc (.cells (a.map dg).toArray 134)).alloc (.cells (b.map dg).toArray 134)).alloc (.cells (z10n.map dg).toArray 134)) (upL a (sbF a b) 0) b) := by
    refine ⟨((Blk.new _ _ _).alloc _).alloc _, ?_, ?_, by go_grown⟩
    · have := (Blk.new (w.alloc (.cells (a.map dg).toArray 134)) (b.map dg) 134).alloc (.cells (z10n.map dg).toArray 134)
      simpa using this
    · have := Blk.new ((w.alloc (.cells (a.map dg).toArray 134)).alloc (.cells (b.map dg).toArray 134)) (z10n.map dg) 134
      simpa using this
  generalize ((w.alloc (.cells (a.map dg).toArray 134)).alloc (.cells (b.map dg).toArray 134)).alloc (.cells (z10n.map dg).toArray 134) = w1 at h0 ⊢
  obtain ⟨n, hn⟩ : ∃ n, w.heap.size = n := ⟨_, rfl⟩
  rw [hn] at h0 ⊢
  have HC := hide c1
  clear c1
  go_wp2
  go_loopw [5] (fun i wr => ∃ t : Nat, t ≤ 10 ∧ i = .int .i64 t ∧ Hid (Ari n w wr (upL a (sbF a b) t) b)) (fun i _ => 10 - (intOf i).toNat)
  case atStart => exact ⟨0, by omega, rfl, h0⟩
  case round =>
    obtain ⟨t, ht, rfl, hs⟩ := hrel
    have hlen := up_len a (sbF a b) t
    have hat := up_at a (sbF a b) t t (Nat.le_refl _)
    have hup : Hid (upL a (sbF a b) (t + 1) = (upL a (sbF a b) t).set t (sbF a b t)) := by rw [upL]; exact hide rfl
    obtain ⟨L, hL⟩ : ∃ L, upL a (sbF a b) t = L := ⟨_, rfl⟩
    have HL := hide hL
    rw [hL] at hs hlen hat hup
    clear hL
    rw [la] at hlen
    by_cases hlt : t < 10
    · have hlz : (t : Int) < 10 := by omega
      have b1 := HA.out t
      have b2 := HB.out t
      obtain ⟨x, hx⟩ : ∃ x, a.getD t 0 = x := ⟨_, rfl⟩
      obtain ⟨y, hy⟩ : ∃ y, b.getD t 0 = y := ⟨_, rfl⟩
      have hF : sbF a b t = x + (if t = 0 then 134216512 else 134217726) - y := by unfold sbF; rw [hx, hy]
      rw [hx] at b1 hat
      rw [hy] at b2
      have hc1 : wr.cell? ⟨n, t, none⟩ = some (.int .i64 (x : Int)) := by rw [hs.out.va.cell, dgs_at L t (by omega), hat]
      have hc2 : wr.cell? ⟨n + 1, t, none⟩ = some (.int .i64 (y : Int)) := by rw [hs.out.vb.cell, dgs_at b t (by omega), hy]
      have hfz := hs.out.va.frozen t
      by_cases h0t : t = 0
      · rw [if_pos h0t] at hF
        subst h0t
        obtain ⟨v, hv⟩ : ∃ v, v = x + 134216512 := ⟨_, rfl⟩
        obtain ⟨z, hz⟩ : ∃ z, z = sbF a b 0 := ⟨_, rfl⟩
        have hzy : z + y = v := sb_one (q := 134216512) hz hF hv b2
        rw [← hz] at hup
        have e1 : IntKind.i64.wrap ((x : Int) + 134216512) = (v : Int) := sb_two (q := 134216512) hv b1
        have e2 : IntKind.i64.wrap ((v : Int) - (y : Int)) = (z : Int) := sb_three (q := 134216512) hzy hv b1
        clear hx hy hz hv b1 b2 hat hF hzy
        go_wp2
        go_region
        go_wp2
        go_roundw
        case rel =>
          refine ⟨0 + 1, by omega, by go_num, ?_⟩
          rw [hup.out]
          exact hs.out.drew.set 0 z
        case measure => simp [intOf] <;> omega
      · rw [if_neg h0t] at hF
        have hti : ¬ (t : Int) = 0 := by omega
        have ht0 : (0 : Int) ≤ (t : Int) := by omega
        clear h0t
        obtain ⟨v, hv⟩ : ∃ v, v = x + 134217726 := ⟨_, rfl⟩
        obtain ⟨z, hz⟩ : ∃ z, z = sbF a b t := ⟨_, rfl⟩
        have hzy : z + y = v := sb_one (q := 134217726) hz hF hv b2
        rw [← hz] at hup
        have e1 : IntKind.i64.wrap ((x : Int) + 134217726) = (v : Int) := sb_two (q := 134217726) hv b1
        have e2 : IntKind.i64.wrap ((v : Int) - (y : Int)) = (z : Int) := sb_three (q := 134217726) hzy hv b1
        clear hx hy hz hv b1 b2 hat hF hzy
        go_upto_if 12 with fail
        rw [show ((t : Int) == 0) = false by simpa using hti]
        clear hti ht0
        go_wp2
        go_region
        go_wp2
        go_roundw
        case rel =>
          refine ⟨t + 1, by omega, by go_num, ?_⟩
          rw [hup.out]
          exact hs.out.drew.set t z
        case measure => simp [intOf] <;> omega
    · obtain rfl : t = 10 := by omega
      have hcc := HC.out
      rw [HL.out] at hcc
      go_wp2_with (first | (refine wpList_load_row rfl 134 (.tmp 2) rfl n rfl 134 (L.map dg).toArray (0, 0) _ hs.out.va Tryd.underlying134 rfl (nm_infoA hlen) ?_) | (go_at_call 88; refine (hcc _).mono ?_; rintro e w3 ⟨rfl, hb3⟩; have B3 := hide hb3; clear hb3) | (refine wpList_store_row rfl 134 (.tmp 4) (.tmp 25) rfl (n + 1 + 1) (r.map dg).toArray rfl rfl 134 (z10n.map dg).toArray (hs.out.re.on B3.out) (nm_infoA lr) (nm_size lr) (dgs_one r) ?_))
      refine bodyPost_ret (results_cell_row Tryd.results81 _ _ (n + 1 + 1) 134 (r.map dg).toArray (0, 0) _ rfl ((hs.out.re.on B3.out).setRow _) Tryd.underlying134 rfl (nm_infoA lr)) rfl ?_
      exact ⟨rfl, by first | (rw [hn]; exact below_setRow (hs.out.be.trans (B3.out.mono (by have := hs.out.be.size; omega))) _ _ (by omega)) | exact below_setRow (hs.out.be.trans (B3.out.mono (by have := hs.out.be.size; omega))) _ _ (by omega)⟩
def p64 : List Nat := [134216512, 134217726, 134217726, 134217726, 134217726, 134217726, 134217726, 134217726, 134217726, 134217726]
theorem p64_at (i : Nat) (hi : i < 10) : p64.getD i 0 = if i = 0 then 134216512 else 134217726 := by
  have h : ∀ i : Fin 10, p64.getD i.val 0 = if i.val = 0 then 134216512 else 134217726 := by decide
  exact h ⟨i, hi⟩
theorem V_p64 : V p64 = 64 * Prm.P := by decide +kernel
theorem vs_sub (a b : List Nat) (hb : ∀ i, b.getD i 0 < 67108864) (t : List Nat) (ht : ∀ i, i < 10 → t.getD i 0 = sbF a b i) : ∀ r, r ≤ 10 → vs t r + vs b r = vs a r + vs p64 r
  | 0, _ => rfl
  | r + 1, h => by
    have ih := vs_sub a b hb t ht r (by omega)
    have hbr := hb r
    have e : t.getD r 0 + b.getD r 0 = a.getD r 0 + p64.getD r 0 := by
      rw [ht r (by omega), p64_at r (by omega), sbF]
      split <;> omega
    have e2 : t.getD r 0 * 67108864 ^ r + b.getD r 0 * 67108864 ^ r = a.getD r 0 * 67108864 ^ r + p64.getD r 0 * 67108864 ^ r := by rw [← Nat.add_mul, ← Nat.add_mul, e]
    rw [vs, vs, vs, vs]
    omega
theorem sub_ok' (a b : List Nat) (ha : Dg a) (hb : Dg b) : ∃ r, Dg r ∧ (V r + V b) % Prm.P = V a % Prm.P ∧ ∀ w, Calls Tryd.prog 81 #[num a, num b] w fun e w' => e = .returned (num r) ∧ Below w.heap.size w w' := by
  have hl : (upL a (sbF a b) 10).length = 10 := by rw [up_len, ha.len]
  have hD : ∀ i, i < 10 → (upL a (sbF a b) 10).getD i 0 = sbF a b i := fun i hi => up_in a _ 10 ha.len 10 (Nat.le_refl _) i hi
  obtain ⟨r, hr, hv, hc⟩ := carried_ok (upL a (sbF a b) 10) hl (fun i => by
    rcases Nat.lt_or_ge i 10 with h | h
    · rw [hD i h, sbF]; have := ha.lt i; split <;> omega
    · rw [getD_out _ _ (by omega)]; omega)
  refine ⟨r, hr, ?_, fun w => sub_walk a b r ha hb hc hr.len w⟩
  have e : V (upL a (sbF a b) 10) + V b = V a + 64 * Prm.P := by
    rw [← V_p64]
    exact vs_sub a b hb.lt _ hD 10 (Nat.le_refl _)
  rw [Nat.add_mod, hv, ← Nat.add_mod, e, Nat.mul_comm, Nat.add_mul_mod_self_left]

def z20n : List Nat := List.replicate 20 0
/-- One row of products. -/
def miL (a b : List Nat) (i : Nat) (T : List Nat) : Nat → List Nat
  | 0 => T
  | j + 1 => (miL a b i T j).set (i + j) ((miL a b i T j).getD (i + j) 0 + a.getD i 0 * b.getD j 0)
def moL (a b : List Nat) : Nat → List Nat
  | 0 => z20n
  | i + 1 => miL a b i (moL a b i) 10
theorem mi_len (a b : List Nat) (i : Nat) (T : List Nat) : ∀ j, (miL a b i T j).length = T.length
  | 0 => rfl
  | j + 1 => by rw [miL, List.length_set, mi_len a b i T j]
theorem mo_len (a b : List Nat) : ∀ i, (moL a b i).length = 20
  | 0 => by simp [moL, z20n]
  | i + 1 => by rw [moL, mi_len, mo_len a b i]
theorem vs_setk (t : List Nat) (k x : Nat) (hk : k < t.length) : ∀ r, vs (t.set k (t.getD k 0 + x)) r = vs t r + (if k < r then x * 67108864 ^ k else 0)
  | 0 => by simp [vs]
  | r + 1 => by
    rw [vs, vs, vs_setk t k x hk r]
    by_cases h : k = r
    · subst h
      rw [setD_in _ _ _ hk, if_neg (by omega), if_pos (by omega), Nat.add_mul]
      omega
    · rw [setD_at _ _ _ _ h]
      by_cases h2 : k < r
      · rw [if_pos h2, if_pos (by omega)]; omega
      · rw [if_neg h2, if_neg (by omega)]; omega
theorem alg1 (t p v q X Y : Nat) : t + p * v * X + p * q * (X * Y) = t + p * (v + q * Y) * X := by
  rw [Nat.mul_add, Nat.add_mul, Nat.add_assoc, Nat.mul_comm X Y, ← Nat.mul_assoc (p * q) Y X, Nat.mul_assoc p q Y]
theorem alg2 (v w d X Y : Nat) : v + X * w + d * (X * Y) = v + X * (w + d * Y) := by rw [Nat.mul_add, Nat.add_assoc, Nat.mul_left_comm]
theorem mi_val (a b : List Nat) (i : Nat) (hi : i < 10) (T : List Nat) (hT : T.length = 20) : ∀ j, j ≤ 10 → vs (miL a b i T j) 20 = vs T 20 + a.getD i 0 * vs b j * 67108864 ^ i
  | 0, _ => by
    show vs T 20 = vs T 20 + a.getD i 0 * 0 * _
    rw [Nat.mul_zero, Nat.zero_mul, Nat.add_zero]
  | j + 1, hj => by
    rw [miL, vs_setk _ _ _ (by rw [mi_len]; omega), mi_val a b i hi T hT j (by omega), if_pos (by omega), Nat.pow_add]
    exact alg1 _ _ _ _ _ _
theorem mo_val (a b : List Nat) : ∀ i, i ≤ 10 → vs (moL a b i) 20 = vs a i * vs b 10
  | 0, _ => by
    have h : vs z20n 20 = 0 := by decide +kernel
    rw [moL, h, vs, Nat.zero_mul]
  | i + 1, hi => by
    rw [moL, mi_val a b i (by omega) _ (mo_len a b i) 10 (Nat.le_refl _), mo_val a b i (by omega)]
    show _ = (vs a i + a.getD i 0 * 67108864 ^ i) * vs b 10
    rw [Nat.add_mul, Nat.mul_right_comm (a.getD i 0)]
theorem mi_le {a b : List Nat} (ha : ∀ i, a.getD i 0 < 67108864) (hb : ∀ i, b.getD i 0 < 67108864) (i : Nat) (T : List Nat) : ∀ j k, (miL a b i T j).getD k 0 ≤ T.getD k 0 + (if k < i + j ∧ i ≤ k then 4503599493152769 else 0)
  | 0, k => by rw [miL]; omega
  | j + 1, k => by
    have ih := mi_le ha hb i T j k
    have h1 := ha i
    have h2 := hb j
    have h3 : a.getD i 0 * b.getD j 0 ≤ 67108863 * 67108863 := Nat.mul_le_mul (by omega) (by omega)
    rw [miL]
    by_cases hk : i + j = k
    · subst hk
      rw [if_neg (by omega)] at ih
      rcases Nat.lt_or_ge (i + j) (miL a b i T j).length with hl | hl
      · rw [setD_in _ _ _ hl, if_pos (by omega)]
        omega
      · rw [getD_out _ _ (by rw [List.length_set]; omega)]
        omega
    · rw [setD_at _ _ _ _ hk]
      by_cases hc : k < i + j ∧ i ≤ k
      · rw [if_pos hc] at ih
        rw [if_pos (by omega)]
        exact ih
      · rw [if_neg hc] at ih
        rw [if_neg (by omega)]
        exact ih
theorem mo_le {a b : List Nat} (ha : ∀ i, a.getD i 0 < 67108864) (hb : ∀ i, b.getD i 0 < 67108864) : ∀ i k, (moL a b i).getD k 0 ≤ i * 4503599493152769
  | 0, k => by
    rw [moL]
    rcases Nat.lt_or_ge k 20 with h | h
    · have hz : ∀ i : Fin 20, z20n.getD i.val 0 = 0 := by decide
      have e : z20n.getD k 0 = 0 := hz ⟨k, h⟩
      rw [e]; omega
    · rw [getD_out _ _ (by simp [z20n]; omega)]; omega
  | i + 1, k => by
    have ih := mo_le ha hb i k
    have h := mi_le ha hb i (moL a b i) 10 k
    rw [moL, Nat.add_mul]
    split at h <;> omega

/-! A pass over more digits. -/
theorem psL_inN (t : List Nat) (N : Nat) (ht : t.length = N) : ∀ i, i ≤ N → ∀ j, j < i → (psL t i).getD j 0 = (t.getD j 0 + psC t j) % 67108864
  | 0, _, j, h => by omega
  | i + 1, hi, j, h => by
    rw [psL]
    by_cases hq : i = j
    · subst hq
      rw [setD_in _ _ _ (by rw [psL_len]; omega)]
    · rw [setD_at _ _ _ _ hq, psL_inN t N ht i (by omega) j (by omega)]
theorem ps_valN (t : List Nat) (N : Nat) (ht : t.length = N) : ∀ i, i ≤ N → vs (psL t N) i + psC t i * 67108864 ^ i = vs t i
  | 0, _ => by simp [vs, psC]
  | i + 1, hi => by
    have ih := ps_valN t N ht i (by omega)
    rw [vs, vs, psL_inN t N ht N (Nat.le_refl _) i (by omega), psC, ← ih]
    obtain ⟨x, hx⟩ : ∃ x, t.getD i 0 + psC t i = x := ⟨_, rfl⟩
    have e : t.getD i 0 * 67108864 ^ i + psC t i * 67108864 ^ i = x * 67108864 ^ i := by rw [← Nat.add_mul, hx]
    rw [hx, Nat.pow_succ, Nat.mul_comm (67108864 ^ i), ← Nat.mul_assoc, Nat.add_assoc, ← Nat.add_mul, Nat.mod_add_div', Nat.add_assoc, Nat.add_comm (psC t i * _), e]
theorem psL_ltN (t : List Nat) (N : Nat) (ht : t.length = N) (i : Nat) : (psL t N).getD i 0 < 67108864 := by
  rcases Nat.lt_or_ge i N with h | h
  · rw [psL_inN t N ht N (Nat.le_refl _) i h]; exact Nat.mod_lt _ (by decide)
  · rw [getD_out _ _ (by rw [psL_len]; omega)]; decide
theorem psC_leN (t : List Nat) (hb : ∀ i, t.getD i 0 ≤ 45035994931527690) : ∀ i, psC t i ≤ 1073741824
  | 0 => by simp [psC]
  | i + 1 => by
    have h1 := psC_leN t hb i
    have h2 := hb i
    rw [psC]
    omega
/-- The upper half folded. -/
def fdF (t : List Nat) (i : Nat) : Nat := t.getD i 0 + 608 * t.getD (i + 10) 0
theorem vs_shift (t : List Nat) : ∀ r, vs t (10 + r) = vs t 10 + 67108864 ^ 10 * vs (t.drop 10) r
  | 0 => by
    show vs t 10 = vs t 10 + _ * 0
    rw [Nat.mul_zero, Nat.add_zero]
  | r + 1 => by
    have e : (t.drop 10).getD r 0 = t.getD (10 + r) 0 := by rw [List.getD_eq_getElem?_getD, List.getElem?_drop, ← List.getD_eq_getElem?_getD]
    show vs t (10 + r) + t.getD (10 + r) 0 * 67108864 ^ (10 + r) = _
    rw [vs_shift t r, Nat.pow_add]
    show _ = vs t 10 + 67108864 ^ 10 * (vs (t.drop 10) r + (t.drop 10).getD r 0 * 67108864 ^ r)
    rw [e]
    exact alg2 _ _ _ _ _
theorem vs_fd (t m : List Nat) (hm : ∀ i, i < 10 → m.getD i 0 = fdF t i) : ∀ r, r ≤ 10 → vs m r = vs t r + 608 * vs (t.drop 10) r
  | 0, _ => by simp [vs]
  | r + 1, h => by
    have e : (t.drop 10).getD r 0 = t.getD (r + 10) 0 := by rw [List.getD_eq_getElem?_getD, List.getElem?_drop, ← List.getD_eq_getElem?_getD, Nat.add_comm]
    rw [vs, vs, vs, vs_fd t m hm r (by omega), hm r (by omega), fdF, e, Nat.add_mul, Nat.mul_add, Nat.mul_assoc]
    omega
theorem mul_num (a b : List Nat) (ha : Dg a) (hb : Dg b) (m : List Nat) (hm : ∀ i, i < 10 → m.getD i 0 = fdF (psL (moL a b 10) 20) i) : V m % Prm.P = (V a * V b) % Prm.P := by
  have h20 := ps_valN (moL a b 10) 20 (mo_len a b 10) 20 (Nat.le_refl _)
  rw [mo_val a b 10 (Nat.le_refl _)] at h20
  have hA : vs a 10 < 67108864 ^ 10 := vs_lt ha.lt 10
  have hB : vs b 10 < 67108864 ^ 10 := vs_lt hb.lt 10
  have hAB : vs a 10 * vs b 10 < 67108864 ^ 20 := by
    have := Nat.mul_lt_mul'' hA hB
    rw [← Nat.pow_add] at this
    exact this
  have hc : psC (moL a b 10) 20 = 0 := by
    rcases Nat.eq_zero_or_pos (psC (moL a b 10) 20) with h | h
    · exact h
    · have := Nat.le_mul_of_pos_left (67108864 ^ 20) h
      omega
  rw [hc, Nat.zero_mul, Nat.add_zero] at h20
  have hs := vs_shift (psL (moL a b 10) 20) 10
  have hf := vs_fd (psL (moL a b 10) 20) m hm 10 (Nat.le_refl _)
  have hp : 67108864 ^ 10 = 608 + Prm.P * 32 := by decide +kernel
  show vs m 10 % _ = (vs a 10 * vs b 10) % _
  rw [show 10 + 10 = 20 from rfl, h20] at hs
  rw [hs, hf, hp, Nat.add_mul, Nat.mul_assoc Prm.P, ← Nat.add_assoc, Nat.add_mul_mod_self_left]
end Go.Proofs.YtoceepmehmacbaaDoor.Cv
