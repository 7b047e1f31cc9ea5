import Derived.Test.YthlpfpggjkocmaaYd
set_option linter.unusedVariables false
set_option linter.unusedSimpArgs false
namespace Go.Proofs.Ythlpfpggjkocmaa
open Go.RowKit

theorem ZE.min {P : Program} {n : Fm} {ops : Array Oper} {S : Nat → World → Prop} {K : List (Nat × Value) → (World → Prop) → Prop} {i c lv : Nat} {ty : TypeId} {ps : String} {af : Array Edge} {gd : Option (Nat × Bool)} {r : List (Oper × Nat × Nat)} {e : List (Nat × Value)} {C : World → Prop} {x y : Operand} {ts : Array TypeId} {u u' v : Value} (h1 : decide (c = 1) = false) (hw : wantE ops e ⟨some i, .call { callee := .builtin .min, args := #[x, y], argTypes := ts }, ty, ps, af, gd⟩ = some true) (hi : decide (i < n.k) = true) (hx : evE e x = some u) (hy : evE e y = some u') (hc : ∀ w, C w → SZ S c lv C w) (hr : ∀ w, (Builtin.min_ ts ty #[u, u']).run P w = .ok v w) (k : wpZE P n ops S K r ((i, v) :: e) C) : wpZE P n ops S K ((⟨some i, .call { callee := .builtin .min, args := #[x, y], argTypes := ts }, ty, ps, af, gd⟩, c, lv) :: r) e C :=
  ZE.val h1 hw hi hc (fun a ha W _ => by simp [execOp, resolve, invoke, builtin, ha.ev hx, ha.ev hy, hr, Result.andThen]) k
theorem Ob.at37 {w : World} {b : Nat} {v : Value} {bs : List UInt8} (h : Ob w b v bs) {i : Nat} (hi : i < bs.length) : ∃ ad, (∀ W, (Instr.indexAt 37 v (.int .i64 (i : Int))).run Try.prog W = .ok (.pointer (some ad)) W) ∧ ∀ W, Below w.heap.size w W → (Instr.loadAt 5 (.pointer (some ad))).run Try.prog W = .ok (byt (bs.getD i 0)) W := by
  have hg : bs[i]? = some (bs.getD i 0) := by rw [List.getD_eq_getElem?_getD, List.getElem?_eq_getElem hi]; rfl
  obtain ⟨ad, ix, _⟩ := h.has.item hg
  refine ⟨ad, ix, fun W hW => ?_⟩
  obtain ⟨a2, i2, l2⟩ := (h.has.below hW).item hg
  have e := (ix W).symm.trans (i2 W)
  simp only [Result.ok.injEq, Value.pointer.injEq, Option.some.injEq, and_true] at e
  rw [e]
  exact l2
theorem Dk.fx {S : Nat → Prop} {w w' : World} {L : Lay} {N : Nat} {s : Nat → List UInt8} {m c : Nat} (h : Dk w L N s m c) (hf : Fx S w w') (hd : ∀ k, L.F k → ¬ S k) : Dk w' L N s m c := by
  obtain ⟨D, h1, h2⟩ := h.ex
  exact ⟨D, h1.fx hf hd, h2⟩
theorem info36 (a m : Int) (v : Value) : (Try.prog.info? 36).map (·.size) = some (lfC a m v).length := by kernel_rfl
theorem ld36 {W : World} {q : Nat} {a m : Int} {v : Value} (hb : Blk W q (lfC a m v) 36) : (Instr.loadAt 36 (.pointer (some ⟨q, 0, none⟩))).run Try.prog W = .ok (.agg (lfC a m v).toArray) W := run_loadR hb Try.underlying36 rfl (info36 a m v)
theorem quo512 (n : Nat) (hn : n < 100000000) (W : World) (x y : Operand) : (do eqGuard .quo 3 x y (.int .i64 (n : Int)) (.int .i64 512); binOp .quo 3 (.int .i64 (n : Int)) (.int .i64 512) : Sem Value).run Try.prog W = .ok (.int .i64 ((n / 512 : Nat) : Int)) W := by
  go_simp
  rw [IntKind.wrap_i64]
  omega
theorem rem_nat (n k : Nat) (hk : 0 < k) (W : World) (x y : Operand) : (do eqGuard .rem 3 x y (.int .i64 (n : Int)) (.int .i64 (k : Int)); binOp .rem 3 (.int .i64 (n : Int)) (.int .i64 (k : Int)) : Sem Value).run Try.prog W = .ok (.int .i64 ((n % k : Nat) : Int)) W := by
  rw [int_rem _ _ (by omega), Int.tmod_eq_emod_of_nonneg (by omega)]
  rfl
theorem shl8 (k : Nat) (hk : k ≤ 8) (W : World) (x y : Operand) : (do eqGuard .shl 5 x y (.int .u8 1) (.int .i64 (k : Int)); binOp .shl 5 (.int .u8 1) (.int .i64 (k : Int)) : Sem Value).run Try.prog W = .ok (byt (UInt8.ofNat (2 ^ k))) W := by
  have e : byt (UInt8.ofNat (2 ^ k)) = .int .u8 (IntKind.u8.wrap (2 ^ k)) := by
    have h : k = 0 ∨ k = 1 ∨ k = 2 ∨ k = 3 ∨ k = 4 ∨ k = 5 ∨ k = 6 ∨ k = 7 ∨ k = 8 := by omega
    rcases h with rfl | rfl | rfl | rfl | rfl | rfl | rfl | rfl | rfl <;> rfl
  have h0 : ¬ (k : Int) < 0 := by omega
  rw [e]
  clear e
  go_simp
theorem sub8 (k : Nat) (hk : k ≤ 8) (W : World) (x y : Operand) : (do eqGuard .sub 5 x y (byt (UInt8.ofNat (2 ^ k))) (.int .u8 1); binOp .sub 5 (byt (UInt8.ofNat (2 ^ k))) (.int .u8 1) : Sem Value).run Try.prog W = .ok (byt (UInt8.ofNat (2 ^ k - 1))) W := by
  have e : byt (UInt8.ofNat (2 ^ k - 1)) = .int .u8 (IntKind.u8.wrap ((UInt8.ofNat (2 ^ k)).toNat - 1)) := by
    have h : k = 0 ∨ k = 1 ∨ k = 2 ∨ k = 3 ∨ k = 4 ∨ k = 5 ∨ k = 6 ∨ k = 7 ∨ k = 8 := by omega
    rcases h with rfl | rfl | rfl | rfl | rfl | rfl | rfl | rfl | rfl <;> rfl
  rw [e]
  clear e
  generalize UInt8.ofNat (2 ^ k) = z
  unfold byt
  go_simp
theorem and5 (a b : UInt8) (W : World) (x y : Operand) : (do eqGuard .and 5 x y (byt a) (byt b); binOp .and 5 (byt a) (byt b) : Sem Value).run Try.prog W = .ok (byt (a &&& b)) W := by
  unfold byt
  go_simp
  rw [and_u8, UInt8.toNat_and]
theorem mask_mod (x : UInt8) (k : Nat) (hk : k ≤ 8) : (x &&& UInt8.ofNat (2 ^ k - 1)).toNat = x.toNat % 2 ^ k := by
  have h : 2 ^ k - 1 < 256 := by
    have := Nat.pow_le_pow_right (show 0 < 2 by decide) hk
    have : (2 : Nat) ^ 8 = 256 := by decide
    omega
  rw [UInt8.toNat_and, UInt8.toNat_ofNat', Nat.mod_eq_of_lt h, Nat.and_two_pow_sub_one_eq_mod]
theorem neb (b : Bool) (W : World) (x y : Operand) : (do eqGuard .neq 4 x y (.bool b) (.bool b); binOp .neq 4 (.bool b) (.bool b) : Sem Value).run Try.prog W = .ok (.bool false) W := by go_simp
theorem len9s (bs : List UInt8) (W : World) (ty : TypeId) : (Builtin.len_ #[9] ty #[strV bs]).run Try.prog W = .ok (.int .i64 (bs.length : Int)) W := by
  unfold strV
  go_simp
/-- What the second loop has done to the head of the image. -/
def Hd2 (st : Bool) (p : Nat) (bs : List UInt8) (b : UInt8) (i : Nat) : Prop := (st = true → (i = 0 → b = 0) ∧ (0 < i → bAt bs 0 = b.toNat ∧ b.toNat < 2 ^ min p 8 ∧ ∀ j, 1 ≤ j → j < i → bAt bs j = 0)) ∧ (st = false → b = 0 ∧ (i = 512 → bAt bs 511 = 0))
theorem bAt_set (bs : List UInt8) (i j : Nat) (u : UInt8) (hi : i < bs.length) : bAt (bs.set i u) j = if i = j then u.toNat else bAt bs j := by
  unfold bAt
  rw [List.getD_eq_getElem?_getD, List.getD_eq_getElem?_getD, List.getElem?_set]
  by_cases e : i = j
  · rw [if_pos e, if_pos e, if_pos (by omega)]
    rfl
  · rw [if_neg e, if_neg e]
theorem st_cases (i : Nat) (st : Bool) (h : i < 512) : (i = 0 ∧ st = true) ∨ (i = 0 ∧ st = false) ∨ ((0 < i ∧ i < 511) ∧ st = true) ∨ ((0 < i ∧ i < 511) ∧ st = false) ∨ i = 511 := by
  cases st
  · by_cases h0 : i = 0
    · exact .inr (.inl ⟨h0, rfl⟩)
    · by_cases h1 : i = 511
      · exact .inr (.inr (.inr (.inr h1)))
      · exact .inr (.inr (.inr (.inl ⟨by omega, rfl⟩)))
  · by_cases h0 : i = 0
    · exact .inl ⟨h0, rfl⟩
    · by_cases h1 : i = 511
      · exact .inr (.inr (.inr (.inr h1)))
      · exact .inr (.inr (.inl ⟨by omega, rfl⟩))
theorem Hd2.begin (st : Bool) (p : Nat) (bs : List UInt8) : Hd2 st p bs 0 0 := ⟨fun _ => ⟨fun _ => rfl, fun h => by omega⟩, fun _ => ⟨rfl, fun h => by omega⟩⟩
theorem Hd2.first {p : Nat} {bs : List UInt8} {b : UInt8} (hl : 0 < bs.length) (x : UInt8) (hx : x.toNat < 2 ^ min p 8) : Hd2 true p (bs.set 0 x) x 1 := ⟨fun _ => ⟨fun h => by omega, fun _ => ⟨by rw [bAt_set _ _ _ _ hl, if_pos rfl], hx, fun j h1 h2 => by omega⟩⟩, fun h => by cases h⟩
theorem Hd2.zero {st : Bool} {p : Nat} {bs : List UInt8} {b : UInt8} {i : Nat} (h : Hd2 st p bs b i) (hi : 0 < i) (hl : i < bs.length) (h5 : i = 511 ∨ st = true) : Hd2 st p (bs.set i 0) b (i + 1) := by
  refine ⟨fun hs => ⟨fun h0 => by omega, fun _ => ?_⟩, fun hs => ⟨(h.2 hs).1, fun h0 => ?_⟩⟩
  · obtain ⟨h1, h2, h3⟩ := (h.1 hs).2 hi
    refine ⟨by rw [bAt_set _ _ _ _ hl, if_neg (by omega)]; exact h1, h2, fun j hj1 hj2 => ?_⟩
    rw [bAt_set _ _ _ _ hl]
    by_cases e : i = j
    · rw [if_pos e]; rfl
    · rw [if_neg e]; exact h3 j hj1 (by omega)
  · rw [bAt_set _ _ _ _ hl, if_pos (by omega)]
    rfl
theorem Hd2.same {p : Nat} {bs : List UInt8} {b : UInt8} {i : Nat} (h : Hd2 false p bs b i) (hi : i < 511) : Hd2 false p bs b (i + 1) := ⟨fun h => (by cases h), fun _ => ⟨(h.2 rfl).1, fun h0 => by omega⟩⟩
theorem Mrk.stands {p : Nat} {bs : List UInt8} {b : UInt8} (h : Hd2 true p bs b 512) (hl : 512 ≤ bs.length) (hb : ¬ b.toNat = 0) : Mrk (bs.set 511 1) p b.toNat := by
  obtain ⟨h1, h2, h3⟩ := (h.1 rfl).2 (by decide)
  refine .inr ⟨hb, h2, by rw [bAt_set _ _ _ _ (by omega), if_neg (by decide)]; exact h1, fun j hj1 hj2 => ?_, by rw [bAt_set _ _ _ _ (by omega), if_pos rfl]; rfl⟩
  rw [bAt_set _ _ _ _ (by omega), if_neg (by omega)]
  exact h3 j hj1 (by omega)
theorem Mrk.none {st : Bool} {p : Nat} {bs : List UInt8} {b : UInt8} (h : Hd2 st p bs b 512) (hb : st = false ∨ b.toNat = 0) : Mrk bs p b.toNat := by
  cases st with
  | false =>
    obtain ⟨h1, h2⟩ := h.2 rfl
    exact .inl ⟨by rw [h1]; rfl, h2 rfl⟩
  | true =>
    obtain ⟨h1, h2, h3⟩ := (h.1 rfl).2 (by decide)
    exact .inl ⟨hb.elim (fun h => by cases h) id, h3 511 (by decide) (by decide)⟩
/-- The pages so far. -/
def psT (img : List UInt8) (p b n : Nat) : List (List UInt8) := (List.range n).map (pgL img p b) ++ List.replicate (p - n) (zerL 1024)
theorem psT_len (img : List UInt8) (p b n : Nat) (h : n ≤ p) : (psT img p b n).length = p := by
  unfold psT
  rw [List.length_append, List.length_map, List.length_range, List.length_replicate]
  omega
theorem psT_set (img : List UInt8) (p b n : Nat) (h : n < p) : (psT img p b n).set n (pgL img p b n) = psT img p b (n + 1) := by
  unfold psT
  rw [List.set_append_right _ _ (by rw [List.length_map, List.length_range]; exact Nat.le_refl _), List.length_map, List.length_range, Nat.sub_self, show p - n = (p - (n + 1)) + 1 by omega, List.replicate_succ, List.set_cons_zero, List.range_succ, List.map_append]
  simp
theorem pgL_len (img : List UInt8) (p more b n : Nat) (hl : img.length = (4 * p + 1 + more) * 512) (hn : n < p) : (pgL img p b n).length = 1024 := by
  unfold pgL cutL
  split <;> (rw [List.length_take, List.length_drop]; omega)
end Go.Proofs.Ythlpfpggjkocmaa
