import Derived.Test.YtnakeieeopbeiaaGrG
set_option linter.unusedVariables false
set_option linter.unusedSimpArgs false
namespace Go.Proofs.Ytnakeieeopbeiaa
open Go.RowKit Prm

theorem flat_at {α : Type} (n : Nat) : ∀ (xs : List (List α)) (t : List α), (∀ x ∈ xs, x.length = n) → ∀ (i j : Nat) (x : List α) (v : α), xs[i]? = some x → x[j]? = some v → (xs.flatten ++ t)[n * i + j]? = some v
  | [], _, _, i, _, _, _, h, _ => by simp at h
  | y :: ys, t, hn, 0, j, x, v, h, hj => by
    have e : y = x := by simpa using h
    subst e
    rw [Nat.mul_zero, Nat.zero_add, List.flatten_cons, List.append_assoc, List.getElem?_append_left (by
      rcases Nat.lt_or_ge j y.length with e | e
      · exact e
      · rw [List.getElem?_eq_none e] at hj; cases hj)]
    exact hj
  | y :: ys, t, hn, i + 1, j, x, v, h, hj => by
    have hy : y.length = n := hn y (by simp)
    rw [List.flatten_cons, List.append_assoc, List.getElem?_append_right (by rw [hy, Nat.mul_add]; omega), hy, show n * (i + 1) + j - n = n * i + j by rw [Nat.mul_add]; omega]
    exact flat_at n ys t (fun x hx => hn x (by simp [hx])) i j x v (by simpa using h) hj
/-- The table's cells. -/
def tbC (p : List L5) (r : List (List Nat)) (s : Int) : List Value := (p.map L5.cs).flatten ++ ((r.map dv).flatten ++ [.int .i64 s])
structure Tb (W : World) (g : Nat) (p : List L5) (r : List (List Nat)) (s : Int) : Prop where
  bl : Blk W g (tbC p r s) 52
  lp : p.length = 4
  lr : r.length = 4
  nm : ∀ (i : Nat) (x : List Nat), r[i]? = some x → Nm x
theorem Tb.on {W W' : World} {g : Nat} {p : List L5} {r : List (List Nat)} {s : Int} (h : Tb W g p r s) (hb : Below W.heap.size W W') : Tb W' g p r s := ⟨h.bl.on hb, h.lp, h.lr, h.nm⟩
theorem add_off (g o k : Nat) : (⟨g, o, none⟩ : Addr).add k = ⟨g, o + k, none⟩ := by
  unfold Addr.add; split <;> simp_all
theorem Tb.elem {W : World} {g : Nat} {p : List L5} {r : List (List Nat)} {s : Int} (h : Tb W g p r s) {i : Nat} {x : L5} (hx : p[i]? = some x) : At W ⟨g, 5 * i, none⟩ x.cs := fun j v hj => by
  rw [add_off, h.bl.cell]
  exact flat_at 5 (p.map L5.cs) _ (fun y hy => by
    obtain ⟨z, _, rfl⟩ := List.mem_map.1 hy
    rfl) i j x.cs v (by rw [List.getElem?_map, hx]; rfl) hj
theorem flat_len {α : Type} (n : Nat) : ∀ (xs : List (List α)), (∀ x ∈ xs, x.length = n) → xs.flatten.length = n * xs.length
  | [], _ => rfl
  | y :: ys, h => by rw [List.flatten_cons, List.length_append, h y (by simp), flat_len n ys (fun x hx => h x (by simp [hx])), List.length_cons, Nat.mul_add]; omega
theorem Tb.numb {W : World} {g : Nat} {p : List L5} {r : List (List Nat)} {s : Int} (h : Tb W g p r s) {i : Nat} {x : List Nat} (hx : r[i]? = some x) : At W ⟨g, 20 + 16 * i, none⟩ (dv x) := fun j v hj => by
  have hl : ((p.map L5.cs).flatten).length = 20 := by
    rw [flat_len 5 _ (fun y hy => by
      obtain ⟨z, _, rfl⟩ := List.mem_map.1 hy
      rfl), List.length_map, h.lp]
  rw [add_off, h.bl.cell, tbC, List.getElem?_append_right (by omega), hl, show 20 + 16 * i + j - 20 = 16 * i + j by omega]
  exact flat_at 16 (r.map dv) _ (fun y hy => by
    obtain ⟨z, hz, rfl⟩ := List.mem_map.1 hy
    obtain ⟨m, hm⟩ := List.mem_iff_getElem?.1 hz
    rw [dv_length, (h.nm m z hm).ln]) i j (dv x) v (by rw [List.getElem?_map, hx]; rfl) hj
theorem idx47 (g m : Nat) (h : m < 4) (W : World) : (Instr.indexAt 47 (.pointer (some ⟨g, 0, none⟩)) (.int .i64 (m : Int))).run Try.prog W = .ok (.pointer (some ⟨g, 5 * m, none⟩)) W := by
  have hm : (m : Int) < 4 := by omega
  have h1 : m * 5 = 5 * m := by omega
  go_simp
  try simp [h1]
  try rw [add_plain]
theorem idx50 (g m : Nat) (h : m < 4) (W : World) : (Instr.indexAt 50 (.pointer (some ⟨g, 20, none⟩)) (.int .i64 (m : Int))).run Try.prog W = .ok (.pointer (some ⟨g, 20 + 16 * m, none⟩)) W := by
  have hm : (m : Int) < 4 := by omega
  have h1 : m * 16 = 16 * m := by omega
  go_simp
  try simp [h1]
  try rw [add_off]
end Go.Proofs.Ytnakeieeopbeiaa

set_option linter.unusedVariables false
set_option linter.unusedSimpArgs false
namespace Go.Proofs.Ytnakeieeopbeiaa
open Go.RowKit Prm

theorem neq23 (L M : List UInt8) (h1 : L.length = 32) (h2 : M.length = 32) (q : Bool) (hq : decide (L = M) = q) (W : World) (x y : Operand) : (do eqGuard .neq 23 x y (.agg (L.map byt).toArray) (.agg (M.map byt).toArray); binOp .neq 23 (.agg (L.map byt).toArray) (.agg (M.map byt).toArray) : Sem Value).run Try.prog W = .ok (.bool (!q)) W := by
  have he := fun W => eq23 L M h1 h2 W
  rw [hq] at he
  have hg := guard23
  go_simp
/-- The elements and the document's numbers agree. -/
structure Agr (p : List L5) (r : List (List Nat)) : Prop where
  ok : ∀ (i : Nat) (x : L5), p[i]? = some x → x.Ok
  eq : ∀ (i : Nat) (x : L5), p[i]? = some x → r[i]? = some (numD (x.val % PP))
theorem Agr.tell {p : List L5} {r : List (List Nat)} (h : Agr p r) {i : Nat} {x : L5} (hx : p[i]? = some x) : tellE x = nb (dpre (numD (x.val % PP)) 16) := by
  rw [tell_is x (h.ok i x hx), num_of (Nat.mod_lt _ PP_pos), PP_is]
def saE (g : Nat) (t : Nat) : List (Nat × Value) := [(0, .pointer (some ⟨g, 0, none⟩)), (3, .int .i64 (t : Int))]
def SaR (g : Nat) (p : List L5) (r : List (List Nat)) (s : Int) (w : World) (t : Nat) (w' : World) : Prop := t ≤ 4 ∧ Tb w' g p r s ∧ Below w.heap.size w w'
set_option maxRecDepth 100000 in
set_option maxHeartbeats 1000000 in
theorem same_law (g : Nat) (p : List L5) (r : List (List Nat)) (s : Int) (w : World) (hT : Tb w g p r s) (hA : Agr p r) : Calls Try.prog 24 #[.pointer (some ⟨g, 0, none⟩)] w fun e w' => e = .returned (.bool true) ∧ Below w.heap.size w w' := by
  refine calls_of_args [.pointer (some ⟨g, 0, none⟩)] Try.func24 rfl 23 Try.ntmps24 (by show 1 ≤ 23; decide) ?_
  refine EW.seq ?_
  refine EW.region ?_
  first | refine WL.assign rfl rfl rfl ?_
  refine WL.done ?_
  refine EW.on ?_
  refine EW.seq ?_
  refine EW.seq ?_
  refine EW.region ?_
  first | refine WL.assign rfl rfl rfl ?_
  refine WL.done ?_
  refine EW.on ?_
  refine EW.block ?_
  refine EW.loop (saE g) (SaR g p r s w) (fun t => 4 - t) 0 [0, 3] rfl ⟨by decide, hT, Below.refl _ _⟩ ?_
  rintro t wr ⟨ht, hTb, hbe⟩
  have hsz := hbe.size
  show EW _ _ _ _ [(0, .pointer (some ⟨g, 0, none⟩)), (3, .int .i64 (t : Int))] _
  by_cases h1 : t < 4
  · have z1 : (t : Int) < 4 := by omega
    have tn := tnD t (by omega)
    obtain ⟨x, hx⟩ : ∃ x, p[t]? = some x := ⟨_, List.getElem?_eq_getElem (by rw [hTb.lp]; exact h1)⟩
    have hr := hA.eq t x hx
    have hte := hA.tell hx
    have hnm := numD_nm (x.val % PP)
    refine EW.seq ?_
    refine EW.seq ?_
    refine EW.region ?_
    first | refine WL.move rfl rfl rfl ?_
    refine WL.bin rfl rfl rfl rfl (int_lt_t z1 _ _ _) ?_
    refine WL.done ?_
    refine EW.on ?_
    refine EW.cond_t rfl ?_
    refine EW.skip ?_
    refine EW.on ?_
    refine EW.seq ?_
    refine EW.block ?_
    refine EW.seq ?_
    refine EW.allT (by kernel_rfl) (by kernel_rfl) ?_
    refine LE.move rfl rfl ?_
    refine LE.move rfl rfl ?_
    refine LE.nilc rfl rfl ?_
    refine LE.field rfl rfl (fun W => tfld0 g W) ?_
    refine LE.index rfl rfl rfl (fun W => idx47 g t h1 W) ?_
    refine LE.load rfl rfl (fun W hW => run_loadA ((hTb.on hW).elem hx) Try.underlying27 rfl (cs_info x)) ?_
    refine LE.call [x.v] enter10 rfl rfl (fun W _ => bytes_any x W) ?_
    refine LE.move rfl rfl ?_
    refine LE.move rfl rfl ?_
    refine LE.nilc rfl rfl ?_
    refine LE.field rfl rfl (fun W => tfld1 g W) ?_
    refine LE.index rfl rfl rfl (fun W => idx50 g t h1 W) ?_
    refine LE.load rfl rfl (fun W hW => run_loadA ((hTb.on hW).numb hr) Try.underlying49 rfl (info49 hnm.ln)) ?_
    refine LE.call [.agg (dv (numD (x.val % PP))).toArray] enter43 rfl rfl (fun W _ => bytes_num _ hnm W) ?_
    refine LE.bin rfl rfl rfl (fun W => neq23 _ _ (tell_length x) (nb_length _) true (decide_eq_true hte) W _ _) ?_
    intro W hW
    refine EW.on ?_
    refine EW.cond_f rfl ?_
    refine EW.skip ?_
    refine pn_block ?_
    refine EW.on ?_
    refine EW.region ?_
    first | refine WL.move rfl rfl rfl ?_
    refine WL.bin rfl rfl rfl rfl (int_add tn _ _ _) ?_
    first | refine WL.assign rfl rfl rfl ?_
    refine WL.done ?_
    refine EW.again (E := saE g) (R := SaR g p r s w) (m := fun t => 4 - t) (x := t) (t + 1) [0, 3] rfl ⟨by omega, hTb.on hW, hbe.trans (hW.mono hsz)⟩ (by show 4 - (t + 1) < 4 - t; omega)
  · have z1 : ¬ (t : Int) < 4 := by omega
    refine EW.seq ?_
    refine EW.seq ?_
    refine EW.region ?_
    first | refine WL.move rfl rfl rfl ?_
    refine WL.bin rfl rfl rfl rfl (int_lt_f z1 _ _ _) ?_
    refine WL.done ?_
    refine EW.on ?_
    refine EW.cond_f rfl ?_
    refine EW.exit ?_
    repeat refine px_then ?_
    refine px_block ?_
    refine EW.on ?_
    refine EW.seq ?_
    refine EW.region ?_
    first | refine WL.assign rfl rfl rfl ?_
    refine WL.done ?_
    refine EW.on ?_
    refine EW.ret ?_
    repeat (first | refine pr_then ?_ | refine pr_block ?_)
    exact EW.returns Try.results24 rfl ⟨rfl, hbe⟩
end Go.Proofs.Ytnakeieeopbeiaa
