import Derived.Test.YteghbkeaojbdgaaPn
set_option linter.unusedVariables false
set_option linter.unusedSimpArgs false
namespace Go.Proofs.Yteghbkeaojbdgaa
open Go.RowKit

theorem ins_getL {ds : List Rc} {x : Rc} {k : Nat} (h : k < placeN ds x) : (insD ds x)[k]? = ds[k]? := by
  have := place_le ds x
  unfold insD
  rw [List.getElem?_append_left (by rw [List.length_take]; omega), List.getElem?_take_of_lt h]
theorem ins_getP (ds : List Rc) (x : Rc) : (insD ds x)[placeN ds x]? = some x := by
  have := place_le ds x
  unfold insD
  rw [List.getElem?_append_right (by rw [List.length_take]; omega), List.length_take, Nat.min_eq_left this, Nat.sub_self]; rfl
theorem ins_place {ds : List Rc} (hs : Srt ds) {x : Rc} (hx : okD x) : placeN (insD ds x) x = placeN ds x := by
  have hl := place_le ds x
  have hsi := hs.ins hx
  have hp := ins_getP ds x
  have hlen := (List.getElem?_eq_some_iff.1 hp).1
  refine place_is _ _ _ (Nat.le_of_lt hlen) (fun k y hk hy => ?_) (fun k y hk hy => ?_)
  · rw [ins_getL hk] at hy
    exact place_lt ds x k y hk hy
  · exact hsi.mono hp hy hk (by rw [cd_refl]; exact Int.le_refl _)
theorem ins_at {ds : List Rc} (hs : Srt ds) {x : Rc} (hx : okD x) : isAt (insD ds x) x = true := by
  have h := isAt_some (ds := insD ds x) (x := x) (y := x) (by rw [ins_place hs hx]; exact ins_getP ds x)
  rw [h, cd_refl]; rfl
theorem del_getL {ds : List Rc} {x : Rc} {k : Nat} (h : k < placeN ds x) : (delD ds x)[k]? = ds[k]? := by
  have := place_le ds x
  unfold delD
  rw [List.getElem?_append_left (by rw [List.length_take]; omega), List.getElem?_take_of_lt h]
theorem del_getR {ds : List Rc} {x : Rc} {k : Nat} (h : placeN ds x ≤ k) : (delD ds x)[k]? = ds[k + 1]? := by
  have := place_le ds x
  unfold delD
  rw [List.getElem?_append_right (by rw [List.length_take]; omega), List.length_take, Nat.min_eq_left this, List.getElem?_drop]
  congr 1; omega
theorem del_len {ds : List Rc} {x : Rc} (h : isAt ds x = true) : (delD ds x).length + 1 = ds.length := by
  have := isAt_lt h
  unfold delD
  simp; omega
theorem del_place {ds : List Rc} (hs : Srt ds) {x : Rc} (h : isAt ds x = true) : placeN (delD ds x) x = placeN ds x := by
  have hl := isAt_lt h
  have hd := del_len h
  refine place_is _ _ _ (by omega) (fun k y hk hy => ?_) (fun k y hk hy => ?_)
  · rw [del_getL hk] at hy
    exact place_lt ds x k y hk hy
  · rw [del_getR hk] at hy
    exact Int.le_of_lt (place_gt hs (by omega) hy)
theorem del_no {ds : List Rc} (hs : Srt ds) {x : Rc} (h : isAt ds x = true) : isAt (delD ds x) x = false := by
  unfold isAt
  rw [del_place hs h, del_getR (Nat.le_refl _)]
  cases hy : ds[placeN ds x + 1]? with
  | none => rfl
  | some y =>
    have := place_gt hs (show placeN ds x < placeN ds x + 1 by omega) hy
    exact decide_eq_false (by omega)
/-- A record of such data. -/
def mkR (d : Rc) (vk vv : Value) : RV := ⟨d.t, vk, vv, d.k, d.v⟩
theorem mkR_d (d : Rc) (vk vv : Value) : (mkR d vk vv).d = d := rfl
theorem mkR_of {r : RV} {d : Rc} (h : r.d = d) : r = mkR d r.vk r.vv := by
  subst h; rfl
theorem mkR_inj {d : Rc} {a b a' b' : Value} (h : (mkR d a b).val = (mkR d a' b').val) : a = a' ∧ b = b' := by
  simpa [RV.val, RV.cs, mkR] using h
theorem right_mk (r : RV) (w : World) (hr : r.ok w) : Calls Try.prog 12 #[r.val] w fun e w' => ∃ vk vv, e = .returned (mkR (rightD r.d) vk vv).val ∧ (mkR (rightD r.d) vk vv).ok w' ∧ Below w.heap.size w w' :=
  (right_any r w hr).mono fun e w' ⟨r', h1, h2, h3, h4⟩ => by
    have e2 := mkR_of h3
    exact ⟨r'.vk, r'.vv, by rw [← e2]; exact h1, by rw [← e2]; exact h2, h4⟩
theorem neg_i {a b : Int} (h : IntKind.i64.wrap (-a) = b) (W : World) : (Op.unary .neg (.int .i64 a)).run Try.prog W = .ok (.int .i64 b) W := by go_simp
theorem bool_ne_f {a b : Bool} (h : a = b) (W : World) (x y : Operand) : (do eqGuard .neq 4 x y (.bool a) (.bool b); binOp .neq 4 (.bool a) (.bool b) : Sem Value).run Try.prog W = .ok (.bool false) W := by
  subst h
  cases a <;> go_simp
theorem rfldA (ad : Addr) (W : World) : (Instr.fieldAt 32 (.pointer (some ad)) 2).run Try.prog W = .ok (.pointer (some (ad.add 2))) W := by
  go_simp
theorem ldSA {w : World} {ad : Addr} {r : RV} (h : At w ad r.cs) : (Instr.loadAt 22 (.pointer (some (ad.add 2)))).run Try.prog w = .ok r.vv w := by
  have hc : w.cell? (ad.add 2) = some r.vv := h 2 _ rfl
  obtain ⟨a2, ha2⟩ : ∃ a2, ad.add 2 = a2 := ⟨_, rfl⟩
  rw [ha2] at hc ⊢
  go_simp
/-- Cells that are no bytes. -/
def NoB (cs : List Value) : Prop := ∀ c ∈ cs, ∀ b, c ≠ byt b
theorem Has.offB {w : World} {v : Value} {bs : List UInt8} (h : Has w v bs) {q : Nat} {cs : List Value} {t : TypeId} (hb : Blk w q cs t) (hn : NoB cs) : Off v bs q := by
  rcases h with ⟨rfl, rfl⟩ | ⟨ad, cap, rfl, h2, h3⟩
  · exact .inl rfl
  · cases bs with
    | nil => exact .inl rfl
    | cons u r =>
      refine .inr fun e => ?_
      simp only [Value.ownBlock, Option.some.injEq] at e
      have hc := h3 0 u rfl
      have h0 : ad.add 0 = ad := by simp [Addr.add]
      rw [h0] at hc
      unfold World.cell? at hc
      unfold Blk at hb
      rw [e, hb] at hc
      dsimp only at hc
      split at hc
      · cases hc
      · have hm : byt u ∈ cs := by
          have := Array.mem_of_getElem? hc
          simpa using this
        exact hn _ hm u rfl
theorem RV.ok.noB {r : RV} {w : World} (h : r.ok w) : NoB r.cs := by
  intro c hc b
  simp only [RV.cs, List.mem_cons, List.not_mem_nil, or_false] at hc
  rcases hc with rfl | rfl | rfl
  · intro e; cases e
  · obtain ⟨_, _, _, e⟩ := h.hk.sl; rw [e]; intro e; cases e
  · obtain ⟨_, _, _, e⟩ := h.hv.sl; rw [e]; intro e; cases e
theorem RV.ok.fxB {r : RV} {w w' : World} {q : Nat} {cs : List Value} {t : TypeId} (h : r.ok w) (hb : Blk w q cs t) (hn : NoB cs) (hf : Fx (fun k => k = q) w w') : r.ok w' :=
  h.fx hf fun k hk => by
    have e : k = q := hk
    rw [e]
    exact ⟨h.hk.offB hb hn, h.hv.offB hb hn⟩
theorem Ls.fxB {v : Value} {rs : List RV} {w w' : World} {q : Nat} {cs : List Value} {t : TypeId} (h : Ls w v rs) (hb : Blk w q cs t) (hn : NoB cs) (hf : Fx (fun k => k = q) w w') (ho : ∀ k, v.ownBlock = some k → k ≠ q) : Ls w' v rs := by
  refine ⟨?_, fun r hr => (h.ok r hr).fxB hb hn hf⟩
  rcases h.sh with h1 | ⟨ad, cap, rfl, h2, h3⟩
  · exact .inl h1
  · refine .inr ⟨ad, cap, rfl, h2, fun i r hi j u hj => hf.cell (h3 i r hi j u hj) fun e => ?_⟩
    rw [add_block, add_block] at e
    exact ho _ rfl e
end Go.Proofs.Yteghbkeaojbdgaa
