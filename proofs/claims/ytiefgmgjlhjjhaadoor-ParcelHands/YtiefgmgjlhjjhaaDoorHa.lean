import Derived.Test.YtiefgmgjlhjjhaaDoorOz
import Derived.Test.YtiefgmgjlhjjhaaDoorRegG
import Derived.Test.YtiefgmgjlhjjhaaDoorOrdG
import Derived.Test.YtiefgmgjlhjjhaaDoorEnt
import Derived.Laws.AppendOwnNone
import Derived.Laws.MakeOwn
import Derived.ScopeJumps
import Derived.Deep.MidRow
import Derived.Lib.BytesEntry
set_option linter.unusedVariables false
set_option linter.unusedSimpArgs false
namespace Go.Proofs.YtiefgmgjlhjjhaaDoor
open Go.RowKit

theorem int_lt_d (a b : Int) (W : World) (x y : Operand) : (do eqGuard .lss 3 x y (.int .i64 a) (.int .i64 b); binOp .lss 3 (.int .i64 a) (.int .i64 b) : Sem Value).run Tryd.prog W = .ok (.bool (decide (a < b))) W := by
  by_cases h : a < b
  · rw [decide_eq_true h]; exact int_lt_t h W x y
  · rw [decide_eq_false h]; exact int_lt_f h W x y
theorem int_gt_d (a b : Int) (W : World) (x y : Operand) : (do eqGuard .gtr 3 x y (.int .i64 a) (.int .i64 b); binOp .gtr 3 (.int .i64 a) (.int .i64 b) : Sem Value).run Tryd.prog W = .ok (.bool (decide (b < a))) W := by
  by_cases h : b < a
  · rw [decide_eq_true h]; exact int_gt_t h W x y
  · rw [decide_eq_false h]; exact int_gt_f h W x y
theorem int_eq_d {t : TypeId} (a b : Int) (W : World) (x y : Operand) : (do eqGuard .eql t x y (.int .i64 a) (.int .i64 b); binOp .eql t (.int .i64 a) (.int .i64 b) : Sem Value).run Tryd.prog W = .ok (.bool (decide (a = b))) W := by
  by_cases h : a = b
  · rw [decide_eq_true h]; exact int_eq_t h W x y
  · rw [decide_eq_false h]; exact int_eq_f h W x y
theorem int_ge_d (a b : Int) (W : World) (x y : Operand) : (do eqGuard .geq 3 x y (.int .i64 a) (.int .i64 b); binOp .geq 3 (.int .i64 a) (.int .i64 b) : Sem Value).run Tryd.prog W = .ok (.bool (decide (b ≤ a))) W := by
  by_cases h : b ≤ a
  · rw [decide_eq_true h]; exact int_ge_t h W x y
  · rw [decide_eq_false h]; exact int_ge_f h W x y
theorem int_ne_d {t : TypeId} (a b : Int) (W : World) (x y : Operand) : (do eqGuard .neq t x y (.int .i64 a) (.int .i64 b); binOp .neq t (.int .i64 a) (.int .i64 b) : Sem Value).run Tryd.prog W = .ok (.bool (decide (¬ a = b))) W := by
  by_cases h : a = b
  · rw [decide_eq_false (by simpa using h)]; exact int_ne_f h W x y
  · rw [decide_eq_true h]; exact int_ne_t h W x y
theorem Has.one {w : World} {v : Value} {bs : List UInt8} (h : Has w v bs) : v.oneCell' = true := by
  obtain ⟨ao, cap, rfl⟩ := h.slice
  rfl
theorem ldI {W : World} {q j : Nat} {cs : List Value} {t : TypeId} {v : Int} (hb : Blk W q cs t) (hv : cs[j]? = some (.int .i64 v)) : (Instr.loadAt 3 (.pointer (some ⟨q, j, none⟩))).run Tryd.prog W = .ok (.int .i64 v) W := by
  have hc : W.cell? ⟨q, j, none⟩ = some (.int .i64 v) := (hb.cell j).trans hv
  go_simp
theorem ldE {W : World} {q j : Nat} {cs : List Value} {t : TypeId} {v : Int} (hb : Blk W q cs t) (hv : cs[j]? = some (.int .i64 v)) : (Instr.loadAt 27 (.pointer (some ⟨q, j, none⟩))).run Tryd.prog W = .ok (.int .i64 v) W := by
  have hc : W.cell? ⟨q, j, none⟩ = some (.int .i64 v) := (hb.cell j).trans hv
  go_simp
theorem ldS {W : World} {q j : Nat} {cs : List Value} {t : TypeId} {v : Value} (hb : Blk W q cs t) (hv : cs[j]? = some v) : (Instr.loadAt 24 (.pointer (some ⟨q, j, none⟩))).run Tryd.prog W = .ok v W := by
  have hc : W.cell? ⟨q, j, none⟩ = some v := (hb.cell j).trans hv
  go_simp
theorem addr_add (ad : Addr) (l i : Nat) : (ad.add l).add i = ad.add (l + i) := by
  unfold Addr.add
  by_cases h0 : l = 0
  · subst h0; simp
  · by_cases h1 : i = 0
    · subst h1; simp
    · rw [if_neg h1, if_neg h0, if_neg (by omega)]; simp; omega
/-- What the bytes of a slice lie in. -/
def Off (v : Value) (bs : List UInt8) (k : Nat) : Prop := bs = [] ∨ v.ownBlock ≠ some k
theorem Has.blk {w : World} {v : Value} {bs : List UInt8} (h : Has w v bs) {k : Nat} (hk : v.ownBlock = some k) : bs = [] ∨ k < w.heap.size := by
  rcases h with ⟨rfl, rfl⟩ | ⟨ad, cap, rfl, h2, h3⟩
  · exact .inl rfl
  · cases bs with
    | nil => exact .inl rfl
    | cons u r =>
      right
      have := cell_lt (h3 0 u rfl)
      rw [add_block] at this
      simp only [Value.ownBlock, Option.some.injEq] at hk
      omega
theorem Has.fxo {S : Nat → Prop} {w w' : World} {v : Value} {bs : List UInt8} (h : Has w v bs) (hf : Fx S w w') (ho : ∀ k, S k → Off v bs k) : Has w' v bs := by
  rcases h with h | ⟨ad, cap, rfl, h2, h3⟩
  · exact .inl h
  · refine .inr ⟨ad, cap, rfl, h2, fun i u hu => hf.cell (h3 i u hu) fun hS => ?_⟩
    rw [add_block] at hS
    rcases ho _ hS with e | e
    · rw [e] at hu; simp at hu
    · exact e rfl
theorem bsl22n (w : World) : (Instr.buildSlice 24 0 ([] : List (Nat × Value)).toArray).run Tryd.prog w = .ok (.slice (some ⟨w.heap.size, 0, none⟩) 0 0) (w.alloc (.cells #[] 5)) := by
  go_simp
  try rfl
set_option maxRecDepth 100000 in
theorem eqnil_t (W : World) (x y : Operand) : (do eqGuard .eql 24 x y (.slice none 0 0) (.slice none 0 0); binOp .eql 24 (.slice none 0 0) (.slice none 0 0) : Sem Value).run Tryd.prog W = .ok (.bool true) W := by rfl
set_option maxRecDepth 100000 in
theorem eqnil_f (ad : Addr) (n c : Nat) (W : World) (x y : Operand) : (do eqGuard .eql 24 x y (.slice (some ad) n c) (.slice none 0 0); binOp .eql 24 (.slice (some ad) n c) (.slice none 0 0) : Sem Value).run Tryd.prog W = .ok (.bool false) W := by rfl
theorem Has.sl {w : World} {v : Value} {bs : List UInt8} (h : Has w v bs) : ∃ ao n c, v = .slice ao n c := by
  obtain ⟨ao, c, rfl⟩ := h.slice
  exact ⟨_, _, _, rfl⟩
theorem stI {w : World} {q j : Nat} {cs : List Value} {t : TypeId} (hb : Blk w q cs t) (hj : j < cs.length) (v : Int) : ∃ w', (Instr.storeAt 3 (.pointer (some ⟨q, j, none⟩)) (.int .i64 v)).run Tryd.prog w = .ok () w' ∧ Blk w' q (cs.set j (.int .i64 v)) t ∧ Fx (fun k => k = q) w w' := by
  have hc : w.cell? ⟨q, j, none⟩ = some cs[j] := (hb.cell j).trans (List.getElem?_eq_getElem hj)
  have hf := hb.frozen j
  refine ⟨w.setCell ⟨q, j, none⟩ (.int .i64 v), by go_simp, hb.set j _, Fx.setCell (S := fun k => k = q) _ _ _ _ rfl⟩
theorem stS {w : World} {q j : Nat} {cs : List Value} {t : TypeId} (hb : Blk w q cs t) (hj : j < cs.length) (ao : Option Addr) (n c : Nat) : ∃ w', (Instr.storeAt 24 (.pointer (some ⟨q, j, none⟩)) (.slice ao n c)).run Tryd.prog w = .ok () w' ∧ Blk w' q (cs.set j (.slice ao n c)) t ∧ Fx (fun k => k = q) w w' := by
  have hc : w.cell? ⟨q, j, none⟩ = some cs[j] := (hb.cell j).trans (List.getElem?_eq_getElem hj)
  have hf := hb.frozen j
  refine ⟨w.setCell ⟨q, j, none⟩ (.slice ao n c), by go_simp, hb.set j _, Fx.setCell (S := fun k => k = q) _ _ _ _ rfl⟩
theorem bsl22_1 (b : UInt8) (w : World) : (Instr.buildSlice 24 1 [(0, byt b)].toArray).run Tryd.prog w = .ok (.slice (some ⟨w.heap.size, 0, none⟩) 1 1) (w.alloc (.cells ([b].map byt).toArray 5)) := by
  unfold byt
  go_simp
  try rfl
theorem Has.new {w : World} {q : Nat} {bs : List UInt8} {t : TypeId} (hb : Blk w q (bs.map byt) t) (c : Nat) (hc : bs.length ≤ c) : Has w (.slice (some ⟨q, 0, none⟩) bs.length c) bs :=
  .inr ⟨_, c, rfl, hc, fun i u hu => by rw [add_plain, hb.cell, List.getElem?_map, hu]; rfl⟩
theorem sl22 (t : Value) (a b c : Option Value) (W : World) : (Instr.sliceAt 24 t a b c).run Tryd.prog W = (Instr.slice 24 t a b c).run Tryd.prog W := by
  simp [Instr.sliceAt, run_underlying Tryd.underlying24]
theorem WL.sliceH {P : Program} {n : Nat} {ops : Array Oper} {Q : Exit → Act → World → Prop} {i : Nat} {ty : TypeId} {ps : String} {af : Array Edge} {gd : Option (Nat × Bool)} {r : List Oper} {e : List (Nat × Value)} {w : World} {t : TypeId} {x lo : Operand} {u ul v : Value} (hw : wantE ops e ⟨some i, .slice t x none (some lo) none, ty, ps, af, gd⟩ = some true) (hi : decide (i < n) = true) (hx : evE e x = some u) (hl : evE e lo = some ul) (hr : (Instr.sliceAt t u none (some ul) none).run P w = .ok v w) (k : WL P n ops Q r ((i, v) :: e) w) : WL P n ops Q (⟨some i, .slice t x none (some lo) none, ty, ps, af, gd⟩ :: r) e w :=
  WL.op i v hw rfl hi (fun a ha => by simp [execOp, ha.ev hx, ha.ev hl, hr, Result.andThen]) k
/-- Cells that are no bytes. -/
def NoB (cs : List Value) : Prop := ∀ c ∈ cs, ∀ b, c ≠ byt b
theorem Has.offB {w : World} {v : Value} {bs : List UInt8} (h : Has w v bs) {q : Nat} {cs : List Value} {t : TypeId} (hb : Blk w q cs t) (hn : NoB cs) : Off v bs q := by
  rcases h with ⟨rfl, rfl⟩ | ⟨ad, cap, rfl, h2, h3⟩
  · exact .inl rfl
  · cases bs with
    | nil => exact .inl rfl
    | cons u r =>
      refine .inr fun e => ?_
      simp only [Value.ownBlock, Option.some.injEq] at e
      have hc := h3 0 u rfl
      have h0 : ad.add 0 = ad := by simp [Addr.add]
      rw [h0] at hc
      unfold World.cell? at hc
      unfold Blk at hb
      rw [e, hb] at hc
      dsimp only at hc
      split at hc
      · cases hc
      · have hm : byt u ∈ cs := by
          have := Array.mem_of_getElem? hc
          simpa using this
        exact hn _ hm u rfl
theorem made_one (z : Value) (hz : z.cells = #[z]) (n : Nat) : madeCells z.cells n = (List.replicate n z).toArray := by
  rw [hz]
  apply Array.ext
  · simp [size_madeCells]
  · intro i h1 h2
    simp [madeCells]
    rw [Nat.mod_one]; rfl
section
variable {P : Program} {n : Nat} {ops : Array Oper} {Q : Exit → Act → World → Prop} {i : Nat} {ty : TypeId} {ps : String} {af : Array Edge} {gd : Option (Nat × Bool)} {r : List Oper} {e : List (Nat × Value)} {w w' : World}
theorem WL.max {x y : Operand} {ts : Array TypeId} {u u' v : Value} (hw : wantE ops e ⟨some i, .call { callee := .builtin .max, args := #[x, y], argTypes := ts }, ty, ps, af, gd⟩ = some true) (hi : decide (i < n) = true) (hx : evE e x = some u) (hy : evE e y = some u') (hr : (Builtin.max_ ts ty #[u, u']).run P w = .ok v w) (k : WL P n ops Q r ((i, v) :: e) w) : WL P n ops Q (⟨some i, .call { callee := .builtin .max, args := #[x, y], argTypes := ts }, ty, ps, af, gd⟩ :: r) e w :=
  WL.op i v hw rfl hi (fun a ha => by simp [execOp, resolve, invoke, builtin, ha.ev hx, ha.ev hy, hr, Result.andThen]) k
end
section
variable {P : Program} {n : Nat} {ops : Array Oper} {S : Nat → World → Prop} {K : List (Nat × Value) → (World → Prop) → Prop} {i c lv : Nat} {ty : TypeId} {ps : String} {af : Array Edge} {gd : Option (Nat × Bool)} {r : List (Oper × Nat × Nat)} {e : List (Nat × Value)} {C : World → Prop}
theorem ZE.slice0 {t : TypeId} {x : Operand} {u v : Value} (h1 : decide (c = 1) = false) (hw : wantE ops e ⟨some i, .slice t x none none none, ty, ps, af, gd⟩ = some true) (hi : decide (i < n) = true) (hx : evE e x = some u) (hc : ∀ w, C w → SZ S c lv C w) (hr : ∀ w, (Instr.sliceAt t u none none none).run P w = .ok v w) (k : wpZE P n ops S K r ((i, v) :: e) C) : wpZE P n ops S K ((⟨some i, .slice t x none none none, ty, ps, af, gd⟩, c, lv) :: r) e C :=
  ZE.val h1 hw hi hc (fun a ha W hW => by simp [execOp, ha.ev hx, hr W, Result.andThen]) k
end
section
variable {P : Program} {n : Nat} {Q : Exit → Act → World → Prop} {e : List (Nat × Value)} {w : World}
theorem EW.scope {c rest : Code} (l : Nat) (ej : List (Nat × Value)) (J : World → Prop) (hf : findLabel c l = some rest) (first : EW P n c (Exit.jump l (fun a w => Env n a ej ∧ J w) Q) e w) (pass : ∀ w, J w → EW P n rest (Exit.jump l (fun a' w' => (Env n a' ej ∧ J w') ∧ (0 : Nat) < 0) Q) ej w) : EW P n (.scope c) Q e w := fun a ha =>
  wp_scope_jumps l (fun a w => Env n a ej ∧ J w) (fun _ _ => 0) hf (first a ha) (fun a w hJ => pass w hJ.2 a hJ.1)
theorem EW.scopeS {c : Code} (h : EW P n c (Exit.noGoto Q) e w) : EW P n (.scope c) Q e w := fun a ha => wp_scope_straight (h a ha)
theorem EW.goto {l : Nat} (h : ∀ a, Env n a e → Q (.goto l) a w) : EW P n (.goto l) Q e w := fun a ha => wp_goto (h a ha)
theorem EW.jumps {l : Nat} {ej : List (Nat × Value)} {J : World → Prop} (ks : List Nat) (he : keepE e ks = ej) (hJ : J w) : ∀ a, Env n a e → Exit.jump l (fun a w => Env n a ej ∧ J w) Q (.goto l) a w := fun a ha => ⟨rfl, he ▸ ha.less (keepE_sub e ks), hJ⟩
theorem pg_then {l : Nat} {K : Act → World → Prop} (h : ∀ a, Env n a e → Q (.goto l) a w) : ∀ a, Env n a e → Exit.then K Q (.goto l) a w := h
theorem pr_jump {l : Nat} {J : Act → World → Prop} (h : ∀ a, Env n a e → Q .ret a w) : ∀ a, Env n a e → Exit.jump l J Q .ret a w := h
theorem pr_ng (h : ∀ a, Env n a e → Q .ret a w) : ∀ a, Env n a e → Exit.noGoto Q .ret a w := h
end
end Go.Proofs.YtiefgmgjlhjjhaaDoor
