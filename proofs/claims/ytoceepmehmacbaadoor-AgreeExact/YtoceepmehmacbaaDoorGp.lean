import Derived.Test.YtoceepmehmacbaaDoorGo
import Derived.Test.YtoceepmehmacbaaDoorOqG
set_option linter.unusedVariables false
set_option linter.unusedSimpArgs false
namespace Go.Proofs.YtoceepmehmacbaaDoor
open Go.RowKit

/-- Rows stay, but for what may not be written. -/
def Rl (W W' : World) : Prop := ∀ (k : Nat) (cs : Array Value) (t : TypeId) (fr : Nat × Nat), W.heap[k]? = some (Obj.cells cs t fr) → ∃ fr', W'.heap[k]? = some (Obj.cells cs t fr')
theorem Rl.below {W W' : World} (h : Below W.heap.size W W') : Rl W W' := fun k cs t fr hk => ⟨fr, by
  have hl : k < W.heap.size := (Array.getElem?_eq_some_iff.1 hk).1
  rw [h.block k hl]; exact hk⟩
theorem Rl.cell {W W' : World} (h : Rl W W') (a : Addr) (u : Value) (hu : W.cell? a = some u) : W'.cell? a = some u := by
  unfold World.cell? at *
  cases hx : W.heap[a.block]? with
  | none => rw [hx] at hu; cases hu
  | some o =>
    rw [hx] at hu
    cases o with
    | cells c t fr =>
      obtain ⟨fr', e⟩ := h a.block c t fr hx
      rw [e]
      exact hu
    | _ => cases hu
theorem Has.rl {W W' : World} {v : Value} {bs : List UInt8} (h : Has W v bs) (hr : Rl W W') : Has W' v bs := h.cellsEq hr.cell
theorem Parts.rl {W W' : World} {v : Value} {ps : List (Value × List UInt8)} (h : Parts W v ps) (hr : Rl W W') : Parts W' v ps := by
  rcases h with h | ⟨ad, cap, h1, h2, h3⟩
  · exact .inl h
  · exact .inr ⟨ad, cap, h1, h2, fun i p hp => ⟨hr.cell _ _ (h3 i p hp).1, (h3 i p hp).2.rl hr⟩⟩
theorem conv_any (W : World) (g n c : Nat) (C : Array Value) (fr : Nat × Nat) (hb : W.heap[g]? = some (.cells C 5 fr)) : ∃ W', (Go.convert 40 40 (.slice (some ⟨g, 0, none⟩) n c)).run Tryd.prog W = .ok (.slice (some ⟨g, 0, none⟩) n c) W' ∧ Rl W W' ∧ Fx (fun k => k = g) W W' := by
  have hsh : W.shape? g = some (5, C.size) := by unfold World.shape?; rw [hb]
  refine ⟨W.freeze ⟨g, C.size, none⟩ 1, ?_, fun k cs t fr0 hk => ?_, ?_⟩
  · simp [convert, run_underlying Tryd.underlying40, run_underlying Tryd.underlying5, markStringish, hsh]
  · unfold World.freeze
    rw [if_neg (by decide)]
    show ∃ fr', (W.heap.modify g _)[k]? = _
    rw [Array.getElem?_modify]
    by_cases hkg : g = k
    · subst hkg
      rw [if_pos rfl, hk]
      obtain ⟨lo, hi⟩ := fr0
      exact ⟨_, rfl⟩
    · rw [if_neg hkg]
      exact ⟨fr0, hk⟩
  · unfold World.freeze
    rw [if_neg (by decide)]
    refine ⟨rfl, rfl, rfl, by simp, fun k hk hn => ?_⟩
    show (W.heap.modify g _)[k]? = _
    rw [Array.getElem?_modify, if_neg (fun e => hn e.symm)]
section
variable {P : Program} {a : Act} {W W' : World} {C' : Value → World → Prop} {i : Nat} {ty : TypeId} {ps : String} {af : Array Edge} {gd : Option (Nat × Bool)}
theorem OpR.move {x : Operand} {v : Value} (hx : a.eval x = v) (hc : C' v W) : OpR P ⟨some i, .move x, ty, ps, af, gd⟩ a W C' := .inl ⟨v, W, by simp [execOp, hx], hc⟩
theorem OpR.assign {x : Operand} {v : Value} (hx : a.eval x = v) (hc : C' v W) : OpR P ⟨some i, .assign x, ty, ps, af, gd⟩ a W C' := .inl ⟨v, W, by simp [execOp, hx], hc⟩
theorem OpR.mks {t : TypeId} {x y : Operand} {u u' v : Value} (hx : a.eval x = u) (hy : a.eval y = u') (hr : (Instr.makeSlice t u u').run P W = .ok v W') (hc : C' v W') : OpR P ⟨some i, .makeSlice t x y, ty, ps, af, gd⟩ a W C' := .inl ⟨v, W', by simp [execOp, hx, hy, hr, Result.andThen], hc⟩
theorem OpR.slice0 {t : TypeId} {x : Operand} {u v : Value} (hx : a.eval x = u) (hr : (Instr.sliceAt t u none none none).run P W = .ok v W) (hc : C' v W) : OpR P ⟨some i, .slice t x none none none, ty, ps, af, gd⟩ a W C' := .inl ⟨v, W, by simp [execOp, hx, hr, Result.andThen], hc⟩
theorem OpR.bsl {t : TypeId} {m : Nat} {ps' : List (Nat × Operand)} {v : Value} (vs : List (Nat × Value)) (hx : ps'.map (fun q => (q.1, a.eval q.2)) = vs) (hr : (Instr.buildSlice t m vs.toArray).run P W = .ok v W') (hc : C' v W') : OpR P ⟨some i, .buildSlice t m ps'.toArray, ty, ps, af, gd⟩ a W C' := .inl ⟨v, W', by simp only [execOp, List.map_toArray, hx, Sem.run_bind, hr, Result.andThen_ok, Sem.run_pure], hc⟩
theorem OpR.conv {s t : TypeId} {x : Operand} {u v : Value} (hx : a.eval x = u) (hr : (Go.convert s t u).run P W = .ok v W') (hc : C' v W') : OpR P ⟨some i, .convert s t x, ty, ps, af, gd⟩ a W C' := .inl ⟨v, W', by simp [execOp, hx, hr, Result.andThen], hc⟩
theorem OpR.extract {j : Nat} {x : Operand} {vs : Array Value} {v : Value} (hx : a.eval x = .tuple vs) (hr : (Instr.extract (.tuple vs) j).run P W = .ok v W) (hc : C' v W) : OpR P ⟨some i, .extract x j, ty, ps, af, gd⟩ a W C' := .inl ⟨v, W, by simp [execOp, hx, hr, Result.andThen], hc⟩
theorem OpR.callF {f : FuncId} {xs : List Operand} {ts : Array TypeId} (args : List Value) (hen : ∀ (args : Array Value) (W : World), (callFunc f args).run P W = .ok (.enter f args) W) (hx : xs.map a.eval = args) (hc : Calls P f args.toArray W (fun e w' => ∃ v, e = .returned v ∧ C' v w')) : OpR P ⟨some i, .call { callee := .value (.func f), args := xs.toArray, argTypes := ts }, ty, ps, af, gd⟩ a W C' := by
  refine .inr (.inr ⟨f, args.toArray, ?_, hc⟩)
  have e1 : (execOp a.eval ⟨some i, .call { callee := .value (.func f), args := xs.toArray, argTypes := ts }, ty, ps, af, gd⟩).run P W = (callFunc f (xs.toArray.map a.eval)).run P W := by
    simp [execOp, resolve, Deferred.ofValue, invoke, Act.eval]
  rw [e1, List.map_toArray, hx, hen]
end
/-- What stands beside the document's 'Made'. -/
structure MdS (w : World) (x y z : List UInt8) (q3 q4 q5 p6 p7 g : Nat) (W : World) : Prop where
  fx : Blk W q3 (x.map byt) 23
  fy : Blk W q4 (y.map byt) 23
  fz : Blk W q5 (z.map byt) 23
  fp : Blk W p6 (z32.map byt) 23
  fq : Blk W p7 (z16.map byt) 30
  fg : Has W (.slice (some ⟨g, 0, none⟩) 32 32) ff32
  l : Below w.heap.size w W
theorem MdS.on {w W W' : World} {x y z : List UInt8} {q3 q4 q5 p6 p7 g : Nat} (h : MdS w x y z q3 q4 q5 p6 p7 g W) (hb : Below W.heap.size W W') : MdS w x y z q3 q4 q5 p6 p7 g W' := ⟨h.fx.on hb, h.fy.on hb, h.fz.on hb, h.fp.on hb, h.fq.on hb, h.fg.below hb, bt h.l hb⟩
theorem MdS.fr {w W W' : World} {x y z : List UInt8} {q3 q4 q5 p6 p7 g k : Nat} {C : Array Value} {fr : Nat × Nat} (h : MdS w x y z q3 q4 q5 p6 p7 g W) (hk : W.heap[k]? = some (.cells C 5 fr)) (hr : Rl W W') (f : Fx (fun j => j = k) W W') (hw : w.heap.size ≤ k) : MdS w x y z q3 q4 q5 p6 p7 g W' := by
  have ne : ∀ {p : Nat} {cs : List Value} {t : TypeId}, Blk W p cs t → t ≠ 5 → p ≠ k := fun {p cs t} hb ht e => by
    subst e
    have hb : W.heap[p]? = _ := hb
    rw [hb] at hk
    simp at hk
    exact ht hk.2.1
  exact ⟨h.fx.fx f (ne h.fx (by decide)), h.fy.fx f (ne h.fy (by decide)), h.fz.fx f (ne h.fz (by decide)), h.fp.fx f (ne h.fp (by decide)), h.fq.fx f (ne h.fq (by decide)), h.fg.rl hr, bf h.l f hw⟩
def mdP (g q3 q4 q5 : Nat) (x y z : List UInt8) : List (Value × List UInt8) := [(.slice (some ⟨g, 0, none⟩) 32 32, ff32), (.slice (some ⟨q3, 0, none⟩) 32 32, x), (.slice (some ⟨q4, 0, none⟩) 32 32, y), (.slice (some ⟨q5, 0, none⟩) 32 32, z)]
def mdD (w : World) (g q3 q4 q5 : Nat) (x y z X : List UInt8) (i : Nat) (v : Value) (W : World) : Prop := match i with
  | 0 => Has W v z32
  | 1 => v = .slice (some ⟨g, 0, none⟩) 32 32
  | 2 => v = .slice (some ⟨q3, 0, none⟩) 32 32
  | 3 => v = .slice (some ⟨q4, 0, none⟩) 32 32
  | 4 => v = .slice (some ⟨q5, 0, none⟩) 32 32
  | 5 => Parts W v (mdP g q3 q4 q5 x y z)
  | 6 => Has W v (ff32 ++ (x ++ (y ++ z)))
  | 7 => ∃ k fr, v = .slice (some ⟨k, 0, none⟩) 11 11 ∧ W.heap[k]? = some (.cells (firstB.map byt).toArray 5 fr) ∧ w.heap.size ≤ k
  | 8 => Has W v firstB
  | 9 => ∃ u, v = .tuple #[u, .int .i64 0] ∧ Has W u X
  | 10 => ∃ u, v = .tuple #[u, .int .i64 0] ∧ Has W u X
  | 11 => Has W v X
  | 12 => True
  | 13 => Has W v X
  | _ => True
theorem mdD_st {w : World} {g q3 q4 q5 : Nat} {x y z X : List UInt8} (i : Nat) (v : Value) (W W' : World) (h : mdD w g q3 q4 q5 x y z X i v W) (hr : Rl W W') : mdD w g q3 q4 q5 x y z X i v W' := by
  match i, h with
  | 0, h => exact Has.rl h hr
  | 1, h => exact h
  | 2, h => exact h
  | 3, h => exact h
  | 4, h => exact h
  | 5, h => exact Parts.rl h hr
  | 6, h => exact Has.rl h hr
  | 7, ⟨k, fr, h1, h2, h3⟩ =>
    obtain ⟨fr', h4⟩ := hr k _ _ fr h2
    exact ⟨k, fr', h1, h4, h3⟩
  | 8, h => exact Has.rl h hr
  | 9, ⟨u, h1, h2⟩ => exact ⟨u, h1, h2.rl hr⟩
  | 10, ⟨u, h1, h2⟩ => exact ⟨u, h1, h2.rl hr⟩
  | 11, h => exact Has.rl h hr
  | 12, _ => exact trivial
  | 13, h => exact Has.rl h hr
  | n + 14, _ => exact trivial
theorem hasOfRow {W : World} {k : Nat} {K : List UInt8} {fr : Nat × Nat} {n : Nat} (hn : K.length = n) (h : W.heap[k]? = some (.cells (K.map byt).toArray 5 fr)) : Has W (.slice (some ⟨k, 0, none⟩) n n) K := by
  subst hn
  refine .inr ⟨⟨k, 0, none⟩, K.length, rfl, Nat.le_refl _, fun i u hu => ?_⟩
  rw [add_plain]
  unfold World.cell?
  rw [h]
  simp [hu]
def bn16 (a : List UInt8) (t : Nat) : List UInt8 := a.take t ++ List.replicate (16 - t) 0
theorem bn16_len {a : List UInt8} (ha : a.length = 16) {t : Nat} (ht : t ≤ 16) : (bn16 a t).length = 16 := by
  unfold bn16
  rw [List.length_append, List.length_take, List.length_replicate]; omega
theorem bn16_succ {a : List UInt8} (ha : a.length = 16) {t : Nat} (ht : t < 16) {u : UInt8} (hu : a[t]? = some u) : (bn16 a t).set t u = bn16 a (t + 1) := by
  unfold bn16
  rw [List.set_append_right _ _ (by rw [List.length_take]; omega), List.length_take, Nat.min_eq_left (by omega), Nat.sub_self, show 16 - t = (16 - (t + 1)) + 1 by omega, List.replicate_succ, List.set_cons_zero, List.take_add_one, hu]
  simp
theorem bn16_all {a : List UInt8} (ha : a.length = 16) : bn16 a 16 = a := by
  unfold bn16
  rw [List.take_of_length_le (by omega)]
  simp
theorem idx30 (q m : Nat) (h : m < 16) (W : World) : (Instr.indexAt 30 (.pointer (some ⟨q, 0, none⟩)) (.int .i64 (m : Int))).run Tryd.prog W = .ok (.pointer (some ⟨q, m, none⟩)) W := by
  have hm : (m : Int) < 16 := by omega
  go_simp
  try simp
  try rw [add_plain]
def mdE1 (q3 q4 q5 p6 p7 g t : Nat) : List (Nat × Value) := [(3, .pointer (some ⟨q3, 0, none⟩)), (4, .pointer (some ⟨q4, 0, none⟩)), (5, .pointer (some ⟨q5, 0, none⟩)), (6, .pointer (some ⟨p6, 0, none⟩)), (7, .pointer (some ⟨p7, 0, none⟩)), (8, .slice (some ⟨g, 0, none⟩) 32 32), (9, .int .i64 (t : Int))]
structure MdB (w : World) (x y z : List UInt8) (q3 q4 q5 p6 p7 : Nat) (W : World) : Prop where
  fx : Blk W q3 (x.map byt) 23
  fy : Blk W q4 (y.map byt) 23
  fz : Blk W q5 (z.map byt) 23
  fp : Blk W p6 (z32.map byt) 23
  fq : Blk W p7 (z16.map byt) 30
  l : Below w.heap.size w W
theorem MdB.on {w W W' : World} {x y z : List UInt8} {q3 q4 q5 p6 p7 : Nat} (h : MdB w x y z q3 q4 q5 p6 p7 W) (hb : Below W.heap.size W W') : MdB w x y z q3 q4 q5 p6 p7 W' := ⟨h.fx.on hb, h.fy.on hb, h.fz.on hb, h.fp.on hb, h.fq.on hb, bt h.l hb⟩
theorem MdB.st {w W W' : World} {x y z : List UInt8} {q3 q4 q5 p6 p7 g : Nat} {cs : List Value} (h : MdB w x y z q3 q4 q5 p6 p7 W) (hb : Blk W g cs 5) (f : Fx (fun k => k = g) W W') (hg : w.heap.size ≤ g) : MdB w x y z q3 q4 q5 p6 p7 W' := ⟨h.fx.fx f (h.fx.neT hb (by decide)), h.fy.fx f (h.fy.neT hb (by decide)), h.fz.fx f (h.fz.neT hb (by decide)), h.fp.fx f (h.fp.neT hb (by decide)), h.fq.fx f (h.fq.neT hb (by decide)), bf h.l f hg⟩
def MdI1 (w : World) (x y z : List UInt8) (q3 q4 q5 p6 p7 g t : Nat) (W : World) : Prop := t ≤ 32 ∧ Blk W g ((ffK t).map byt) 5 ∧ MdB w x y z q3 q4 q5 p6 p7 W
def mdE2 (p6 p7 : Nat) (vb : Value) (p12 p13 t : Nat) : List (Nat × Value) := [(6, .pointer (some ⟨p6, 0, none⟩)), (7, .pointer (some ⟨p7, 0, none⟩)), (10, vb), (12, .pointer (some ⟨p12, 0, none⟩)), (13, .pointer (some ⟨p13, 0, none⟩)), (14, .int .i64 (t : Int))]
def MdI2 (w : World) (X : List UInt8) (vb : Value) (p6 p7 p12 p13 t : Nat) (W : World) : Prop := t ≤ 48 ∧ Blk W p6 (z32.map byt) 23 ∧ Blk W p7 (z16.map byt) 30 ∧ Blk W p12 ((bnK (X.take 32) (min t 32)).map byt) 23 ∧ Blk W p13 ((bn16 (X.drop 32) (t - 32)).map byt) 30 ∧ Has W vb X ∧ Below w.heap.size w W
set_option maxRecDepth 100000 in
set_option maxHeartbeats 4000000 in
theorem rmade_any (x y z X : List UInt8) (hx : x.length = 32) (hy : y.length = 32) (hz : z.length = 32) (hX : exOut (macOf z32 (ff32 ++ (x ++ (y ++ z)))) firstB 48 = X) (w : World) (hS : St3 w) : Calls Tryd.prog 32 #[kv x, kv y, kv z] w fun e w' => e = .returned (.tuple #[kv (X.take 32), kv (X.drop 32)]) ∧ Below w.heap.size w w' := by
  have hXl : X.length = 48 := by rw [← hX]; exact exOut_length _ _ _
  have hXa : (X.take 32).length = 32 := by rw [List.length_take, hXl]; decide
  have hXb : (X.drop 32).length = 16 := by rw [List.length_drop, hXl]
  obtain ⟨w1, q3, r1, b1, l1, hq3⟩ := box_any 23 (x.map byt) w
  obtain ⟨w2, q4, r2, b2, l2, hq4⟩ := box_any 23 (y.map byt) w1
  obtain ⟨w3, q5, r3, b3, l3, hq5⟩ := box_any 23 (z.map byt) w2
  obtain ⟨w4, p6, r4, b4, l4, hp6⟩ := new23 w3
  obtain ⟨w5, p7, r5, b5, l5, hp7⟩ := new30 w4
  have B5 : MdB w x y z q3 q4 q5 p6 p7 w5 := ⟨(((b1.on l2).on l3).on l4).on l5, ((b2.on l3).on l4).on l5, (b3.on l4).on l5, b4.on l5, b5, bt (bt (bt (bt l1 l2) l3) l4) l5⟩
  have h6 : w.heap.size ≤ p6 := by have := l1.size; have := l2.size; have := l3.size; omega
  have h7 : w.heap.size ≤ p7 := by have := l1.size; have := l2.size; have := l3.size; have := l4.size; omega
  refine calls_of_args [kv x, kv y, kv z] Tryd.func32 rfl 57 Tryd.ntmps32 (by show 3 ≤ 57; decide) ?_; refine EW.seq ?_; refine EW.region ?_; refine WL.box rfl rfl rfl r1 ?_; refine WL.box rfl rfl rfl r2 ?_; refine WL.box rfl rfl rfl r3 ?_; refine WL.new rfl rfl r4 ?_; refine WL.new rfl rfl r5 ?_; refine WL.done ?_; refine EW.on ?_; refine EW.seq ?_; refine EW.region ?_
  have mk := run_mk40 w5 32 (by decide)
  have lm := below_new w5 (.cells ((List.replicate 32 (0 : UInt8)).map byt).toArray 5)
  have bG : Blk (w5.alloc (.cells ((List.replicate 32 (0 : UInt8)).map byt).toArray 5)) w5.heap.size ((ffK 0).map byt) 5 := Blk.new _ _ _
  refine WL.mks rfl rfl rfl rfl mk ?_
  obtain ⟨g, hgI⟩ : ∃ gI, w5.heap.size = gI := ⟨_, rfl⟩
  have hgw : w.heap.size ≤ g := by have := B5.l.size; omega
  rw [hgI] at bG ⊢
  generalize w5.alloc (.cells ((List.replicate 32 (0 : UInt8)).map byt).toArray 5) = v1 at lm bG
  have S7 := B5.on lm
  refine WL.assign rfl rfl rfl ?_; refine WL.done ?_; refine EW.on ?_; refine EW.seq ?_; refine EW.seq ?_; refine EW.region ?_; refine WL.assign rfl rfl rfl ?_; refine WL.done ?_; refine EW.on ?_; refine EW.block ?_; refine EW.loop (mdE1 q3 q4 q5 p6 p7 g) (MdI1 w x y z q3 q4 q5 p6 p7 g) (fun t => 32 - t) 0 [3, 4, 5, 6, 7, 8, 9] rfl ⟨by decide, bG, S7⟩ ?_
  rintro t v3 ⟨hle, cG, S8⟩
  show EW _ _ _ _ [(3, .pointer (some ⟨q3, 0, none⟩)), (4, .pointer (some ⟨q4, 0, none⟩)), (5, .pointer (some ⟨q5, 0, none⟩)), (6, .pointer (some ⟨p6, 0, none⟩)), (7, .pointer (some ⟨p7, 0, none⟩)), (8, .slice (some ⟨g, 0, none⟩) 32 32), (9, .int .i64 (t : Int))] _
  refine EW.seq ?_; refine EW.seq ?_; refine EW.region ?_; refine WL.move rfl rfl rfl ?_; refine WL.bin rfl rfl rfl rfl (int_lt_d _ _ _ _ _) ?_; refine WL.done ?_; refine EW.on ?_; refine EW.cond_d rfl (fun h17 => ?_) (fun h17 => ?_)
  · refine EW.skip ?_; refine EW.on ?_; refine EW.seq ?_; refine EW.block ?_
    have hlt : t < 32 := by omega
    refine EW.region ?_; refine WL.move rfl rfl rfl ?_; refine WL.move rfl rfl rfl ?_; refine WL.index rfl rfl rfl rfl (ix40 g t hlt _) ?_
    obtain ⟨v2, s2, d2, f2⟩ := stByte (j := t) 255 cG (by rw [ffK_len hle]; exact hlt)
    refine WL.store rfl rfl rfl s2 ?_
    rw [ffK_succ hlt] at d2
    refine WL.done ?_; refine pn_block ?_; refine EW.on ?_; refine EW.region ?_; refine WL.move rfl rfl rfl ?_; refine WL.bin rfl rfl rfl rfl (int_add (c := ((t + 1 : Nat) : Int)) (by rw [IntKind.wrap_i64]; omega) _ _ _) ?_; refine WL.assign rfl rfl rfl ?_; refine WL.done ?_
    exact EW.again (E := mdE1 q3 q4 q5 p6 p7 g) (R := MdI1 w x y z q3 q4 q5 p6 p7 g) (m := fun t => 32 - t) (x := t) (t + 1) [3, 4, 5, 6, 7, 8, 9] rfl ⟨by omega, d2, S8.st cG f2 hgw⟩ (by show 32 - (t + 1) < 32 - t; omega)
  · refine EW.exit ?_; refine px_then ?_; refine px_then ?_; refine px_block ?_; refine EW.on ?_; refine EW.seq ?_
    have t32 : t = 32 := by omega
    subst t32
    have S5 : MdS w x y z q3 q4 q5 p6 p7 g v3 := ⟨S8.fx, S8.fy, S8.fz, S8.fp, S8.fq, Blk.has (show Blk v3 g (ff32.map byt) 5 from cG) 32 rfl, S8.l⟩
    refine EW.facts (by kernel_rfl) (by kernel_rfl) (mdD w g q3 q4 q5 x y z X) Rl (MdS w x y z q3 q4 q5 p6 p7 g) (MdS.on S5 (below_drawn v3)) mdD_st ?_ (fun a W6 ha S6 hd => ?_)
    · intro i o hi a W ha S hd
      have hi15 : i < 15 := (List.getElem?_eq_some_iff.1 hi).1
      obtain rfl | rfl | rfl | rfl | rfl | rfl | rfl | rfl | rfl | rfl | rfl | rfl | rfl | rfl | rfl : i = 0 ∨ i = 1 ∨ i = 2 ∨ i = 3 ∨ i = 4 ∨ i = 5 ∨ i = 6 ∨ i = 7 ∨ i = 8 ∨ i = 9 ∨ i = 10 ∨ i = 11 ∨ i = 12 ∨ i = 13 ∨ i = 14 := by omega
      · cases hi
        exact OpR.mks rfl rfl (run_mk40 W 32 (by decide)) ⟨has_news W z32, S.on (below_new _ _), Rl.below (below_new _ _)⟩
      · cases hi
        exact OpR.move (ha.ev (x := .tmp 8) rfl) ⟨rfl, S, Rl.below (Below.refl _ _)⟩
      · cases hi
        exact OpR.slice0 (ha.ev (x := .tmp 3) rfl) (sl23 q3 W) ⟨rfl, S, Rl.below (Below.refl _ _)⟩
      · cases hi
        exact OpR.slice0 (ha.ev (x := .tmp 4) rfl) (sl23 q4 W) ⟨rfl, S, Rl.below (Below.refl _ _)⟩
      · cases hi
        exact OpR.slice0 (ha.ev (x := .tmp 5) rfl) (sl23 q5 W) ⟨rfl, S, Rl.below (Below.refl _ _)⟩
      · cases hi
        have d1 : a.tmps.getD 25 undef = .slice (some ⟨g, 0, none⟩) 32 32 := hd 1 _ 25 rfl rfl (by kernel_rfl)
        have d2 : a.tmps.getD 26 undef = .slice (some ⟨q3, 0, none⟩) 32 32 := hd 2 _ 26 rfl rfl (by kernel_rfl)
        have d3 : a.tmps.getD 27 undef = .slice (some ⟨q4, 0, none⟩) 32 32 := hd 3 _ 27 rfl rfl (by kernel_rfl)
        have d4 : a.tmps.getD 28 undef = .slice (some ⟨q5, 0, none⟩) 32 32 := hd 4 _ 28 rfl rfl (by kernel_rfl)
        refine OpR.bsl [(0, .slice (some ⟨g, 0, none⟩) 32 32), (1, .slice (some ⟨q3, 0, none⟩) 32 32), (2, .slice (some ⟨q4, 0, none⟩) 32 32), (3, .slice (some ⟨q5, 0, none⟩) 32 32)] (by
          show [(0, a.tmps.getD 25 undef), (1, a.tmps.getD 26 undef), (2, a.tmps.getD 27 undef), (3, a.tmps.getD 28 undef)] = _
          rw [d1, d2, d3, d4]) (bsl95_4 _ _ _ _ ⟨_, _, _, rfl⟩ ⟨_, _, _, rfl⟩ ⟨_, _, _, rfl⟩ ⟨_, _, _, rfl⟩ W) ⟨?_, S.on (below_new _ _), Rl.below (below_new _ _)⟩
        refine parts_new W (mdP g q3 q4 q5 x y z) (fun p hp => ?_)
        simp only [mdP, List.mem_cons, List.not_mem_nil, or_false] at hp
        rcases hp with rfl | rfl | rfl | rfl
        · exact S.fg
        · exact S.fx.has 32 hx
        · exact S.fy.has 32 hy
        · exact S.fz.has 32 hz
      · cases hi
        have d5 : Parts W (a.tmps.getD 29 undef) (mdP g q3 q4 q5 x y z) := hd 5 _ 29 rfl rfl (by kernel_rfl)
        exact OpR.callF [a.tmps.getD 29 undef] enter48 rfl ((joined_any _ _ (ff32 ++ (x ++ (y ++ z))) (by simp [mdP]) W d5 (by simp [ff32, hx, hy, hz]) (by simp [mdP])).mono fun e w' ⟨u, h1, h2, h3⟩ => ⟨u, h1, h2.has, S.on h3, Rl.below h3⟩)
      · cases hi
        exact OpR.bsl firstV rfl (bsl11 W) ⟨⟨W.heap.size, (0, 0), rfl, Blk.new W (firstB.map byt) 5, S.l.size⟩, S.on (below_new _ _), Rl.below (below_new _ _)⟩
      · cases hi
        obtain ⟨k, fr, e1, e2, e3⟩ : ∃ k fr, a.tmps.getD 31 undef = .slice (some ⟨k, 0, none⟩) 11 11 ∧ W.heap[k]? = some (Obj.cells (firstB.map byt).toArray 5 fr) ∧ w.heap.size ≤ k := hd 7 _ 31 rfl rfl (by kernel_rfl)
        obtain ⟨W', r1, r2, r3⟩ := conv_any W k 11 11 _ fr e2
        exact OpR.conv e1 r1 ⟨(hasOfRow (K := firstB) rfl e2).rl r2, S.fr e2 r2 r3 e3, r2⟩
      · cases hi
        have d0 : Has W (a.tmps.getD 24 undef) z32 := hd 0 _ 24 rfl rfl (by kernel_rfl)
        have d6 : Has W (a.tmps.getD 30 undef) (ff32 ++ (x ++ (y ++ z))) := hd 6 _ 30 rfl rfl (by kernel_rfl)
        have d8 : Has W (a.tmps.getD 32 undef) firstB := hd 8 _ 32 rfl rfl (by kernel_rfl)
        have hS6 := hS.on S.l
        refine OpR.callF [a.tmps.getD 24 undef, a.tmps.getD 30 undef, a.tmps.getD 32 undef, .int .i64 48] enter47 rfl ((rderive_gen _ _ (a.tmps.getD 32 undef) z32 (ff32 ++ (x ++ (y ++ z))) _ 48 rfl W d0 d6 (by decide) (by simp [ff32, hx, hy, hz]) hS6.r hS6.b (fun u v W' => v = .int .i64 0 ∧ Has W' u X ∧ Below W.heap.size W W') (fun d x1 hd1 hx1 => ?_)).mono fun e w' h => ?_)
        · refine (rexpand_ok (.slice (some ⟨d, 0, none⟩) 32 32) (a.tmps.getD 32 undef) _ firstB 48 x1 hd1 (d8.below hx1) (by rw [macOf_length]; decide) (by decide) (by decide) (hS6.on hx1).r (hS6.on hx1).b).mono fun e w' h => ?_
          obtain ⟨ao, c, rfl, h1, h2⟩ := h
          rw [hX] at h1
          exact ⟨_, _, rfl, rfl, h1, bt hx1 h2⟩
        · obtain ⟨u, v, rfl, rfl, h1, h2⟩ := h
          exact ⟨_, rfl, ⟨u, rfl, h1⟩, S.on h2, Rl.below h2⟩
      · cases hi
        obtain ⟨u, e1, e2⟩ : ∃ u, a.tmps.getD 33 undef = .tuple #[u, .int .i64 0] ∧ Has W u X := hd 9 _ 33 rfl rfl (by kernel_rfl)
        exact OpR.move e1 ⟨⟨u, rfl, e2⟩, S, Rl.below (Below.refl _ _)⟩
      · cases hi
        obtain ⟨u, e1, e2⟩ : ∃ u, a.tmps.getD 23 undef = .tuple #[u, .int .i64 0] ∧ Has W u X := hd 10 _ 23 rfl rfl (by kernel_rfl)
        exact OpR.extract e1 (ext_2 _ _ _).1 ⟨e2, S, Rl.below (Below.refl _ _)⟩
      · cases hi
        obtain ⟨u, e1, e2⟩ : ∃ u, a.tmps.getD 23 undef = .tuple #[u, .int .i64 0] ∧ Has W u X := hd 10 _ 23 rfl rfl (by kernel_rfl)
        exact OpR.extract e1 (ext_2 _ _ _).2 ⟨trivial, S, Rl.below (Below.refl _ _)⟩
      · cases hi
        have d11 : Has W (a.tmps.getD 34 undef) X := hd 11 _ 34 rfl rfl (by kernel_rfl)
        exact OpR.assign rfl ⟨d11, S, Rl.below (Below.refl _ _)⟩
      · cases hi
        exact OpR.assign rfl ⟨trivial, S, Rl.below (Below.refl _ _)⟩
    have hb6 : Has W6 (a.tmps.getD 10 undef) X := hd 13 _ 10 rfl rfl
    obtain ⟨vb, hvb⟩ : ∃ vb, a.tmps.getD 10 undef = vb := ⟨_, rfl⟩
    rw [hvb] at hb6
    refine EW.on ?_ a (ha.cons 10 hvb); refine EW.seq ?_; refine EW.region ?_
    obtain ⟨u1, p12, t1, c12, n1, hp12⟩ := new23 W6
    refine WL.new rfl rfl t1 ?_; refine WL.done ?_; refine EW.on ?_; refine EW.seq ?_; refine EW.region ?_
    obtain ⟨u2, p13, t2, c13, n2, hp13⟩ := new30 u1
    refine WL.new rfl rfl t2 ?_; refine WL.done ?_; refine EW.on ?_; refine EW.seq ?_; refine EW.seq ?_; refine EW.region ?_; refine WL.assign rfl rfl rfl ?_; refine WL.done ?_; refine EW.on ?_; refine EW.block ?_
    have hp12l : w.heap.size ≤ p12 := by have := S6.l.size; omega
    have hp13l : w.heap.size ≤ p13 := by have := S6.l.size; have := n1.size; omega
    have n126 : p12 ≠ p6 := by have := S6.fp.lt; omega
    have n137 : p13 ≠ p7 := by have := S6.fq.lt; have := n1.size; omega
    have hv12 : vb.ownBlock ≠ some p12 := (has_lt hb6 p12 (by omega)).resolve_left (by intro e; rw [e] at hXl; exact absurd hXl (by decide))
    have hv13 : vb.ownBlock ≠ some p13 := (has_lt hb6 p13 (by have := n1.size; omega)).resolve_left (by intro e; rw [e] at hXl; exact absurd hXl (by decide))
    refine EW.loop (mdE2 p6 p7 vb p12 p13) (MdI2 w X vb p6 p7 p12 p13) (fun t => 48 - t) 0 [6, 7, 10, 12, 13, 14] rfl ⟨by decide, (S6.fp.on n1).on n2, (S6.fq.on n1).on n2, c12.on n2, c13, (hb6.below n1).below n2, bt (bt S6.l n1) n2⟩ ?_
    rintro t wi ⟨hle, d6, d7, d12, d13, hb, hbe⟩
    show EW _ _ _ _ [(6, .pointer (some ⟨p6, 0, none⟩)), (7, .pointer (some ⟨p7, 0, none⟩)), (10, vb), (12, .pointer (some ⟨p12, 0, none⟩)), (13, .pointer (some ⟨p13, 0, none⟩)), (14, .int .i64 (t : Int))] _
    refine EW.seq ?_; refine EW.seq ?_; refine EW.region ?_; refine WL.move rfl rfl rfl ?_; refine WL.bin rfl rfl rfl rfl (int_lt_d _ _ _ _ _) ?_; refine WL.done ?_; refine EW.on ?_; refine EW.cond_d rfl (fun h37 => ?_) (fun h37 => ?_)
    · refine EW.skip ?_; refine EW.on ?_; refine EW.seq ?_; refine EW.block ?_; refine EW.seq ?_
      have h48 : t < 48 := by omega
      obtain ⟨u, hu⟩ : ∃ u, X[t]? = some u := ⟨_, List.getElem?_eq_getElem (by omega)⟩
      obtain ⟨ad, ix, ld⟩ := hb.item hu
      refine EW.region ?_; refine WL.move rfl rfl rfl ?_; refine WL.bin rfl rfl rfl rfl (int_lt_d _ _ _ _ _) ?_; refine WL.done ?_; refine EW.on ?_; refine EW.cond_d rfl (fun h41 => ?_) (fun h41 => ?_)
      · have h32 : t < 32 := by omega
        refine EW.region ?_; refine WL.move rfl rfl rfl ?_; refine WL.move rfl rfl rfl ?_; refine WL.move rfl rfl rfl ?_; refine WL.index rfl rfl rfl rfl (ix _) ?_; refine WL.load rfl rfl rfl ld ?_; refine WL.index rfl rfl rfl rfl (idxK p12 t h32 _) ?_
        rw [Nat.min_eq_left (show t ≤ 32 by omega)] at d12
        obtain ⟨v2, s2, e2, f2⟩ := stByte (j := t) u d12 (by rw [bnK_len hXa (by omega)]; exact h32)
        refine WL.store rfl rfl rfl s2 ?_
        rw [bnK_succ hXa h32 (by rw [List.getElem?_take_of_lt h32]; exact hu)] at e2
        refine WL.done ?_; refine pn_block ?_; refine EW.on ?_; refine EW.region ?_; refine WL.move rfl rfl rfl ?_; refine WL.bin rfl rfl rfl rfl (int_add (c := ((t + 1 : Nat) : Int)) (by rw [IntKind.wrap_i64]; omega) _ _ _) ?_; refine WL.assign rfl rfl rfl ?_; refine WL.done ?_
        rw [show t - 32 = t + 1 - 32 by omega] at d13
        rw [show t + 1 = min (t + 1) 32 by omega] at e2
        exact EW.again (E := mdE2 p6 p7 vb p12 p13) (R := MdI2 w X vb p6 p7 p12 p13) (m := fun t => 48 - t) (x := t) (t + 1) [6, 7, 10, 12, 13, 14] rfl ⟨by omega, d6.fx f2 n126.symm, d7.fx f2 (d7.neT d12 (by decide)), e2, d13.fx f2 (d13.neT d12 (by decide)), hb.fx f2 (fun k hk e => hv12 (by rw [hk, e])), bf hbe f2 hp12l⟩ (by show 48 - (t + 1) < 48 - t; omega)
      · have h32 : ¬ t < 32 := by omega
        refine EW.region ?_; refine WL.move rfl rfl rfl ?_; refine WL.bin rfl rfl rfl rfl (int_sub (c := ((t - 32 : Nat) : Int)) (by rw [IntKind.wrap_i64]; omega) _ _ _) ?_; refine WL.move rfl rfl rfl ?_; refine WL.move rfl rfl rfl ?_; refine WL.index rfl rfl rfl rfl (ix _) ?_; refine WL.load rfl rfl rfl ld ?_; refine WL.index rfl rfl rfl rfl (idx30 p13 (t - 32) (by omega) _) ?_
        obtain ⟨v2, s2, e2, f2⟩ := stByte (j := t - 32) u d13 (by rw [bn16_len hXb (by omega)]; omega)
        refine WL.store rfl rfl rfl s2 ?_
        rw [bn16_succ hXb (show t - 32 < 16 by omega) (by rw [List.getElem?_drop, show 32 + (t - 32) = t by omega]; exact hu)] at e2
        refine WL.done ?_; refine pn_block ?_; refine EW.on ?_; refine EW.region ?_; refine WL.move rfl rfl rfl ?_; refine WL.bin rfl rfl rfl rfl (int_add (c := ((t + 1 : Nat) : Int)) (by rw [IntKind.wrap_i64]; omega) _ _ _) ?_; refine WL.assign rfl rfl rfl ?_; refine WL.done ?_
        rw [show t - 32 + 1 = t + 1 - 32 by omega] at e2
        rw [show min t 32 = min (t + 1) 32 by omega] at d12
        exact EW.again (E := mdE2 p6 p7 vb p12 p13) (R := MdI2 w X vb p6 p7 p12 p13) (m := fun t => 48 - t) (x := t) (t + 1) [6, 7, 10, 12, 13, 14] rfl ⟨by omega, d6.fx f2 (d6.neT d13 (by decide)), d7.fx f2 n137.symm, d12.fx f2 (d12.neT d13 (by decide)), e2, hb.fx f2 (fun k hk e => hv13 (by rw [hk, e])), bf hbe f2 hp13l⟩ (by show 48 - (t + 1) < 48 - t; omega)
    · refine EW.exit ?_; refine px_then ?_; refine px_then ?_; refine px_block ?_; refine EW.on ?_; refine EW.seq ?_
      have t48 : t = 48 := by omega
      subst t48
      replace d12 : Blk wi p12 ((X.take 32).map byt) 23 := by have d := d12; rw [show min 48 32 = 32 from rfl, bnK_all hXa] at d; exact d
      replace d13 : Blk wi p13 ((X.drop 32).map byt) 30 := by have d := d13; rw [show 48 - 32 = 16 from rfl, bn16_all hXb] at d; exact d
      refine EW.ordZ [(0, 0, 1), (1, 0, 1), (2, 1, 1), (3, 1, 0)] (SR fun W => Blk W p12 ((X.take 32).map byt) 23 ∧ Blk W p13 ((X.drop 32).map byt) 30) (fun W => Blk W p12 ((X.take 32).map byt) 23 ∧ Blk W p13 ((X.drop 32).map byt) 30 ∧ Blk W p6 (z32.map byt) 23 ∧ Blk W p7 (z16.map byt) 30 ∧ Below w.heap.size w W) (by kernel_rfl) rfl (by kernel_rfl) (sr_anti _) ⟨d12.on (below_drawn wi), d13.on (below_drawn wi), d6.on (below_drawn wi), d7.on (below_drawn wi), bt hbe (below_drawn wi)⟩ ?_; simp only [opsZ, List.getD_cons_zero, List.getD_cons_succ]; refine ZE.load rfl rfl rfl rfl (sr1 fun W h => ⟨h.1, h.2.1⟩) (fun W hW => ld23 (sr_of hW).1 hXa) ?_; refine ZE.load rfl rfl rfl rfl (sr1 fun W h => ⟨h.1, h.2.1⟩) (fun W hW => ld30 (sr_of hW).2 hXb) ?_; refine ZE.store (fun W => Blk W p12 ((X.take 32).map byt) 23 ∧ Blk W p13 ((X.drop 32).map byt) 30 ∧ Blk W p6 ((X.take 32).map byt) 23 ∧ Blk W p7 (z16.map byt) 30 ∧ Below w.heap.size w W) rfl rfl rfl (fun _ h => .inr ⟨h.1, h.2.1⟩) (fun W hW => ?_) ?_
      · obtain ⟨g1, g2, g3, g4, g5⟩ := hW
        obtain ⟨w', r, b, f⟩ := st23 g3 z32l hXa
        exact ⟨w', r, g1.fx f n126, g2.fx f (g2.neT g3 (by decide)), b, g4.fx f (g4.neT g3 (by decide)), bf g5 f h6⟩
      refine ZE.store (fun W => Blk W p6 ((X.take 32).map byt) 23 ∧ Blk W p7 ((X.drop 32).map byt) 30 ∧ Below w.heap.size w W) rfl rfl rfl (fun _ _ => .inl rfl) (fun W hW => ?_) ?_
      · obtain ⟨g1, g2, g3, g4, g5⟩ := hW
        obtain ⟨w', r, b, f⟩ := st30 g4 rfl hXb
        exact ⟨w', r, g3.fx f (g3.neT g4 (by decide)), b, bf g5 f h7⟩
      rintro W9 ⟨e2, e3, e4⟩
      refine EW.on ?_; refine EW.ret ?_
      exact EW.ret_cc Tryd.results32 rfl rfl e2 e3 u23 rfl (i23 hXa) u30 rfl (i30 hXb) ⟨rfl, e4⟩
end Go.Proofs.YtoceepmehmacbaaDoor
