import Derived.Test.YtoceepmehmacbaaDoorKSwap
import Derived.Test.YtoceepmehmacbaaDoorKMul
set_option linter.unusedVariables false
set_option linter.unusedSimpArgs false
namespace Go.Proofs.YtoceepmehmacbaaDoor.Cv
open Go.RowKit

/-- Two elements, one behind the other. -/
structure R2 where
  x : L5
  z : L5
def R2.cs (r : R2) : List Value := [.int .u64 (wn r.x.a), .int .u64 (wn r.x.b), .int .u64 (wn r.x.c), .int .u64 (wn r.x.d), .int .u64 (wn r.x.e), .int .u64 (wn r.z.a), .int .u64 (wn r.z.b), .int .u64 (wn r.z.c), .int .u64 (wn r.z.d), .int .u64 (wn r.z.e)]
def R2.v (r : R2) : Value := .agg r.cs.toArray
def zero10 : R2 := ⟨⟨0, 0, 0, 0, 0⟩, ⟨0, 0, 0, 0, 0⟩⟩
theorem zero55 (w : World) : (zeroValue 73).run Tryd.prog w = .ok (.agg zero10.cs.toArray) w := by rw [Tryd.zeroValue73]; rfl
theorem rs_one (r : R2) : r.cs.toArray.all (·.oneCell') = true := by simp [R2.cs, Value.oneCell']
theorem rs_len (r s : R2) : r.cs.length = s.cs.length := rfl
theorem rs_sz (r s : R2) : r.cs.toArray.size = s.cs.toArray.size := rfl
theorem rs_info (r : R2) : (Tryd.prog.info? 73).map (·.size) = some r.cs.length := by kernel_rfl
theorem rs_infoA (r : R2) : (Tryd.prog.info? 73).map (·.size) = some r.cs.toArray.size := by kernel_rfl
theorem le_x (x : L5) (r : R2) : 0 + x.cs.length ≤ r.cs.length := by show 0 + 5 ≤ 10; decide
theorem le_z (x : L5) (r : R2) : 5 + x.cs.length ≤ r.cs.length := by show 5 + 5 ≤ 10; decide
theorem size1 (w : World) (a : Obj) : (w.alloc a).heap.size = w.heap.size + 1 := by simp
theorem size4 (w : World) (a b c d : Obj) : ((((w.alloc a).alloc b).alloc c).alloc d).heap.size = w.heap.size + 1 + 1 + 1 + 1 := by simp
theorem rs_app (r : R2) : r.cs = r.x.cs ++ r.z.cs := rfl

section
variable {P : Program} {ops : Array Oper} {Q : Exit → Act → World → Prop} {md : Region.Mode} {S : World → Prop}

/-- Cells written over. -/
def over : List Value → Nat → List Value → List Value
  | l, _, [] => l
  | l, o, v :: r => over (l.set o v) (o + 1) r
theorem Blk.setCells {g : Nat} {t : TypeId} : ∀ (vs : List Value) {W : World} {cs : List Value} (o : Nat), Blk W g cs t → Blk (W.setCells g o vs) g (over cs o vs) t
  | [], _, _, _, h => h
  | v :: r, W, cs, o, h => by
    rw [World.setCells, over]
    exact Blk.setCells r (o + 1) (h.set o v)
theorem Blk.setCellsOther {g k : Nat} {t : TypeId} (hk : g ≠ k) : ∀ (vs : List Value) {W : World} {cs : List Value} (o : Nat), Blk W g cs t → Blk (W.setCells k o vs) g cs t
  | [], _, _, _, h => h
  | v :: r, W, cs, o, h => by
    rw [World.setCells]
    exact Blk.setCellsOther hk r (o + 1) (h.setOther k o v hk)
theorem below_setCells {n g : Nat} {w : World} (hg : n ≤ g) : ∀ (vs : List Value) {W : World} (o : Nat), Below n w W → Below n w (W.setCells g o vs)
  | [], _, _, h => h
  | v :: r, W, o, h => by
    rw [World.setCells]
    exact below_setCells hg r (o + 1) (h.setCell hg v)
theorem Blk.there {W : World} {g : Nat} {cs : List Value} {t : TypeId} (h : Blk W g cs t) {o n : Nat} (hn : o + n ≤ cs.length) : W.there g o n := fun j hj =>
  ⟨by rw [h.cell, List.getElem?_eq_getElem (by omega)]; rfl, h.frozen _⟩
theorem Blk.range {W : World} {g : Nat} {cs : List Value} {t : TypeId} (h : Blk W g cs t) {o : Nat} {l : List Value} (hl : ∀ j, j < l.length → cs[o + j]? = l[j]?) : W.rangeAt g o l := fun j v hv => by
  rw [h.cell, hl j (List.getElem?_eq_some_iff.1 hv).1, hv]

theorem over_x (r : R2) (x : L5) : over r.cs 0 x.cs = (R2.mk x r.z).cs := rfl
theorem over_z (r : R2) (z : L5) : over r.cs 5 z.cs = (R2.mk r.x z).cs := rfl
theorem at_x (r : R2) : ∀ j, j < r.x.cs.length → r.cs[0 + j]? = r.x.cs[j]? := fun j hj => by
  rw [rs_app, Nat.zero_add, List.getElem?_append_left hj]
theorem at_z (r : R2) : ∀ j, j < r.z.cs.length → r.cs[5 + j]? = r.z.cs[j]? := fun j hj => by
  rw [rs_app, List.getElem?_append_right (by show 5 ≤ _; omega)]
  congr 1
  show 5 + j - 5 = j
  omega

/-- A row out of the middle of a block is loaded. -/
theorem uni_mid {o : Oper} {a : Act} (hg : o.guard = none) (ty : TypeId) (x : Operand) (ho : o.op = .load ty x) (g off : Nat) (cs : List Value) (hx : a.eval x = .pointer (some ⟨g, off, none⟩))
    (hb : ∀ W, S W → W.rangeAt g off cs) {d : TypeDesc} (hu : P.underlying ty = some d) (hd : d.isRow = true) (hi : (P.info? ty).map (·.size) = some cs.length) : Uni P ops S o (.agg cs.toArray) a := by
  refine .inl ⟨by simp [Region.wanted, hg], .inl fun W hW => ?_⟩
  unfold execOp
  simp only [ho, hx, Instr.loadAt, Instr.sureAddr, Sem.run_bind, Sem.run_pure, Result.andThen_ok, run_loadVar_mid W g off ty cs d (hb W hW) hu hd hi]

/-- .. then a row is stored into the middle of a block that lies there. -/
theorem reg_putM {id : Nat} {l : List Oper} {os : Oper} {a : Act} {w : World} (hm : P.follows .mixedOrders = true) (n : Nat) (hl' : l.length = n + 1) (hos : l[n]? = some os)
    (hB : (Region.noSelect l.toArray && lexOk .any l.toArray n n 0 (none_ (n + 1)) && (Region.ready .any l.toArray (firstN n 0 (none_ (n + 1))) == [n]) && full n (firstN n 0 (none_ (n + 1))) && (Region.ready .any l.toArray ((firstN n 0 (none_ (n + 1))).setIfInBounds n true)).isEmpty) = true)
    (hg : os.guard = none) (hd : os.dst = none) (t : TypeId) (x y : Operand) (ho : os.op = .store t x y)
    (h : wpLex P l.toArray (fun W => Below w.heap.size w W) (fun a' => ∃ g off cs old t', a'.eval x = .pointer (some ⟨g, off, none⟩) ∧ a'.eval y = .agg (List.toArray cs) ∧ Blk w g old t' ∧ (P.info? t).map (·.size) = some cs.length ∧ off + cs.length ≤ old.length ∧ cs.toArray.all (·.oneCell') = true ∧
      ∀ W, Below w.heap.size w W → Q .normal a' (W.setCells g off cs)) (l.take n) a) : (Code.region id l.toArray true).wp P Q a w := by
  have hl := cut1 n hl' hos
  have hn : (l.take n).length = n := by simp; omega
  generalize l.take n = pre at hl hn h
  simp only [Bool.and_eq_true, beq_iff_eq] at hB
  obtain ⟨⟨⟨⟨h1, h2⟩, h3⟩, h4⟩, h5⟩ := hB
  have hlen : l.length = n + 1 := hl'
  have hi : l.toArray[n]? = some os := by simpa using hos
  refine wp_region_any hm ?_
  refine wpAny_of_R (S := fun W => Below w.heap.size w W) (T := n) _ _ _ (fun W => Below w.heap.size w W) (stable_below w) (fun _ h => h) ?_ _ (below_drawn w)
  have := wpAnyR_lex (P := P) (Q := Q) (T := n) (md := .any) (S := fun W => Below w.heap.size w W) (ops := l.toArray) h1 (by simp; omega) (fun W => Below w.heap.size w W) 1 pre 0 (none_ (n + 1)) a (by
      intro j hj; rw [hl]; simp [List.getElem?_append_left hj]) (by rw [hn]; exact h2) (closed_none _) (by simp [none_, hlen]) ?_
  · rw [hn, Nat.add_comm] at this
    simpa [none_, hlen] using this
  · refine wpLex_mono ?_ pre a h
    rintro a' ⟨g, off, cs, old, t', e1, e2, hb, e3, e4, e5, hk⟩
    rw [hn]
    unfold wpAnyR
    rw [if_pos h4]
    intro W hW
    refine only_one h3 ?_
    refine op_store hi hg hd t x y ho g off cs.toArray e1 e2 ((hb.on hW).there (by simpa using e4)) (by simpa using e3) e5 ?_
    exact wpAny_done (by simpa using h5) (by simpa using hk W hW) 0
/-- The first n, then the rest. -/
theorem lst_then {id : Nat} {l : List Oper} {a : Act} {w : World} (n : Nat)
    (h : wpLex P l.toArray (fun W => Below w.heap.size w W) (fun a' => ∀ W, Below w.heap.size w W → wpList P l.toArray Q (l.drop n) a' W) (l.take n) a) : (Code.region id l.toArray false).wp P Q a w := by
  refine wp_region_lit ?_
  have := wpList_of_lex (P := P) (Q := Q) (stable_below w) _ (l.drop n) (fun a' W (hk : ∀ W, Below w.heap.size w W → wpList P l.toArray Q (l.drop n) a' W) hW => hk W hW) (l.take n) a w (Below.refl _ _) h
  rwa [List.take_append_drop] at this
/-- One operation of one value in a list. -/
theorem lst_val {o : Oper} {rest : List Oper} {a a' : Act} {w : World} (hg : o.guard = none) (op : Op) (ho : o.op = op) (v : Value) (hrun : ∀ o' : Oper, o'.op = op → (execOp a.eval o').run P w = .ok (.value v) w) (ha : a.put o.dst v = a') (k : wpList P ops Q rest a' w) : wpList P ops Q (o :: rest) a w := by
  have hwa : Region.wanted o (yielded ops a.tmps) = true := by simp [Region.wanted, hg]
  unfold wpList
  simp only [hwa, if_true, Oper.wp, hrun o ho, Oper.upon]
  rw [ha]
  exact .inl k
theorem lst_store {op : Oper} {rest : List Oper} {a : Act} {w : World} (hg : op.guard = none) (hd : op.dst = none) (ty : TypeId) (x y : Operand) (ho : op.op = .store ty x y)
    (b o : Nat) (cs : List Value) (hx : a.eval x = .pointer (some ⟨b, o, none⟩)) (hy : a.eval y = .agg cs.toArray)
    (ht : w.there b o cs.length) (hi : (P.info? ty).map (·.size) = some cs.length) (h1 : cs.toArray.all (·.oneCell') = true)
    (h : wpList P ops Q rest a (w.setCells b o cs)) : wpList P ops Q (op :: rest) a w := by
  refine wpList_store_mid hg ty x y ho b o cs.toArray hx hy (by simpa using ht) (by simpa using hi) h1 ?_
  rw [hd]
  rw [show cs = cs.toArray.toList by simp] at h
  exact h
theorem lst_row {op : Oper} {rest : List Oper} {a : Act} {w : World} (hg : op.guard = none) (hd : op.dst = none) (ty : TypeId) (x y : Operand) (ho : op.op = .store ty x y)
    (b : Nat) (cs old : List Value) (t : TypeId) (hx : a.eval x = .pointer (some ⟨b, 0, none⟩)) (hy : a.eval y = .agg cs.toArray)
    (hb : Blk w b old t) (hi : (P.info? ty).map (·.size) = some cs.length) (hl : old.length = cs.length) (h1 : cs.toArray.all (·.oneCell') = true)
    (h : wpList P ops Q rest a (w.setRow b cs.toArray)) : wpList P ops Q (op :: rest) a w := by
  refine wpList_store_row hg ty x y ho b cs.toArray hx hy t old.toArray hb (by simpa using hi) (by simpa using hl) h1 ?_
  rw [hd]
  exact h
theorem uni_build1 {o : Oper} {a : Act} (hw : Region.wanted o (yielded ops a.tmps) = true) (t : TypeId) (x : Operand) (ho : o.op = .build t #[(0, x)]) (u v : Value) (hx : a.eval x = u) (h : ∀ W, (Instr.build t #[(0, u)]).run P W = .ok v W) : Uni P ops S o v a := by
  refine .inl ⟨hw, .inl fun W _ => ?_⟩
  unfold execOp
  simp only [ho, List.map_toArray, List.map_cons, List.map_nil, hx]
  simp only [Sem.run_bind, h W, Result.andThen_ok, Sem.run_pure]
theorem uni_build0 {o : Oper} {a : Act} (hw : Region.wanted o (yielded ops a.tmps) = true) (t : TypeId) (ho : o.op = .build t #[]) (v : Value) (h : ∀ W, (Instr.build t #[]).run P W = .ok v W) : Uni P ops S o v a := by
  refine .inl ⟨hw, .inl fun W _ => ?_⟩
  unfold execOp
  simp only [ho, List.map_toArray, List.map_nil]
  simp only [Sem.run_bind, h W, Result.andThen_ok, Sem.run_pure]
theorem uni_build2 {o : Oper} {a : Act} (hw : Region.wanted o (yielded ops a.tmps) = true) (t : TypeId) (x y : Operand) (ho : o.op = .build t #[(0, x), (1, y)]) (u u' v : Value) (hx : a.eval x = u) (hy : a.eval y = u') (h : ∀ W, (Instr.build t #[(0, u), (1, u')]).run P W = .ok v W) : Uni P ops S o v a := by
  refine .inl ⟨hw, .inl fun W _ => ?_⟩
  unfold execOp
  simp only [ho, List.map_toArray, List.map_cons, List.map_nil, hx, hy]
  simp only [Sem.run_bind, h W, Result.andThen_ok, Sem.run_pure]
theorem lst_putM {id : Nat} {l : List Oper} {os : Oper} {a : Act} {w : World} (n : Nat) (hl : l.length = n + 1) (hos : l[n]? = some os)
    (hg : os.guard = none) (hd : os.dst = none) (t : TypeId) (x y : Operand) (ho : os.op = .store t x y)
    (h : wpLex P l.toArray (fun W => Below w.heap.size w W) (fun a' => ∃ g off cs old t', a'.eval x = .pointer (some ⟨g, off, none⟩) ∧ a'.eval y = .agg (List.toArray cs) ∧ Blk w g old t' ∧ (P.info? t).map (·.size) = some cs.length ∧ off + cs.length ≤ old.length ∧ cs.toArray.all (·.oneCell') = true ∧
      ∀ W, Below w.heap.size w W → Q .normal a' (W.setCells g off cs)) (l.take n) a) : (Code.region id l.toArray false).wp P Q a w := by
  refine wp_region_lit ?_
  have := wpList_of_lex (P := P) (Q := Q) (stable_below w) _ [os] (fun a' W ⟨g, off, cs, old, t', e1, e2, hb, e3, e4, e5, hk⟩ hW =>
    wpList_store_mid hg t x y ho g off cs.toArray e1 e2 ((hb.on hW).there (by simpa using e4)) (by simpa using e3) e5 (wpList_nil (by
      rw [hd]
      have hq := hk W hW
      rw [show cs = cs.toArray.toList by simp] at hq
      exact hq))) (l.take n) a w (Below.refl _ _) h
  rw [← cut1 n hl hos] at this
  exact this
end
end Go.Proofs.YtoceepmehmacbaaDoor.Cv
