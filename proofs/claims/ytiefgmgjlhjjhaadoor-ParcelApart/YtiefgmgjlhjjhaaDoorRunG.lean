import Derived.Test.YtiefgmgjlhjjhaaDoorMacG
import Derived.ChangeKeysEq
import Derived.Laws.StructEq
import Derived.Test.YtiefgmgjlhjjhaaDoorRegG
import Derived.OrdersHeld
import Derived.Lib.SlBytesConst
import Derived.Deep.RegionHeld3
import Derived.Deep.DeepCutAuto
namespace Go.Proofs.YtiefgmgjlhjjhaaDoor
open Go.RowKit

theorem eqItems_same (L : List UInt8) (d : Nat) (W : World) : ∀ is : List Nat, (∀ i ∈ is, i < L.length) → (Op.eqItems (d + 1) 5 1 (L.map byt).toArray (L.map byt).toArray is).run Tryd.prog W = .ok true W
  | [], _ => by simp [Op.eqItems]
  | i :: is, h => by
    have hi := h i (by simp)
    have hp : (part 5 (L.map byt).toArray (i * 1)).run Tryd.prog W = .ok (.int .u8 ((L.getD i 0).toNat : Int)) W := by
      have h1 : (L.map byt).toArray[i]? = some (.int .u8 ((L.getD i 0).toNat : Int)) := by rw [List.getElem?_toArray, byts_at L i hi]
      simp only [part, Sem.run_bind, Tryd.isAgg5, Result.andThen_ok, Nat.mul_one, h1]
      simp
    have he := run_equalIn_int (P := Tryd.prog) W d 5 .u8 .u8 ((L.getD i 0).toNat : Int) ((L.getD i 0).toNat : Int) Tryd.underlying5
    simp only [Op.eqItems, Sem.run_bind, hp, he, Result.andThen_ok]
    simp
    exact eqItems_same L d W is (fun j hj => h j (by simp [hj]))

theorem eq24 (L : List UInt8) (hl : L.length = 32) (W : World) : (Op.equalIn 10000 92 (.agg (L.map byt).toArray) (.agg (L.map byt).toArray)).run Tryd.prog W = .ok true W := by
  obtain ⟨i0, hi, _⟩ := info_parts Tryd.info5
  rw [run_equalIn_array W 9999 (L.map byt).toArray (L.map byt).toArray Tryd.underlying92 hi]
  have hc : Tryd.prog.cellsOf 5 = 1 := by kernel_rfl
  rw [hc]
  exact eqItems_same L 9998 W _ (fun i hi => by rw [hl]; exact List.mem_range.1 hi)
theorem has_news (W : World) (bs : List UInt8) : Has (W.alloc (.cells (bs.map byt).toArray 5)) (.slice (some ⟨W.heap.size, 0, none⟩) bs.length bs.length) bs := by
  refine .inr ⟨_, _, rfl, Nat.le_refl _, fun i u hu => ?_⟩
  rw [add_plain, (Blk.new W (bs.map byt) 5).cell, List.getElem?_map, hu]
  rfl

section
variable {P : Program} {ops : Array Oper} {Q : Exit → Act → World → Prop} {md : Region.Mode} {S : World → Prop}

/-- An operation that yields its value wherever S holds is taken first. -/
theorem takeH {i : Nat} {o : Oper} (hi : ops[i]? = some o) (op : Op) (ho : o.op = op) (d : Nat) (hd : o.dst = some d) {v : Value} {fuel : Nat} {listed : Array Bool} {a : Act} {w : World}
    (hs : Region.noSelect ops = true) (hf : Region.free md ops listed i = true) (hr : (Region.ready md ops listed).contains i = true)
    (hQ : ∀ c a w, Q (.panic c) (a.put (some d) v) w → Q (.panic c) a w) (hw : Region.wanted o (yielded ops a.tmps) = true) (hrun : ∀ o' : Oper, o'.op = op → ∀ w, S w → (execOp a.eval o').run P w = .ok (.value v) w) (hS : S w)
    (h : wpAnyH P md ops Q S fuel (listed.setIfInBounds i true) (a.put (some d) v) w) : wpAnyH P md ops Q S (fuel + 1) listed a w := by
  rw [← hd] at hQ h
  exact wpAnyH_take hi hs hf hr hQ (.inl ⟨hw, hrun o ho⟩) hS h

theorem takeH_load {i : Nat} {o : Oper} (hi : ops[i]? = some o) (d' : Nat) (hd' : o.dst = some d') (ty : TypeId) (x : Operand) (ho : o.op = .load ty x) {fuel : Nat} {listed : Array Bool} {a : Act} {w : World} {cs : List Value}
    (hs : Region.noSelect ops = true) (hf : Region.free md ops listed i = true) (hr : (Region.ready md ops listed).contains i = true)
    (hQ : ∀ c a w, Q (.panic c) (a.put (some d') (.agg cs.toArray)) w → Q (.panic c) a w) (hw : Region.wanted o (yielded ops a.tmps) = true)
    (b off : Nat) (hx : a.eval x = .pointer (some ⟨b, off, none⟩)) (cs' : List Value) (hcs : cs' = cs) (hS' : ∀ w, S w → w.rangeAt b off cs') {d : TypeDesc}
    (hu : P.underlying ty = some d) (hd : d.isRow = true) (hsz : (P.info? ty).map (·.size) = some cs'.length) (hS : S w)
    (h : wpAnyH P md ops Q S fuel (listed.setIfInBounds i true) (a.put (some d') (.agg cs.toArray)) w) : wpAnyH P md ops Q S (fuel + 1) listed a w := by
  subst hcs
  rw [← hd'] at hQ h
  exact wpAnyH_take hi hs hf hr hQ (yieldsIf_load_mid hw ty x ho b off hx cs' d hS' hu hd hsz) hS h

theorem onlyH {i : Nat} {fuel : Nat} {listed : Array Bool} {a : Act} {w : World} (hr : Region.ready md ops listed = [i])
    (h : wpOp P ops Q i (fun a' w' => S w' ∧ wpAnyH P md ops Q S fuel (listed.setIfInBounds i true) a' w') a w) : wpAnyH P md ops Q S (fuel + 1) listed a w :=
  wpAnyH_all hr (by simp) (fun j hj => by
    obtain rfl : j = i := by simpa using hj
    exact h)

theorem opG_wp {i : Nat} {o : Oper} (hi : ops[i]? = some o) {K : Act → World → Prop} {a : Act} {w : World} (hw : Region.wanted o (yielded ops a.tmps) = true) (h : o.wp P a w K Q) : wpOp P ops Q i K a w := by
  unfold wpOp
  simp only [hi, hw, if_true]
  exact .inl h

theorem opG_run {i : Nat} {o : Oper} (hi : ops[i]? = some o) {K : Act → World → Prop} {a : Act} {w : World} (hw : Region.wanted o (yielded ops a.tmps) = true) (op : Op) (ho : o.op = op) (d : Nat) (hd : o.dst = some d) (v : Value) (w1 : World)
    (hrun : ∀ o' : Oper, o'.op = op → (execOp a.eval o').run P w = .ok (.value v) w1) (h : K (a.put (some d) v) w1) : wpOp P ops Q i K a w := by
  refine opG_wp hi hw ?_
  unfold Oper.wp
  rw [hrun o ho]
  simp only [Oper.upon]
  rw [hd]
  exact h

theorem opG_call {i : Nat} {o : Oper} (hi : ops[i]? = some o) {K : Act → World → Prop} {a : Act} {w : World} (hw : Region.wanted o (yielded ops a.tmps) = true) (op : Op) (ho : o.op = op) (d : Nat) (hd : o.dst = some d) (f : FuncId) (args : Array Value)
    (hrun : ∀ o' : Oper, o'.op = op → (execOp a.eval o').run P w = .ok (.enter f args) w) {R : Value → World → Prop} (hc : Calls P f args w fun e w' => ∃ v, e = .returned v ∧ R v w')
    (h : ∀ v w', R v w' → K (a.put (some d) v) w') : wpOp P ops Q i K a w := by
  refine opG_wp hi hw ?_
  unfold Oper.wp
  rw [hrun o ho]
  simp only [Oper.upon]
  refine hc.mono fun e w' ⟨v, he, hR⟩ => ?_
  subst he
  rw [hd]
  exact h v w' hR
end
/-- 'make([]byte, l)'. -/
theorem wpList_mkB {ops : Array Oper} {rest : List Oper} {o : Oper} {a : Act} {w : World} {Q : Exit → Act → World → Prop} (hgd : o.guard = none) (x y : Operand) (ho : o.op = .makeSlice 24 x y) (l : Nat) (li : Int) (hli : li = l)
    (hx : a.eval x = .int .i64 li) (hy : a.eval y = .int .i64 li) (hc : l ≤ 16777216) (g : Nat) (hg : g = w.heap.size)
    (h : wpList Tryd.prog ops Q rest (a.put o.dst (.slice (some ⟨g, 0, none⟩) l l)) (w.alloc (.cells ((List.replicate l 0).map byt).toArray 5))) : wpList Tryd.prog ops Q (o :: rest) a w := by
  subst hli hg
  obtain ⟨i0, hi, hz0, hz1, hz2⟩ := info_parts Tryd.info5
  have hrun := run_makeSlice (P := Tryd.prog) w 24 5 i0 (.int .u8 0) Tryd.underlying24 hi hz0 .i64 .i64 l l (by omega) (by omega) (by rw [hz1]; simpa using hc) (by rw [hz2]; omega) (by omega)
  rw [hz1, Int.toNat_natCast, Nat.mul_one, made_zeros] at hrun
  refine wpList_plain hgd fun K hK => ?_
  unfold Oper.wp
  simp only [execOp, ho, hx, hy, Sem.run_bind, hrun, Result.andThen_ok]
  exact hK _ _ h

/-- Bytes of the call's own, at block p. -/
structure Tu (w wx : World) (p : Nat) (L : List UInt8) : Prop where
  bl : Blk wx p (L.map byt) 5
  be : Below w.heap.size w wx
  lp : w.heap.size ≤ p
theorem Tu.set {w wx : World} {p : Nat} {L : List UInt8} (h : Tu w wx p L) (j : Nat) (u : UInt8) : Tu w (wx.setCell ⟨p, j, none⟩ (.int .u8 (u.toNat : Int))) p (L.set j u) :=
  ⟨by rw [← byts_set]; exact h.bl.set j _, h.be.setCell h.lp _, h.lp⟩

theorem has_newsM (W : World) (bs : List UInt8) (fr : Nat × Nat) (n : Nat) (hn : n = W.heap.size) : Has (W.alloc (.cells (bs.map byt).toArray 5 fr)) (.slice (some ⟨n, 0, none⟩) bs.length bs.length) bs := by
  subst hn
  refine .inr ⟨_, _, rfl, Nat.le_refl _, fun i u hu => ?_⟩
  rw [add_plain, cell_of_row _ _ i _ 5 fr (heap_alloc_new W _)]
  simp [hu]

section
variable {P : Program} {ops : Array Oper} {Q : Exit → Act → World → Prop} {md : Region.Mode} {S : World → Prop}

theorem op_run {i : Nat} {o : Oper} (hi : ops[i]? = some o) (hg : o.guard = none) {K : Act → World → Prop} {a : Act} {w : World} (op : Op) (ho : o.op = op) (d : Nat) (hd : o.dst = some d) (v : Value) (w1 : World)
    (hrun : ∀ o' : Oper, o'.op = op → (execOp a.eval o').run P w = .ok (.value v) w1) (h : K (a.put (some d) v) w1) : wpOp P ops Q i K a w := by
  refine op_wp hi hg ?_
  unfold Oper.wp
  rw [hrun o ho]
  simp only [Oper.upon]
  rw [hd]
  exact h
theorem eitherH {i j : Nat} {fuel : Nat} {listed : Array Bool} {a : Act} {w : World} (hr : Region.ready md ops listed = [i, j])
    (h : wpOp P ops Q i (fun a' w' => S w' ∧ wpAnyH P md ops Q S fuel (listed.setIfInBounds i true) a' w') a w) (k : wpOp P ops Q j (fun a' w' => S w' ∧ wpAnyH P md ops Q S fuel (listed.setIfInBounds j true) a' w') a w) : wpAnyH P md ops Q S (fuel + 1) listed a w :=
  wpAnyH_all hr (by simp) (fun l hl => by
    rcases (show l = i ∨ l = j by simpa using hl) with rfl | rfl
    · exact h
    · exact k)
end

theorem run_new {P : Program} {ev : Operand → Value} {o : Oper} (t : TypeId) (ho : o.op = .alloc t) (cs : List Value) (hz : ∀ w, (zeroValue t).run P w = .ok (.agg cs.toArray) w) (w : World) : (execOp ev o).run P w = .ok (.value (.pointer (some ⟨w.heap.size, 0, none⟩))) (w.alloc (.cells cs.toArray t)) := by
  simp [execOp, ho, Instr.alloc, hz, newVar, newRow, Value.cells]
/-- A digest's place is made. -/
theorem run_new42 {ev : Operand → Value} {o : Oper} (ho : o.op = .alloc 92) (w : World) : (execOp ev o).run Tryd.prog w = .ok (.value (.pointer (some ⟨w.heap.size, 0, none⟩))) (w.alloc (.cells (z32.map byt).toArray 92)) :=
  run_new 92 ho (z32.map byt) zero24 w

theorem Parts.below {w x : World} {v : Value} {ps : List (Value × List UInt8)} (h : Parts w v ps) (hb : Below w.heap.size w x) : Parts x v ps := by
  rcases h with h | ⟨ad, cap, rfl, h2, h3⟩
  · exact .inl h
  · exact .inr ⟨ad, cap, rfl, h2, fun i p hp => ⟨(hb.cell (cell_lt (h3 i p hp).1)).trans (h3 i p hp).1, (h3 i p hp).2.below hb⟩⟩

theorem two_all {W : World} {a b : Value} {xa xb : List UInt8} (h1 : Has W a xa) (h2 : Has W b xb) : ∀ p ∈ [(a, xa), (b, xb)], Has W p.1 p.2 := by
  intro p hp
  simp only [List.mem_cons, List.not_mem_nil, or_false] at hp
  rcases hp with rfl | rfl
  · exact h1
  · exact h2
theorem three_all {W : World} {a b c : Value} {xa xb xc : List UInt8} (h1 : Has W a xa) (h2 : Has W b xb) (h3 : Has W c xc) : ∀ p ∈ [(a, xa), (b, xb), (c, xc)], Has W p.1 p.2 := by
  intro p hp
  simp only [List.mem_cons, List.not_mem_nil, or_false] at hp
  rcases hp with rfl | rfl | rfl
  · exact h1
  · exact h2
  · exact h3
theorem five_all {W : World} {a b : Value} {xa xb : List UInt8} (h1 : Has W a xa) (h2 : Has W b xb) : ∀ p ∈ [(Value.slice none 0 0, []), (a, xa), (.slice none 0 0, []), (b, xb), (.slice none 0 0, [])], Has W p.1 p.2 := by
  intro p hp
  simp only [List.mem_cons, List.not_mem_nil, or_false] at hp
  rcases hp with rfl | rfl | rfl | rfl | rfl
  · exact Has.nil _
  · exact h1
  · exact Has.nil _
  · exact h2
  · exact Has.nil _

theorem sum_is (W : World) (n : Nat) (hW : n = W.heap.size) (ps : List (Value × List UInt8)) (M D : List UInt8) (hD : sumOf M = D) (h : ∀ p ∈ ps, Has W p.1 p.2) (hK : Kst W) (hM : ps.flatMap (·.2) = M) (hn : M.length ≤ 1152921504606846976) (hl : ps.length ≤ 1000) :
    Calls Tryd.prog 36 #[.slice (some ⟨n, 0, none⟩) ps.length ps.length] (W.alloc (.cells (ps.map (·.1)).toArray 24)) fun e w' => e = .returned (.agg (D.map byt).toArray) ∧ Below W.heap.size W w' := by
  subst hD
  exact sum_at W n hW ps M h hK hM hn hl
theorem sum_gen (v : Value) (ps : List (Value × List UInt8)) (M D : List UInt8) (hM : ps.flatMap (·.2) = M) (hD : sumOf M = D) (w : World) (hP : Parts w v ps) (hK : Kst w) (hn : M.length ≤ 1152921504606846976) (hl : ps.length ≤ 1000000) :
    Calls Tryd.prog 36 #[v] w fun e w' => e = .returned (.agg (D.map byt).toArray) ∧ Below w.heap.size w w' := by
  subst hM hD
  exact sum_any v ps w hP hK hn hl
theorem Tu.has {w wx : World} {p : Nat} {L : List UInt8} (h : Tu w wx p L) (n : Nat) (hn : L.length = n) : Has wx (.slice (some ⟨p, 0, none⟩) n n) L := h.bl.has n hn
theorem take_slice {w : World} {ao : Option Addr} {n c : Nat} {bs : List UInt8} (h : Has w (.slice ao n c) bs) (hn : bs.length = n) (k : Nat) (hk : k ≤ n) : Has w (.slice ao k c) (bs.take k) := by
  have := h.cut 0 k (by omega) (by omega)
  have e : cutV (.slice ao n c) 0 k = .slice ao k c := by
    cases ao <;> simp [cutV, sliced, Addr.add]
  rw [e] at this
  simpa using this
theorem has_cap {w : World} {ao : Option Addr} {n c : Nat} {bs : List UInt8} (h : Has w (.slice ao n c) bs) : n ≤ c := by
  rcases h with ⟨h1, h2⟩ | ⟨ad, c2, h1, h2, _⟩
  · cases h1; exact Nat.le_refl _
  · cases h1; exact h2

theorem Blk.there {w : World} {g : Nat} {cs : List Value} {t : TypeId} (h : Blk w g cs t) (n : Nat) (hn : n ≤ cs.length) : w.there g 0 n := fun j hj =>
  ⟨by rw [h.cell, List.getElem?_eq_getElem (by omega)]; rfl, h.frozen _⟩
theorem Blk.all {w : World} {g : Nat} {cs : List Value} {t : TypeId} (h : Blk w g cs t) (vs : List Value) (hn : vs.length = cs.length) : Blk (w.setCells g 0 vs) g vs t := by
  have := Blk.setCells vs 0 w cs h (by omega)
  rwa [List.take_zero, List.nil_append, Nat.zero_add, List.drop_eq_nil_of_le (by omega), List.append_nil] at this
/-- A digest in its place. -/
structure Dgt (w x : World) (d : Nat) (D : List UInt8) : Prop where
  bl : Blk x d (D.map byt) 92
  be : Below w.heap.size w x
  ld : w.heap.size ≤ d
theorem Dgt.below {w x y : World} {d : Nat} {D : List UInt8} (h : Dgt w x d D) (hb : Below x.heap.size x y) : Dgt w y d D := ⟨h.bl.below hb h.bl.lt, h.be.trans (hb.mono h.be.size), h.ld⟩
theorem Dgt.alloc {w x : World} {d : Nat} {D : List UInt8} (h : Dgt w x d D) (o : Obj) : Dgt w (x.alloc o) d D := h.below (below_new x o)
theorem Dgt.new {w x : World} (h : Below w.heap.size w x) : Dgt w (x.alloc (.cells (z32.map byt).toArray 92)) x.heap.size z32 := ⟨Blk.new x _ _, h.alloc h.size _, h.size⟩
theorem Dgt.put {w x : World} {d : Nat} {D E : List UInt8} (h : Dgt w x d D) (hn : E.length = D.length) : Dgt w (x.setCells d 0 (E.map byt)) d E :=
  ⟨h.bl.all _ (by simp [hn]), h.be.trans ((Fx.setCells (S := One d) d rfl _ _ _).below (fun k hk (e : k = d) => by have := h.ld; omega) h.be.size), h.ld⟩
theorem Dgt.row {w x : World} {d : Nat} {D E : List UInt8} (h : Dgt w x d D) : Dgt w (x.setRow d (E.map byt).toArray) d E := ⟨h.bl.setRow _, below_setRow h.be _ _ h.ld, h.ld⟩
theorem Dgt.rg {w x : World} {d : Nat} {D : List UInt8} (h : Dgt w x d D) : x.rangeAt d 0 (D.map byt) := fun j v hv => by
  rw [Nat.zero_add, h.bl.cell]; exact hv
theorem Dgt.has {w x : World} {d : Nat} {D : List UInt8} (h : Dgt w x d D) (n : Nat) (hn : D.length = n) : Has x (.slice (some ⟨d, 0, none⟩) n n) D := h.bl.has n hn
theorem info42l (D : List UInt8) (h : D.length = 32) : (Tryd.prog.info? 92).map (·.size) = some (D.map byt).length := by rw [List.length_map, h]; kernel_rfl
/-- Two digests in their places. -/
structure Dg2 (w x : World) (d e : Nat) (D : List UInt8) : Prop where
  bl : Blk x d (D.map byt) 92
  bm : Blk x e (D.map byt) 92
  be : Below w.heap.size w x
theorem Dg2.below {w x y : World} {d e : Nat} {D : List UInt8} (h : Dg2 w x d e D) (hb : Below x.heap.size x y) : Dg2 w y d e D := ⟨h.bl.below hb h.bl.lt, h.bm.below hb h.bm.lt, h.be.trans (hb.mono h.be.size)⟩
theorem Dg2.alloc {w x : World} {d e : Nat} {D : List UInt8} (h : Dg2 w x d e D) (o : Obj) : Dg2 w (x.alloc o) d e D := h.below (below_new x o)
theorem Dg2.rg {w x : World} {d e : Nat} {D : List UInt8} (h : Dg2 w x d e D) : x.rangeAt d 0 (D.map byt) ∧ x.rangeAt e 0 (D.map byt) :=
  ⟨fun j v hv => by rw [Nat.zero_add, h.bl.cell]; exact hv, fun j v hv => by rw [Nat.zero_add, h.bm.cell]; exact hv⟩
theorem eq42 (D : List UInt8) (hl : D.length = 32) (W : World) : (Op.equalIn 10000 92 (.agg (D.map byt).toArray) (.agg (D.map byt).toArray)).run Tryd.prog W = .ok true W := eq24 D hl W
end Go.Proofs.YtiefgmgjlhjjhaaDoor
