import Derived.Test.YtnfikgnploockaaDoorLaw4G
import Derived.Deep.RegionHeld3
import Derived.Deep.DeepCutAuto
namespace Go.Proofs.YtnfikgnploockaaDoor
open Go.RowKit

section
variable {P : Program} {ops : Array Oper} {Q : Exit → Act → World → Prop} {md : Region.Mode} {S : World → Prop}

theorem op_run {i : Nat} {o : Oper} (hi : ops[i]? = some o) (hg : o.guard = none) {K : Act → World → Prop} {a : Act} {w : World} (op : Op) (ho : o.op = op) (d : Nat) (hd : o.dst = some d) (v : Value) (w1 : World)
    (hrun : ∀ o' : Oper, o'.op = op → (execOp a.eval o').run P w = .ok (.value v) w1) (h : K (a.put (some d) v) w1) : wpOp P ops Q i K a w := by
  refine op_wp hi hg ?_
  unfold Oper.wp
  rw [hrun o ho]
  simp only [Oper.upon]
  rw [hd]
  exact h
theorem eitherH {i j : Nat} {fuel : Nat} {listed : Array Bool} {a : Act} {w : World} (hr : Region.ready md ops listed = [i, j])
    (h : wpOp P ops Q i (fun a' w' => S w' ∧ wpAnyH P md ops Q S fuel (listed.setIfInBounds i true) a' w') a w) (k : wpOp P ops Q j (fun a' w' => S w' ∧ wpAnyH P md ops Q S fuel (listed.setIfInBounds j true) a' w') a w) : wpAnyH P md ops Q S (fuel + 1) listed a w :=
  wpAnyH_all hr (by simp) (fun l hl => by
    rcases (show l = i ∨ l = j by simpa using hl) with rfl | rfl
    · exact h
    · exact k)
end

theorem run_new {P : Program} {ev : Operand → Value} {o : Oper} (t : TypeId) (ho : o.op = .alloc t) (cs : List Value) (hz : ∀ w, (zeroValue t).run P w = .ok (.agg cs.toArray) w) (w : World) : (execOp ev o).run P w = .ok (.value (.pointer (some ⟨w.heap.size, 0, none⟩))) (w.alloc (.cells cs.toArray t)) := by
  simp [execOp, ho, Instr.alloc, hz, newVar, newRow, Value.cells]
/-- A digest's place is made. -/
theorem run_new42 {ev : Operand → Value} {o : Oper} (ho : o.op = .alloc 25) (w : World) : (execOp ev o).run Tryd.prog w = .ok (.value (.pointer (some ⟨w.heap.size, 0, none⟩))) (w.alloc (.cells (z32.map byt).toArray 25)) :=
  run_new 25 ho (z32.map byt) zero24 w

theorem Parts.below {w x : World} {v : Value} {ps : List (Value × List UInt8)} (h : Parts w v ps) (hb : Below w.heap.size w x) : Parts x v ps := by
  rcases h with h | ⟨ad, cap, rfl, h2, h3⟩
  · exact .inl h
  · exact .inr ⟨ad, cap, rfl, h2, fun i p hp => ⟨(hb.cell (cell_lt (h3 i p hp).1)).trans (h3 i p hp).1, (h3 i p hp).2.below hb⟩⟩

theorem two_all {W : World} {a b : Value} {xa xb : List UInt8} (h1 : Has W a xa) (h2 : Has W b xb) : ∀ p ∈ [(a, xa), (b, xb)], Has W p.1 p.2 := by
  intro p hp
  simp only [List.mem_cons, List.not_mem_nil, or_false] at hp
  rcases hp with rfl | rfl
  · exact h1
  · exact h2
theorem three_all {W : World} {a b c : Value} {xa xb xc : List UInt8} (h1 : Has W a xa) (h2 : Has W b xb) (h3 : Has W c xc) : ∀ p ∈ [(a, xa), (b, xb), (c, xc)], Has W p.1 p.2 := by
  intro p hp
  simp only [List.mem_cons, List.not_mem_nil, or_false] at hp
  rcases hp with rfl | rfl | rfl
  · exact h1
  · exact h2
  · exact h3
theorem five_all {W : World} {a b : Value} {xa xb : List UInt8} (h1 : Has W a xa) (h2 : Has W b xb) : ∀ p ∈ [(Value.slice none 0 0, []), (a, xa), (.slice none 0 0, []), (b, xb), (.slice none 0 0, [])], Has W p.1 p.2 := by
  intro p hp
  simp only [List.mem_cons, List.not_mem_nil, or_false] at hp
  rcases hp with rfl | rfl | rfl | rfl | rfl
  · exact Has.nil _
  · exact h1
  · exact Has.nil _
  · exact h2
  · exact Has.nil _

theorem sum_is (W : World) (n : Nat) (hW : n = W.heap.size) (ps : List (Value × List UInt8)) (M D : List UInt8) (hD : sumOf M = D) (h : ∀ p ∈ ps, Has W p.1 p.2) (hK : Kst W) (hM : ps.flatMap (·.2) = M) (hn : M.length ≤ 1152921504606846976) (hl : ps.length ≤ 1000) :
    Calls Tryd.prog 9 #[.slice (some ⟨n, 0, none⟩) ps.length ps.length] (W.alloc (.cells (ps.map (·.1)).toArray 27)) fun e w' => e = .returned (.agg (D.map byt).toArray) ∧ Below W.heap.size W w' := by
  subst hD
  exact sum_at W n hW ps M h hK hM hn hl
theorem sum_gen (v : Value) (ps : List (Value × List UInt8)) (M D : List UInt8) (hM : ps.flatMap (·.2) = M) (hD : sumOf M = D) (w : World) (hP : Parts w v ps) (hK : Kst w) (hn : M.length ≤ 1152921504606846976) (hl : ps.length ≤ 1000000) :
    Calls Tryd.prog 9 #[v] w fun e w' => e = .returned (.agg (D.map byt).toArray) ∧ Below w.heap.size w w' := by
  subst hM hD
  exact sum_any v ps w hP hK hn hl
theorem Tu.has {w wx : World} {p : Nat} {L : List UInt8} (h : Tu w wx p L) (n : Nat) (hn : L.length = n) : Has wx (.slice (some ⟨p, 0, none⟩) n n) L := h.bl.has n hn
theorem take_slice {w : World} {ao : Option Addr} {n c : Nat} {bs : List UInt8} (h : Has w (.slice ao n c) bs) (hn : bs.length = n) (k : Nat) (hk : k ≤ n) : Has w (.slice ao k c) (bs.take k) := by
  have := h.cut 0 k (by omega) (by omega)
  have e : cutV (.slice ao n c) 0 k = .slice ao k c := by
    cases ao <;> simp [cutV, sliced, Addr.add]
  rw [e] at this
  simpa using this
theorem has_cap {w : World} {ao : Option Addr} {n c : Nat} {bs : List UInt8} (h : Has w (.slice ao n c) bs) : n ≤ c := by
  rcases h with ⟨h1, h2⟩ | ⟨ad, c2, h1, h2, _⟩
  · cases h1; exact Nat.le_refl _
  · cases h1; exact h2

theorem Blk.there {w : World} {g : Nat} {cs : List Value} {t : TypeId} (h : Blk w g cs t) (n : Nat) (hn : n ≤ cs.length) : w.there g 0 n := fun j hj =>
  ⟨by rw [h.cell, List.getElem?_eq_getElem (by omega)]; rfl, h.frozen _⟩
theorem Blk.all {w : World} {g : Nat} {cs : List Value} {t : TypeId} (h : Blk w g cs t) (vs : List Value) (hn : vs.length = cs.length) : Blk (w.setCells g 0 vs) g vs t := by
  have := Blk.setCells vs 0 w cs h (by omega)
  rwa [List.take_zero, List.nil_append, Nat.zero_add, List.drop_eq_nil_of_le (by omega), List.append_nil] at this
/-- A digest in its place. -/
structure Dgt (w x : World) (d : Nat) (D : List UInt8) : Prop where
  bl : Blk x d (D.map byt) 25
  be : Below w.heap.size w x
  ld : w.heap.size ≤ d
theorem Dgt.below {w x y : World} {d : Nat} {D : List UInt8} (h : Dgt w x d D) (hb : Below x.heap.size x y) : Dgt w y d D := ⟨h.bl.below hb h.bl.lt, h.be.trans (hb.mono h.be.size), h.ld⟩
theorem Dgt.alloc {w x : World} {d : Nat} {D : List UInt8} (h : Dgt w x d D) (o : Obj) : Dgt w (x.alloc o) d D := h.below (below_new x o)
theorem Dgt.new {w x : World} (h : Below w.heap.size w x) : Dgt w (x.alloc (.cells (z32.map byt).toArray 25)) x.heap.size z32 := ⟨Blk.new x _ _, h.alloc h.size _, h.size⟩
theorem Dgt.put {w x : World} {d : Nat} {D E : List UInt8} (h : Dgt w x d D) (hn : E.length = D.length) : Dgt w (x.setCells d 0 (E.map byt)) d E :=
  ⟨h.bl.all _ (by simp [hn]), h.be.trans ((Fx.setCells (S := One d) d rfl _ _ _).below (fun k hk (e : k = d) => by have := h.ld; omega) h.be.size), h.ld⟩
theorem Dgt.row {w x : World} {d : Nat} {D E : List UInt8} (h : Dgt w x d D) : Dgt w (x.setRow d (E.map byt).toArray) d E := ⟨h.bl.setRow _, below_setRow h.be _ _ h.ld, h.ld⟩
theorem Dgt.rg {w x : World} {d : Nat} {D : List UInt8} (h : Dgt w x d D) : x.rangeAt d 0 (D.map byt) := fun j v hv => by
  rw [Nat.zero_add, h.bl.cell]; exact hv
theorem Dgt.has {w x : World} {d : Nat} {D : List UInt8} (h : Dgt w x d D) (n : Nat) (hn : D.length = n) : Has x (.slice (some ⟨d, 0, none⟩) n n) D := h.bl.has n hn
theorem info42l (D : List UInt8) (h : D.length = 32) : (Tryd.prog.info? 25).map (·.size) = some (D.map byt).length := by rw [List.length_map, h]; kernel_rfl
/-- Two digests in their places. -/
structure Dg2 (w x : World) (d e : Nat) (D : List UInt8) : Prop where
  bl : Blk x d (D.map byt) 25
  bm : Blk x e (D.map byt) 25
  be : Below w.heap.size w x
theorem Dg2.below {w x y : World} {d e : Nat} {D : List UInt8} (h : Dg2 w x d e D) (hb : Below x.heap.size x y) : Dg2 w y d e D := ⟨h.bl.below hb h.bl.lt, h.bm.below hb h.bm.lt, h.be.trans (hb.mono h.be.size)⟩
theorem Dg2.alloc {w x : World} {d e : Nat} {D : List UInt8} (h : Dg2 w x d e D) (o : Obj) : Dg2 w (x.alloc o) d e D := h.below (below_new x o)
theorem Dg2.rg {w x : World} {d e : Nat} {D : List UInt8} (h : Dg2 w x d e D) : x.rangeAt d 0 (D.map byt) ∧ x.rangeAt e 0 (D.map byt) :=
  ⟨fun j v hv => by rw [Nat.zero_add, h.bl.cell]; exact hv, fun j v hv => by rw [Nat.zero_add, h.bm.cell]; exact hv⟩
theorem eq42 (D : List UInt8) (hl : D.length = 32) (W : World) : (Op.equalIn 10000 25 (.agg (D.map byt).toArray) (.agg (D.map byt).toArray)).run Tryd.prog W = .ok true W := eq24 D hl W
end Go.Proofs.YtnfikgnploockaaDoor
