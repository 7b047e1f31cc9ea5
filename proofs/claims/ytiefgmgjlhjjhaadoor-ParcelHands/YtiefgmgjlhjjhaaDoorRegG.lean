import Derived.Test.YtiefgmgjlhjjhaaDoorFx
import Derived.Orders
namespace Go.Proofs.YtiefgmgjlhjjhaaDoor
open Go.RowKit

theorem below_new (W : World) (o : Obj) : Below W.heap.size W (W.alloc o) := (Below.refl _ _).alloc (Nat.le_refl _) _

theorem Has.slice {w : World} {v : Value} {bs : List UInt8} (h : Has w v bs) : ∃ ao cap, v = .slice ao bs.length cap := by
  rcases h with ⟨rfl, rfl⟩ | ⟨ad, cap, rfl, _⟩
  · exact ⟨none, 0, rfl⟩
  · exact ⟨some ad, cap, rfl⟩


theorem Has.len {w : World} {v : Value} {bs : List UInt8} (h : Has w v bs) (W : World) (ty : TypeId) : (Builtin.len_ #[24] ty #[v]).run Tryd.prog W = .ok (.int .i64 bs.length) W := by
  obtain ⟨ao, cap, rfl⟩ := h.slice
  go_simp

/-- A cut of bytes: the value, in whatever world; what it holds. -/
def cutV (v : Value) (l h : Nat) : Value := match v with
  | .slice a _ cap => sliced a l h cap 1
  | v => v

theorem size5 (W : World) : (sizeOf 5).run Tryd.prog W = .ok 1 W := by go_simp
theorem elem34 : Tryd.prog.elem 24 = 5 := by simp [Program.elem, Tryd.underlying24]

theorem Has.cut {w : World} {v : Value} {bs : List UInt8} (h : Has w v bs) (l k : Nat) (hlk : l ≤ k) (hk : k ≤ bs.length) : Has w (cutV v l k) ((bs.drop l).take (k - l)) := by
  have hlen : ((bs.drop l).take (k - l)).length = k - l := by simp; omega
  rcases h with ⟨rfl, rfl⟩ | ⟨ad, cap, rfl, h2, h3⟩
  · simp at hk; subst hk; simp at hlk; subst hlk
    exact .inl ⟨by simp [cutV, sliced], by simp⟩
  · simp only [cutV, sliced, Nat.mul_one]
    by_cases hc : cap = l
    · rw [if_pos hc]
      have hb : bs.drop l = [] := List.drop_eq_nil_of_le (by omega)
      refine .inr ⟨ad, cap - l, by rw [hlen], by rw [hlen]; omega, fun i u hu => ?_⟩
      rw [hb] at hu; simp at hu
    · rw [if_neg hc]
      refine .inr ⟨ad.add l, cap - l, by rw [hlen]; rfl, by rw [hlen]; omega, fun i u hu => ?_⟩
      have hi : i < k - l := by
        rcases Nat.lt_or_ge i (k - l) with h | h
        · exact h
        · rw [List.getElem?_eq_none (by omega)] at hu; cases hu
      rw [List.getElem?_take_of_lt hi, List.getElem?_drop] at hu
      have hcell := h3 (l + i) u hu
      have hadd : (ad.add l).add i = ad.add (l + i) := by
        unfold Addr.add
        by_cases h0 : l = 0
        · subst h0; simp
        · by_cases h1 : i = 0
          · subst h1; simp
          · rw [if_neg h1, if_neg h0, if_neg (by omega)]; simp; omega
      rw [hadd]; exact hcell

theorem Has.cutLH {w : World} {v : Value} {bs : List UInt8} (h : Has w v bs) (l k : Nat) (hlk : l ≤ k) (hk : k ≤ bs.length) (W : World) :
    (Instr.slice 24 v (some (.int .i64 l)) (some (.int .i64 k)) none).run Tryd.prog W = .ok (cutV v l k) W := by
  have ht : Tryd.prog.underlying 24 = some (.slice (Tryd.prog.elem 24)) := by rw [elem34]; exact Tryd.underlying24
  have hc : ∃ ao cap, v = .slice ao bs.length cap ∧ bs.length ≤ cap := by
    rcases h with ⟨rfl, rfl⟩ | ⟨ad, cap, rfl, h2, _⟩
    · exact ⟨_, _, rfl, Nat.le_refl _⟩
    · exact ⟨_, _, rfl, h2⟩
  obtain ⟨ao, cap, rfl, hc⟩ := hc
  rw [run_slice_lh W 24 ao _ cap ht .i64 .i64 l k (by omega) (by omega) (by omega), elem34, size5]
  simp [Result.andThen, cutV]

theorem Has.cutL {w : World} {v : Value} {bs : List UInt8} (h : Has w v bs) (l : Nat) (hl : l ≤ bs.length) (W : World) :
    (Instr.slice 24 v (some (.int .i64 l)) none none).run Tryd.prog W = .ok (cutV v l bs.length) W := by
  have ht : Tryd.prog.underlying 24 = some (.slice (Tryd.prog.elem 24)) := by rw [elem34]; exact Tryd.underlying24
  obtain ⟨ao, cap, rfl⟩ := h.slice
  rw [run_slice_l W 24 ao _ cap ht .i64 l (by omega) (by omega), elem34, size5]
  simp [Result.andThen, cutV]

theorem Own.slice {w : World} {base : Nat} {v : Value} {bs : List UInt8} (h : Own w base v bs) : ∃ ao cap, v = .slice ao bs.length cap := h.has.slice

structure Lik (w w' : World) : Prop where
  heap : w'.heap = w.heap
  os : w'.os = w.os
  tape : w'.tape = w.tape
  output : w'.output = w.output

theorem at_new (W X : World) (A : Obj) (h : Lik (W.alloc A) X) : X.heap[W.heap.size]? = some A := by
  rw [h.heap]; show (W.heap.push A)[W.heap.size]? = _; simp
theorem cut_own {v : Value} {l k b : Nat} (h : (cutV v l k).ownBlock = some b) : v.ownBlock = some b := by
  cases v with
  | slice a len cap =>
    cases a with
    | none => simp [cutV, sliced, Value.ownBlock] at h
    | some x =>
      simp only [cutV, sliced] at h
      split at h <;> simp_all [Value.ownBlock, add_block]
  | _ => exact h
section
variable {P : Program} {ops : Array Oper} {Q : Exit → Act → World → Prop} {md : Region.Mode}

/-- An operation that yields its value in whatever world is taken first. -/
theorem take_any {i : Nat} {o : Oper} (hi : ops[i]? = some o) (hg : o.guard = none) (op : Op) (ho : o.op = op) (d : Nat) (hd : o.dst = some d) {v : Value} {fuel : Nat} {listed : Array Bool} {a : Act} {w : World}
    (hs : Region.noSelect ops = true) (hf : Region.free md ops listed i = true) (hr : (Region.ready md ops listed).contains i = true)
    (hQ : ∀ c a w, Q (.panic c) (a.put (some d) v) w → Q (.panic c) a w) (hrun : ∀ o' : Oper, o'.op = op → ∀ w, (execOp a.eval o').run P w = .ok (.value v) w)
    (h : wpAny P md ops Q fuel (listed.setIfInBounds i true) (a.put (some d) v) w) : wpAny P md ops Q (fuel + 1) listed a w := by
  rw [← hd] at hQ h
  exact wpAny_take hi hs hf hr hQ (.inl ⟨by simp [Region.wanted, hg], hrun o ho⟩) h

/-- One operation alone may come up. -/
theorem only_one {i : Nat} {fuel : Nat} {listed : Array Bool} {a : Act} {w : World} (hr : Region.ready md ops listed = [i])
    (h : wpOp P ops Q i (wpAny P md ops Q fuel (listed.setIfInBounds i true)) a w) : wpAny P md ops Q (fuel + 1) listed a w :=
  wpAny_all hr (by simp) (fun j hj => by
    obtain rfl : j = i := by simpa using hj
    exact h)

theorem either {i j : Nat} {fuel : Nat} {listed : Array Bool} {a : Act} {w : World} (hr : Region.ready md ops listed = [i, j])
    (h : wpOp P ops Q i (wpAny P md ops Q fuel (listed.setIfInBounds i true)) a w) (k : wpOp P ops Q j (wpAny P md ops Q fuel (listed.setIfInBounds j true)) a w) : wpAny P md ops Q (fuel + 1) listed a w :=
  wpAny_all hr (by simp) (fun l hl => by
    rcases (show l = i ∨ l = j by simpa using hl) with rfl | rfl
    · exact h
    · exact k)

theorem op_wp {i : Nat} {o : Oper} (hi : ops[i]? = some o) (hg : o.guard = none) {K : Act → World → Prop} {a : Act} {w : World} (h : o.wp P a w K Q) : wpOp P ops Q i K a w := by
  have hw : Region.wanted o (yielded ops a.tmps) = true := by simp [Region.wanted, hg]
  unfold wpOp
  simp only [hi, hw, if_true]
  exact .inl h

theorem op_load {i : Nat} {o : Oper} (hi : ops[i]? = some o) (hg : o.guard = none) {K : Act → World → Prop} {a : Act} {w : World} (d' : Nat) (hdst : o.dst = some d') (ty : TypeId) (x : Operand) (ho : o.op = .load ty x)
    (b off : Nat) (hx : a.eval x = .pointer (some ⟨b, off, none⟩)) (cs : List Value) (d : TypeDesc) (hc : w.rangeAt b off cs)
    (hu : P.underlying ty = some d) (hd : d.isRow = true) (hsz : (P.info? ty).map (·.size) = some cs.length)
    (h : K (a.put (some d') (.agg cs.toArray)) w) : wpOp P ops Q i K a w := by
  rw [← hdst] at h
  exact op_wp hi hg (wp_load_mid ty x ho b off hx cs d hc hu hd hsz h)

theorem op_store {i : Nat} {o : Oper} (hi : ops[i]? = some o) (hg : o.guard = none) {K : Act → World → Prop} {a : Act} {w : World} (hdst : o.dst = none) (ty : TypeId) (x y : Operand) (ho : o.op = .store ty x y)
    (b off : Nat) (cells : Array Value) (hx : a.eval x = .pointer (some ⟨b, off, none⟩)) (hy : a.eval y = .agg cells)
    (ht : w.there b off cells.size) (hsz : (P.info? ty).map (·.size) = some cells.size) (h1 : cells.all (·.oneCell') = true)
    (h : K a (w.setCells b off cells.toList)) : wpOp P ops Q i K a w := by
  refine op_wp hi hg (wp_store_mid ty x y ho b off cells hx hy ht hsz h1 ?_)
  rw [hdst]
  exact h

/-- A call of a Go function that returns. -/
theorem op_call {i : Nat} {o : Oper} (hi : ops[i]? = some o) (hg : o.guard = none) {K : Act → World → Prop} {a : Act} {w : World} (op : Op) (ho : o.op = op) (d : Nat) (hd : o.dst = some d) (f : FuncId) (args : Array Value)
    (hrun : ∀ o' : Oper, o'.op = op → (execOp a.eval o').run P w = .ok (.enter f args) w) {R : Value → World → Prop} (hc : Calls P f args w fun e w' => ∃ v, e = .returned v ∧ R v w')
    (h : ∀ v w', R v w' → K (a.put (some d) v) w') : wpOp P ops Q i K a w := by
  refine op_wp hi hg ?_
  unfold Oper.wp
  rw [hrun o ho]
  simp only [Oper.upon]
  refine hc.mono fun e w' ⟨v, he, hR⟩ => ?_
  subst he
  rw [hd]
  exact h v w' hR
end
end Go.Proofs.YtiefgmgjlhjjhaaDoor
