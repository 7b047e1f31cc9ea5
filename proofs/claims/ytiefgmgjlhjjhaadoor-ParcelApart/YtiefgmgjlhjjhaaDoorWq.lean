import Derived.Test.YtiefgmgjlhjjhaaDoorChn
import Derived.Laws.OwnMore
import Derived.Laws.AppendOwnNone
set_option linter.unusedVariables false
set_option linter.unusedSimpArgs false
namespace Go.Proofs.YtiefgmgjlhjjhaaDoor
open Go.RowKit

section
variable {P : Program} {ops : Array Oper} {Q : Exit → Act → World → Prop} {S : World → Prop}
theorem uvV {o : Oper} {a : Act} (hw : Region.wanted o (yielded ops a.tmps) = true) (op : Op) (ho : o.op = op) (v : Value) (hrun : ∀ o' : Oper, o'.op = op → ∀ W, S W → (execOp a.eval o').run P W = .ok (.value v) W) : UniV P ops S o v a := .inl ⟨hw, hrun o ho⟩
theorem wpSteps_cons {K : Act → (World → Prop) → Prop} {o : Oper} {r : List Oper} {a a' : Act} {w : World} (hg : o.guard = none) (v : Value) (w1 : World) (hS : S w1) (h : OpTo P o a w v (fun W => W = w1)) (ha : a.put o.dst v = a')
    (k : wpSteps P S K r a' (fun W => W = w1)) : wpSteps P S K (o :: r) a (fun W => W = w) := by
  refine ⟨hg, v, fun W => W = w1, fun W hW => by rw [hW]; exact hS, fun W hW => by rw [hW]; exact h, ?_⟩
  rw [ha]; exact k
theorem OpTo.val {o : Oper} {a : Act} {w w1 : World} (op : Op) (ho : o.op = op) (v : Value) (hrun : ∀ o' : Oper, o'.op = op → (execOp a.eval o').run P w = .ok (.value v) w1) : OpTo P o a w v (fun W => W = w1) := .inl ⟨w1, hrun o ho, rfl⟩
theorem OpTo.build2 {o : Oper} {a : Act} {w : World} (t : TypeId) (x y : Operand) (ho : o.op = .build t #[(0, x), (1, y)]) (u u' v : Value) (hx : a.eval x = u) (hy : a.eval y = u') (h : (Instr.build t #[(0, u), (1, u')]).run P w = .ok v w) : OpTo P o a w v (fun W => W = w) := by
  refine .inl ⟨w, ?_, rfl⟩
  unfold execOp
  simp only [ho, List.map_toArray, List.map_cons, List.map_nil, hx, hy, Sem.run_bind, h, Result.andThen_ok, Sem.run_pure]
theorem OpTo.bslice {o : Oper} {a : Act} {w w1 : World} (t : TypeId) (n : Nat) (x : Operand) (ho : o.op = .buildSlice t n #[(0, x)]) (u v : Value) (hx : a.eval x = u) (h : (Instr.buildSlice t n #[(0, u)]).run P w = .ok v w1) : OpTo P o a w v (fun W => W = w1) := by
  refine .inl ⟨w1, ?_, rfl⟩
  unfold execOp
  simp only [ho, List.map_toArray, List.map_cons, List.map_nil, hx, Sem.run_bind, h, Result.andThen_ok, Sem.run_pure]
theorem OpTo.app {o : Oper} {a : Act} {w w1 : World} (t : TypeId) (x y : Operand) (ho : o.op = .call { callee := .builtin .append, args := #[x, y], argTypes := #[t, t] }) (u u' v : Value) (hx : a.eval x = u) (hy : a.eval y = u') (h : (Builtin.append_ #[t, t] o.type #[u, u']).run P w = .ok v w1) : OpTo P o a w v (fun W => W = w1) := by
  refine .inl ⟨w1, ?_, rfl⟩
  simp [execOp, ho, resolve, invoke, builtin, hx, hy, h, Result.andThen]
theorem OpTo.call {o : Oper} {a : Act} {w : World} {C' : World → Prop} (f : FuncId) (xs : List Operand) (ts : Array TypeId) (ho : o.op = .call { callee := .value (.func f), args := xs.toArray, argTypes := ts }) (args : List Value) (v : Value)
    (hargs : xs.map a.eval = args) (hrun : ∀ (args : Array Value) (W : World), (callFunc f args).run P W = .ok (.enter f args) W)
    (hc : Calls P f args.toArray w (fun e w' => e = .returned v ∧ C' w')) : OpTo P o a w v C' := by
  refine .inr (.inr ⟨f, args.toArray, ?_, hc⟩)
  have e : (execOp a.eval o).run P w = (callFunc f (xs.toArray.map a.eval)).run P w := by
    simp [execOp, ho, resolve, Deferred.ofValue, invoke, Act.eval]
  rw [e, hrun]
  congr 2
  rw [← hargs]
  simp
end
/-- A row's new place: its old one, or a new block. -/
def Nw (w : World) (v v' : Value) : Prop := ∀ k, v'.ownBlock = some k → v.ownBlock = some k ∨ w.heap.size ≤ k
/-- 'append' to an owned row: what becomes of the row. -/
theorem run_appx (w : World) (t ty e : TypeId) (i : TypeInfo) (z : Value) (size bytes : Nat) (ht : Tryd.prog.underlying t = some (.slice e)) (hi : Tryd.prog.info? e = some i) (hz : i.zero = some z)
    (hsize : i.size = size) (hby : i.bytes = bytes) (hzs : z.cells.size = size) (hs0 : 0 < size) (v : Value) (n : Nat) (xs : List Value) (hown : w.ownsRow 0 e size v n xs)
    (a : Addr) (m c : Nat) (news : List Value) (hl : news.length = m * size) (hnews : ∀ j u, news[j]? = some u → w.cell? (a.add j) = some u) (h1 : ∀ u ∈ news, u.oneCell' = true)
    (hn : n + m ≤ 1000000000) (hby0 : bytes ≤ 64) :
    ∃ v' w', (Builtin.append_ #[t, t] ty #[v, .slice (some a) m c]).run Tryd.prog w = .ok v' w' ∧ w'.ownsRow 0 e size v' (n + m) (xs ++ news) ∧ w.grownBy w' v.ownBlock ∧ Nw w v v' := by
  have h63 : n + m ≤ maxLen := by unfold maxLen; omega
  have hb : (n + m) * bytes ≤ 140737488355328 := Nat.le_trans (Nat.mul_le_mul hn hby0) (by decide)
  obtain ⟨v', w', r1, r2, r3, r4⟩ := run_append_own (P := Tryd.prog) w 0 t ty e i z size bytes ht hi hz hsize hby hzs hs0 v n xs hown a m c news hl hnews h1 h63 hb (Nat.zero_le _)
  refine ⟨v', w', r1, r2, r3, ?_⟩
  have hown' := hown
  obtain ⟨hx, ⟨rfl, hz0⟩ | ⟨g, cp, cur, rfl, hg, hh2, hnc, hc, hs, htk⟩⟩ := hown'
  · have hnil : w.ownsRow w.heap.size e size (.slice none 0 0) n xs := ⟨hx, .inl ⟨rfl, hz0⟩⟩
    obtain ⟨v2, w2, q1, q2, q3, q4⟩ := run_append_own (P := Tryd.prog) w w.heap.size t ty e i z size bytes ht hi hz hsize hby hzs hs0 _ n xs hnil a m c news hl hnews h1 h63 hb (Nat.le_refl _)
    rw [r1] at q1
    simp only [Result.ok.injEq] at q1
    obtain ⟨rfl, rfl⟩ := q1
    intro k hk
    right
    obtain ⟨_, ⟨rfl, _⟩ | ⟨g, cap, cur, rfl, hg, _⟩⟩ := q2
    · cases hk
    · simp [Value.ownBlock] at hk; omega
  · by_cases hroom : n + m ≤ cp
    · obtain ⟨w2, q1, _⟩ := run_append_fits (P := Tryd.prog) w 0 t ty e i size ht hi hsize g n cp xs hown a m c news hl hnews h1 hroom
      rw [r1] at q1
      simp only [Result.ok.injEq] at q1
      obtain ⟨rfl, rfl⟩ := q1
      exact fun k hk => .inl hk
    · have hcap := nextcap_le (n + m) cp (by omega)
      have hfit : Builtin.nextslicecap (n + m) cp * i.bytes ≤ 281474976710656 := by
        rw [hby]
        refine Nat.le_trans (Nat.mul_le_mul (Nat.le_trans hcap (show (n + m) + ((n + m) + 768) / 4 ≤ 2000000000 by omega)) hby0) (by decide)
      have q1 := run_append_grow (P := Tryd.prog) w t ty e i z ht hi hz ⟨g, 0, none⟩ n cp xs (by rw [hsize]; exact hx) (World.ownsRow.cells hown (g := g) rfl) a m c news (by rw [hsize]; exact hl) hnews (by omega) (by omega) hfit
      rw [r1] at q1
      simp only [Result.ok.injEq] at q1
      obtain ⟨rfl, rfl⟩ := q1
      intro k hk
      simp [Value.ownBlock] at hk
      exact .inr (by omega)
theorem grown_fx {w w' : World} {v : Value} (h : w.grownBy w' v.ownBlock) : Fx (fun k => v.ownBlock = some k) w w' := by
  obtain ⟨h1, h2, h3, h4, h5⟩ := h
  exact ⟨h1, h2, h3, h4, fun k hk hn => h5 k hk (fun e => hn e.symm)⟩
end Go.Proofs.YtiefgmgjlhjjhaaDoor
