import Derived.Test.YtggehhlobjjmpaaSc
import Derived.Maps.RangeRun
set_option linter.unusedVariables false
set_option linter.unusedSimpArgs false
namespace Go.Proofs.Ytggehhlobjjmpaa
open Go.RowKit

/-- An entry of the table's map: a place, a key, its stamp. -/
structure Me where
  t : Nat
  n : Nat
  k : List UInt8
  b : Nat
def Me.e (m : Me) : MapEntry := ⟨plV m.t m.n, kv m.k, m.b⟩
def Me.sk (m : Me) : Sk := ⟨m.t, m.n, m.k⟩
/-- The map lies in block r. -/
structure Mp (w : World) (r : Nat) (E : List Me) (c : Nat) : Prop where
  hp : w.heap[r]? = some (.map (E.map Me.e).toArray c)
  ok : ∀ m ∈ E, m.sk.ok
  nd : (E.map fun m => (m.t, m.n)).Nodup
  bn : (E.map Me.b).Nodup
  lt : ∀ m ∈ E, m.b < c
theorem Mp.ltb {w : World} {r : Nat} {E : List Me} {c : Nat} (h : Mp w r E c) : r < w.heap.size := by
  rcases Nat.lt_or_ge r w.heap.size with hl | hl
  · exact hl
  · have := h.hp
    rw [Array.getElem?_eq_none hl] at this; cases this
theorem Mp.fx {S : Nat → Prop} {w w' : World} {r : Nat} {E : List Me} {c : Nat} (h : Mp w r E c) (hf : Fx S w w') (hS : ¬ S r) : Mp w' r E c := ⟨by rw [hf.block r h.ltb hS]; exact h.hp, h.ok, h.nd, h.bn, h.lt⟩
theorem Mp.on {w w' : World} {r : Nat} {E : List Me} {c : Nat} (h : Mp w r E c) (hb : Below w.heap.size w w') : Mp w' r E c := h.fx (S := fun _ => False) (Fx.of_below hb) (fun h => h)
/-- Where a place's key lies, and which. -/
def fk (t n : Nat) : List Me → Nat → Option (Nat × Value)
  | [], _ => none
  | m :: r, i => if t = m.t ∧ n = m.n then some (i, kv m.k) else fk t n r (i + 1)
theorem run_ask (t n : Nat) (w : World) : ∀ (E : List Me) (i : Nat), (Instr.findAsking 63 (plV t n) (E.map Me.e) i).run Try.prog w = .ok (fk t n E i) w
  | [], i => rfl
  | m :: r, i => by
    have he : (Op.equal 63 (plV t n) m.e.key).run Try.prog w = .ok (decide (t = m.t ∧ n = m.n)) w := eqPl t n m.t m.n w
    have ih := run_ask t n w r (i + 1)
    simp only [List.map_cons, Instr.findAsking, Sem.run_bind, he, Result.andThen_ok]
    by_cases h : t = m.t ∧ n = m.n
    · rw [decide_eq_true h]
      simp only [if_true, Sem.run_pure, fk, if_pos h]
      rfl
    · rw [decide_eq_false h]
      simp only [Bool.false_eq_true, if_false, fk, if_neg h]
      exact ih
theorem run_findK (t n : Nat) (w : World) (E : List Me) : (Instr.findKey 63 (plV t n) (E.map Me.e)).run Try.prog w = .ok (fk t n E 0) w := by
  have ha := run_ask t n w E 0
  simp only [Instr.findKey, Sem.run_bind, run_underlying Try.underlying63, Result.andThen_ok]
  cases E with
  | nil => rfl
  | cons m r =>
    have e : ∀ fs : Array Field, Instr.findNow (.struct fs) (plV t n) ((m :: r).map Me.e) 0 = none := fun _ => rfl
    simp only [e]
    exact ha
theorem run_chk (b : Bool) (t n : Nat) (w : World) : (Instr.checkKey b 10000 63 (plV t n)).run Try.prog w = .ok () w := by
  kernel_rfl
def lkE (E : List Me) (t n : Nat) : Option (List UInt8) := (E.find? fun m => decide (t = m.t ∧ n = m.n)).map Me.k
theorem fk_lk (t n : Nat) : ∀ (E : List Me) (i : Nat), (fk t n E i).map Prod.snd = (lkE E t n).map kv
  | [], i => rfl
  | m :: r, i => by
    unfold fk lkE
    by_cases h : t = m.t ∧ n = m.n
    · rw [if_pos h, List.find?_cons_of_pos (by simpa using h)]; rfl
    · rw [if_neg h, List.find?_cons_of_neg (by simpa using h)]
      exact fk_lk t n r (i + 1)
theorem z29 (w : World) : (zeroValue 29).run Try.prog w = .ok (kv z32) w := (zero_of_info (show (Try.prog.info? 29).map (fun i => (i.zero, i.size)) = some (some (kv z32), 32) by kernel_rfl)).1 w
theorem getMap {w : World} {r : Nat} {es : Array MapEntry} {c : Nat} (h : w.heap[r]? = some (.map es c)) : (getObj r).run Try.prog w = .ok (.map es c) w := by
  simp [getObj, Sem.run, h]
theorem run_lk {w : World} {r : Nat} {E : List Me} {c : Nat} (h : Mp w r E c) (t n : Nat) : (Instr.lookup 57 (.map (some r)) (plV t n) true).run Try.prog w = .ok (.tuple #[kv ((lkE E t n).getD z32), .bool (lkE E t n).isSome]) w := by
  have hg := getMap h.hp
  have hf := run_findK t n w E
  have hl := fk_lk t n E 0
  simp only [Instr.lookup, Sem.run_bind, run_underlying Try.underlying57, Result.andThen_ok, hg, Sem.run_pure, run_chk, List.toList_toArray, hf]
  cases hk : fk t n E 0 with
  | none =>
    rw [hk] at hl
    cases hq : lkE E t n with
    | none => simp [Sem.run_bind, z29 w]
    | some K => rw [hq] at hl; cases hl
  | some x =>
    obtain ⟨i, v⟩ := x
    rw [hk] at hl
    cases hq : lkE E t n with
    | none => rw [hq] at hl; cases hl
    | some K =>
      rw [hq] at hl
      simp only [Option.map_some, Option.some.injEq] at hl
      subst hl
      simp
theorem setMap {w : World} {r : Nat} {es : Array MapEntry} {c : Nat} (h : w.heap[r]? = some (.map es c)) (o : Obj) : ∃ w', (setObj r o).run Try.prog w = .ok () w' ∧ w'.heap[r]? = some o ∧ Fx (fun k => k = r) w w' := by
  have hr : r < w.heap.size := by
    rcases Nat.lt_or_ge r w.heap.size with hl | hl
    · exact hl
    · rw [Array.getElem?_eq_none hl] at h; cases h
  refine ⟨{ w with heap := w.heap.setIfInBounds r o }, ?_, by simp [hr], ⟨rfl, rfl, rfl, by simp, fun i hi hn => ?_⟩⟩
  · simp [setObj, Sem.run, h]
  · show (w.heap.setIfInBounds r o)[i]? = _
    rw [Array.getElem?_setIfInBounds, if_neg (fun e => hn e.symm)]
theorem fk_none {t n : Nat} : ∀ {E : List Me} {i : Nat}, lkE E t n = none → fk t n E i = none := fun {E i} h => by
  have := fk_lk t n E i
  rw [h] at this
  cases hk : fk t n E i with
  | none => rfl
  | some x => rw [hk] at this; cases this
theorem lk_none {E : List Me} {t n : Nat} (h : lkE E t n = none) : ∀ m ∈ E, ¬ (t = m.t ∧ n = m.n) := fun m hm => by
  unfold lkE at h
  cases hf : E.find? (fun m => decide (t = m.t ∧ n = m.n)) with
  | none => simpa using List.find?_eq_none.1 hf m hm
  | some x => rw [hf] at h; cases h
theorem run_up {w : World} {r : Nat} {E : List Me} {c : Nat} (h : Mp w r E c) (t n : Nat) (K : List UInt8) (hok : (Sk.mk t n K).ok) (hn : lkE E t n = none) : ∃ w', (Instr.mapUpdate 57 (.map (some r)) (plV t n) (kv K)).run Try.prog w = .ok () w' ∧ Mp w' r (E ++ [⟨t, n, K, c⟩]) (c + 1) ∧ Fx (fun k => k = r) w w' := by
  have hg := getMap h.hp
  have hf := run_findK t n w E
  rw [fk_none hn] at hf
  obtain ⟨w', r1, r2, r3⟩ := setMap h.hp (.map ((E.map Me.e).toArray.push ⟨plV t n, kv K, c⟩) (c + 1))
  refine ⟨w', ?_, ⟨?_, ?_, ?_, ?_, ?_⟩, r3⟩
  · simp only [Instr.mapUpdate, Sem.run_bind, run_underlying Try.underlying57, Result.andThen_ok, hg, run_chk, List.toList_toArray, hf]
    exact r1
  · rw [r2, List.map_append]
    simp [Me.e]
  · intro m hm
    rcases List.mem_append.1 hm with hm | hm
    · exact h.ok m hm
    · rw [List.mem_singleton.1 hm]; exact hok
  · rw [List.map_append, List.nodup_append]
    refine ⟨h.nd, by simp, fun a ha b hb e => ?_⟩
    obtain ⟨m, hm, rfl⟩ := List.mem_map.1 ha
    simp only [List.map_cons, List.map_nil, List.mem_singleton] at hb
    rw [hb] at e
    simp only [Prod.mk.injEq] at e
    exact lk_none hn m hm ⟨e.1.symm, e.2.symm⟩
  · rw [List.map_append, List.nodup_append]
    refine ⟨h.bn, by simp, fun a ha b hb e => ?_⟩
    obtain ⟨m, hm, rfl⟩ := List.mem_map.1 ha
    simp only [List.map_cons, List.map_nil, List.mem_singleton] at hb
    have := h.lt m hm
    omega
  · intro m hm
    rcases List.mem_append.1 hm with hm | hm
    · have := h.lt m hm; omega
    · rw [List.mem_singleton.1 hm]; show c < c + 1; omega
def delE (E : List Me) (t n : Nat) : List Me := E.filter fun m => !decide (t = m.t ∧ n = m.n)
theorem fk_del {t n : Nat} : ∀ {E : List Me} {i j : Nat} {v : Value}, (E.map fun m => (m.t, m.n)).Nodup → fk t n E i = some (j, v) → i ≤ j ∧ E.eraseIdx (j - i) = delE E t n ∧ j - i < E.length
  | [], i, j, v, _, h => by cases h
  | m :: r, i, j, v, hnd, h => by
    rw [List.map_cons, List.nodup_cons] at hnd
    unfold fk at h
    by_cases hp : t = m.t ∧ n = m.n
    · rw [if_pos hp] at h
      cases h
      refine ⟨Nat.le_refl _, ?_, by rw [Nat.sub_self]; simp⟩
      rw [Nat.sub_self, List.eraseIdx_cons_zero]
      unfold delE
      rw [List.filter_cons_of_neg (by simpa using hp)]
      refine (List.filter_eq_self.2 fun x hx => ?_).symm
      simp only [Bool.not_eq_true', decide_eq_false_iff_not]
      intro hq
      exact hnd.1 (List.mem_map.2 ⟨x, hx, by rw [← hq.1, ← hq.2, ← hp.1, ← hp.2]⟩)
    · rw [if_neg hp] at h
      obtain ⟨h1, h2, h3⟩ := fk_del hnd.2 h
      refine ⟨by omega, ?_, by simp only [List.length_cons]; omega⟩
      rw [show j - i = (j - (i + 1)) + 1 by omega, List.eraseIdx_cons_succ, h2]
      unfold delE
      rw [List.filter_cons_of_pos (by rw [decide_eq_false hp]; rfl)]
theorem delE_none {E : List Me} {t n : Nat} (h : lkE E t n = none) : delE E t n = E := List.filter_eq_self.2 fun m hm => by rw [decide_eq_false (lk_none h m hm)]; rfl
theorem Mp.sub {w w' : World} {r : Nat} {E E' : List Me} {c : Nat} (h : Mp w r E c) (hs : E'.Sublist E) (hp : w'.heap[r]? = some (.map (E'.map Me.e).toArray c)) : Mp w' r E' c :=
  ⟨hp, fun m hm => h.ok m (hs.subset hm), (hs.map _).nodup h.nd, (hs.map _).nodup h.bn, fun m hm => h.lt m (hs.subset hm)⟩
theorem erase_mapL : ∀ (E : List Me) (j : Nat), (E.map Me.e).eraseIdx j = (E.eraseIdx j).map Me.e
  | [], j => by simp
  | m :: r, 0 => by simp
  | m :: r, j + 1 => by simp [erase_mapL r j]
theorem erase_map {E : List Me} {j : Nat} (h : j < E.length) : (E.map Me.e).toArray.eraseIdxIfInBounds j = ((E.eraseIdx j).map Me.e).toArray := by
  rw [Array.eraseIdxIfInBounds, dif_pos (by simpa using h)]
  apply Array.toList_inj.1
  rw [Array.toList_eraseIdx, List.toList_toArray, List.toList_toArray]
  exact erase_mapL E j
theorem run_del {w : World} {r : Nat} {E : List Me} {c : Nat} (h : Mp w r E c) (t n : Nat) (ty : TypeId) (kt : TypeId) : ∃ w', (Builtin.delete_ #[57, kt] ty #[.map (some r), plV t n]).run Try.prog w = .ok (.tuple #[]) w' ∧ Mp w' r (delE E t n) c ∧ Fx (fun k => k = r) w w' := by
  have hg := getMap h.hp
  have hf := run_findK t n w E
  cases hk : fk t n E 0 with
  | none =>
    have hl : lkE E t n = none := by
      have := fk_lk t n E 0
      rw [hk] at this
      cases hq : lkE E t n with
      | none => rfl
      | some K => rw [hq] at this; cases this
    obtain ⟨w', r1, r2, r3⟩ := setMap h.hp (.map (E.map Me.e).toArray c)
    refine ⟨w', ?_, by rw [delE_none hl]; exact h.sub (List.Sublist.refl _) r2, r3⟩
    rw [hk] at hf
    simp only [Builtin.delete_, Sem.run_bind, run_underlying Try.underlying57, Result.andThen_ok, hg, run_chk, List.toList_toArray, hf, List.getElem?_toArray, List.getElem?_cons_zero, List.getElem?_cons_succ, r1, Sem.run_pure]
  | some x =>
    obtain ⟨j, v⟩ := x
    obtain ⟨_, h2, h3⟩ := fk_del h.nd hk
    rw [Nat.sub_zero] at h2 h3
    obtain ⟨w', r1, r2, r3⟩ := setMap h.hp (.map ((E.map Me.e).toArray.eraseIdxIfInBounds j) c)
    refine ⟨w', ?_, h.sub (List.filter_sublist) ?_, r3⟩
    · rw [hk] at hf
      simp only [Builtin.delete_, Sem.run_bind, run_underlying Try.underlying57, Result.andThen_ok, hg, run_chk, List.toList_toArray, hf, List.getElem?_toArray, List.getElem?_cons_zero, List.getElem?_cons_succ, r1, Sem.run_pure]
    · rw [r2, ← h2, erase_map h3]
theorem len57 {w : World} {r : Nat} {E : List Me} {c : Nat} (h : Mp w r E c) (ty : TypeId) : (Builtin.len_ #[57] ty #[.map (some r)]).run Try.prog w = .ok (.int .i64 (E.length : Int)) w := by
  have hg := getMap h.hp
  simp only [Builtin.len_, List.getElem?_toArray, List.getElem?_cons_zero, Sem.run_bind, run_underlying Try.underlying57, Result.andThen_ok, hg]
  simp
  rfl
theorem mkMap (w : World) : ∃ w', (Instr.makeMap 57 none).run Try.prog w = .ok (.map (some w.heap.size)) w' ∧ Mp w' w.heap.size [] 0 ∧ Below w.heap.size w w' :=
  ⟨_, rfl, ⟨heap_alloc_new w _, fun m hm => (by cases hm), List.nodup_nil, List.nodup_nil, fun m hm => by cases hm⟩, below_new _ _⟩
end Go.Proofs.Ytggehhlobjjmpaa
