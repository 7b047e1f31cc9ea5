import Derived.Test.YtiefgmgjlhjjhaaDoorPc
set_option linter.unusedVariables false
set_option linter.unusedSimpArgs false
namespace Go.Proofs.YtiefgmgjlhjjhaaDoor
open Go.RowKit

/-- An entry of the tray's map: a peer, an id, a parcel, its stamp. -/
structure Me where
  p : List UInt8
  id : Nat
  c : Pc
  b : Nat
def Me.e (m : Me) : MapEntry := ⟨plV m.p m.id, m.c.val, m.b⟩
/-- The map lies in block r. -/
structure Mp (w : World) (r : Nat) (E : List Me) (c : Nat) : Prop where
  hp : w.heap[r]? = some (.map (E.map Me.e).toArray c)
  ok : ∀ m ∈ E, m.c.sh
  nd : (E.map fun m => (m.p, m.id)).Nodup
  bn : (E.map Me.b).Nodup
  lt : ∀ m ∈ E, m.b < c
theorem Mp.ltb {w : World} {r : Nat} {E : List Me} {c : Nat} (h : Mp w r E c) : r < w.heap.size := by
  rcases Nat.lt_or_ge r w.heap.size with hl | hl
  · exact hl
  · have := h.hp
    rw [Array.getElem?_eq_none hl] at this; cases this
theorem Mp.fx {S : Nat → Prop} {w w' : World} {r : Nat} {E : List Me} {c : Nat} (h : Mp w r E c) (hf : Fx S w w') (hS : ¬ S r) : Mp w' r E c := ⟨by rw [hf.block r h.ltb hS]; exact h.hp, h.ok, h.nd, h.bn, h.lt⟩
theorem Mp.on {w w' : World} {r : Nat} {E : List Me} {c : Nat} (h : Mp w r E c) (hb : Below w.heap.size w w') : Mp w' r E c := h.fx (S := fun _ => False) (Fx.of_below hb) (fun h => h)
/-- Where a place's key lies, and which. -/
def fk (t : List UInt8) (n : Nat) : List Me → Nat → Option (Nat × Value)
  | [], _ => none
  | m :: r, i => if t = m.p ∧ n = m.id then some (i, m.c.val) else fk t n r (i + 1)
theorem run_ask (t : List UInt8) (n : Nat) (w : World) : ∀ (E : List Me) (i : Nat), (Instr.findAsking 67 (plV t n) (E.map Me.e) i).run Tryd.prog w = .ok (fk t n E i) w
  | [], i => rfl
  | m :: r, i => by
    have he : (Op.equal 67 (plV t n) m.e.key).run Tryd.prog w = .ok (decide (t = m.p ∧ n = m.id)) w := eqPl t m.p n m.id w
    have ih := run_ask t n w r (i + 1)
    simp only [List.map_cons, Instr.findAsking, Sem.run_bind, he, Result.andThen_ok]
    by_cases h : t = m.p ∧ n = m.id
    · rw [decide_eq_true h]
      simp only [if_true, Sem.run_pure, fk, if_pos h]
      rfl
    · rw [decide_eq_false h]
      simp only [Bool.false_eq_true, if_false, fk, if_neg h]
      exact ih
theorem run_findK (t : List UInt8) (n : Nat) (w : World) (E : List Me) : (Instr.findKey 67 (plV t n) (E.map Me.e)).run Tryd.prog w = .ok (fk t n E 0) w := by
  have ha := run_ask t n w E 0
  simp only [Instr.findKey, Sem.run_bind, run_underlying Tryd.underlying67, Result.andThen_ok]
  cases E with
  | nil => rfl
  | cons m r =>
    have e : ∀ fs : Array Field, Instr.findNow (.struct fs) (plV t n) ((m :: r).map Me.e) 0 = none := fun _ => rfl
    simp only [e]
    exact ha
theorem run_chk (b : Bool) (t : List UInt8) (n : Nat) (w : World) : (Instr.checkKey b 10000 67 (plV t n)).run Tryd.prog w = .ok () w := by
  kernel_rfl
def lkE (E : List Me) (t : List UInt8) (n : Nat) : Option Pc := (E.find? fun m => decide (t = m.p ∧ n = m.id)).map Me.c
theorem fk_lk (t : List UInt8) (n : Nat) : ∀ (E : List Me) (i : Nat), (fk t n E i).map Prod.snd = (lkE E t n).map Pc.val
  | [], i => rfl
  | m :: r, i => by
    unfold fk lkE
    by_cases h : t = m.p ∧ n = m.id
    · rw [if_pos h, List.find?_cons_of_pos (by simpa using h)]; rfl
    · rw [if_neg h, List.find?_cons_of_neg (by simpa using h)]
      exact fk_lk t n r (i + 1)
theorem getMap {w : World} {r : Nat} {es : Array MapEntry} {c : Nat} (h : w.heap[r]? = some (.map es c)) : (getObj r).run Tryd.prog w = .ok (.map es c) w := by
  simp [getObj, Sem.run, h]
theorem run_lk {w : World} {r : Nat} {E : List Me} {c : Nat} (h : Mp w r E c) (t : List UInt8) (n : Nat) : (Instr.lookup 59 (.map (some r)) (plV t n) true).run Tryd.prog w = .ok (.tuple #[((lkE E t n).getD Pc.z).val, .bool (lkE E t n).isSome]) w := by
  have hg := getMap h.hp
  have hf := run_findK t n w E
  have hl := fk_lk t n E 0
  simp only [Instr.lookup, Sem.run_bind, run_underlying Tryd.underlying59, Result.andThen_ok, hg, Sem.run_pure, run_chk, List.toList_toArray, hf]
  cases hk : fk t n E 0 with
  | none =>
    rw [hk] at hl
    cases hq : lkE E t n with
    | none => simp [Sem.run_bind, zv71 w]
    | some K => rw [hq] at hl; cases hl
  | some x =>
    obtain ⟨i, v⟩ := x
    rw [hk] at hl
    cases hq : lkE E t n with
    | none => rw [hq] at hl; cases hl
    | some K =>
      rw [hq] at hl
      simp only [Option.map_some, Option.some.injEq] at hl
      subst hl
      simp
theorem setMap {w : World} {r : Nat} {es : Array MapEntry} {c : Nat} (h : w.heap[r]? = some (.map es c)) (o : Obj) : ∃ w', (setObj r o).run Tryd.prog w = .ok () w' ∧ w'.heap[r]? = some o ∧ Fx (fun k => k = r) w w' := by
  have hr : r < w.heap.size := by
    rcases Nat.lt_or_ge r w.heap.size with hl | hl
    · exact hl
    · rw [Array.getElem?_eq_none hl] at h; cases h
  refine ⟨{ w with heap := w.heap.setIfInBounds r o }, ?_, by simp [hr], ⟨rfl, rfl, rfl, by simp, fun i hi hn => ?_⟩⟩
  · simp [setObj, Sem.run, h]
  · show (w.heap.setIfInBounds r o)[i]? = _
    rw [Array.getElem?_setIfInBounds, if_neg (fun e => hn e.symm)]
theorem fk_none {t : List UInt8} {n : Nat} : ∀ {E : List Me} {i : Nat}, lkE E t n = none → fk t n E i = none := fun {E i} h => by
  have := fk_lk t n E i
  rw [h] at this
  cases hk : fk t n E i with
  | none => rfl
  | some x => rw [hk] at this; cases this
theorem lk_none {E : List Me} {t : List UInt8} {n : Nat} (h : lkE E t n = none) : ∀ m ∈ E, ¬ (t = m.p ∧ n = m.id) := fun m hm => by
  unfold lkE at h
  cases hf : E.find? (fun m => decide (t = m.p ∧ n = m.id)) with
  | none => simpa using List.find?_eq_none.1 hf m hm
  | some x => rw [hf] at h; cases h
theorem run_up {w : World} {r : Nat} {E : List Me} {c : Nat} (h : Mp w r E c) (t : List UInt8) (n : Nat) (K : Pc) (hok : K.sh) (hn : lkE E t n = none) : ∃ w', (Instr.mapUpdate 59 (.map (some r)) (plV t n) (K.val)).run Tryd.prog w = .ok () w' ∧ Mp w' r (E ++ [⟨t, n, K, c⟩]) (c + 1) ∧ Fx (fun k => k = r) w w' := by
  have hg := getMap h.hp
  have hf := run_findK t n w E
  rw [fk_none hn] at hf
  obtain ⟨w', r1, r2, r3⟩ := setMap h.hp (.map ((E.map Me.e).toArray.push ⟨plV t n, K.val, c⟩) (c + 1))
  refine ⟨w', ?_, ⟨?_, ?_, ?_, ?_, ?_⟩, r3⟩
  · simp only [Instr.mapUpdate, Sem.run_bind, run_underlying Tryd.underlying59, Result.andThen_ok, hg, run_chk, List.toList_toArray, hf]
    exact r1
  · rw [r2, List.map_append]
    simp [Me.e]
  · intro m hm
    rcases List.mem_append.1 hm with hm | hm
    · exact h.ok m hm
    · rw [List.mem_singleton.1 hm]; exact hok
  · rw [List.map_append, List.nodup_append]
    refine ⟨h.nd, by simp, fun a ha b hb e => ?_⟩
    obtain ⟨m, hm, rfl⟩ := List.mem_map.1 ha
    simp only [List.map_cons, List.map_nil, List.mem_singleton] at hb
    rw [hb] at e
    simp only [Prod.mk.injEq] at e
    exact lk_none hn m hm ⟨e.1.symm, e.2.symm⟩
  · rw [List.map_append, List.nodup_append]
    refine ⟨h.bn, by simp, fun a ha b hb e => ?_⟩
    obtain ⟨m, hm, rfl⟩ := List.mem_map.1 ha
    simp only [List.map_cons, List.map_nil, List.mem_singleton] at hb
    have := h.lt m hm
    omega
  · intro m hm
    rcases List.mem_append.1 hm with hm | hm
    · have := h.lt m hm; omega
    · rw [List.mem_singleton.1 hm]; show c < c + 1; omega
def delE (E : List Me) (t : List UInt8) (n : Nat) : List Me := E.filter fun m => !decide (t = m.p ∧ n = m.id)
theorem fk_del {t : List UInt8} {n : Nat} : ∀ {E : List Me} {i j : Nat} {v : Value}, (E.map fun m => (m.p, m.id)).Nodup → fk t n E i = some (j, v) → i ≤ j ∧ E.eraseIdx (j - i) = delE E t n ∧ j - i < E.length
  | [], i, j, v, _, h => by cases h
  | m :: r, i, j, v, hnd, h => by
    rw [List.map_cons, List.nodup_cons] at hnd
    unfold fk at h
    by_cases hp : t = m.p ∧ n = m.id
    · rw [if_pos hp] at h
      cases h
      refine ⟨Nat.le_refl _, ?_, by rw [Nat.sub_self]; simp⟩
      rw [Nat.sub_self, List.eraseIdx_cons_zero]
      unfold delE
      rw [List.filter_cons_of_neg (by simpa using hp)]
      refine (List.filter_eq_self.2 fun x hx => ?_).symm
      simp only [Bool.not_eq_true', decide_eq_false_iff_not]
      intro hq
      exact hnd.1 (List.mem_map.2 ⟨x, hx, by rw [← hq.1, ← hq.2, ← hp.1, ← hp.2]⟩)
    · rw [if_neg hp] at h
      obtain ⟨h1, h2, h3⟩ := fk_del hnd.2 h
      refine ⟨by omega, ?_, by simp only [List.length_cons]; omega⟩
      rw [show j - i = (j - (i + 1)) + 1 by omega, List.eraseIdx_cons_succ, h2]
      unfold delE
      rw [List.filter_cons_of_pos (by rw [decide_eq_false hp]; rfl)]
theorem delE_none {E : List Me} {t : List UInt8} {n : Nat} (h : lkE E t n = none) : delE E t n = E := List.filter_eq_self.2 fun m hm => by rw [decide_eq_false (lk_none h m hm)]; rfl
theorem Mp.sub {w w' : World} {r : Nat} {E E' : List Me} {c : Nat} (h : Mp w r E c) (hs : E'.Sublist E) (hp : w'.heap[r]? = some (.map (E'.map Me.e).toArray c)) : Mp w' r E' c :=
  ⟨hp, fun m hm => h.ok m (hs.subset hm), (hs.map _).nodup h.nd, (hs.map _).nodup h.bn, fun m hm => h.lt m (hs.subset hm)⟩
theorem erase_mapL : ∀ (E : List Me) (j : Nat), (E.map Me.e).eraseIdx j = (E.eraseIdx j).map Me.e
  | [], j => by simp
  | m :: r, 0 => by simp
  | m :: r, j + 1 => by simp [erase_mapL r j]
theorem erase_map {E : List Me} {j : Nat} (h : j < E.length) : (E.map Me.e).toArray.eraseIdxIfInBounds j = ((E.eraseIdx j).map Me.e).toArray := by
  rw [Array.eraseIdxIfInBounds, dif_pos (by simpa using h)]
  apply Array.toList_inj.1
  rw [Array.toList_eraseIdx, List.toList_toArray, List.toList_toArray]
  exact erase_mapL E j
theorem run_del {w : World} {r : Nat} {E : List Me} {c : Nat} (h : Mp w r E c) (t : List UInt8) (n : Nat) (ty : TypeId) (kt : TypeId) : ∃ w', (Builtin.delete_ #[59, kt] ty #[.map (some r), plV t n]).run Tryd.prog w = .ok (.tuple #[]) w' ∧ Mp w' r (delE E t n) c ∧ Fx (fun k => k = r) w w' := by
  have hg := getMap h.hp
  have hf := run_findK t n w E
  cases hk : fk t n E 0 with
  | none =>
    have hl : lkE E t n = none := by
      have := fk_lk t n E 0
      rw [hk] at this
      cases hq : lkE E t n with
      | none => rfl
      | some K => rw [hq] at this; cases this
    obtain ⟨w', r1, r2, r3⟩ := setMap h.hp (.map (E.map Me.e).toArray c)
    refine ⟨w', ?_, by rw [delE_none hl]; exact h.sub (List.Sublist.refl _) r2, r3⟩
    rw [hk] at hf
    simp only [Builtin.delete_, Sem.run_bind, run_underlying Tryd.underlying59, Result.andThen_ok, hg, run_chk, List.toList_toArray, hf, List.getElem?_toArray, List.getElem?_cons_zero, List.getElem?_cons_succ, r1, Sem.run_pure]
  | some x =>
    obtain ⟨j, v⟩ := x
    obtain ⟨_, h2, h3⟩ := fk_del h.nd hk
    rw [Nat.sub_zero] at h2 h3
    obtain ⟨w', r1, r2, r3⟩ := setMap h.hp (.map ((E.map Me.e).toArray.eraseIdxIfInBounds j) c)
    refine ⟨w', ?_, h.sub (List.filter_sublist) ?_, r3⟩
    · rw [hk] at hf
      simp only [Builtin.delete_, Sem.run_bind, run_underlying Tryd.underlying59, Result.andThen_ok, hg, run_chk, List.toList_toArray, hf, List.getElem?_toArray, List.getElem?_cons_zero, List.getElem?_cons_succ, r1, Sem.run_pure]
    · rw [r2, ← h2, erase_map h3]
theorem len59 {w : World} {r : Nat} {E : List Me} {c : Nat} (h : Mp w r E c) (ty : TypeId) : (Builtin.len_ #[59] ty #[.map (some r)]).run Tryd.prog w = .ok (.int .i64 (E.length : Int)) w := by
  have hg := getMap h.hp
  simp only [Builtin.len_, List.getElem?_toArray, List.getElem?_cons_zero, Sem.run_bind, run_underlying Tryd.underlying59, Result.andThen_ok, hg]
  simp
  rfl
theorem mkMap (w : World) : ∃ w', (Instr.makeMap 59 none).run Tryd.prog w = .ok (.map (some w.heap.size)) w' ∧ Mp w' w.heap.size [] 0 ∧ Below w.heap.size w w' :=
  ⟨_, rfl, ⟨heap_alloc_new w _, fun m hm => (by cases hm), List.nodup_nil, List.nodup_nil, fun m hm => by cases hm⟩, below_new _ _⟩
/-- What is put under a place that is there. -/
def setE (E : List Me) (t : List UInt8) (n : Nat) (K : Pc) : List Me := E.map fun m => if t = m.p ∧ n = m.id then { m with c := K } else m
theorem setE_keys (E : List Me) (t : List UInt8) (n : Nat) (K : Pc) : (setE E t n K).map (fun m => (m.p, m.id)) = E.map fun m => (m.p, m.id) := by
  unfold setE; rw [List.map_map]
  refine List.map_congr_left fun m _ => ?_
  by_cases h : t = m.p ∧ n = m.id <;> simp [h]
theorem setE_b (E : List Me) (t : List UInt8) (n : Nat) (K : Pc) : (setE E t n K).map Me.b = E.map Me.b := by
  unfold setE; rw [List.map_map]
  refine List.map_congr_left fun m _ => ?_
  by_cases h : t = m.p ∧ n = m.id <;> simp [h]
theorem setE_mem {E : List Me} {t : List UInt8} {n : Nat} {K : Pc} {m : Me} (h : m ∈ setE E t n K) : m.c = K ∨ m ∈ E := by
  obtain ⟨x, hx, rfl⟩ := List.mem_map.1 h
  by_cases hk : t = x.p ∧ n = x.id
  · left; rw [if_pos hk]
  · right; rw [if_neg hk]; exact hx
theorem fk_set {t : List UInt8} {n : Nat} (K : Pc) : ∀ {E : List Me} {i j : Nat} {v : Value}, (E.map fun m => (m.p, m.id)).Nodup → fk t n E i = some (j, v) → i ≤ j ∧ j - i < E.length ∧ (∃ m, E[j - i]? = some m ∧ t = m.p ∧ n = m.id) ∧ (E.map Me.e).modify (j - i) (fun e => { e with key := plV t n, val := K.val }) = (setE E t n K).map Me.e
  | [], i, j, v, _, h => by cases h
  | m :: r, i, j, v, hnd, h => by
    rw [List.map_cons, List.nodup_cons] at hnd
    unfold fk at h
    by_cases hp : t = m.p ∧ n = m.id
    · rw [if_pos hp] at h
      cases h
      refine ⟨Nat.le_refl _, by rw [Nat.sub_self]; simp, ⟨m, by rw [Nat.sub_self]; rfl, hp⟩, ?_⟩
      rw [Nat.sub_self]
      unfold setE
      simp only [List.map_cons, if_pos hp, List.modify_zero_cons]
      congr 1
      · simp [Me.e, hp.1, hp.2]
      · rw [List.map_map]
        refine List.map_congr_left fun x hx => ?_
        have : ¬ (t = x.p ∧ n = x.id) := fun hq => hnd.1 (List.mem_map.2 ⟨x, hx, by rw [← hq.1, ← hq.2, ← hp.1, ← hp.2]⟩)
        simp [if_neg this]
    · rw [if_neg hp] at h
      obtain ⟨h1, h2, ⟨m', h3, h4⟩, h5⟩ := fk_set K hnd.2 h
      have e : j - i = (j - (i + 1)) + 1 := by omega
      refine ⟨by omega, by simp only [List.length_cons]; omega, ⟨m', by rw [e, List.getElem?_cons_succ]; exact h3, h4⟩, ?_⟩
      rw [e]
      unfold setE at h5 ⊢
      simp only [List.map_cons, if_neg hp, List.modify_succ_cons]
      rw [h5]
theorem same_pl (t : List UInt8) (n : Nat) : Instr.sameBits 10000 (plV t n) (plV t n) = true := by
  show ((_ : Nat) == _ && (_ : List (Value × Value)).all _) = true
  simp [sv, u32v, Instr.sameBits]
  show (t.toArray == t.toArray) = true
  simp
set_option maxRecDepth 100000 in
theorem run_set {w : World} {r : Nat} {E : List Me} {c : Nat} (h : Mp w r E c) (t : List UInt8) (n : Nat) (K : Pc) (hok : K.sh) (hn : (lkE E t n).isSome = true) : ∃ w', (Instr.mapUpdate 59 (.map (some r)) (plV t n) K.val).run Tryd.prog w = .ok () w' ∧ Mp w' r (setE E t n K) c ∧ Fx (fun k => k = r) w w' := by
  have hg := getMap h.hp
  have hf := run_findK t n w E
  cases hk : fk t n E 0 with
  | none =>
    have := fk_lk t n E 0
    rw [hk] at this
    cases hq : lkE E t n with
    | none => rw [hq] at hn; cases hn
    | some K => rw [hq] at this; cases this
  | some x =>
    obtain ⟨j, v⟩ := x
    obtain ⟨_, h2, ⟨m, h3, h4⟩, h5⟩ := fk_set K h.nd hk
    rw [Nat.sub_zero] at h2 h3 h5
    obtain ⟨w', r1, r2, r3⟩ := setMap h.hp (.map ((E.map Me.e).toArray.modify j fun e => { e with key := plV t n, val := K.val }) c)
    have hold : (((E.map Me.e).toArray[j]?).map (·.key)).getD (plV t n) = plV t n := by
      rw [List.getElem?_toArray, List.getElem?_map, h3]
      show plV m.p m.id = _
      rw [← h4.1, ← h4.2]
    refine ⟨w', ?_, ⟨?_, ?_, ?_, ?_, ?_⟩, r3⟩
    · rw [hk] at hf
      simp only [Instr.mapUpdate, Sem.run_bind, run_underlying Tryd.underlying59, Result.andThen_ok, hg, run_chk, List.toList_toArray, hf, hold, Instr.keyThatStays, same_pl, if_true, Sem.run_pure]
      exact r1
    · rw [r2, ← h5]
      congr 2
      apply Array.toList_inj.1
      rw [Array.toList_modify]
    · intro x hx
      rcases setE_mem hx with e | e
      · rw [e]; exact hok
      · exact h.ok x e
    · rw [setE_keys]; exact h.nd
    · rw [setE_b]; exact h.bn
    · intro x hx
      have : x.b ∈ (setE E t n K).map Me.b := List.mem_map.2 ⟨x, hx, rfl⟩
      rw [setE_b] at this
      obtain ⟨y, hy, e⟩ := List.mem_map.1 this
      rw [← e]; exact h.lt y hy
section
variable {P : Program} {n : Nat} {ops : Array Oper} {Q : Exit → Act → World → Prop} {i : Nat} {ty : TypeId} {ps : String} {af : Array Edge} {gd : Option (Nat × Bool)} {r : List Oper} {e : List (Nat × Value)} {w w' : World}
theorem WL.mkm {t : TypeId} {v : Value} (hw : wantE ops e ⟨some i, .makeMap t none, ty, ps, af, gd⟩ = some true) (hi : decide (i < n) = true) (hr : (Instr.makeMap t none).run P w = .ok v w') (k : WL P n ops Q r ((i, v) :: e) w') : WL P n ops Q (⟨some i, .makeMap t none, ty, ps, af, gd⟩ :: r) e w :=
  WL.op i v hw rfl hi (fun a ha => by simp [execOp, hr, Result.andThen]) k
theorem WL.lk {t : TypeId} {x y : Operand} {b : Bool} {u u' v : Value} (hw : wantE ops e ⟨some i, .lookup t x y b, ty, ps, af, gd⟩ = some true) (hi : decide (i < n) = true) (hx : evE e x = some u) (hy : evE e y = some u') (hr : (Instr.lookup t u u' b).run P w = .ok v w) (k : WL P n ops Q r ((i, v) :: e) w) : WL P n ops Q (⟨some i, .lookup t x y b, ty, ps, af, gd⟩ :: r) e w :=
  WL.op i v hw rfl hi (fun a ha => by simp [execOp, ha.ev hx, ha.ev hy, hr, Result.andThen]) k
theorem WL.del {x y : Operand} {ts : Array TypeId} {u u' v : Value} (hw : wantE ops e ⟨none, .call { callee := .builtin .delete, args := #[x, y], argTypes := ts }, ty, ps, af, gd⟩ = some true) (hx : evE e x = some u) (hy : evE e y = some u') (hr : (Builtin.delete_ ts ty #[u, u']).run P w = .ok v w') (k : WL P n ops Q r e w') : WL P n ops Q (⟨none, .call { callee := .builtin .delete, args := #[x, y], argTypes := ts }, ty, ps, af, gd⟩ :: r) e w := fun a ha => by
  unfold wpList
  rw [if_pos (wantE_spec ha hw)]
  left
  have h1 : (execOp a.eval ⟨none, .call { callee := .builtin .delete, args := #[x, y], argTypes := ts }, ty, ps, af, gd⟩).run P w = .ok (.value v) w' := by simp [execOp, resolve, invoke, builtin, ha.ev hx, ha.ev hy, hr, Result.andThen]
  unfold Oper.wp
  rw [h1, Oper.upon_value]
  exact k _ ha

theorem WL.min {x y : Operand} {ts : Array TypeId} {u u' v : Value} (hw : wantE ops e ⟨some i, .call { callee := .builtin .min, args := #[x, y], argTypes := ts }, ty, ps, af, gd⟩ = some true) (hi : decide (i < n) = true) (hx : evE e x = some u) (hy : evE e y = some u') (hr : (Builtin.min_ ts ty #[u, u']).run P w = .ok v w) (k : WL P n ops Q r ((i, v) :: e) w) : WL P n ops Q (⟨some i, .call { callee := .builtin .min, args := #[x, y], argTypes := ts }, ty, ps, af, gd⟩ :: r) e w :=
  WL.op i v hw rfl hi (fun a ha => by simp [execOp, resolve, invoke, builtin, ha.ev hx, ha.ev hy, hr, Result.andThen]) k

theorem WL.s2a {t : TypeId} {x : Operand} {u v : Value} (hw : wantE ops e ⟨some i, .sliceToArrayPointer t x, ty, ps, af, gd⟩ = some true) (hi : decide (i < n) = true) (hx : evE e x = some u) (hr : (Instr.arrayAt t u).run P w = .ok v w) (k : WL P n ops Q r ((i, v) :: e) w) : WL P n ops Q (⟨some i, .sliceToArrayPointer t x, ty, ps, af, gd⟩ :: r) e w :=
  WL.op i v hw rfl hi (fun a ha => by simp [execOp, ha.ev hx, hr, Result.andThen]) k

end
section
variable {P : Program} {n : Nat} {ops : Array Oper} {S : Nat → World → Prop} {K : List (Nat × Value) → (World → Prop) → Prop} {i c lv : Nat} {ty : TypeId} {ps : String} {af : Array Edge} {gd : Option (Nat × Bool)} {r : List (Oper × Nat × Nat)} {e : List (Nat × Value)} {C : World → Prop}
theorem ZE.mup {t : TypeId} {x y z : Operand} {u u' u'' : Value} (C' : World → Prop) (hw : wantE ops e ⟨none, .mapUpdate t x y z, ty, ps, af, gd⟩ = some true) (hx : evE e x = some u) (hy : evE e y = some u') (hz : evE e z = some u'') (h1 : ∀ w, C' w → S lv w) (hr : ∀ w, C w → ∃ w', (Instr.mapUpdate t u u' u'').run P w = .ok () w' ∧ C' w') (k : wpZE P n ops S K r e C') : wpZE P n ops S K ((⟨none, .mapUpdate t x y z, ty, ps, af, gd⟩, 1, lv) :: r) e C :=
  ZE.turn (fun _ => C') hw (fun j hj => by cases hj) (fun _ => h1) (fun W hW a ha => by
    obtain ⟨w', h2, h3⟩ := hr W hW
    exact .inr (.inl ⟨w', (by simp [execOp, ha.ev hx, ha.ev hy, ha.ev hz, h2, Result.andThen]), h3⟩)) (fun _ _ => k)
theorem ZE.lenW {t : TypeId} {x : Operand} {u v : Value} (h1 : decide (c = 1) = false) (hw : wantE ops e ⟨some i, .call { callee := .builtin .len, args := #[x], argTypes := #[t] }, ty, ps, af, gd⟩ = some true) (hi : decide (i < n) = true) (hx : evE e x = some u) (hc : ∀ w, C w → SZ S c lv C w) (hr : ∀ w, SZ S c lv C w → (Builtin.len_ #[t] ty #[u]).run P w = .ok v w) (k : wpZE P n ops S K r ((i, v) :: e) C) : wpZE P n ops S K ((⟨some i, .call { callee := .builtin .len, args := #[x], argTypes := #[t] }, ty, ps, af, gd⟩, c, lv) :: r) e C :=
  ZE.val h1 hw hi hc (fun a ha W hW => by simp [execOp, resolve, invoke, builtin, ha.ev hx, hr W hW, Result.andThen]) k

theorem ZE.lk {t : TypeId} {x y : Operand} {b : Bool} {u u' v : Value} (h1 : decide (c = 1) = false) (hw : wantE ops e ⟨some i, .lookup t x y b, ty, ps, af, gd⟩ = some true) (hi : decide (i < n) = true) (hx : evE e x = some u) (hy : evE e y = some u') (hc : ∀ w, C w → SZ S c lv C w) (hr : ∀ w, SZ S c lv C w → (Instr.lookup t u u' b).run P w = .ok v w) (k : wpZE P n ops S K r ((i, v) :: e) C) : wpZE P n ops S K ((⟨some i, .lookup t x y b, ty, ps, af, gd⟩, c, lv) :: r) e C :=
  ZE.val h1 hw hi hc (fun a ha W hW => by simp [execOp, ha.ev hx, ha.ev hy, hr W hW, Result.andThen]) k
end
end Go.Proofs.YtiefgmgjlhjjhaaDoor
