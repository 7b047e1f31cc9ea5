import Derived.Test.YtplfelfmkgjijaaNb
import Derived.Maps.RangeRun
import Derived.Laws.Tables
set_option linter.unusedVariables false
set_option linter.unusedSimpArgs false
namespace Go.Proofs.Ytplfelfmkgjijaa
open Go.RowKit

theorem elF : El 31 36 4 48 := by
  refine ⟨Try.underlying31, ?_, by decide, by decide, by decide⟩
  obtain ⟨i, hi, h1, h2, h3⟩ := info_parts i36z
  exact ⟨i, _, hi, h1, h2, h3, rfl⟩
def fcs (l : List Fl) : List (List Value) := l.map Fl.cs
theorem fcs_len (l : List Fl) : (fcs l).length = l.length := List.length_map ..
theorem fcs_at {l : List Fl} {i : Nat} {x : Fl} (h : l[i]? = some x) : (fcs l)[i]? = some x.cs := by unfold fcs; rw [List.getElem?_map, h]; rfl
theorem fcs_one {l : List Fl} (h : ∀ x ∈ l, x.sh) : ∀ x ∈ fcs l, ∀ c ∈ x, c.oneCell' = true := fun x hx c hc => by
  obtain ⟨s, hs, rfl⟩ := List.mem_map.1 hx
  exact Fl.ones (h s hs) c hc
theorem fcs_sz (l : List Fl) : ∀ x ∈ fcs l, x.length = 4 := fun x hx => by
  obtain ⟨s, hs, rfl⟩ := List.mem_map.1 hx
  rfl
theorem fcs_app (a b : List Fl) : fcs (a ++ b) = fcs a ++ fcs b := List.map_append ..
/-- Flights in a slice. -/
structure Fs (w : World) (v : Value) (l : List Fl) : Prop where
  li : Li 4 w v (fcs l)
  sh : ∀ x ∈ l, x.sh
/-- In a block of one's own. -/
structure Fo (w : World) (v : Value) (l : List Fl) : Prop where
  ow : Ow 36 4 w v (fcs l)
  sh : ∀ x ∈ l, x.sh
theorem Fo.fs {w : World} {v : Value} {l : List Fl} (h : Fo w v l) : Fs w v l := ⟨h.ow.li, h.sh⟩
theorem Fs.on {w w' : World} {v : Value} {l : List Fl} (h : Fs w v l) (hb : Below w.heap.size w w') : Fs w' v l := ⟨h.li.on hb, h.sh⟩
theorem Fo.on {w w' : World} {v : Value} {l : List Fl} (h : Fo w v l) (hb : Below w.heap.size w w') : Fo w' v l := ⟨h.ow.on hb, h.sh⟩
theorem Fo.fx {S : Nat → Prop} {w w' : World} {v : Value} {l : List Fl} (h : Fo w v l) (hf : Fx S w w') (ho : ∀ b, v.ownBlock = some b → ¬ S b) : Fo w' v l := ⟨h.ow.fx hf ho, h.sh⟩
theorem Fs.sl {w : World} {v : Value} {l : List Fl} (h : Fs w v l) : ∃ ao c, v = .slice ao l.length c := by
  rcases h.li.sl with ⟨rfl, e⟩ | ⟨ad, cap, rfl, _⟩
  · have : l.length = 0 := by rw [← fcs_len, e]; rfl
    rw [this]; exact ⟨_, _, rfl⟩
  · rw [fcs_len]; exact ⟨_, _, rfl⟩
theorem len31 (ao : Option Addr) (n c : Nat) (W : World) (ty : TypeId) : (Builtin.len_ #[31] ty #[.slice ao n c]).run Try.prog W = .ok (.int .i64 (n : Int)) W := by go_simp
theorem Fs.len {w : World} {v : Value} {l : List Fl} (h : Fs w v l) (W : World) (ty : TypeId) : (Builtin.len_ #[31] ty #[v]).run Try.prog W = .ok (.int .i64 (l.length : Int)) W := by
  obtain ⟨ao, c, rfl⟩ := h.sl
  exact len31 _ _ _ W ty
theorem idx31 (ad : Addr) (n cap m : Nat) (h : m < n) (W : World) : (Instr.indexAt 31 (.slice (some ad) n cap) (.int .i64 (m : Int))).run Try.prog W = .ok (.pointer (some (ad.add (m * 4)))) W := by
  have hm : (m : Int) < (n : Int) := by omega
  go_simp
theorem At.sub {w : World} {ad : Addr} {cs a m b : List Value} {o : Nat} (h : At w ad cs) (hc : cs = a ++ (m ++ b)) (ho : a.length = o) : At w (ad.add o) m := fun j v hj => by
  have hl := (List.getElem?_eq_some_iff.1 hj).1
  rw [Addr.add_add]
  refine h _ _ ?_
  rw [hc, List.getElem?_append_right (by omega), ho, Nat.add_sub_cancel_left, List.getElem?_append_left hl]
  exact hj
theorem ldIat {w : World} {ad : Addr} {n : Int} (h : At w ad [.int .i64 n]) : (Instr.loadAt 3 (.pointer (some ad))).run Try.prog w = .ok (.int .i64 n) w := by
  have h0 := h 0 _ rfl
  rw [Addr.add_zero'] at h0
  go_simp
theorem ldSat {w : World} {ad : Addr} {v : Value} (h : At w ad [v]) : (Instr.loadAt 29 (.pointer (some ad))).run Try.prog w = .ok v w := by
  have h0 := h 0 _ rfl
  rw [Addr.add_zero'] at h0
  go_simp
theorem Fs.get {w : World} {v : Value} {l : List Fl} (h : Fs w v l) {i : Nat} {x : Fl} (hs : l[i]? = some x) : ∃ ad, (∀ W, (Instr.indexAt 31 v (.int .i64 (i : Int))).run Try.prog W = .ok (.pointer (some ad)) W) ∧ ∀ W, Fs W v l → (Instr.loadAt 36 (.pointer (some ad))).run Try.prog W = .ok x.g W ∧ (Instr.loadAt 3 (.pointer (some (ad.add 0)))).run Try.prog W = .ok (.int .i64 x.n) W ∧ (Instr.loadAt 29 (.pointer (some (ad.add 3)))).run Try.prog W = .ok x.v W := by
  obtain ⟨ad, cap, e, _⟩ := h.li.at_ i _ (fcs_at hs)
  have hi : i < (fcs l).length := (List.getElem?_eq_some_iff.1 (fcs_at hs)).1
  refine ⟨ad.add (i * 4), fun W => by rw [e]; exact idx31 ad _ cap i hi W, fun W hW => ?_⟩
  obtain ⟨ad2, cap2, e2, ha⟩ := hW.li.at_ i _ (fcs_at hs)
  rw [e] at e2
  cases e2
  exact ⟨run_loadA ha Try.underlying36 rfl (i36 x), ldIat (ha.sub (a := []) (m := [.int .i64 x.n]) rfl rfl), ldSat (ha.sub (a := [.int .i64 x.n, .int .i64 x.f, .int .i64 x.t]) (m := [x.v]) rfl rfl)⟩
theorem Fo.app {w : World} {v u : Value} {A B : List Fl} (h : Fo w v A) (hu : Fs w u B) (hb : (A.length + B.length) * 48 ≤ 140737488355328) (ty : TypeId) : ∃ v' w', (Builtin.append_ #[31, 31] ty #[v, u]).run Try.prog w = .ok v' w' ∧ Fo w' v' (A ++ B) ∧ Fx (fun b => v.ownBlock = some b) w w' ∧ Nw w v v' := by
  obtain ⟨v', w', r1, r2, r3⟩ := h.ow.app elF hu.li (fcs_one hu.sh) (by rw [fcs_len, fcs_len]; exact hb) ty
  exact ⟨v', w', r1, ⟨by rw [fcs_app]; exact r2, fun s hs => (List.mem_append.1 hs).elim (h.sh s) (hu.sh s)⟩, r3⟩
theorem Fo.nil (w : World) : Fo w (.slice none 0 0) [] := ⟨Ow.nil _ _ _, fun s hs => by cases hs⟩
theorem maxL {n : Nat} (h : n ≤ 100000) : n ≤ maxLen := by unfold maxLen; omega
theorem bslF1 (x : Fl) (hx : x.sh) (w : World) : ∃ v w', (Instr.buildSlice 31 1 [(0, x.g)].toArray).run Try.prog w = .ok v w' ∧ Fo w' v [x] ∧ Below w.heap.size w w' ∧ (∃ c, v = .slice (some ⟨w.heap.size, 0, none⟩) 1 c) := by
  have h := run_bsN elF w (fcs [x]) (fcs_sz _) (by show 0 < 1; decide) (by show 1 * 4 ≤ 2 ^ 24; decide)
  have ho := Ow.new (e := 36) w (fcs [x]) (fcs_sz _) (maxL (by show 1 ≤ 100000; decide))
  exact ⟨_, _, h, ⟨ho, by simpa using hx⟩, below_new _ _, _, rfl⟩
theorem mkF (w : World) (c : Nat) (hc : c ≤ 100000) : ∃ v w', (Instr.makeSlice 31 (.int .i64 0) (.int .i64 (c : Int))).run Try.prog w = .ok v w' ∧ Fo w' v [] ∧ Below w.heap.size w w' ∧ (∃ c', v = .slice (some ⟨w.heap.size, 0, none⟩) 0 c') := by
  obtain ⟨i, z, hi, hz, hs, hby, hzs⟩ := elF.inf
  obtain ⟨w', r1, r2, r3⟩ := run_make_own (P := Try.prog) w 0 31 36 i z 4 elF.ul hi hz hs .i64 .i64 c (by rw [hby]; omega) (maxL hc) (Nat.zero_le _)
  exact ⟨_, w', r1, ⟨⟨r2, fun x hx => by cases hx⟩, fun s hs => by cases hs⟩, (grown_fx (v := .slice none 0 0) r3).below (fun k hk h => by cases h) (Nat.le_refl _), _, rfl⟩
/-- An entry of the map: a flight under its number, its stamp. -/
structure Me where
  x : Fl
  b : Nat
def Me.e (m : Me) : MapEntry := ⟨.int .i64 m.x.n, m.x.g, m.b⟩
/-- The map lies in block r. -/
structure Mp (w : World) (r : Nat) (E : List Me) (c : Nat) : Prop where
  hp : w.heap[r]? = some (.map (E.map Me.e).toArray c)
  ok : ∀ m ∈ E, m.x.sh
  nd : (E.map fun m => m.x.n).Nodup
  bn : (E.map Me.b).Nodup
  lt : ∀ m ∈ E, m.b < c
theorem Mp.ltb {w : World} {r : Nat} {E : List Me} {c : Nat} (h : Mp w r E c) : r < w.heap.size := by
  rcases Nat.lt_or_ge r w.heap.size with hl | hl
  · exact hl
  · have := h.hp
    rw [Array.getElem?_eq_none hl] at this; cases this
theorem Mp.fx {S : Nat → Prop} {w w' : World} {r : Nat} {E : List Me} {c : Nat} (h : Mp w r E c) (hf : Fx S w w') (hS : ¬ S r) : Mp w' r E c := ⟨by rw [hf.block r h.ltb hS]; exact h.hp, h.ok, h.nd, h.bn, h.lt⟩
theorem Mp.on {w w' : World} {r : Nat} {E : List Me} {c : Nat} (h : Mp w r E c) (hb : Below w.heap.size w w') : Mp w' r E c := h.fx (S := fun _ => False) (Fx.of_below hb) (fun h => h)
/-- Where a number's flight lies, and which. -/
def fk (n : Int) : List Me → Nat → Option (Nat × Value)
  | [], _ => none
  | m :: r, i => if n = m.x.n then some (i, m.x.g) else fk n r (i + 1)
theorem run_now (n : Int) : ∀ (E : List Me) (i : Nat), Instr.findNow (.int .i64) (.int .i64 n) (E.map Me.e) i = some (fk n E i)
  | [], i => rfl
  | m :: r, i => by
    have ih := run_now n r (i + 1)
    by_cases h : n = m.x.n
    · simp [Instr.findNow, Instr.sameNow, Me.e, fk, h]
    · simp only [List.map_cons, Instr.findNow, Instr.sameNow, Me.e, fk, if_neg h]
      have : (n == m.x.n) = false := by simpa using h
      simp only [this, if_true]
      exact ih
theorem run_findK (n : Int) (w : World) (E : List Me) : (Instr.findKey 3 (.int .i64 n) (E.map Me.e)).run Try.prog w = .ok (fk n E 0) w := by
  have ha := run_now n E 0
  simp only [Instr.findKey, Sem.run_bind, run_underlying Try.underlying3, Result.andThen_ok, ha]
  rfl
theorem run_chk (b : Bool) (n : Int) (w : World) : (Instr.checkKey b 10000 3 (.int .i64 n)).run Try.prog w = .ok () w := by
  kernel_rfl
def lkE (E : List Me) (n : Int) : Option Fl := (E.find? fun m => decide (n = m.x.n)).map Me.x
theorem fk_lk (n : Int) : ∀ (E : List Me) (i : Nat), (fk n E i).map Prod.snd = (lkE E n).map Fl.g
  | [], i => rfl
  | m :: r, i => by
    unfold fk lkE
    by_cases h : n = m.x.n
    · rw [if_pos h, List.find?_cons_of_pos (by simpa using h)]; rfl
    · rw [if_neg h, List.find?_cons_of_neg (by simpa using h)]
      exact fk_lk n r (i + 1)
theorem getMap {w : World} {r : Nat} {es : Array MapEntry} {c : Nat} (h : w.heap[r]? = some (.map es c)) : (getObj r).run Try.prog w = .ok (.map es c) w := by
  simp [getObj, Sem.run, h]
theorem run_lk {w : World} {r : Nat} {E : List Me} {c : Nat} (h : Mp w r E c) (n : Int) : (Instr.lookup 56 (.map (some r)) (.int .i64 n) true).run Try.prog w = .ok (.tuple #[((lkE E n).getD Fl.z).g, .bool (lkE E n).isSome]) w := by
  have hg := getMap h.hp
  have hf := run_findK n w E
  have hl := fk_lk n E 0
  simp only [Instr.lookup, Sem.run_bind, run_underlying Try.underlying56, Result.andThen_ok, hg, Sem.run_pure, run_chk, List.toList_toArray, hf]
  cases hk : fk n E 0 with
  | none =>
    rw [hk] at hl
    cases hq : lkE E n with
    | none => simp [Sem.run_bind, z36 w]
    | some K => rw [hq] at hl; cases hl
  | some x =>
    obtain ⟨i, v⟩ := x
    rw [hk] at hl
    cases hq : lkE E n with
    | none => rw [hq] at hl; cases hl
    | some K =>
      rw [hq] at hl
      simp only [Option.map_some, Option.some.injEq] at hl
      subst hl
      simp
theorem setMap {w : World} {r : Nat} {es : Array MapEntry} {c : Nat} (h : w.heap[r]? = some (.map es c)) (o : Obj) : ∃ w', (setObj r o).run Try.prog w = .ok () w' ∧ w'.heap[r]? = some o ∧ Fx (fun k => k = r) w w' := by
  have hr : r < w.heap.size := by
    rcases Nat.lt_or_ge r w.heap.size with hl | hl
    · exact hl
    · rw [Array.getElem?_eq_none hl] at h; cases h
  refine ⟨{ w with heap := w.heap.setIfInBounds r o }, ?_, by simp [hr], ⟨rfl, rfl, rfl, by simp, fun i hi hn => ?_⟩⟩
  · simp [setObj, Sem.run, h]
  · show (w.heap.setIfInBounds r o)[i]? = _
    rw [Array.getElem?_setIfInBounds, if_neg (fun e => hn e.symm)]
theorem fk_none {n : Int} {E : List Me} {i : Nat} (h : lkE E n = none) : fk n E i = none := by
  have := fk_lk n E i
  rw [h] at this
  cases hk : fk n E i with
  | none => rfl
  | some x => rw [hk] at this; cases this
theorem lk_none {E : List Me} {n : Int} (h : lkE E n = none) : ∀ m ∈ E, ¬ n = m.x.n := fun m hm => by
  unfold lkE at h
  cases hf : E.find? (fun m => decide (n = m.x.n)) with
  | none => simpa using List.find?_eq_none.1 hf m hm
  | some x => rw [hf] at h; cases h
theorem lk_of_none {E : List Me} {n : Int} (h : ∀ m ∈ E, ¬ n = m.x.n) : lkE E n = none := by
  unfold lkE
  rw [List.find?_eq_none.2]
  · rfl
  · intro m hm; simpa using h m hm
theorem lk_some {E : List Me} {n : Int} {x : Fl} (h : lkE E n = some x) : ∃ m ∈ E, m.x = x ∧ x.n = n := by
  unfold lkE at h
  cases hf : E.find? (fun m => decide (n = m.x.n)) with
  | none => rw [hf] at h; cases h
  | some m =>
    rw [hf] at h
    simp only [Option.map_some, Option.some.injEq] at h
    have := List.find?_some hf
    simp only [decide_eq_true_eq] at this
    exact ⟨m, List.mem_of_find?_eq_some hf, h, by rw [← h]; exact this.symm⟩
theorem run_up {w : World} {r : Nat} {E : List Me} {c : Nat} (h : Mp w r E c) (x : Fl) (hok : x.sh) (hn : lkE E x.n = none) : ∃ w', (Instr.mapUpdate 56 (.map (some r)) (.int .i64 x.n) x.g).run Try.prog w = .ok () w' ∧ Mp w' r (E ++ [⟨x, c⟩]) (c + 1) ∧ Fx (fun k => k = r) w w' := by
  have hg := getMap h.hp
  have hf := run_findK x.n w E
  rw [fk_none hn] at hf
  obtain ⟨w', r1, r2, r3⟩ := setMap h.hp (.map ((E.map Me.e).toArray.push ⟨.int .i64 x.n, x.g, c⟩) (c + 1))
  refine ⟨w', ?_, ⟨?_, ?_, ?_, ?_, ?_⟩, r3⟩
  · simp only [Instr.mapUpdate, Sem.run_bind, run_underlying Try.underlying56, Result.andThen_ok, hg, run_chk, List.toList_toArray, hf]
    exact r1
  · rw [r2, List.map_append]
    simp [Me.e]
  · intro m hm
    rcases List.mem_append.1 hm with hm | hm
    · exact h.ok m hm
    · rw [List.mem_singleton.1 hm]; exact hok
  · rw [List.map_append, List.nodup_append]
    refine ⟨h.nd, by simp, fun a ha b hb e => ?_⟩
    obtain ⟨m, hm, rfl⟩ := List.mem_map.1 ha
    simp only [List.map_cons, List.map_nil, List.mem_singleton] at hb
    rw [hb] at e
    exact lk_none hn m hm e.symm
  · rw [List.map_append, List.nodup_append]
    refine ⟨h.bn, by simp, fun a ha b hb e => ?_⟩
    obtain ⟨m, hm, rfl⟩ := List.mem_map.1 ha
    simp only [List.map_cons, List.map_nil, List.mem_singleton] at hb
    have := h.lt m hm
    omega
  · intro m hm
    rcases List.mem_append.1 hm with hm | hm
    · have := h.lt m hm; omega
    · rw [List.mem_singleton.1 hm]; show c < c + 1; omega
def delE (E : List Me) (n : Int) : List Me := E.filter fun m => !decide (n = m.x.n)
theorem fk_del {n : Int} : ∀ {E : List Me} {i j : Nat} {v : Value}, (E.map fun m => m.x.n).Nodup → fk n E i = some (j, v) → i ≤ j ∧ E.eraseIdx (j - i) = delE E n ∧ j - i < E.length
  | [], i, j, v, _, h => by cases h
  | m :: r, i, j, v, hnd, h => by
    rw [List.map_cons, List.nodup_cons] at hnd
    unfold fk at h
    by_cases hp : n = m.x.n
    · rw [if_pos hp] at h
      cases h
      refine ⟨Nat.le_refl _, ?_, by rw [Nat.sub_self]; simp⟩
      rw [Nat.sub_self, List.eraseIdx_cons_zero]
      unfold delE
      rw [List.filter_cons_of_neg (by simpa using hp)]
      refine (List.filter_eq_self.2 fun x hx => ?_).symm
      simp only [Bool.not_eq_true', decide_eq_false_iff_not]
      intro hq
      exact hnd.1 (List.mem_map.2 ⟨x, hx, by rw [← hq, ← hp]⟩)
    · rw [if_neg hp] at h
      obtain ⟨h1, h2, h3⟩ := fk_del hnd.2 h
      refine ⟨by omega, ?_, by simp only [List.length_cons]; omega⟩
      rw [show j - i = (j - (i + 1)) + 1 by omega, List.eraseIdx_cons_succ, h2]
      unfold delE
      rw [List.filter_cons_of_pos (by rw [decide_eq_false hp]; rfl)]
theorem delE_none {E : List Me} {n : Int} (h : lkE E n = none) : delE E n = E := List.filter_eq_self.2 fun m hm => by rw [decide_eq_false (lk_none h m hm)]; rfl
theorem Mp.sub {w w' : World} {r : Nat} {E E' : List Me} {c : Nat} (h : Mp w r E c) (hs : E'.Sublist E) (hp : w'.heap[r]? = some (.map (E'.map Me.e).toArray c)) : Mp w' r E' c :=
  ⟨hp, fun m hm => h.ok m (hs.subset hm), (hs.map _).nodup h.nd, (hs.map _).nodup h.bn, fun m hm => h.lt m (hs.subset hm)⟩
theorem erase_mapL : ∀ (E : List Me) (j : Nat), (E.map Me.e).eraseIdx j = (E.eraseIdx j).map Me.e
  | [], j => by simp
  | m :: r, 0 => by simp
  | m :: r, j + 1 => by simp [erase_mapL r j]
theorem erase_map {E : List Me} {j : Nat} (h : j < E.length) : (E.map Me.e).toArray.eraseIdxIfInBounds j = ((E.eraseIdx j).map Me.e).toArray := by
  rw [Array.eraseIdxIfInBounds, dif_pos (by simpa using h)]
  apply Array.toList_inj.1
  rw [Array.toList_eraseIdx, List.toList_toArray, List.toList_toArray]
  exact erase_mapL E j
theorem run_del {w : World} {r : Nat} {E : List Me} {c : Nat} (h : Mp w r E c) (n : Int) (ty : TypeId) (kt : TypeId) : ∃ w', (Builtin.delete_ #[56, kt] ty #[.map (some r), .int .i64 n]).run Try.prog w = .ok (.tuple #[]) w' ∧ Mp w' r (delE E n) c ∧ Fx (fun k => k = r) w w' := by
  have hg := getMap h.hp
  have hf := run_findK n w E
  cases hk : fk n E 0 with
  | none =>
    have hl : lkE E n = none := by
      have := fk_lk n E 0
      rw [hk] at this
      cases hq : lkE E n with
      | none => rfl
      | some K => rw [hq] at this; cases this
    obtain ⟨w', r1, r2, r3⟩ := setMap h.hp (.map (E.map Me.e).toArray c)
    refine ⟨w', ?_, by rw [delE_none hl]; exact h.sub (List.Sublist.refl _) r2, r3⟩
    rw [hk] at hf
    simp only [Builtin.delete_, Sem.run_bind, run_underlying Try.underlying56, Result.andThen_ok, hg, run_chk, List.toList_toArray, hf, List.getElem?_toArray, List.getElem?_cons_zero, List.getElem?_cons_succ, r1, Sem.run_pure]
  | some x =>
    obtain ⟨j, v⟩ := x
    obtain ⟨_, h2, h3⟩ := fk_del h.nd hk
    rw [Nat.sub_zero] at h2 h3
    obtain ⟨w', r1, r2, r3⟩ := setMap h.hp (.map ((E.map Me.e).toArray.eraseIdxIfInBounds j) c)
    refine ⟨w', ?_, h.sub (List.filter_sublist) ?_, r3⟩
    · rw [hk] at hf
      simp only [Builtin.delete_, Sem.run_bind, run_underlying Try.underlying56, Result.andThen_ok, hg, run_chk, List.toList_toArray, hf, List.getElem?_toArray, List.getElem?_cons_zero, List.getElem?_cons_succ, r1, Sem.run_pure]
    · rw [r2, ← h2, erase_map h3]
theorem len56 {w : World} {r : Nat} {E : List Me} {c : Nat} (h : Mp w r E c) (ty : TypeId) : (Builtin.len_ #[56] ty #[.map (some r)]).run Try.prog w = .ok (.int .i64 (E.length : Int)) w := by
  have hg := getMap h.hp
  simp only [Builtin.len_, List.getElem?_toArray, List.getElem?_cons_zero, Sem.run_bind, run_underlying Try.underlying56, Result.andThen_ok, hg]
  simp
  rfl
theorem mkMap (w : World) : ∃ w', (Instr.makeMap 56 none).run Try.prog w = .ok (.map (some w.heap.size)) w' ∧ Mp w' w.heap.size [] 0 ∧ Below w.heap.size w w' ∧ w'.heap.size = w.heap.size + 1 :=
  ⟨_, rfl, ⟨heap_alloc_new w _, fun m hm => (by cases hm), List.nodup_nil, List.nodup_nil, fun m hm => by cases hm⟩, below_new _ _, by simp⟩
end Go.Proofs.Ytplfelfmkgjijaa
