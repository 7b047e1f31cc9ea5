import Derived.Test.YtplfelfmkgjijaaNj
set_option linter.unusedVariables false
set_option linter.unusedSimpArgs false
namespace Go.Proofs.Ytplfelfmkgjijaa
open Go.RowKit

theorem flat_set {k : Nat} {j : Nat} {c : Value} : ∀ {l : List (List Value)} {i : Nat} {row : List Value}, (∀ y ∈ l, y.length = k) → l[i]? = some row → j < k → (l.set i (row.set j c)).flatten = l.flatten.set (i * k + j) c
  | [], i, row, _, h, _ => by cases h
  | a :: r, 0, row, hs, h, hj => by
    simp only [List.getElem?_cons_zero, Option.some.injEq] at h
    subst h
    have ha := hs a (by simp)
    rw [List.set_cons_zero, List.flatten_cons, List.flatten_cons, Nat.zero_mul, Nat.zero_add, List.set_append_left _ _ (by omega)]
  | a :: r, i + 1, row, hs, h, hj => by
    have ha := hs a (by simp)
    rw [List.set_cons_succ, List.flatten_cons, List.flatten_cons, flat_set (fun y hy => hs y (by simp [hy])) (by simpa using h) hj, List.set_append_right _ _ (by rw [ha, Nat.add_mul, Nat.one_mul]; omega), ha]
    congr 2
    rw [Nat.add_mul, Nat.one_mul]; omega
/-- A cell of a list of one's own. -/
theorem Ow.setC {e : TypeId} {k : Nat} {w : World} {ad : Addr} {n cap : Nat} {l : List (List Value)} (h : Ow e k w (.slice (some ad) n cap) l) {i j : Nat} {row : List Value} (hi : l[i]? = some row) (hj : j < k) (c : Value) :
    (∃ u, w.cell? ((ad.add (i * k)).add j) = some u) ∧ w.frozen? ((ad.add (i * k)).add j) = false ∧ Ow e k (w.setCell ((ad.add (i * k)).add j) c) (.slice (some ad) n cap) (l.set i (row.set j c)) ∧ Fx (fun b => b = ad.block) w (w.setCell ((ad.add (i * k)).add j) c) := by
  obtain ⟨hx0, ⟨e0, _⟩ | ⟨g, cp, cur, e0, hg, hh2, hnc, hc, hs2, htk⟩⟩ := h.row
  · cases e0
  · cases e0
    have hil : i < l.length := (List.getElem?_eq_some_iff.1 hi).1
    have hb : Blk w g cur.toList e := by unfold Blk; simpa using hh2
    have ea : ((⟨g, 0, none⟩ : Addr).add (i * k)).add j = ⟨g, i * k + j, none⟩ := by
      rw [add_plain]; exact Addr.add_mid ..
    rw [ea]
    have hik : i * k + k ≤ l.length * k := by
      have := Nat.mul_le_mul_right k (show i + 1 ≤ l.length from hil)
      rw [Nat.add_mul, Nat.one_mul] at this
      exact this
    have hcl : cur.toList.length = cap * k := by rw [Array.length_toList]; exact hs2
    have hlc : l.length * k ≤ cur.toList.length := by
      rw [hcl]
      exact Nat.mul_le_mul_right _ hnc
    refine ⟨⟨_, (hb.cell _).trans (List.getElem?_eq_getElem (by omega))⟩, hb.frozen _, ⟨⟨?_, .inr ⟨g, cap, (cur.toList.set (i * k + j) c).toArray, by rw [List.length_set], hg, hb.set (i * k + j) c, by rw [List.length_set]; exact hnc, hc, by simpa using hs2, ?_⟩⟩, ?_⟩, Fx.setCell (S := fun k => k = g) _ _ _ _ rfl⟩
    · rw [List.length_set, flat_set h.sz hi hj, List.length_set, flat_len h.sz]
    · rw [List.length_set, flat_set h.sz hi hj, ← htk, List.toList_toArray, List.take_set]
    · intro y hy
      rcases List.mem_or_eq_of_mem_set hy with hy | rfl
      · exact h.sz y hy
      · rw [List.length_set]; exact h.sz row (List.mem_of_getElem? hi)
theorem st3at {w : World} {ad : Addr} {u : Value} (z : Int) (hc : w.cell? ad = some u) (hf : w.frozen? ad = false) : (Instr.storeAt 3 (.pointer (some ad)) (.int .i64 z)).run Try.prog w = .ok () (w.setCell ad (.int .i64 z)) := by
  go_simp
/-- A flight's number is written. -/
theorem Fo.setN {w : World} {v : Value} {L : List Fl} (h : Fo w v L) {i : Nat} {x : Fl} (hx : L[i]? = some x) (z : Int) : ∃ ad w', (∀ W, (Instr.indexAt 31 v (.int .i64 (i : Int))).run Try.prog W = .ok (.pointer (some ad)) W) ∧ (Instr.storeAt 3 (.pointer (some (ad.add 0))) (.int .i64 z)).run Try.prog w = .ok () w' ∧ Fo w' v (L.set i { x with n := z }) ∧ Fx (fun k => v.ownBlock = some k) w w' := by
  have hi : i < L.length := (List.getElem?_eq_some_iff.1 hx).1
  rcases h.ow.addr with ⟨_, e⟩ | ⟨g, cap, rfl⟩
  · have : L = [] := by simpa [fcs] using e
    rw [this] at hx; cases hx
  · obtain ⟨⟨u, h1⟩, h2, h3, h4⟩ := h.ow.setC (fcs_at hx) (show 0 < 4 by decide) (.int .i64 z)
    refine ⟨_, _, fun W => idx31 _ _ cap i (by rw [fcs_len]; exact hi) W, st3at z h1 h2, ⟨?_, ?_⟩, ?_⟩
    · have e : fcs (L.set i { x with n := z }) = (fcs L).set i (x.cs.set 0 (.int .i64 z)) := by
        unfold fcs
        rw [List.map_set]
        rfl
      rw [e]
      exact h3
    · intro y hy
      rcases List.mem_or_eq_of_mem_set hy with hy | rfl
      · exact h.sh y hy
      · exact h.sh x (List.mem_of_getElem? hx)
    · exact h4.mono (fun b _ hb => by have hb' : b = g := hb; rw [hb']; rfl)
/-- Flights that one was handed: a list of one's own, each flight's bytes of their own. -/
structure Fls (w : World) (s : Nat) (v : Value) (l : List Fl) : Prop where
  fo : Fo w v l
  ow : ∀ b, v.ownBlock = some b → s ≤ b
  bx : ∀ x ∈ l, Bx w s x.v x.b
section
variable {w w' : World} {s : Nat} {v : Value} {l : List Fl}
theorem Fls.fx {S : Nat → Prop} (h : Fls w s v l) (hf : Fx S w w') (hS : ∀ k, S k → k < s) : Fls w' s v l :=
  ⟨h.fo.fx hf (fun b hb e => by have := h.ow b hb; have := hS b e; omega), h.ow, fun x hx => (h.bx x hx).fx hf (fun k hk e => by have := (h.bx x hx).ownBlock k hk; have := hS k e; omega)⟩
theorem Fls.on (h : Fls w s v l) (hb : Below w.heap.size w w') : Fls w' s v l := ⟨h.fo.on hb, h.ow, fun x hx => (h.bx x hx).below hb⟩
theorem Fls.weaken {s' : Nat} (h : Fls w s v l) (hs : s' ≤ s) : Fls w s' v l := ⟨h.fo, fun b hb => by have := h.ow b hb; omega, fun x hx => (h.bx x hx).weaken hs⟩
end
/-- Lists of bytes. -/
theorem elB : El 37 29 1 24 := by
  refine ⟨Try.underlying37, ?_, by decide, by decide, by decide⟩
  have h : (Try.prog.info? 29).map (fun i => (i.zero, i.size, i.bytes)) = some (some (.slice none 0 0), 1, 24) := by kernel_rfl
  obtain ⟨i, hi, h1, h2, h3⟩ := info_parts h
  exact ⟨i, _, hi, h1, h2, h3, rfl⟩
def mcs (M : List (Value × List UInt8)) : List (List Value) := M.map fun m => [m.1]
theorem mcs_len (M : List (Value × List UInt8)) : (mcs M).length = M.length := List.length_map ..
structure Mor (w : World) (s : Nat) (v : Value) (M : List (Value × List UInt8)) : Prop where
  ow : Ow 29 1 w v (mcs M)
  lo : ∀ b, v.ownBlock = some b → s ≤ b
  ob : ∀ m ∈ M, Own w s m.1 m.2
section
variable {w w' : World} {s : Nat} {v : Value} {M : List (Value × List UInt8)}
theorem Mor.nil (w : World) (s : Nat) : Mor w s (.slice none 0 0) [] := ⟨Ow.nil _ _ _, fun _ h => (by cases h), fun _ h => by cases h⟩
theorem Mor.fx {S : Nat → Prop} (h : Mor w s v M) (hf : Fx S w w') (hS : ∀ k, S k → k < s) : Mor w' s v M :=
  ⟨h.ow.fx hf (fun b hb e => by have := h.lo b hb; have := hS b e; omega), h.lo, fun m hm => (h.ob m hm).fx hf (fun k hk e => by have := (h.ob m hm).ownBlock k hk; have := hS k e; omega)⟩
theorem Mor.on (h : Mor w s v M) (hb : Below w.heap.size w w') : Mor w' s v M := ⟨h.ow.on hb, h.lo, fun m hm => (h.ob m hm).below hb⟩
theorem bsl37 (ao : Option Addr) (n c : Nat) (w : World) : (Instr.buildSlice 37 1 [(0, .slice ao n c)].toArray).run Try.prog w = .ok (.slice (some ⟨w.heap.size, 0, none⟩) 1 1) (w.alloc (.cells [.slice ao n c].toArray 29)) := by
  go_simp
  try rfl
/-- Bytes more. -/
theorem Mor.push (h : Mor w s v M) (hs : s ≤ w.heap.size) {u : Value} {bs : List UInt8} (hu : Own w s u bs) (hM : M.length ≤ 1000) (ty : TypeId) : ∃ v1 w1 v2 w2, (Instr.buildSlice 37 1 [(0, u)].toArray).run Try.prog w = .ok v1 w1 ∧ (Builtin.append_ #[37, 37] ty #[v, v1]).run Try.prog w1 = .ok v2 w2 ∧ Mor w2 s v2 (M ++ [(u, bs)]) ∧ Below s w w2 := by
  obtain ⟨ao, c, rfl⟩ := hu.slice
  have hb := below_new w (.cells [Value.slice ao bs.length c].toArray 29)
  have hn : Ow 29 1 (w.alloc (.cells [Value.slice ao bs.length c].toArray 29)) (.slice (some ⟨w.heap.size, 0, none⟩) 1 1) [[.slice ao bs.length c]] := Ow.new (e := 29) (k := 1) w [[.slice ao bs.length c]] (by simp) (maxL (by show 1 ≤ 100000; decide))
  obtain ⟨v2, w2, r2, o2, f2, n2⟩ := (h.ow.on hb).app elB hn.li (by simp [Value.oneCell']) (by rw [mcs_len]; simp; omega) ty
  refine ⟨_, _, v2, w2, bsl37 ao bs.length c w, r2, ⟨by unfold mcs; rw [List.map_append]; exact o2, fun b hb' => ?_, fun m hm => ?_⟩, ?_⟩
  · rcases n2 b hb' with e | e
    · exact h.lo b e
    · have := hb.size
      omega
  · have hcell : ∀ m' : Value × List UInt8, Own (w.alloc (.cells [Value.slice ao bs.length c].toArray 29)) s m'.1 m'.2 → ∀ k, m'.1.ownBlock = some k → ¬ v.ownBlock = some k := fun m' hm' k hk e => by
      obtain ⟨_, ⟨e1, _⟩ | ⟨g, cp, cur, e1, _, hh, _⟩⟩ := hm'
      · rw [e1] at hk; cases hk
      · rw [e1] at hk
        simp only [Value.ownBlock, Option.some.injEq] at hk
        obtain ⟨_, ⟨e3, _⟩ | ⟨g3, cp3, cur3, e3, _, hh3, _⟩⟩ := (h.ow.on hb).row
        · rw [e3] at e; cases e
        · rw [e3] at e
          simp only [Value.ownBlock, Option.some.injEq] at e
          rw [e, ← hk, hh] at hh3
          cases hh3
    rcases List.mem_append.1 hm with hm | hm
    · have h1 := (h.ob m hm).below hb
      exact h1.fx f2 (hcell m h1)
    · rw [List.mem_singleton.1 hm]
      have h1 := hu.below hb
      exact h1.fx f2 (hcell (_, bs) h1)
  · exact (hb.mono hs).trans (f2.below (fun k hk e => by have := h.lo k e; omega) (by have := hb.size; omega))
theorem idx37 (ad : Addr) (n cap m : Nat) (h : m < n) (W : World) : (Instr.indexAt 37 (.slice (some ad) n cap) (.int .i64 (m : Int))).run Try.prog W = .ok (.pointer (some (ad.add (m * 1)))) W := by
  have hm : (m : Int) < (n : Int) := by omega
  go_simp
theorem Mor.get (h : Mor w s v M) {i : Nat} {m : Value × List UInt8} (hm : M[i]? = some m) : ∃ ad, (∀ W, (Instr.indexAt 37 v (.int .i64 (i : Int))).run Try.prog W = .ok (.pointer (some ad)) W) ∧ ∀ W, Mor W s v M → (Instr.loadAt 29 (.pointer (some ad))).run Try.prog W = .ok m.1 W := by
  have ha : (mcs M)[i]? = some [m.1] := by unfold mcs; rw [List.getElem?_map, hm]; rfl
  obtain ⟨ad, cap, e, _⟩ := h.ow.li.at_ i _ ha
  have hi : i < (mcs M).length := (List.getElem?_eq_some_iff.1 ha).1
  refine ⟨ad.add (i * 1), fun W => by rw [e]; exact idx37 ad _ cap i hi W, fun W hW => ?_⟩
  obtain ⟨ad2, cap2, e2, hat⟩ := hW.ow.li.at_ i _ ha
  rw [e] at e2
  cases e2
  exact ldSat hat
end
/-- The flights that are written over: three, of like lengths. -/
structure Cs (w : World) (s : Nat) (v : Value) (L : List Fl) : Prop where
  fl : Fls w s v L
  ne : ∀ x ∈ L, ∀ k, v.ownBlock = some k → x.v.ownBlock ≠ some k
  ap : (L.map fun y => y.v.ownBlock).Nodup
theorem nodup_at {α : Type} {f : Fl → α} {L : List Fl} (h : (L.map f).Nodup) {i j : Nat} {x y : Fl} (hx : L[i]? = some x) (hy : L[j]? = some y) (e : f x = f y) : i = j := by
  have hi : (L.map f)[i]? = some (f x) := by rw [List.getElem?_map, hx]; rfl
  have hj : (L.map f)[j]? = some (f x) := by rw [List.getElem?_map, hy, e]; rfl
  have hil := (List.getElem?_eq_some_iff.1 hi).1
  exact (List.getElem?_inj hil h).1 (by rw [hi, hj])
section
variable {w : World} {s : Nat} {v : Value} {L : List Fl}
theorem set_own {L : List Fl} {i : Nat} {x y : Fl} (hx : L[i]? = some x) (e : y.v = x.v) : (L.set i y).map (fun z => z.v.ownBlock) = L.map (fun z => z.v.ownBlock) := by
  rw [List.map_set, e]
  apply List.ext_getElem?
  intro t
  rw [List.getElem?_set]
  split
  · rename_i h
    subst h
    have hi := (List.getElem?_eq_some_iff.1 hx).1
    rw [if_pos (by simpa using hi), List.getElem?_map, hx]; rfl
  · rfl
theorem Cs.setB (h : Cs w s v L) {i : Nat} {x : Fl} (hx : L[i]? = some x) {t : Nat} (ht : t < x.b.length) (u : UInt8) : ∃ ad w', (∀ W, (Instr.indexAt 29 x.v (.int .i64 (t : Int))).run Try.prog W = .ok (.pointer (some ad)) W) ∧ (Instr.storeAt 5 (.pointer (some ad)) (byt u)).run Try.prog w = .ok () w' ∧ Cs w' s v (L.set i { x with b := x.b.set t u }) ∧ Fx (fun k => s ≤ k) w w' := by
  have hm := List.mem_of_getElem? hx
  obtain ⟨ad, w', r1, r2, b2, f2⟩ := (h.fl.bx x hm).setAt ht u
  have hfS : Fx (fun k => s ≤ k) w w' := f2.mono (fun k _ e => (h.fl.bx x hm).ownBlock k e)
  have hfc : fcs (L.set i { x with b := x.b.set t u }) = fcs L := by
    unfold fcs
    rw [List.map_set]
    apply List.ext_getElem?
    intro j
    rw [List.getElem?_set]
    split
    · rename_i e
      subst e
      have hi := (List.getElem?_eq_some_iff.1 hx).1
      rw [if_pos (by simpa using hi), List.getElem?_map, hx]; rfl
    · rfl
  have hfo : Fo w' v L := h.fl.fo.fx f2 (fun b hb e => h.ne x hm b hb e)
  refine ⟨ad, w', r1, r2, ⟨⟨⟨by rw [hfc]; exact hfo.ow, fun y hy => ?_⟩, h.fl.ow, fun y hy => ?_⟩, fun y hy k hk => ?_, by rw [set_own (y := { x with b := x.b.set t u }) hx rfl]; exact h.ap⟩, hfS⟩
  · rcases List.mem_or_eq_of_mem_set hy with hy | rfl
    · exact h.fl.fo.sh y hy
    · exact h.fl.fo.sh x hm
  · obtain ⟨j, hj⟩ := List.mem_iff_getElem?.1 hy
    rw [List.getElem?_set] at hj
    split at hj
    · split at hj
      · cases hj; exact b2
      · cases hj
    · rename_i hne
      exact (h.fl.bx y (List.mem_of_getElem? hj)).fx f2 (fun k hk e => hne (nodup_at h.ap hx hj (by rw [hk]; exact e)))
  · rcases List.mem_or_eq_of_mem_set hy with hy | rfl
    · exact h.ne y hy k hk
    · exact h.ne x hm k hk
theorem Cs.setN (h : Cs w s v L) {i : Nat} {x : Fl} (hx : L[i]? = some x) (z : Int) : ∃ ad w', (∀ W, (Instr.indexAt 31 v (.int .i64 (i : Int))).run Try.prog W = .ok (.pointer (some ad)) W) ∧ (Instr.storeAt 3 (.pointer (some (ad.add 0))) (.int .i64 z)).run Try.prog w = .ok () w' ∧ Cs w' s v (L.set i { x with n := z }) ∧ Fx (fun k => s ≤ k) w w' := by
  have hm := List.mem_of_getElem? hx
  obtain ⟨ad, w', r1, r2, b2, f2⟩ := h.fl.fo.setN hx z
  refine ⟨ad, w', r1, r2, ⟨⟨b2, h.fl.ow, fun y hy => ?_⟩, fun y hy k hk => ?_, by rw [set_own (y := { x with n := z }) hx rfl]; exact h.ap⟩, f2.mono (fun k _ e => h.fl.ow k e)⟩
  · rcases List.mem_or_eq_of_mem_set hy with hy | rfl
    · exact (h.fl.bx y hy).fx f2 (fun k hk e => h.ne y hy k e hk)
    · exact (h.fl.bx x hm).fx f2 (fun k hk e => h.ne x hm k e hk)
  · rcases List.mem_or_eq_of_mem_set hy with hy | rfl
    · exact h.ne y hy k hk
    · exact h.ne x hm k hk
end
end Go.Proofs.Ytplfelfmkgjijaa
