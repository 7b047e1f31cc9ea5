import Derived.Test.YtiefgmgjlhjjhaaDoorPa
import Derived.Great.CaseRows
import Derived.Laws.MakeOwn
import Derived.Laws.OwnMore
set_option linter.unusedVariables false
set_option linter.unusedSimpArgs false
namespace Go.Proofs.YtiefgmgjlhjjhaaDoor
open Go.RowKit

/-- A list of rows of k cells each, in a slice. -/
structure Li (k : Nat) (w : World) (v : Value) (l : List (List Value)) : Prop where
  sl : (v = .slice none 0 0 ∧ l = []) ∨ ∃ ad cap, v = .slice (some ad) l.length cap ∧ l.length ≤ cap
  sz : ∀ x ∈ l, x.length = k
  at_ : ∀ (i : Nat) (x : List Value), l[i]? = some x → ∃ ad cap, v = .slice (some ad) l.length cap ∧ At w (ad.add (i * k)) x
theorem Li.nil (k : Nat) (w : World) : Li k w (.slice none 0 0) [] := ⟨.inl ⟨rfl, rfl⟩, fun x hx => (by cases hx), fun i x h => by cases h⟩
theorem flat_at {k : Nat} : ∀ {l : List (List Value)} {i : Nat} {x : List Value} {j : Nat}, (∀ x ∈ l, x.length = k) → l[i]? = some x → j < k → l.flatten[i * k + j]? = x[j]?
  | [], i, x, j, _, h, _ => by cases h
  | a :: r, 0, x, j, hs, h, hj => by
    simp only [List.getElem?_cons_zero, Option.some.injEq] at h
    subst h
    rw [List.flatten_cons, Nat.zero_mul, Nat.zero_add, List.getElem?_append_left (by rw [hs a (by simp)]; exact hj)]
  | a :: r, i + 1, x, j, hs, h, hj => by
    have ha := hs a (by simp)
    rw [List.flatten_cons, List.getElem?_append_right (by rw [ha, Nat.add_mul, Nat.one_mul]; omega), ha, show (i + 1) * k + j - k = i * k + j by rw [Nat.add_mul, Nat.one_mul]; omega]
    exact flat_at (fun y hy => hs y (by simp [hy])) (by simpa using h) hj
theorem flat_of {k : Nat} : ∀ {l : List (List Value)} {j : Nat} {u : Value}, (∀ x ∈ l, x.length = k) → l.flatten[j]? = some u → ∃ i x r, l[i]? = some x ∧ x[r]? = some u ∧ j = i * k + r
  | [], j, u, _, h => by simp at h
  | a :: r, j, u, hs, h => by
    have ha := hs a (by simp)
    rw [List.flatten_cons] at h
    rcases Nat.lt_or_ge j a.length with hj | hj
    · rw [List.getElem?_append_left hj] at h
      exact ⟨0, a, j, rfl, h, by omega⟩
    · rw [List.getElem?_append_right hj] at h
      obtain ⟨i, x, q, h1, h2, h3⟩ := flat_of (fun y hy => hs y (by simp [hy])) h
      exact ⟨i + 1, x, q, by simpa using h1, h2, by rw [Nat.add_mul, Nat.one_mul]; omega⟩
theorem flatL {k : Nat} : ∀ {l : List (List Value)}, (∀ x ∈ l, x.length = k) → l.flatten.length = l.length * k
  | [], _ => by simp
  | a :: r, hs => by
    rw [List.flatten_cons, List.length_append, hs a (by simp), flatL (fun y hy => hs y (by simp [hy])), List.length_cons, Nat.add_mul, Nat.one_mul]
    omega
/-- A list of rows in a block of one's own. -/
structure Ow (e : TypeId) (k : Nat) (w : World) (v : Value) (l : List (List Value)) : Prop where
  row : w.ownsRow 0 e k v l.length l.flatten
  sz : ∀ x ∈ l, x.length = k
theorem Ow.nil (e : TypeId) (k : Nat) (w : World) : Ow e k w (.slice none 0 0) [] := ⟨⟨by simp, .inl ⟨rfl, rfl⟩⟩, fun x hx => by cases hx⟩
theorem Ow.li {e : TypeId} {k : Nat} {w : World} {v : Value} {l : List (List Value)} (h : Ow e k w v l) : Li k w v l := by
  obtain ⟨hx, ⟨rfl, hz⟩ | ⟨g, cp, cur, rfl, _, hh, hn, _, hs, ht⟩⟩ := h.row
  · have : l = [] := List.eq_nil_of_length_eq_zero hz
    subst this
    exact Li.nil k w
  · refine ⟨.inr ⟨_, _, rfl, hn⟩, h.sz, fun i x hx => ⟨_, _, rfl, fun j u hj => ?_⟩⟩
    have hjk : j < k := by
      have := (List.getElem?_eq_some_iff.1 hj).1
      rw [h.sz x (List.mem_of_getElem? hx)] at this
      exact this
    have hil : i < l.length := (List.getElem?_eq_some_iff.1 hx).1
    have hf := flat_at h.sz hx hjk
    rw [hj, ← ht, List.getElem?_take] at hf
    split at hf
    · rw [add_plain]
      show w.cell? ((⟨g, i * k, none⟩ : Addr).add j) = _
      rw [show (⟨g, i * k, none⟩ : Addr).add j = ⟨g, i * k + j, none⟩ from Addr.add_mid .., cell_of_row _ _ _ _ e (0, 0) hh, ← Array.getElem?_toList]
      exact hf
    · cases hf
theorem Ow.fx {e : TypeId} {k : Nat} {S : Nat → Prop} {w w' : World} {v : Value} {l : List (List Value)} (h : Ow e k w v l) (hf : Fx S w w') (ho : ∀ b, v.ownBlock = some b → ¬ S b) : Ow e k w' v l := by
  obtain ⟨hx, h1 | ⟨g, cp, cur, rfl, hg, hh2, hr⟩⟩ := h.row
  · exact ⟨⟨hx, .inl h1⟩, h.sz⟩
  · refine ⟨⟨hx, .inr ⟨g, cp, cur, rfl, hg, ?_, hr⟩⟩, h.sz⟩
    rw [hf.block g (by
      rcases Nat.lt_or_ge g w.heap.size with hl | hl
      · exact hl
      · rw [Array.getElem?_eq_none hl] at hh2; cases hh2) (ho g rfl)]
    exact hh2
theorem Ow.on {e : TypeId} {k : Nat} {w w' : World} {v : Value} {l : List (List Value)} (h : Ow e k w v l) (hb : Below w.heap.size w w') : Ow e k w' v l := h.fx (S := fun _ => False) (Fx.of_below hb) (fun _ _ h => h)
/-- What an element's type is. -/
structure El (t e : TypeId) (k by' : Nat) : Prop where
  ul : Tryd.prog.underlying t = some (.slice e)
  inf : ∃ i z, Tryd.prog.info? e = some i ∧ i.zero = some z ∧ i.size = k ∧ i.bytes = by' ∧ z.cells.size = k
  pos : 0 < k
  b1 : 0 < by'
  b2 : by' ≤ 128
theorem fit_num (n by' c : Nat) (hb : n * by' ≤ 140737488355328) (h2 : by' ≤ 128) (hc : c ≤ n + (n + 768) / 4) : c * by' ≤ 281474976710656 := by
  have h1 : c * by' ≤ (n + (n + 768) / 4) * by' := Nat.mul_le_mul_right _ hc
  have h3 : 4 * ((n + 768) / 4) ≤ n + 768 := Nat.mul_div_le _ _
  have h4 : 4 * ((n + 768) / 4) * by' ≤ (n + 768) * by' := Nat.mul_le_mul_right _ h3
  rw [Nat.add_mul] at h1 h4
  rw [Nat.mul_assoc] at h4
  have h5 : 768 * by' ≤ 768 * 128 := Nat.mul_le_mul_left _ h2
  omega
/-- A list is appended to a list of one's own. -/
theorem Ow.app {t e : TypeId} {k by' : Nat} (E : El t e k by') {w : World} {v u : Value} {l m : List (List Value)} (h : Ow e k w v l) (hu : Li k w u m) (h1 : ∀ x ∈ m, ∀ c ∈ x, c.oneCell' = true) (hb : (l.length + m.length) * by' ≤ 140737488355328) (ty : TypeId) :
    ∃ v' w', (Builtin.append_ #[t, t] ty #[v, u]).run Tryd.prog w = .ok v' w' ∧ Ow e k w' v' (l ++ m) ∧ Fx (fun b => v.ownBlock = some b) w w' ∧ Nw w v v' := by
  obtain ⟨i, z, hi, hz, hs, hby, hzs⟩ := E.inf
  have h63 : l.length + m.length ≤ maxLen := by
    have : l.length + m.length ≤ (l.length + m.length) * by' := Nat.le_mul_of_pos_right _ E.b1
    unfold maxLen; omega
  have hszA : ∀ x ∈ l ++ m, x.length = k := fun x hx => (List.mem_append.1 hx).elim (h.sz x) (hu.sz x)
  rcases hu.sl with ⟨rfl, rfl⟩ | ⟨ad, cap, rfl, hcap⟩
  · exact ⟨_, w, run_append_owned_none (P := Tryd.prog) w 0 t ty e i k E.ul hi v _ _ h.row, by simpa using h, Fx.refl _ _, fun b hb => .inl hb⟩
  · skip
    have hnews : ∀ j c, m.flatten[j]? = some c → w.cell? (ad.add j) = some c := fun j c hj => by
      obtain ⟨i2, x, r, g1, g2, rfl⟩ := flat_of hu.sz hj
      obtain ⟨ad2, c2, e2, ha⟩ := hu.at_ i2 x g1
      cases e2
      have := ha r c g2
      rwa [Addr.add_add] at this
    have hone : ∀ c ∈ m.flatten, c.oneCell' = true := fun c hc => by
      obtain ⟨x, hx, hcx⟩ := List.mem_flatten.1 hc
      exact h1 x hx c hcx
    have hml := flatL hu.sz
    obtain ⟨v', w', r1, r2, r3, r4⟩ := run_append_own (P := Tryd.prog) w 0 t ty e i z k by' E.ul hi hz hs hby hzs E.pos v l.length l.flatten h.row ad m.length cap m.flatten hml hnews hone h63 hb (Nat.zero_le _)
    refine ⟨v', w', r1, ⟨by rw [List.length_append, List.flatten_append]; exact r2, hszA⟩, grown_fx r3, ?_⟩
    have hown' := h.row
    obtain ⟨hx, ⟨rfl, hz0⟩ | ⟨g, cp, cur, rfl, hg, hh2, hnc, hc, hs2, htk⟩⟩ := hown'
    · have hnil : w.ownsRow w.heap.size e k (.slice none 0 0) l.length l.flatten := ⟨hx, .inl ⟨rfl, hz0⟩⟩
      obtain ⟨v2, w2, q1, q2, q3, q4⟩ := run_append_own (P := Tryd.prog) w w.heap.size t ty e i z k by' E.ul hi hz hs hby hzs E.pos _ l.length l.flatten hnil ad m.length cap m.flatten hml hnews hone h63 hb (Nat.le_refl _)
      rw [r1] at q1
      simp only [Result.ok.injEq] at q1
      obtain ⟨rfl, rfl⟩ := q1
      intro b hb
      right
      obtain ⟨_, ⟨rfl, _⟩ | ⟨g, cap, cur, rfl, hg, _⟩⟩ := q2
      · cases hb
      · simp [Value.ownBlock] at hb; omega
    · by_cases hroom : l.length + m.length ≤ cp
      · obtain ⟨w2, q1, _⟩ := run_append_fits (P := Tryd.prog) w 0 t ty e i k E.ul hi hs g l.length cp l.flatten h.row ad m.length cap m.flatten hml hnews hone hroom
        rw [r1] at q1
        simp only [Result.ok.injEq] at q1
        obtain ⟨rfl, rfl⟩ := q1
        exact fun b hb => .inl hb
      · have hcap2 := nextcap_le (l.length + m.length) cp (by omega)
        have hfit : Builtin.nextslicecap (l.length + m.length) cp * i.bytes ≤ 281474976710656 := by
          rw [hby]
          exact fit_num _ _ _ hb E.b2 hcap2
        have q1 := run_append_grow (P := Tryd.prog) w t ty e i z E.ul hi hz ⟨g, 0, none⟩ l.length cp l.flatten (by rw [hs]; exact hx) (World.ownsRow.cells h.row (g := g) rfl) ad m.length cap m.flatten (by rw [hs]; exact hml) hnews (by omega) (by unfold maxLen at h63; omega) hfit
        rw [r1] at q1
        simp only [Result.ok.injEq] at q1
        obtain ⟨rfl, rfl⟩ := q1
        intro b hb
        simp [Value.ownBlock] at hb
        exact .inr (by omega)
theorem Ow.addr {e : TypeId} {k : Nat} {w : World} {v : Value} {l : List (List Value)} (h : Ow e k w v l) : (v = .slice none 0 0 ∧ l = []) ∨ ∃ g cap, v = .slice (some ⟨g, 0, none⟩) l.length cap := by
  obtain ⟨_, ⟨rfl, hz⟩ | ⟨g, cp, cur, rfl, _⟩⟩ := h.row
  · exact .inl ⟨rfl, List.eq_nil_of_length_eq_zero hz⟩
  · exact .inr ⟨_, _, rfl⟩
theorem Ow.new {e : TypeId} {k : Nat} (w : World) (l : List (List Value)) (hs : ∀ x ∈ l, x.length = k) (hm : l.length ≤ maxLen) : Ow e k (w.alloc (.cells l.flatten.toArray e)) (.slice (some ⟨w.heap.size, 0, none⟩) l.length l.length) l :=
  ⟨⟨flatL hs, .inr ⟨w.heap.size, l.length, l.flatten.toArray, rfl, Nat.zero_le _, Blk.new w _ e, Nat.le_refl _, hm, by rw [List.size_toArray, flatL hs], by rw [List.toList_toArray, List.take_of_length_le]; rw [flatL hs]; exact Nat.le_refl _⟩⟩, hs⟩
end Go.Proofs.YtiefgmgjlhjjhaaDoor
