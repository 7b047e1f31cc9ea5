import Derived.WalkKit
import Derived.Below
import Derived.Laws.OwnMore
import Derived.Laws.AppendOwnNone
namespace Go.Proofs.YtablmkijlpoaaabDoor
open Go.RowKit

/-- The row of the one is the other's, or new. -/
def Nw (w : World) (v v' : Value) : Prop := ∀ k, v'.ownBlock = some k → v.ownBlock = some k ∨ w.heap.size ≤ k

theorem app_block {w : World} {g : Nat} {o : Obj} (h : w.heap[g]? = some o) : g < w.heap.size := (Array.getElem?_eq_some_iff.1 h).1

/-- 'append' to an owned row, whatever its elements; what was there stays. -/
theorem run_appG {P : Program} (w : World) (base : Nat) (t ty e : TypeId) (i : TypeInfo) (z : Value) (size bytes : Nat) (ht : P.underlying t = some (.slice e)) (hi : P.info? e = some i) (hz : i.zero = some z)
    (hsize : i.size = size) (hby : i.bytes = bytes) (hzs : z.cells.size = size) (hs0 : 0 < size) (v : Value) (n : Nat) (xs : List Value) (hown : w.ownsRow base e size v n xs)
    (a : Addr) (m c : Nat) (news : List Value) (hl : news.length = m * size) (hnews : ∀ j u, news[j]? = some u → w.cell? (a.add j) = some u) (h1 : ∀ u ∈ news, u.oneCell' = true)
    (hn : n + m ≤ 1000000) (hby0 : bytes ≤ 1000) (hbase : base ≤ w.heap.size) :
    ∃ v' w', (Builtin.append_ #[t, t] ty #[v, .slice (some a) m c]).run P w = .ok v' w' ∧ w'.ownsRow base e size v' (n + m) (xs ++ news) ∧ w.grownBy w' v.ownBlock ∧ Nw w v v' ∧ w'.ownsRow base e size v n xs := by
  have h63 : n + m ≤ maxLen := by unfold maxLen; omega
  have hb : (n + m) * bytes ≤ 140737488355328 := Nat.le_trans (Nat.mul_le_mul hn hby0) (by decide)
  obtain ⟨v', w', r1, r2, r3, r4⟩ := run_append_own (P := P) w base t ty e i z size bytes ht hi hz hsize hby hzs hs0 v n xs hown a m c news hl hnews h1 h63 hb hbase
  refine ⟨v', w', r1, r2, r3, ?_⟩
  have hown' := hown
  obtain ⟨hx, ⟨rfl, hz0⟩ | ⟨g, cp, cur, rfl, hg, hh2, hnc, hc, hs, htk⟩⟩ := hown'
  · have hnil : w.ownsRow w.heap.size e size (.slice none 0 0) n xs := ⟨hx, .inl ⟨rfl, hz0⟩⟩
    obtain ⟨v2, w2, q1, q2, q3, q4⟩ := run_append_own (P := P) w w.heap.size t ty e i z size bytes ht hi hz hsize hby hzs hs0 _ n xs hnil a m c news hl hnews h1 h63 hb (Nat.le_refl _)
    rw [r1] at q1
    simp only [Result.ok.injEq] at q1
    obtain ⟨rfl, rfl⟩ := q1
    refine ⟨fun k hk => ?_, hx, .inl ⟨rfl, hz0⟩⟩
    right
    obtain ⟨_, ⟨rfl, _⟩ | ⟨g, cap, cur, rfl, hg, _⟩⟩ := q2
    · cases hk
    · simp [Value.ownBlock] at hk; omega
  · by_cases hroom : n + m ≤ cp
    · obtain ⟨w2, q1, q2, _⟩ := run_append_fits (P := P) w base t ty e i size ht hi hsize g n cp xs hown a m c news hl hnews h1 hroom
      rw [r1] at q1
      simp only [Result.ok.injEq] at q1
      obtain ⟨rfl, rfl⟩ := q1
      refine ⟨fun k hk => .inl hk, ?_⟩
      obtain ⟨_, ⟨hc0, _⟩ | ⟨g', cp', cur', hv, hg', hh', hnc', hc', hs', htk'⟩⟩ := q2
      · cases hc0
      · simp only [Value.slice.injEq, Option.some.injEq, Addr.mk.injEq] at hv
        obtain ⟨⟨rfl, _⟩, _, rfl⟩ := hv
        refine ⟨hx, .inr ⟨g, cp, cur', rfl, hg, hh', by omega, hc, hs', ?_⟩⟩
        have e2 : (cur'.toList.take ((n + m) * size)).take (n * size) = (xs ++ news).take (n * size) := by rw [htk']
        rw [List.take_take, Nat.min_eq_left (Nat.mul_le_mul_right _ (by omega)), List.take_left' hx] at e2
        exact e2
    · have hfit : Builtin.nextslicecap (n + m) cp * i.bytes ≤ 281474976710656 := by
        have hcap := nextslicecap_le (show cp < n + m by omega)
        rw [hby]
        exact Nat.le_trans (Nat.mul_le_mul (show _ ≤ 10000000 by omega) hby0) (by decide)
      have q1 := run_append_grow (P := P) w t ty e i z ht hi hz ⟨g, 0, none⟩ n cp xs (by rw [hsize]; exact hx) (World.ownsRow.cells hown (g := g) rfl) a m c news (by rw [hsize]; omega) hnews (by omega) (by omega) hfit
      rw [r1] at q1
      simp only [Result.ok.injEq] at q1
      obtain ⟨rfl, rfl⟩ := q1
      refine ⟨fun k hk => ?_, hx, .inr ⟨g, cp, cur, rfl, hg, ?_, hnc, hc, hs, htk⟩⟩
      · simp [Value.ownBlock] at hk; omega
      · rw [Below.heap_alloc w.drew _ g (app_block hh2)]
        exact hh2
end Go.Proofs.YtablmkijlpoaaabDoor
