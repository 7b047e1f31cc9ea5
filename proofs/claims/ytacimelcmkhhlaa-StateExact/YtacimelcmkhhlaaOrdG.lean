import Derived.Test.YtacimelcmkhhlaaEnt
import Derived.Deep.DeepCutAuto
import Derived.Deep.QuietTactic
import Derived.BigQuiet
import Derived.Handy
import Derived.Laws.StructEq
import Derived.Lib.ConvBytes
import Derived.Test.YtacimelcmkhhlaaFx
import Derived.Laws.OwnMore
import Derived.Laws.AppendOwnNone
set_option linter.unusedVariables false
set_option linter.unusedSimpArgs false
namespace Go.Proofs.Ytacimelcmkhhlaa
open Go.RowKit

section
variable {P : Program} {ops : Array Oper} {Q : Exit → Act → World → Prop} {md : Region.Mode} {S : World → Prop} {T : Nat}

/-- In state a the operation o yields v in every world of S, which stays. -/
def UniV (P : Program) (ops : Array Oper) (S : World → Prop) (o : Oper) (v : Value) (a : Act) : Prop :=
  (Region.wanted o (yielded ops a.tmps) = true ∧ ∀ w, S w → (execOp a.eval o).run P w = .ok (.value v) w) ∨
  (Region.wanted o (yielded ops a.tmps) = false ∧ v = undef)
theorem UniV.of_same {o : Oper} {v : Value} {a a' : Act} (hy : UniV P ops S o v a) (he : execOp a'.eval o = execOp a.eval o)
    (hw : Region.wanted o (yielded ops a'.tmps) = Region.wanted o (yielded ops a.tmps)) : UniV P ops S o v a' := by
  unfold UniV at *
  rw [he, hw]
  exact hy
end
end Go.Proofs.Ytacimelcmkhhlaa
namespace Go.Proofs.Ytacimelcmkhhlaa
open Go.RowKit

section
variable {P : Program} {ops : Array Oper} {Q : Exit → Act → World → Prop} {S : World → Prop}
end
/-- A row's new place: its old one, or a new block. -/
def Nw (w : World) (v v' : Value) : Prop := ∀ k, v'.ownBlock = some k → v.ownBlock = some k ∨ w.heap.size ≤ k
/-- 'append' to an owned row: what becomes of the row. -/
theorem run_appx (w : World) (t ty e : TypeId) (i : TypeInfo) (z : Value) (size bytes : Nat) (ht : Try.prog.underlying t = some (.slice e)) (hi : Try.prog.info? e = some i) (hz : i.zero = some z)
    (hsize : i.size = size) (hby : i.bytes = bytes) (hzs : z.cells.size = size) (hs0 : 0 < size) (v : Value) (n : Nat) (xs : List Value) (hown : w.ownsRow 0 e size v n xs)
    (a : Addr) (m c : Nat) (news : List Value) (hl : news.length = m * size) (hnews : ∀ j u, news[j]? = some u → w.cell? (a.add j) = some u) (h1 : ∀ u ∈ news, u.oneCell' = true)
    (hn : n + m ≤ 1000000000) (hby0 : bytes ≤ 64) :
    ∃ v' w', (Builtin.append_ #[t, t] ty #[v, .slice (some a) m c]).run Try.prog w = .ok v' w' ∧ w'.ownsRow 0 e size v' (n + m) (xs ++ news) ∧ w.grownBy w' v.ownBlock ∧ Nw w v v' := by
  have h63 : n + m ≤ maxLen := by unfold maxLen; omega
  have hb : (n + m) * bytes ≤ 140737488355328 := Nat.le_trans (Nat.mul_le_mul hn hby0) (by decide)
  obtain ⟨v', w', r1, r2, r3, r4⟩ := run_append_own (P := Try.prog) w 0 t ty e i z size bytes ht hi hz hsize hby hzs hs0 v n xs hown a m c news hl hnews h1 h63 hb (Nat.zero_le _)
  refine ⟨v', w', r1, r2, r3, ?_⟩
  have hown' := hown
  obtain ⟨hx, ⟨rfl, hz0⟩ | ⟨g, cp, cur, rfl, hg, hh2, hnc, hc, hs, htk⟩⟩ := hown'
  · have hnil : w.ownsRow w.heap.size e size (.slice none 0 0) n xs := ⟨hx, .inl ⟨rfl, hz0⟩⟩
    obtain ⟨v2, w2, q1, q2, q3, q4⟩ := run_append_own (P := Try.prog) w w.heap.size t ty e i z size bytes ht hi hz hsize hby hzs hs0 _ n xs hnil a m c news hl hnews h1 h63 hb (Nat.le_refl _)
    rw [r1] at q1
    simp only [Result.ok.injEq] at q1
    obtain ⟨rfl, rfl⟩ := q1
    intro k hk
    right
    obtain ⟨_, ⟨rfl, _⟩ | ⟨g, cap, cur, rfl, hg, _⟩⟩ := q2
    · cases hk
    · simp [Value.ownBlock] at hk; omega
  · by_cases hroom : n + m ≤ cp
    · obtain ⟨w2, q1, _⟩ := run_append_fits (P := Try.prog) w 0 t ty e i size ht hi hsize g n cp xs hown a m c news hl hnews h1 hroom
      rw [r1] at q1
      simp only [Result.ok.injEq] at q1
      obtain ⟨rfl, rfl⟩ := q1
      exact fun k hk => .inl hk
    · have hcap := nextcap_le (n + m) cp (by omega)
      have hfit : Builtin.nextslicecap (n + m) cp * i.bytes ≤ 281474976710656 := by
        rw [hby]
        refine Nat.le_trans (Nat.mul_le_mul (Nat.le_trans hcap (show (n + m) + ((n + m) + 768) / 4 ≤ 2000000000 by omega)) hby0) (by decide)
      have q1 := run_append_grow (P := Try.prog) w t ty e i z ht hi hz ⟨g, 0, none⟩ n cp xs (by rw [hsize]; exact hx) (World.ownsRow.cells hown (g := g) rfl) a m c news (by rw [hsize]; exact hl) hnews (by omega) (by omega) hfit
      rw [r1] at q1
      simp only [Result.ok.injEq] at q1
      obtain ⟨rfl, rfl⟩ := q1
      intro k hk
      simp [Value.ownBlock] at hk
      exact .inr (by omega)
theorem grown_fx {w w' : World} {v : Value} (h : w.grownBy w' v.ownBlock) : Fx (fun k => v.ownBlock = some k) w w' := by
  obtain ⟨h1, h2, h3, h4, h5⟩ := h
  exact ⟨h1, h2, h3, h4, fun k hk hn => h5 k hk (fun e => hn e.symm)⟩
section
variable {P : Program} {ops : Array Oper} {Q : Exit → Act → World → Prop} {md : Region.Mode}

theorem UniV.sub {S C : World → Prop} {o : Oper} {v : Value} {a : Act} (h : UniV P ops S o v a) (hC : ∀ w, C w → S w) : UniV P ops C o v a := by
  rcases h with ⟨h1, h2⟩ | h
  · exact .inl ⟨h1, fun w hw => h2 w (hC w hw)⟩
  · exact .inr h
end
end Go.Proofs.Ytacimelcmkhhlaa
