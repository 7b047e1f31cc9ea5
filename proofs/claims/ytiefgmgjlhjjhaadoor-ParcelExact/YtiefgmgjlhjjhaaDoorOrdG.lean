import Derived.Test.YtiefgmgjlhjjhaaDoorLexG
import Derived.Deep.DeepCutAuto
import Derived.Deep.QuietTactic
import Derived.BigQuiet
import Derived.Handy
import Derived.Laws.StructEq
import Derived.Lib.ConvBytes
import Derived.Laws.OwnMore
import Derived.Laws.AppendOwnNone
set_option linter.unusedVariables false
set_option linter.unusedSimpArgs false
namespace Go.Proofs.YtiefgmgjlhjjhaaDoor
open Go.RowKit
theorem enter8 (args : Array Value) (W : World) : (callFunc 8 args).run Tryd.prog W = .ok (.enter 8 args) W := run_enter Tryd.func8 (by kernel_rfl) (by kernel_rfl) args W
theorem enter9 (args : Array Value) (W : World) : (callFunc 9 args).run Tryd.prog W = .ok (.enter 9 args) W := run_enter Tryd.func9 (by kernel_rfl) (by kernel_rfl) args W
theorem enter10 (args : Array Value) (W : World) : (callFunc 10 args).run Tryd.prog W = .ok (.enter 10 args) W := run_enter Tryd.func10 (by kernel_rfl) (by kernel_rfl) args W
theorem enter11 (args : Array Value) (W : World) : (callFunc 11 args).run Tryd.prog W = .ok (.enter 11 args) W := run_enter Tryd.func11 (by kernel_rfl) (by kernel_rfl) args W
theorem enter12 (args : Array Value) (W : World) : (callFunc 12 args).run Tryd.prog W = .ok (.enter 12 args) W := run_enter Tryd.func12 (by kernel_rfl) (by kernel_rfl) args W
theorem enter13 (args : Array Value) (W : World) : (callFunc 13 args).run Tryd.prog W = .ok (.enter 13 args) W := run_enter Tryd.func13 (by kernel_rfl) (by kernel_rfl) args W
theorem enter14 (args : Array Value) (W : World) : (callFunc 14 args).run Tryd.prog W = .ok (.enter 14 args) W := run_enter Tryd.func14 (by kernel_rfl) (by kernel_rfl) args W
theorem enter15 (args : Array Value) (W : World) : (callFunc 15 args).run Tryd.prog W = .ok (.enter 15 args) W := run_enter Tryd.func15 (by kernel_rfl) (by kernel_rfl) args W
theorem enter16 (args : Array Value) (W : World) : (callFunc 16 args).run Tryd.prog W = .ok (.enter 16 args) W := run_enter Tryd.func16 (by kernel_rfl) (by kernel_rfl) args W
theorem enter17 (args : Array Value) (W : World) : (callFunc 17 args).run Tryd.prog W = .ok (.enter 17 args) W := run_enter Tryd.func17 (by kernel_rfl) (by kernel_rfl) args W
theorem enter18 (args : Array Value) (W : World) : (callFunc 18 args).run Tryd.prog W = .ok (.enter 18 args) W := run_enter Tryd.func18 (by kernel_rfl) (by kernel_rfl) args W
theorem enter19 (args : Array Value) (W : World) : (callFunc 19 args).run Tryd.prog W = .ok (.enter 19 args) W := run_enter Tryd.func19 (by kernel_rfl) (by kernel_rfl) args W
theorem enter20 (args : Array Value) (W : World) : (callFunc 20 args).run Tryd.prog W = .ok (.enter 20 args) W := run_enter Tryd.func20 (by kernel_rfl) (by kernel_rfl) args W
theorem enter21 (args : Array Value) (W : World) : (callFunc 21 args).run Tryd.prog W = .ok (.enter 21 args) W := run_enter Tryd.func21 (by kernel_rfl) (by kernel_rfl) args W
theorem enter22 (args : Array Value) (W : World) : (callFunc 22 args).run Tryd.prog W = .ok (.enter 22 args) W := run_enter Tryd.func22 (by kernel_rfl) (by kernel_rfl) args W
theorem enter23 (args : Array Value) (W : World) : (callFunc 23 args).run Tryd.prog W = .ok (.enter 23 args) W := run_enter Tryd.func23 (by kernel_rfl) (by kernel_rfl) args W
theorem enter24 (args : Array Value) (W : World) : (callFunc 24 args).run Tryd.prog W = .ok (.enter 24 args) W := run_enter Tryd.func24 (by kernel_rfl) (by kernel_rfl) args W
theorem enter25 (args : Array Value) (W : World) : (callFunc 25 args).run Tryd.prog W = .ok (.enter 25 args) W := run_enter Tryd.func25 (by kernel_rfl) (by kernel_rfl) args W
theorem enter26 (args : Array Value) (W : World) : (callFunc 26 args).run Tryd.prog W = .ok (.enter 26 args) W := run_enter Tryd.func26 (by kernel_rfl) (by kernel_rfl) args W
theorem enter27 (args : Array Value) (W : World) : (callFunc 27 args).run Tryd.prog W = .ok (.enter 27 args) W := run_enter Tryd.func27 (by kernel_rfl) (by kernel_rfl) args W
theorem enter28 (args : Array Value) (W : World) : (callFunc 28 args).run Tryd.prog W = .ok (.enter 28 args) W := run_enter Tryd.func28 (by kernel_rfl) (by kernel_rfl) args W
theorem enter29 (args : Array Value) (W : World) : (callFunc 29 args).run Tryd.prog W = .ok (.enter 29 args) W := run_enter Tryd.func29 (by kernel_rfl) (by kernel_rfl) args W
theorem enter30 (args : Array Value) (W : World) : (callFunc 30 args).run Tryd.prog W = .ok (.enter 30 args) W := run_enter Tryd.func30 (by kernel_rfl) (by kernel_rfl) args W
theorem enter31 (args : Array Value) (W : World) : (callFunc 31 args).run Tryd.prog W = .ok (.enter 31 args) W := run_enter Tryd.func31 (by kernel_rfl) (by kernel_rfl) args W
theorem enter32 (args : Array Value) (W : World) : (callFunc 32 args).run Tryd.prog W = .ok (.enter 32 args) W := run_enter Tryd.func32 (by kernel_rfl) (by kernel_rfl) args W
theorem enter33 (args : Array Value) (W : World) : (callFunc 33 args).run Tryd.prog W = .ok (.enter 33 args) W := run_enter Tryd.func33 (by kernel_rfl) (by kernel_rfl) args W
theorem enter34 (args : Array Value) (W : World) : (callFunc 34 args).run Tryd.prog W = .ok (.enter 34 args) W := run_enter Tryd.func34 (by kernel_rfl) (by kernel_rfl) args W
theorem enter35 (args : Array Value) (W : World) : (callFunc 35 args).run Tryd.prog W = .ok (.enter 35 args) W := run_enter Tryd.func35 (by kernel_rfl) (by kernel_rfl) args W
theorem enter36 (args : Array Value) (W : World) : (callFunc 36 args).run Tryd.prog W = .ok (.enter 36 args) W := run_enter Tryd.func36 (by kernel_rfl) (by kernel_rfl) args W
theorem enter37 (args : Array Value) (W : World) : (callFunc 37 args).run Tryd.prog W = .ok (.enter 37 args) W := run_enter Tryd.func37 (by kernel_rfl) (by kernel_rfl) args W
theorem enter38 (args : Array Value) (W : World) : (callFunc 38 args).run Tryd.prog W = .ok (.enter 38 args) W := run_enter Tryd.func38 (by kernel_rfl) (by kernel_rfl) args W
theorem enter39 (args : Array Value) (W : World) : (callFunc 39 args).run Tryd.prog W = .ok (.enter 39 args) W := run_enter Tryd.func39 (by kernel_rfl) (by kernel_rfl) args W
theorem enter40 (args : Array Value) (W : World) : (callFunc 40 args).run Tryd.prog W = .ok (.enter 40 args) W := run_enter Tryd.func40 (by kernel_rfl) (by kernel_rfl) args W
theorem enter41 (args : Array Value) (W : World) : (callFunc 41 args).run Tryd.prog W = .ok (.enter 41 args) W := run_enter Tryd.func41 (by kernel_rfl) (by kernel_rfl) args W
theorem enter42 (args : Array Value) (W : World) : (callFunc 42 args).run Tryd.prog W = .ok (.enter 42 args) W := run_enter Tryd.func42 (by kernel_rfl) (by kernel_rfl) args W
theorem enter43 (args : Array Value) (W : World) : (callFunc 43 args).run Tryd.prog W = .ok (.enter 43 args) W := run_enter Tryd.func43 (by kernel_rfl) (by kernel_rfl) args W
theorem enter44 (args : Array Value) (W : World) : (callFunc 44 args).run Tryd.prog W = .ok (.enter 44 args) W := run_enter Tryd.func44 (by kernel_rfl) (by kernel_rfl) args W
theorem enter45 (args : Array Value) (W : World) : (callFunc 45 args).run Tryd.prog W = .ok (.enter 45 args) W := run_enter Tryd.func45 (by kernel_rfl) (by kernel_rfl) args W
theorem enter46 (args : Array Value) (W : World) : (callFunc 46 args).run Tryd.prog W = .ok (.enter 46 args) W := run_enter Tryd.func46 (by kernel_rfl) (by kernel_rfl) args W
theorem enter47 (args : Array Value) (W : World) : (callFunc 47 args).run Tryd.prog W = .ok (.enter 47 args) W := run_enter Tryd.func47 (by kernel_rfl) (by kernel_rfl) args W
theorem enter48 (args : Array Value) (W : World) : (callFunc 48 args).run Tryd.prog W = .ok (.enter 48 args) W := run_enter Tryd.func48 (by kernel_rfl) (by kernel_rfl) args W
theorem enter49 (args : Array Value) (W : World) : (callFunc 49 args).run Tryd.prog W = .ok (.enter 49 args) W := run_enter Tryd.func49 (by kernel_rfl) (by kernel_rfl) args W
theorem enter50 (args : Array Value) (W : World) : (callFunc 50 args).run Tryd.prog W = .ok (.enter 50 args) W := run_enter Tryd.func50 (by kernel_rfl) (by kernel_rfl) args W
theorem enter51 (args : Array Value) (W : World) : (callFunc 51 args).run Tryd.prog W = .ok (.enter 51 args) W := run_enter Tryd.func51 (by kernel_rfl) (by kernel_rfl) args W
theorem enter52 (args : Array Value) (W : World) : (callFunc 52 args).run Tryd.prog W = .ok (.enter 52 args) W := run_enter Tryd.func52 (by kernel_rfl) (by kernel_rfl) args W
theorem enter53 (args : Array Value) (W : World) : (callFunc 53 args).run Tryd.prog W = .ok (.enter 53 args) W := run_enter Tryd.func53 (by kernel_rfl) (by kernel_rfl) args W
theorem enter54 (args : Array Value) (W : World) : (callFunc 54 args).run Tryd.prog W = .ok (.enter 54 args) W := run_enter Tryd.func54 (by kernel_rfl) (by kernel_rfl) args W
theorem enter55 (args : Array Value) (W : World) : (callFunc 55 args).run Tryd.prog W = .ok (.enter 55 args) W := run_enter Tryd.func55 (by kernel_rfl) (by kernel_rfl) args W
theorem enter56 (args : Array Value) (W : World) : (callFunc 56 args).run Tryd.prog W = .ok (.enter 56 args) W := run_enter Tryd.func56 (by kernel_rfl) (by kernel_rfl) args W
theorem enter61 (args : Array Value) (W : World) : (callFunc 61 args).run Tryd.prog W = .ok (.enter 61 args) W := run_enter Tryd.func61 (by kernel_rfl) (by kernel_rfl) args W
theorem enter62 (args : Array Value) (W : World) : (callFunc 62 args).run Tryd.prog W = .ok (.enter 62 args) W := run_enter Tryd.func62 (by kernel_rfl) (by kernel_rfl) args W
theorem enter63 (args : Array Value) (W : World) : (callFunc 63 args).run Tryd.prog W = .ok (.enter 63 args) W := run_enter Tryd.func63 (by kernel_rfl) (by kernel_rfl) args W
section
variable {P : Program} {ops : Array Oper} {Q : Exit → Act → World → Prop} {md : Region.Mode} {S : World → Prop} {T : Nat}

/-- In state a the operation o yields v in every world of S, which stays. -/
def UniV (P : Program) (ops : Array Oper) (S : World → Prop) (o : Oper) (v : Value) (a : Act) : Prop :=
  (Region.wanted o (yielded ops a.tmps) = true ∧ ∀ w, S w → (execOp a.eval o).run P w = .ok (.value v) w) ∨
  (Region.wanted o (yielded ops a.tmps) = false ∧ v = undef)
theorem UniV.of_same {o : Oper} {v : Value} {a a' : Act} (hy : UniV P ops S o v a) (he : execOp a'.eval o = execOp a.eval o)
    (hw : Region.wanted o (yielded ops a'.tmps) = Region.wanted o (yielded ops a.tmps)) : UniV P ops S o v a' := by
  unfold UniV at *
  rw [he, hw]
  exact hy
end
section
variable {P : Program} {ops : Array Oper} {Q : Exit → Act → World → Prop} {S : World → Prop}
end
/-- A row's new place: its old one, or a new block. -/
def Nw (w : World) (v v' : Value) : Prop := ∀ k, v'.ownBlock = some k → v.ownBlock = some k ∨ w.heap.size ≤ k
/-- 'append' to an owned row: what becomes of the row. -/
theorem run_appx (w : World) (t ty e : TypeId) (i : TypeInfo) (z : Value) (size bytes : Nat) (ht : Tryd.prog.underlying t = some (.slice e)) (hi : Tryd.prog.info? e = some i) (hz : i.zero = some z)
    (hsize : i.size = size) (hby : i.bytes = bytes) (hzs : z.cells.size = size) (hs0 : 0 < size) (v : Value) (n : Nat) (xs : List Value) (hown : w.ownsRow 0 e size v n xs)
    (a : Addr) (m c : Nat) (news : List Value) (hl : news.length = m * size) (hnews : ∀ j u, news[j]? = some u → w.cell? (a.add j) = some u) (h1 : ∀ u ∈ news, u.oneCell' = true)
    (hn : n + m ≤ 1000000000) (hby0 : bytes ≤ 64) :
    ∃ v' w', (Builtin.append_ #[t, t] ty #[v, .slice (some a) m c]).run Tryd.prog w = .ok v' w' ∧ w'.ownsRow 0 e size v' (n + m) (xs ++ news) ∧ w.grownBy w' v.ownBlock ∧ Nw w v v' := by
  have h63 : n + m ≤ maxLen := by unfold maxLen; omega
  have hb : (n + m) * bytes ≤ 140737488355328 := Nat.le_trans (Nat.mul_le_mul hn hby0) (by decide)
  obtain ⟨v', w', r1, r2, r3, r4⟩ := run_append_own (P := Tryd.prog) w 0 t ty e i z size bytes ht hi hz hsize hby hzs hs0 v n xs hown a m c news hl hnews h1 h63 hb (Nat.zero_le _)
  refine ⟨v', w', r1, r2, r3, ?_⟩
  have hown' := hown
  obtain ⟨hx, ⟨rfl, hz0⟩ | ⟨g, cp, cur, rfl, hg, hh2, hnc, hc, hs, htk⟩⟩ := hown'
  · have hnil : w.ownsRow w.heap.size e size (.slice none 0 0) n xs := ⟨hx, .inl ⟨rfl, hz0⟩⟩
    obtain ⟨v2, w2, q1, q2, q3, q4⟩ := run_append_own (P := Tryd.prog) w w.heap.size t ty e i z size bytes ht hi hz hsize hby hzs hs0 _ n xs hnil a m c news hl hnews h1 h63 hb (Nat.le_refl _)
    rw [r1] at q1
    simp only [Result.ok.injEq] at q1
    obtain ⟨rfl, rfl⟩ := q1
    intro k hk
    right
    obtain ⟨_, ⟨rfl, _⟩ | ⟨g, cap, cur, rfl, hg, _⟩⟩ := q2
    · cases hk
    · simp [Value.ownBlock] at hk; omega
  · by_cases hroom : n + m ≤ cp
    · obtain ⟨w2, q1, _⟩ := run_append_fits (P := Tryd.prog) w 0 t ty e i size ht hi hsize g n cp xs hown a m c news hl hnews h1 hroom
      rw [r1] at q1
      simp only [Result.ok.injEq] at q1
      obtain ⟨rfl, rfl⟩ := q1
      exact fun k hk => .inl hk
    · have hcap := nextcap_le (n + m) cp (by omega)
      have hfit : Builtin.nextslicecap (n + m) cp * i.bytes ≤ 281474976710656 := by
        rw [hby]
        refine Nat.le_trans (Nat.mul_le_mul (Nat.le_trans hcap (show (n + m) + ((n + m) + 768) / 4 ≤ 2000000000 by omega)) hby0) (by decide)
      have q1 := run_append_grow (P := Tryd.prog) w t ty e i z ht hi hz ⟨g, 0, none⟩ n cp xs (by rw [hsize]; exact hx) (World.ownsRow.cells hown (g := g) rfl) a m c news (by rw [hsize]; exact hl) hnews (by omega) (by omega) hfit
      rw [r1] at q1
      simp only [Result.ok.injEq] at q1
      obtain ⟨rfl, rfl⟩ := q1
      intro k hk
      simp [Value.ownBlock] at hk
      exact .inr (by omega)
theorem grown_fx {w w' : World} {v : Value} (h : w.grownBy w' v.ownBlock) : Fx (fun k => v.ownBlock = some k) w w' := by
  obtain ⟨h1, h2, h3, h4, h5⟩ := h
  exact ⟨h1, h2, h3, h4, fun k hk hn => h5 k hk (fun e => hn e.symm)⟩
section
variable {P : Program} {ops : Array Oper} {Q : Exit → Act → World → Prop} {md : Region.Mode}

theorem UniV.sub {S C : World → Prop} {o : Oper} {v : Value} {a : Act} (h : UniV P ops S o v a) (hC : ∀ w, C w → S w) : UniV P ops C o v a := by
  rcases h with ⟨h1, h2⟩ | h
  · exact .inl ⟨h1, fun w hw => h2 w (hC w hw)⟩
  · exact .inr h
end
end Go.Proofs.YtiefgmgjlhjjhaaDoor
