import Derived.Test.YthfcabhelldokaaAv
import Derived.Test.YthfcabhelldokaaEo
import Derived.Test.YthfcabhelldokaaLd
set_option linter.unusedVariables false
set_option linter.unusedSimpArgs false
namespace Go.Proofs.Ythfcabhelldokaa
open Go.RowKit

theorem bool_ne_f (b : Bool) (W : World) (x y : Operand) : (do eqGuard .neq 4 x y (.bool b) (.bool b); binOp .neq 4 (.bool b) (.bool b) : Sem Value).run Try.prog W = .ok (.bool false) W := by go_simp
/-- The same but for the count of calls. -/
def calD (D : Dv) (c : Nat) : Dv := ⟨D.n, D.img, D.pen, D.left, D.keep, D.torn, D.off, D.down, c⟩
theorem cal_changed (C : Dv) (c : Nat) : ∃ c', changedD (calD C c) = calD (changedD C) c' := by
  unfold changedD
  by_cases h : C.left = 1
  · rw [if_pos (show (calD C c).left = 1 from h), if_pos h]
    exact ⟨c + 1, rfl⟩
  · rw [if_neg (show ¬ (calD C c).left = 1 from h), if_neg h]
    exact ⟨c + 1, rfl⟩
theorem cal_call (C : Dv) (c : Nat) (s : Stp) : callE (calD C c) s = callE C s ∧ callS (calD C c) s = callS C s ∧ ∃ c', callD (calD C c) s = calD (callD C s) c' := by
  refine ⟨rfl, rfl, ?_⟩
  have hr : refE (calD C c) (pickN s.i 5 : Nat) = refE C (pickN s.i 5 : Nat) := rfl
  have hdn : (calD C c).down = C.down := rfl
  have hl : (calD C c).left = C.left := rfl
  unfold callD
  rw [hr, hdn, hl]
  by_cases n1 : s.kind = 1
  · simp only [if_pos n1]; exact ⟨c, rfl⟩
  by_cases n4 : s.kind = 4
  · simp only [if_neg n1, if_pos n4]
    by_cases hd : C.down = true
    · simp only [if_pos hd]; exact ⟨c, rfl⟩
    · simp only [if_neg hd]
      by_cases h1 : C.left = 1
      · simp only [if_pos h1]; exact cal_changed C c
      · simp only [if_neg h1]; exact ⟨c + 1, rfl⟩
  by_cases n7 : s.kind = 7
  · simp only [if_neg n1, if_neg n4, if_pos n7]
    by_cases hd : C.down = true
    · simp only [if_pos hd]; exact ⟨c, rfl⟩
    · simp only [if_neg hd]; exact ⟨c, rfl⟩
  by_cases n8 : s.kind = 8
  · simp only [if_neg n1, if_neg n4, if_neg n7, if_pos n8]; exact ⟨c, rfl⟩
  by_cases n9 : s.kind = 9
  · simp only [if_neg n1, if_neg n4, if_neg n7, if_neg n8, if_pos n9]; exact ⟨c, rfl⟩
  by_cases n56 : s.kind = 5 ∨ s.kind = 6
  · simp only [if_neg n1, if_neg n4, if_neg n7, if_neg n8, if_neg n9, if_pos n56]
    by_cases hd : C.down = true
    · simp only [if_pos hd]; exact ⟨c, rfl⟩
    · simp only [if_neg hd]
      by_cases hz : s.fill.toNat % 8 = 0
      · simp only [if_pos hz]; exact ⟨c, rfl⟩
      · simp only [if_neg hz]; exact ⟨c, rfl⟩
  simp only [if_neg n1, if_neg n4, if_neg n7, if_neg n8, if_neg n9, if_neg n56]
  by_cases hrr : refE C (pickN s.i 5 : Nat) ≠ 0
  · simp only [if_pos hrr]; exact ⟨c, rfl⟩
  · simp only [if_neg hrr]
    exact cal_changed (pushD C (pickN s.i 5) (secL s.fill s.b)) c
theorem call_grow (D : Dv) (s : Stp) : (callD D s).calls ≤ D.calls + 1 ∧ (callD D s).pen.length ≤ D.pen.length + 1 ∧ (callD D s).left ≤ D.left + 8 ∧ (callD D s).n = D.n := by
  have hch : ∀ D : Dv, (changedD D).calls ≤ D.calls + 1 ∧ (changedD D).pen.length ≤ D.pen.length ∧ (changedD D).left ≤ D.left ∧ (changedD D).n = D.n := fun D => by
    unfold changedD
    split
    · exact ⟨Nat.le_refl _, Nat.zero_le _, Nat.zero_le _, rfl⟩
    · exact ⟨Nat.le_refl _, Nat.le_refl _, Nat.sub_le _ _, rfl⟩
  have hm : s.fill.toNat % 8 < 8 := Nat.mod_lt _ (by decide)
  unfold callD
  split
  · exact ⟨by omega, by omega, by omega, rfl⟩
  split
  · split
    · exact ⟨by omega, by omega, by omega, rfl⟩
    split
    · obtain ⟨a, b, c, d⟩ := hch D; exact ⟨a, by omega, by omega, d⟩
    · exact ⟨Nat.le_refl _, Nat.zero_le _, by show D.left - 1 ≤ _; omega, rfl⟩
  split
  · split
    · exact ⟨by omega, by omega, by omega, rfl⟩
    · exact ⟨by show D.calls ≤ _; omega, Nat.zero_le _, Nat.zero_le _, rfl⟩
  split
  · exact ⟨by show D.calls ≤ _; omega, by show D.pen.length ≤ _; omega, Nat.zero_le _, rfl⟩
  split
  · exact ⟨by omega, by omega, by omega, rfl⟩
  split
  · split
    · exact ⟨by omega, by omega, by omega, rfl⟩
    split
    · exact ⟨by show D.calls ≤ _; omega, by show D.pen.length ≤ _; omega, Nat.zero_le _, rfl⟩
    · exact ⟨by show D.calls ≤ _; omega, by show D.pen.length ≤ _; omega, by show s.fill.toNat % 8 ≤ _; omega, rfl⟩
  split
  · exact ⟨by omega, by omega, by omega, rfl⟩
  · obtain ⟨a, b, c, d⟩ := hch (pushD D (pickN s.i 5) (secL s.fill s.b))
    have e : (pushD D (pickN s.i 5) (secL s.fill s.b)).pen.length = D.pen.length + 1 := by simp [pushD]
    rw [e] at b
    exact ⟨a, b, by have : (pushD D (pickN s.i 5) (secL s.fill s.b)).left = D.left := rfl; omega, d⟩
/-- A device of the call's own behind t steps. -/
def One1 (w W : World) (p t : Nat) : Prop := ∃ L D, L.p = p ∧ Mine w W L D ∧ D.n = 4 ∧ D.calls ≤ t ∧ D.pen.length ≤ t ∧ D.left ≤ 8 * t
def Img2 (w W : World) (p q t : Nat) : Prop := ∃ L M C c, L.p = p ∧ M.p = q ∧ Duo w W L M (calD C c) C ∧ C.calls ≤ t ∧ c ≤ 500 + t ∧ C.pen.length ≤ t ∧ C.left ≤ 8 * t
theorem img_one {w W : World} {p t : Nat} (h : One1 w W p t) (ht : t ≤ 200) (s : Stp) (hs : s.ok w) : Calls Try.prog 21 #[.pointer (some ⟨p, 0, none⟩), .agg (stC s).toArray] W fun e w' => (∃ v, e = .returned v) ∧ One1 w w' p (t + 1) := by
  obtain ⟨L, D, hp, hm, h1, h2, h3, h4⟩ := h
  have := call_any hm s hs (by omega) (by omega) (by omega)
  rw [hp] at this
  have g := call_grow D s
  exact this.mono fun e w' ⟨he, L', ht', hd'⟩ => ⟨⟨_, he⟩, L', _, ht'.p.trans hp, hm.turn ht' hd', by omega, by omega, by omega, by omega⟩
/-- Both, one behind the other. -/
theorem img_two {w W : World} {p q t : Nat} (h : Img2 w W p q t) (ht : t ≤ 200) (s : Stp) (hs : s.ok w) : ∃ (x : Int) (y : ByteArray), Calls Try.prog 21 #[.pointer (some ⟨p, 0, none⟩), .agg (stC s).toArray] W fun e w' => e = .returned (.tuple #[.int .i64 x, .string y]) ∧
    Below w.heap.size w w' ∧ Calls Try.prog 21 #[.pointer (some ⟨q, 0, none⟩), .agg (stC s).toArray] w' fun e' w'' => e' = .returned (.tuple #[.int .i64 x, .string y]) ∧ Img2 w w'' p q (t + 1) := by
  obtain ⟨L, M, C, c, hp, hq, hm, h2, h3, h4, h5⟩ := h
  obtain ⟨e1, e2, c', e3⟩ := cal_call C c s
  have a := call_any hm.d s hs (by show C.pen.length < _; omega) (by show c < _; omega) (by show C.left < _; omega)
  have gD := call_grow (calD C c) s
  rw [e3] at gD
  have gc : c' ≤ c + 1 := gD.1
  have g := call_grow C s
  rw [e1, e2, e3, hp] at a
  refine ⟨callE C s, ⟨(callS C s).toArray⟩, a.mono fun e w' ⟨he, L', ht', hd'⟩ => ⟨he, (hm.left ht' hd').d.be, ?_⟩⟩
  have hm' := hm.left ht' hd'
  have b := call_any hm'.c s hs (by omega) (by omega) (by omega)
  rw [hq] at b
  exact b.mono fun e w'' ⟨he, M', ht2, hd2⟩ => ⟨he, L', M', _, c', ht'.p.trans hp, ht2.p.trans hq, hm'.right ht2 hd2, by omega, by omega, by omega, by omega⟩
theorem imgT_len {w W : World} {L : Lay} {D : Dv} (h : Mine w W L D) : D.img.length = D.n * 512 := h.dev.ok.len
end Go.Proofs.Ythfcabhelldokaa
