import Derived.Test.YthfcabhelldokaaCp
import Derived.Test.YthfcabhelldokaaSc
set_option linter.unusedVariables false
set_option linter.unusedSimpArgs false
namespace Go.Proofs.Ythfcabhelldokaa
open Go.RowKit

/-- Two devices of the call's own, apart from each other. -/
structure Duo (w W : World) (L M : Lay) (D C : Dv) : Prop where
  d : Mine w W L D
  c : Mine w W M C
  ap : ∀ k, L.F k → ¬ M.F k
theorem Duo.below {w W W' : World} {L M : Lay} {D C : Dv} (h : Duo w W L M D C) (hb : Below W.heap.size W W') : Duo w W' L M D C := ⟨h.d.below hb, h.c.below hb, h.ap⟩
theorem Duo.left {w W W' : World} {L L' M : Lay} {D D' C : Dv} (h : Duo w W L M D C) (ht : Turn W W' L L') (hd : Dev W' L' D') : Duo w W' L' M D' C :=
  ⟨h.d.turn ht hd, ⟨h.c.dev.fx ht.fx (fun k hk hF => h.ap k hF hk), (h.d.turn ht hd).be, h.c.own⟩, fun k h1 h2 => by
    rcases ht.own k h1 with h3 | h3
    · exact h.ap k h3 h2
    · have := h.c.dev.lt k h2; omega⟩
theorem Duo.right {w W W' : World} {L M M' : Lay} {D C C' : Dv} (h : Duo w W L M D C) (ht : Turn W W' M M') (hd : Dev W' M' C') : Duo w W' L M' D C' :=
  ⟨⟨h.d.dev.fx ht.fx (fun k hk hF => h.ap k hk hF), (h.c.turn ht hd).be, h.d.own⟩, h.c.turn ht hd, fun k h1 h2 => by
    rcases ht.own k h2 with h3 | h3
    · exact h.ap k h1 h3
    · have := h.d.dev.lt k h1; omega⟩
/-- Behind a step of the armed device and the other one. -/
def Arm2 (w W : World) (p q : Nat) (ks : List (BitVec 64)) (torn off : Int) (t k : Nat) : Prop :=
  ∃ L M D C, L.p = p ∧ M.p = q ∧ Duo w W L M D C ∧
    ((1 ≤ k ∧ D = armD C k ks torn off ∧ C.left = 0 ∧ C.n = 4 ∧ C.down = false ∧ C.calls ≤ t ∧ C.pen.length ≤ t) ∨ (k = 0 ∧ D.img = C.img ∧ D.pen = [] ∧ C.pen = [] ∧ D.down = true ∧ C.down = true))
theorem Arm2.below {w W W' : World} {p q : Nat} {ks : List (BitVec 64)} {torn off : Int} {t k : Nat} (h : Arm2 w W p q ks torn off t k) (hb : Below W.heap.size W W') : Arm2 w W' p q ks torn off t k := by
  obtain ⟨L, M, D, C, h1, h2, h3, h4⟩ := h
  exact ⟨L, M, D, C, h1, h2, h3.below hb, h4⟩
/-- In the rounds that are skipped nothing is done. -/
theorem Arm2.skip {w W : World} {p q : Nat} {ks : List (BitVec 64)} {torn off : Int} {t k : Nat} (h : Arm2 w W p q ks torn off t k) : Arm2 w W p q ks torn off (t + 1) k := by
  obtain ⟨L, M, D, C, h1, h2, h3, h4⟩ := h
  refine ⟨L, M, D, C, h1, h2, h3, ?_⟩
  rcases h4 with ⟨a1, a2, a3, a4, a5, a6, a7⟩ | h4
  · exact .inl ⟨a1, a2, a3, a4, a5, by omega, by omega⟩
  · exact .inr h4
theorem stC_one (s : Stp) {w : World} (h : s.ok w) : (stC s).toArray.all (·.oneCell') = true := all_oneCell_toArray fun v hv => by
  have hb : s.vb.oneCell' = true := by
    rcases h.hb with ⟨e, _⟩ | ⟨ad, cap, e, _⟩ <;> rw [e] <;> rfl
  have hk : s.vk.oneCell' = true := by
    rcases h.hk with ⟨e, _⟩ | ⟨ad, cap, e, _⟩ <;> rw [e] <;> rfl
  simp only [stC, List.mem_cons, List.not_mem_nil, or_false] at hv
  rcases hv with rfl | rfl | rfl | rfl | rfl | rfl | rfl | rfl
  · rfl
  · rfl
  · rfl
  · rfl
  · exact hb
  · exact hk
  · rfl
  · rfl
def stZ : List Value := [.int .i64 0, .int .i64 0, .int .i64 0, .int .u8 0, .slice none 0 0, .slice none 0 0, .int .i64 0, .int .i64 0]
theorem zero53 (w : World) : (zeroValue 53).run Try.prog w = .ok (.agg stZ.toArray) w := by kernel_rfl
/-- One step of both, the other one's answer told for the first one. -/
theorem arm_first {w W : World} {L M : Lay} {C : Dv} {k : Nat} {ks : List (BitVec 64)} {torn off : Int} {t : Nat} (h : Duo w W L M (armD C k ks torn off) C) (hk : 1 ≤ k) (hk2 : k ≤ 12) (hz : C.left = 0) (hn : C.n = 4) (hd : C.down = false) (hcal : C.calls ≤ t) (hpen : C.pen.length ≤ t) (ht : t ≤ 200)
    (s : Stp) (hs : s.ok w) (n5 : ¬ s.kind = 5) (n6 : ¬ s.kind = 6) (n7 : ¬ s.kind = 7) (n8 : ¬ s.kind = 8) (hc : chg s = true → k ≠ 1) :
    Calls Try.prog 21 #[.pointer (some ⟨L.p, 0, none⟩), .agg (stC s).toArray] W fun e w' => e = .returned (.tuple #[.int .i64 (callE C s), .string ⟨(callS C s).toArray⟩]) ∧ (∃ L', L'.p = L.p ∧ Duo w w' L' M (armD (callD C s) (if chg s = true then k - 1 else k) ks torn off) C) ∧ ∀ g cs t, Blk W g cs t → ¬ L.F g → Blk w' g cs t := by
  obtain ⟨e1, e2, e3, _, _, _⟩ := armed_same C hn hz k hk ks torn off s n5 n6 n7 n8 hd hc
  have := call_any h.d s hs (by show C.pen.length < _; omega) (by show C.calls < _; omega) (by show k < _; omega)
  rw [e1, e2, e3] at this
  exact this.mono fun e w' ⟨he, L', ht', hd'⟩ => ⟨he, ⟨L', ht'.p, h.left ht' hd'⟩, fun g cs t hb hg => hb.fx ht'.fx hg⟩
theorem arm_second {w W : World} {L M : Lay} {C : Dv} {k j : Nat} {ks : List (BitVec 64)} {torn off : Int} {t : Nat} (s : Stp) (h : Duo w W L M (armD (callD C s) j ks torn off) C) (hj : 1 ≤ j) (hz : C.left = 0) (hn : C.n = 4) (hd : C.down = false) (hcal : C.calls ≤ t) (hpen : C.pen.length ≤ t) (ht : t ≤ 200)
    (hs : s.ok w) (n5 : ¬ s.kind = 5) (n6 : ¬ s.kind = 6) (n7 : ¬ s.kind = 7) (n8 : ¬ s.kind = 8) :
    Calls Try.prog 21 #[.pointer (some ⟨M.p, 0, none⟩), .agg (stC s).toArray] W fun e w' => e = .returned (.tuple #[.int .i64 (callE C s), .string ⟨(callS C s).toArray⟩]) ∧ Arm2 w w' L.p M.p ks torn off (t + 1) j := by
  have hcall := call_any h.c s hs (by omega) (by omega) (by omega)
  obtain ⟨_, _, _, a1, a2, a3⟩ := armed_same C hn hz 2 (by decide) ks torn off s n5 n6 n7 n8 hd (fun _ => by decide)
  have a4 := call_calls C s n7 n8 n5 n6
  exact hcall.mono fun e w' ⟨he, M', ht', hd'⟩ => ⟨he, L, M', _, _, rfl, ht'.p, h.right ht' hd', .inl ⟨hj, rfl, a1, a2, a3, by omega, by omega⟩⟩
/-- The call at which the armed one gives up. -/
theorem arm_falls {w W : World} {L M : Lay} {C : Dv} {ks : List (BitVec 64)} {torn off : Int} {t : Nat} (h : Duo w W L M (armD C 1 ks torn off) C) (hz : C.left = 0) (hn : C.n = 4) (hd : C.down = false) (hcal : C.calls ≤ t) (hpen : C.pen.length ≤ t) (ht : t ≤ 200)
    (s : Stp) (hs : s.ok w) (n5 : ¬ s.kind = 5) (n6 : ¬ s.kind = 6) (n7 : ¬ s.kind = 7) (n8 : ¬ s.kind = 8) (hc : chg s = true) :
    Calls Try.prog 21 #[.pointer (some ⟨L.p, 0, none⟩), .agg (stC s).toArray] W fun e w' => e = .returned (.tuple #[.int .i64 80, .string ⟨(callS (armD C 1 ks torn off) s).toArray⟩]) ∧ (∃ L' n c, L'.p = L.p ∧ Duo w w' L' M ⟨n, (crashD (if s.kind = 4 then C else callD C s) ks torn off).img, [], 0, [], 0, 0, true, c⟩ C) ∧ ∀ g cs t, Blk W g cs t → ¬ L.F g → Blk w' g cs t := by
  obtain ⟨e1, e2, n, c, e3⟩ := armed_last C hn hz ks torn off s n5 n6 n7 n8 hd hc
  have := call_any h.d s hs (by show C.pen.length < _; omega) (by show C.calls < _; omega) (by show 1 < _; omega)
  rw [e1, e3] at this
  exact this.mono fun e w' ⟨he, L', ht', hd'⟩ => ⟨he, ⟨L', n, c, ht'.p, h.left ht' hd'⟩, fun g cs t hb hg => hb.fx ht'.fx hg⟩
/-- The other one does it too, and is told to crash. -/
theorem arm_other {w W : World} {L M : Lay} {D C : Dv} {t : Nat} (h : Duo w W L M D C) (hz : C.left = 0) (hcal : C.calls ≤ t) (hpen : C.pen.length ≤ t) (ht : t ≤ 200) (s : Stp) (hs : s.ok w) :
    Calls Try.prog 21 #[.pointer (some ⟨M.p, 0, none⟩), .agg (stC s).toArray] W fun e w' => e = .returned (.tuple #[.int .i64 (callE C s), .string ⟨(callS C s).toArray⟩]) ∧ ∃ M', M'.p = M.p ∧ Duo w w' L M' D (callD C s) := by
  have hcall := call_any h.c s hs (by omega) (by omega) (by omega)
  exact hcall.mono fun e w' ⟨he, M', ht', hd'⟩ => ⟨he, M', ht'.p, h.right ht' hd'⟩
theorem arm_crash {w W : World} {L M : Lay} {D C : Dv} (h : Duo w W L M D C) (hd : C.down = false) (v : Value) (ks : List (BitVec 64)) (torn off : Int) (hv : Has64 W v ks) (hvn : ∀ k, v.ownBlock = some k → k ≠ M.gi)
    (h1 : D.img = (crashD C ks torn off).img) (h2 : D.pen = []) (h3 : D.down = true) (t : Nat) :
    Calls Try.prog 15 #[.pointer (some ⟨M.p, 0, none⟩), .agg (lossC v torn off).toArray] W fun e w' => e = .returned (.int .i64 0) ∧ Arm2 w w' L.p M.p ks torn off t 0 :=
  (crash_any h.c.dev hd v ks torn off hv hvn).mono fun e w' ⟨he, ht', hd'⟩ => ⟨he, L, bareL M, _, _, rfl, rfl, h.right ht' hd', .inr ⟨rfl, h1, h2, rfl, h3, rfl⟩⟩
end Go.Proofs.Ythfcabhelldokaa
