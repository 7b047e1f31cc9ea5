import Derived.Test.YtiefgmgjlhjjhaaDoorPn
import Derived.Test.YtiefgmgjlhjjhaaDoorFxG
import Derived.Stop.LaidErr
import Derived.ChangeMaps5
set_option linter.unusedVariables false
set_option linter.unusedSimpArgs false
namespace Go.Proofs.YtiefgmgjlhjjhaaDoor
open Go.RowKit

attribute [local irreducible] sm sumOf cnt chk partB pM pI pN pA pS pC
/-- A parcel of a text, of which the parts f have come. -/
structure Gt (T : List UInt8) (q : Pc) (f : Nat → Bool) : Prop where
  n : q.n = cnt T
  s : q.s = sm T
  h : ∀ i, i < 64 → q.h[i]? = some (f i)
  t : ∀ i, i < 64 → f i = true → q.t[i]? = some (chk T i)
  lt : q.t.length = 64
def upd (f : Nat → Bool) (x : Nat) (i : Nat) : Bool := if i = x then true else f i
theorem up_len (E : List Me) (a : List UInt8) (n : Nat) (K : Pc) (c : Nat) : (upE E a n K c).length = if (lkE E a n).isSome then E.length else E.length + 1 := by
  unfold upE
  split <;> simp [setE, *]
theorem ah_none {E : List Me} {most : Nat} {a : List UInt8} {x : Pi} (hk : lkE E a x.id = none) : ahR E most a x = if most ≤ E.length then (Pc.z, 120) else (Pc.mk0 x.n x.s, 0) := by unfold ahR; rw [hk]
theorem ah_some {E : List Me} {most : Nat} {a : List UInt8} {x : Pi} {c : Pc} (hk : lkE E a x.id = some c) : ahR E most a x = if ¬ (c.n = x.n ∧ c.s = x.s) then (Pc.z, 260) else if c.h.getD x.i false then (Pc.z, 151) else (c, 0) := by unfold ahR; rw [hk]
/-- How far a parcel of a text has come in a tray. -/
def Lc (E : List Me) (most : Nat) (a : List UInt8) (id : Nat) (T : List UInt8) (f : Nat → Bool) : Prop := (lkE E a id = none ∧ E.length < most ∧ ∀ i, f i = false) ∨ ∃ q, lkE E a id = some q ∧ Gt T q f ∧ q.h.length = 64
def ptB (id : Nat) (T : List UInt8) (x : Nat) : List UInt8 := partB id (cnt T) x (sm T) (chk T x)
section
variable {E : List Me} {most : Nat} {a : List UInt8} {id : Nat} {T : List UInt8} {f : Nat → Bool}
end
/-- Numbers in a slice. -/
def Hi (w : World) (v : Value) (zs : List Int) : Prop := Li 1 w v (ir zs)
theorem Oi.hi {w : World} {b : Nat} {v : Value} {l : List Int} (h : Oi w b v l) : Hi w v l := h.ow.li
theorem Hi.on {w w' : World} {v : Value} {zs : List Int} (h : Hi w v zs) (hb : Below w.heap.size w w') : Hi w' v zs := Li.on h hb
theorem Hi.slice {w : World} {v : Value} {zs : List Int} (h : Hi w v zs) : ∃ ao c, v = .slice ao zs.length c := by
  rcases h.sl with ⟨h1, h2⟩ | ⟨ad, cap, h1, _⟩
  · have : zs = [] := by cases zs with | nil => rfl | cons a r => simp [ir] at h2
    subst this; exact ⟨_, _, h1⟩
  · rw [ir_len] at h1; exact ⟨_, _, h1⟩
theorem Hi.len {w : World} {v : Value} {zs : List Int} (h : Hi w v zs) (ty : TypeId) (W : World) : (Builtin.len_ #[23] ty #[v]).run Tryd.prog W = .ok (.int .i64 (zs.length : Int)) W := by
  obtain ⟨ao, c, rfl⟩ := h.slice
  exact len23 _ _ _ _ _
theorem x23 (ad : Addr) (n cap m : Nat) (h : m < n) (W : World) : (Instr.indexAt 23 (.slice (some ad) n cap) (.int .i64 (m : Int))).run Tryd.prog W = .ok (.pointer (some (ad.add m))) W := by
  have hm : (m : Int) < (n : Int) := by omega
  go_simp
theorem ldZ {W : World} {ad : Addr} {v : Int} (hc : W.cell? ad = some (.int .i64 v)) : (Instr.loadAt 3 (.pointer (some ad))).run Tryd.prog W = .ok (.int .i64 v) W := by go_simp
theorem c23L (ad : Addr) (n cap k : Nat) (hk : k ≤ n) (hc : n ≤ cap) (W : World) : (Instr.sliceAt 23 (.slice (some ad) n cap) (some (.int .i64 (k : Int))) none none).run Tryd.prog W = .ok (.slice (some (if cap = k then ad else ad.add (k * 1))) (n - k) (cap - k)) W := by
  have h2 : (k : Int) ≤ (n : Int) := by omega
  go_simp
  split <;> rfl
/-- What lies beside a map stays when the map turns. -/
theorem Has.fxM {w w' : World} {v : Value} {bs : List UInt8} (h : Has w v bs) {r : Nat} {es : Array MapEntry} {c : Nat} (hr : w.heap[r]? = some (.map es c)) (hf : Fx (fun k => k = r) w w') : Has w' v bs := h.fxo hf (fun k hk => by have e : k = r := hk; rw [e]; exact h.offM hr)
theorem Blk.neM {w : World} {q : Nat} {cs : List Value} {t : TypeId} (h : Blk w q cs t) {r : Nat} {es : Array MapEntry} {c : Nat} (hr : w.heap[r]? = some (.map es c)) : ¬ q = r := fun e => by
  unfold Blk at h
  rw [e, hr] at h; cases h
theorem Ob.neM {w : World} {b : Nat} {v : Value} {bs : List UInt8} (h : Ob w b v bs) {r : Nat} {es : Array MapEntry} {c : Nat} (hr : w.heap[r]? = some (.map es c)) : v.ownBlock ≠ some r := fun e => by
  obtain ⟨_, cur, hc⟩ := h.lt e
  rw [hr] at hc; cases hc
theorem Ow.neM {e : TypeId} {k : Nat} {w : World} {v : Value} {l : List (List Value)} (h : Ow e k w v l) {r : Nat} {es : Array MapEntry} {c : Nat} (hr : w.heap[r]? = some (.map es c)) : v.ownBlock ≠ some r := fun he => by
  obtain ⟨hx, ⟨rfl, _⟩ | ⟨g, cp, cur, rfl, hg, hh2, _⟩⟩ := h.row
  · cases he
  · simp only [Value.ownBlock, Option.some.injEq] at he
    rw [he, hr] at hh2; cases hh2
/-- A byte of a number. -/
def byZ (z : Int) : UInt8 := UInt8.ofNat (z % 256).toNat
def lgB (seed : Int) (i : Nat) : UInt8 := byZ (IntKind.i64.wrap (((i * 7 + i / 251 : Nat) : Int) + seed))
def lgL (n : Nat) (seed : Int) : List UInt8 := (List.range n).map (lgB seed)
structure LR (n : Nat) (seed : Int) (w : World) (x : Nat × Value) (W : World) : Prop where
  le : x.1 ≤ n
  ow : Own W w.heap.size x.2 (lgL x.1 seed)
  be : Below w.heap.size w W
set_option maxRecDepth 100000 in
theorem bool_ne (a b : Bool) (W : World) (x y : Operand) : (do eqGuard .neq 4 x y (.bool a) (.bool b); binOp .neq 4 (.bool a) (.bool b) : Sem Value).run Tryd.prog W = .ok (.bool (a != b)) W := by
  cases a <;> cases b <;> rfl
theorem c24L (ao : Option Addr) (n c i : Nat) (hi : i ≤ n) (hc : n ≤ c) (W : World) : (Instr.sliceAt 24 (.slice ao n c) (some (.int .i64 (i : Int))) none none).run Tryd.prog W = .ok (cutV (.slice ao n c) i n) W := by
  have h1 : (i : Int) ≤ (n : Int) := by omega
  unfold cutV
  go_simp
/-- The parts that have come, by those that are left. -/
def lfF (m : Nat) (L : List Nat) (i : Nat) : Bool := decide (i < m) && !decide (i ∈ L)
end Go.Proofs.YtiefgmgjlhjjhaaDoor
set_option linter.unusedVariables false
set_option linter.unusedSimpArgs false
namespace Go.Proofs.YtiefgmgjlhjjhaaDoor
open Go.RowKit

attribute [local irreducible] sm sumOf cnt chk partB ptB lgL
def bob : List UInt8 := [98, 111, 98]
theorem sp_at {id : Nat} {T : List UInt8} {x : Nat} (h : x < cnt T) : (spP id T)[x]? = some (ptB id T x) := by
  unfold spP ptB
  rw [List.getElem?_map, List.getElem?_range h]; rfl
structure AR (w : World) (T : List UInt8) (x : Nat × Value) (W : World) : Prop where
  le : x.1 ≤ cnt T
  oi : Oi W w.heap.size x.2 (nI (List.range x.1))
  be : Below w.heap.size w W
/-- The last loop's state. -/
structure Cd where
  i : Nat
  v : Value
  L : List Nat
  E : List Me
  c : Nat
structure CR (w0 : World) (id : Nat) (ov tv : Value) (os : List Int) (b g p r : Nat) (vs : List Value) (T : List UInt8) (y : Cd) (W : World) : Prop where
  tr : Tr W p r 1 y.E y.c
  lc : Lc y.E 1 bob id T (lfF (cnt T) y.L)
  nd : y.L.Nodup
  lt : ∀ x ∈ y.L, x < cnt T
  oi : Oi W 0 y.v (nI y.L)
  sp : Spl W b g vs (spP id T)
  tx : Has W tv T
  hi : Hi W ov os
  ks : Kst W
  il : y.i + y.L.length = cnt T
  ek : ∀ m ∈ y.E, m.p = bob ∧ m.id = id
  be : Below w0.heap.size w0 W
theorem fxBe {w W W' : World} {r : Nat} (h : Below w.heap.size w W) (hf : Fx (fun k => k = r) W W') (hr : w.heap.size ≤ r) : Below w.heap.size w W' := h.trans (hf.below (fun k hk e => by have e' : k = r := e; omega) h.size)
theorem nI_len (l : List Nat) : (nI l).length = l.length := by simp [nI]
theorem Oi.nil (w : World) (b : Nat) : Oi w b (.slice none 0 0) [] := Lb.nil 3 1 w b
theorem Hi.getB {w : World} {v : Value} {zs : List Int} (h : Hi w v zs) {i : Nat} {z : Int} (hz : zs[i]? = some z) : ∃ ad, (∀ W, (Instr.indexAt 23 v (.int .i64 (i : Int))).run Tryd.prog W = .ok (.pointer (some ad)) W) ∧ ∀ W, Below w.heap.size w W → (Instr.loadAt 3 (.pointer (some ad))).run Tryd.prog W = .ok (.int .i64 z) W := by
  obtain ⟨ad, cap, rfl, ha⟩ := h.at_ i [.int .i64 z] (by unfold ir; rw [List.getElem?_map, hz]; rfl)
  have hi : i < zs.length := (List.getElem?_eq_some_iff.1 hz).1
  refine ⟨ad.add i, fun W => x23 _ _ _ _ (by rw [ir_len]; exact hi) W, fun W hW => ldZ ?_⟩
  have := ha 0 _ rfl
  rw [Nat.mul_one, addr_add, Nat.add_zero] at this
  exact (hW.cell (cell_lt this)).trans this
end Go.Proofs.YtiefgmgjlhjjhaaDoor
set_option linter.unusedVariables false
set_option linter.unusedSimpArgs false
namespace Go.Proofs.YtiefgmgjlhjjhaaDoor
open Go.ChangeShapes Go.WideShapes Go.ChangeAt Go.RowKit

namespace Row
theorem bd64 {n : Int} (h : (Lit.int .i64 n).wf = true) : -9223372036854775808 ≤ n ∧ n ≤ 9223372036854775807 := by
  have := bounds_i64 h; omega
end Row
end Go.Proofs.YtiefgmgjlhjjhaaDoor
set_option linter.unusedVariables false
set_option linter.unusedSimpArgs false
namespace Go.Proofs.YtiefgmgjlhjjhaaDoor
open Go.RowKit

attribute [local irreducible] sm sumOf cnt chk partB pM pI pN pA pS pC
section
variable {E : List Me} {most : Nat} {a : List UInt8} {id : Nat} {T : List UInt8} {f : Nat → Bool}
def f0 (_ : Nat) : Bool := false
def f1 : Nat → Bool := upd f0 0
def f2 : Nat → Bool := upd f1 1
end
end Go.Proofs.YtiefgmgjlhjjhaaDoor
set_option linter.unusedVariables false
set_option linter.unusedSimpArgs false
namespace Go.Proofs.YtiefgmgjlhjjhaaDoor
open Go.RowKit

theorem st5 {w : World} {ad : Addr} {v0 : Value} (u : UInt8) (hc : w.cell? ad = some v0) (hf : w.frozen? ad = false) : (Instr.storeAt 5 (.pointer (some ad)) (byt u)).run Tryd.prog w = .ok () (w.setCell ad (byt u)) := by
  unfold byt
  go_simp
attribute [local irreducible] sm sumOf cnt chk partB ptB lgL
theorem own0 (w : World) : Own (w.alloc (.cells #[] 5)) w.heap.size (.slice (some ⟨w.heap.size, 0, none⟩) 0 0) [] := ⟨rfl, .inr ⟨w.heap.size, 0, #[], rfl, Nat.le_refl _, heap_alloc_new w _, Nat.le_refl _, Nat.zero_le _, rfl, rfl⟩⟩
/-- A copy in new memory. -/
theorem copy_new {w : World} {v : Value} {bs : List UInt8} (h : Has w v bs) (hl : bs.length ≤ 140737488355328) (ty : TypeId) : ∃ v' w', (Builtin.append_ #[24, 24] ty #[.slice (some ⟨w.heap.size, 0, none⟩) 0 0, v]).run Tryd.prog (w.alloc (.cells #[] 5)) = .ok v' w' ∧ Own w' w.heap.size v' bs ∧ Below w.heap.size w w' := by
  have l1 := below_new w (.cells #[] 5)
  obtain ⟨v', w', r1, r2, r3, _⟩ := (own0 w).app (h.below l1) (by simp; omega) l1.size ty
  exact ⟨v', w', r1, by simpa using r2, l1.trans r3⟩
/-- Two texts' parts beside a tray. -/
structure Ap (w0 W : World) (p r ga gb : Nat) (va vb : List Value) (id : Nat) (A B : List UInt8) (E : List Me) (c : Nat) : Prop where
  tr : Tr W p r 2 E c
  sa : Spl W 0 ga va (spP id A)
  sb : Spl W 0 gb vb (spP id B)
  ks : Kst W
  be : Below w0.heap.size w0 W
  hr : w0.heap.size ≤ r
section
variable {w0 W W' : World} {p r ga gb : Nat} {va vb : List Value} {id : Nat} {A B : List UInt8} {E E' : List Me} {c c' : Nat}
end
theorem Own.lowerB {w : World} {b b' : Nat} {v : Value} {bs : List UInt8} (h : Own w b v bs) (hb : b' ≤ b) : Own w b' v bs := by
  obtain ⟨hx, h1 | ⟨g, cp, cur, rfl, hg, hr⟩⟩ := h
  · exact ⟨hx, .inl h1⟩
  · exact ⟨hx, .inr ⟨g, cp, cur, rfl, Nat.le_trans hb hg, hr⟩⟩
end Go.Proofs.YtiefgmgjlhjjhaaDoor
