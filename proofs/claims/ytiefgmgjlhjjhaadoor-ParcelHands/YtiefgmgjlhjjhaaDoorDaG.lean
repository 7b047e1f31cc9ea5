import Derived.Test.YtiefgmgjlhjjhaaDoorPp
import Derived.Test.YtiefgmgjlhjjhaaDoorPureG
import Derived.Stop.LaidErr
import Derived.ChangeMaps5
set_option linter.unusedVariables false
set_option linter.unusedSimpArgs false
namespace Go.Proofs.YtiefgmgjlhjjhaaDoor
open Go.RowKit

attribute [local irreducible] sm sumOf cnt chk partB ptB lgL
def bob : List UInt8 := [98, 111, 98]
theorem sp_at {id : Nat} {T : List UInt8} {x : Nat} (h : x < cnt T) : (spP id T)[x]? = some (ptB id T x) := by
  unfold spP ptB
  rw [List.getElem?_map, List.getElem?_range h]; rfl
theorem pt_len {id : Nat} {T : List UInt8} (x : Nat) : (ptB id T x).length = 15 + (chk T x).length := by unfold ptB; exact partB_len _ _ _ _ _ (sm_len T)
theorem Spl.get {W : World} {b g : Nat} {vs : List Value} {id : Nat} {T : List UInt8} (h : Spl W b g vs (spP id T)) {x : Nat} (hx : x < cnt T) : ∃ v, vs[x]? = some v ∧ W.cell? ⟨g, x, none⟩ = some v ∧ Ob W b v (ptB id T x) := by
  have hl : x < vs.length := by rw [h.ln]; simp [spP]; exact hx
  refine ⟨vs[x], List.getElem?_eq_getElem hl, (h.bl.cell x).trans (List.getElem?_eq_getElem hl), h.ob x _ _ (List.getElem?_eq_getElem hl) (sp_at hx)⟩
theorem x26g (g n m : Nat) (h : m < n) (W : World) : (Instr.indexAt 26 (.slice (some ⟨g, 0, none⟩) n n) (.int .i64 (m : Int))).run Tryd.prog W = .ok (.pointer (some ⟨g, m, none⟩)) W := by
  rw [x26 _ _ _ _ h W, add_plain]
theorem Ob.slice' {w : World} {b : Nat} {v : Value} {bs : List UInt8} (h : Ob w b v bs) : ∃ ao c, v = .slice ao bs.length c ∧ bs.length ≤ c := by
  obtain ⟨ao, c, hv⟩ := h.has.slice
  have hh := h.has
  rw [hv] at hh
  exact ⟨ao, c, hv, hh.cap⟩
structure AR (w : World) (T : List UInt8) (x : Nat × Value) (W : World) : Prop where
  le : x.1 ≤ cnt T
  oi : Oi W w.heap.size x.2 (nI (List.range x.1))
  be : Below w.heap.size w W
/-- The last loop's state. -/
structure Cd where
  i : Nat
  v : Value
  L : List Nat
  E : List Me
  c : Nat
structure CR (w0 : World) (id : Nat) (ov tv : Value) (os : List Int) (b g p r : Nat) (vs : List Value) (T : List UInt8) (y : Cd) (W : World) : Prop where
  tr : Tr W p r 1 y.E y.c
  lc : Lc y.E 1 bob id T (lfF (cnt T) y.L)
  nd : y.L.Nodup
  lt : ∀ x ∈ y.L, x < cnt T
  oi : Oi W 0 y.v (nI y.L)
  sp : Spl W b g vs (spP id T)
  tx : Has W tv T
  hi : Hi W ov os
  ks : Kst W
  il : y.i + y.L.length = cnt T
  ek : ∀ m ∈ y.E, m.p = bob ∧ m.id = id
  be : Below w0.heap.size w0 W
theorem fxBe {w W W' : World} {r : Nat} (h : Below w.heap.size w W) (hf : Fx (fun k => k = r) W W') (hr : w.heap.size ≤ r) : Below w.heap.size w W' := h.trans (hf.below (fun k hk e => by have e' : k = r := e; omega) h.size)
theorem nI_len (l : List Nat) : (nI l).length = l.length := by simp [nI]
theorem nI_at {l : List Nat} {k x : Nat} (h : l[k]? = some x) : (nI l)[k]? = some (x : Int) := by simp [nI, h]
theorem Hi.getB {w : World} {v : Value} {zs : List Int} (h : Hi w v zs) {i : Nat} {z : Int} (hz : zs[i]? = some z) : ∃ ad, (∀ W, (Instr.indexAt 23 v (.int .i64 (i : Int))).run Tryd.prog W = .ok (.pointer (some ad)) W) ∧ ∀ W, Below w.heap.size w W → (Instr.loadAt 3 (.pointer (some ad))).run Tryd.prog W = .ok (.int .i64 z) W := by
  obtain ⟨ad, cap, rfl, ha⟩ := h.at_ i [.int .i64 z] (by unfold ir; rw [List.getElem?_map, hz]; rfl)
  have hi : i < zs.length := (List.getElem?_eq_some_iff.1 hz).1
  refine ⟨ad.add i, fun W => x23 _ _ _ _ (by rw [ir_len]; exact hi) W, fun W hW => ldZ ?_⟩
  have := ha 0 _ rfl
  rw [Nat.mul_one, addr_add, Nat.add_zero] at this
  exact (hW.cell (cell_lt this)).trans this
end Go.Proofs.YtiefgmgjlhjjhaaDoor
set_option linter.unusedVariables false
set_option linter.unusedSimpArgs false
namespace Go.Proofs.YtiefgmgjlhjjhaaDoor
open Go.ChangeShapes Go.WideShapes Go.ChangeAt Go.RowKit

namespace Row
theorem bd64 {n : Int} (h : (Lit.int .i64 n).wf = true) : -9223372036854775808 ≤ n ∧ n ≤ 9223372036854775807 := by
  have := bounds_i64 h; omega
theorem bd32 {n : Int} (h : (Lit.int .u32 n).wf = true) : 0 ≤ n ∧ n < 4294967296 := by
  have := bounds_u32 h; omega
set_option maxRecDepth 100000 in
theorem u32_of {H : Type} {enc : TypeId × Value → H} {W : World} {base : Nat} {v : Value} {d : DataW H} {p : List MemPlace} (hv : Value.okWide Tryd.prog W .any base 22 v) (h : ∃ m, DataW.trod enc Tryd.prog W 0 (fun _ => true) true m 22 v.cells.toList = some (d, p)) : ∃ n : Nat, v = u32v n ∧ n < 4294967296 := by
  obtain ⟨z, rfl, _, _, wf⟩ := open_int Tryd.underlying22 hv h
  obtain ⟨h1, h2⟩ := bd32 wf
  exact ⟨z.toNat, by unfold u32v; rw [Int.toNat_of_nonneg h1], by omega⟩
end Row
end Go.Proofs.YtiefgmgjlhjjhaaDoor
set_option linter.unusedVariables false
set_option linter.unusedSimpArgs false
namespace Go.Proofs.YtiefgmgjlhjjhaaDoor
open Go.RowKit

attribute [local irreducible] sm sumOf cnt chk partB pM pI pN pA pS pC
section
variable {E : List Me} {most : Nat} {a : List UInt8} {id : Nat} {T : List UInt8} {f : Nat → Bool}
def f0 (_ : Nat) : Bool := false
def f1 : Nat → Bool := upd f0 0
def f2 : Nat → Bool := upd f1 1
end
end Go.Proofs.YtiefgmgjlhjjhaaDoor
set_option linter.unusedVariables false
set_option linter.unusedSimpArgs false
namespace Go.Proofs.YtiefgmgjlhjjhaaDoor
open Go.RowKit

theorem st5 {w : World} {ad : Addr} {v0 : Value} (u : UInt8) (hc : w.cell? ad = some v0) (hf : w.frozen? ad = false) : (Instr.storeAt 5 (.pointer (some ad)) (byt u)).run Tryd.prog w = .ok () (w.setCell ad (byt u)) := by
  unfold byt
  go_simp
attribute [local irreducible] sm sumOf cnt chk partB ptB lgL
theorem own0 (w : World) : Own (w.alloc (.cells #[] 5)) w.heap.size (.slice (some ⟨w.heap.size, 0, none⟩) 0 0) [] := ⟨rfl, .inr ⟨w.heap.size, 0, #[], rfl, Nat.le_refl _, heap_alloc_new w _, Nat.le_refl _, Nat.zero_le _, rfl, rfl⟩⟩
/-- A copy in new memory. -/
theorem copy_new {w : World} {v : Value} {bs : List UInt8} (h : Has w v bs) (hl : bs.length ≤ 140737488355328) (ty : TypeId) : ∃ v' w', (Builtin.append_ #[24, 24] ty #[.slice (some ⟨w.heap.size, 0, none⟩) 0 0, v]).run Tryd.prog (w.alloc (.cells #[] 5)) = .ok v' w' ∧ Own w' w.heap.size v' bs ∧ Below w.heap.size w w' := by
  have l1 := below_new w (.cells #[] 5)
  obtain ⟨v', w', r1, r2, r3, _⟩ := (own0 w).app (h.below l1) (by simp; omega) l1.size ty
  exact ⟨v', w', r1, by simpa using r2, l1.trans r3⟩
/-- Two texts' parts beside a tray. -/
structure Ap (w0 W : World) (p r ga gb : Nat) (va vb : List Value) (id : Nat) (A B : List UInt8) (E : List Me) (c : Nat) : Prop where
  tr : Tr W p r 2 E c
  sa : Spl W 0 ga va (spP id A)
  sb : Spl W 0 gb vb (spP id B)
  ks : Kst W
  be : Below w0.heap.size w0 W
  hr : w0.heap.size ≤ r
section
variable {w0 W W' : World} {p r ga gb : Nat} {va vb : List Value} {id : Nat} {A B : List UInt8} {E E' : List Me} {c c' : Nat}
end
end Go.Proofs.YtiefgmgjlhjjhaaDoor
set_option linter.unusedVariables false
set_option linter.unusedSimpArgs false
namespace Go.Proofs.YtiefgmgjlhjjhaaDoor
open Go.RowKit

attribute [local irreducible] sm sumOf cnt chk partB ptB lgL
/-- The document's parcel. -/
structure Rp where
  p : List UInt8
  id : Nat
  n : Nat
  s : List UInt8
  h : List Bool
  t : List (List UInt8)
  iv : Value
  tv : Value
  ts : List Value
def Rp.cs (x : Rp) : List Value := [sv x.p, u32v x.id, .int .i64 (x.n : Int), sv x.s, x.iv, x.tv]
def br (h : List Bool) : List (List Value) := h.map fun b => [.bool b]
structure Rp.hs (w : World) (x : Rp) : Prop where
  bi : Ow 4 1 w x.iv (br x.h)
  pt : Ow 24 1 w x.tv (x.ts.map fun v => [v])
  hx : ∀ (i : Nat) v b, x.ts[i]? = some v → x.t[i]? = some b → Ob w 0 v b
  lh : x.h.length = x.n
  lt : x.t.length = x.n
  ls : x.ts.length = x.n
  le : ∀ b ∈ x.t, b.length ≤ 497
  n2 : x.n ≤ 64
/-- The document's tray lies there. -/
structure Rt (w : World) (q : Nat) (v : Value) (most : Nat) (L : List Rp) : Prop where
  bl : Blk w q [v, .int .i64 (most : Int)] 82
  ow : Ow 114 6 w v (L.map Rp.cs)
  hs : ∀ x ∈ L, x.hs w
structure WR (w : World) (x : Rp) (w1 : World) (i : Nat) (W : World) : Prop where
  le : i ≤ x.n
  eq : W = w1
  al : ∀ j, j < i → x.h[j]? = some true
end Go.Proofs.YtiefgmgjlhjjhaaDoor
