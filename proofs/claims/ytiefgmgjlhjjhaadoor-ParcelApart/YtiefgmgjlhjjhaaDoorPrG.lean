import Derived.Test.YtiefgmgjlhjjhaaDoorFxG
import Derived.Test.YtiefgmgjlhjjhaaDoorPq
import Derived.Stop.LaidErr
import Derived.ChangeMaps5
set_option linter.unusedVariables false
set_option linter.unusedSimpArgs false
namespace Go.Proofs.YtiefgmgjlhjjhaaDoor
open Go.ChangeShapes Go.WideShapes Go.ChangeAt Go.RowKit

namespace Row
theorem cells3 : Tryd.prog.cellsOf 3 = 1 := by kernel_rfl
theorem bd64 {n : Int} (h : (Lit.int .i64 n).wf = true) : -9223372036854775808 ≤ n ∧ n ≤ 9223372036854775807 := by
  have := bounds_i64 h; omega
theorem bd32 {n : Int} (h : (Lit.int .u32 n).wf = true) : 0 ≤ n ∧ n < 4294967296 := by
  have := bounds_u32 h; omega
set_option maxRecDepth 100000 in
theorem u32_of {H : Type} {enc : TypeId × Value → H} {W : World} {base : Nat} {v : Value} {d : DataW H} {p : List MemPlace} (hv : Value.okWide Tryd.prog W .any base 22 v) (h : ∃ m, DataW.trod enc Tryd.prog W 0 (fun _ => true) true m 22 v.cells.toList = some (d, p)) : ∃ n : Nat, v = u32v n ∧ n < 4294967296 := by
  obtain ⟨z, rfl, _, _, wf⟩ := open_int Tryd.underlying22 hv h
  obtain ⟨h1, h2⟩ := bd32 wf
  exact ⟨z.toNat, by unfold u32v; rw [Int.toNat_of_nonneg h1], by omega⟩
set_option maxRecDepth 100000 in
/-- Numbers that came in. -/
theorem ints_of {H : Type} {enc : TypeId × Value → H} {W : World} {base : Nat} {v : Value} {d : DataW H} {p : List MemPlace} (hv : Value.okWide Tryd.prog W .any base 23 v) (h : ∃ m, DataW.trod enc Tryd.prog W 0 (fun _ => true) true m 23 v.cells.toList = some (d, p)) : ∃ zs, Hi W v zs ∧ ∀ z ∈ zs, -9223372036854775808 ≤ z ∧ z ≤ 9223372036854775807 := by
  obtain ⟨a0, len0, cap0, rfl⟩ := okWide_slice Tryd.underlying23 hv
  obtain ⟨fuel, hf⟩ := h
  rcases open_ints Tryd.underlying23 Tryd.underlying3 cells3 hf with ⟨hcs, _⟩ | ⟨x, l, c, zs, hcs, _, hl, hm, hz, hx, hcell, hwz⟩
  · simp [Value.cells] at hcs
    obtain ⟨rfl, rfl, rfl⟩ := hcs
    exact ⟨[], Li.nil _ _, fun z hz => by cases hz⟩
  · simp [Value.cells] at hcs
    obtain ⟨rfl, rfl, rfl⟩ := hcs
    have hzl : len0 ≤ zs.length := by simp at hz; omega
    have hlen : (zs.take len0).length = len0 := by rw [List.length_take]; omega
    refine ⟨zs.take len0, ⟨.inr ⟨x, cap0, by rw [ir_len, hlen], by rw [ir_len, hlen]; exact hl⟩, fun y hy => ?_, fun i y hy => ?_⟩, fun z hz => bd64 (hwz z (List.mem_of_mem_take hz))⟩
    · obtain ⟨z, _, rfl⟩ := List.mem_map.1 hy; rfl
    · unfold ir at hy
      rw [List.getElem?_map] at hy
      cases hq : (zs.take len0)[i]? with
      | none => rw [hq] at hy; cases hy
      | some z =>
        rw [hq] at hy
        cases hy
        have hi : i < len0 := by have := (List.getElem?_eq_some_iff.1 hq).1; omega
        rw [List.getElem?_take_of_lt hi, List.getElem?_eq_getElem (by omega)] at hq
        refine ⟨x, cap0, by rw [ir_len, hlen], fun j u hj => ?_⟩
        cases j with
        | succ j => simp at hj
        | zero =>
          simp only [List.getElem?_cons_zero, Option.some.injEq] at hj
          rw [Nat.mul_one, addr_add, Nat.add_zero, hcell i (by omega), List.getD_eq_getElem?_getD, List.getElem?_eq_getElem (by omega), Option.getD_some, Option.some.inj hq, hj]
end Row
end Go.Proofs.YtiefgmgjlhjjhaaDoor
set_option linter.unusedVariables false
set_option linter.unusedSimpArgs false
namespace Go.Proofs.YtiefgmgjlhjjhaaDoor
open Go.RowKit

attribute [local irreducible] sm sumOf cnt chk partB pM pI pN pA pS pC
section
variable {E : List Me} {most : Nat} {a : List UInt8} {id : Nat} {T : List UInt8} {f : Nat → Bool}
/-- A tray that is full takes no part of another parcel. -/
theorem add_full (hk : lkE E a id = none) (hm : most ≤ E.length) (ha : nmB a = true) (hid : id < 4294967296) (hT : T.length ≤ 31808) {x : Nat} (hx : x < cnt T) : adE E most a (ptB id T x) = 120 := by
  have hc := cnt_le hT
  obtain ⟨p1, p2, p3, p4, p5, p6⟩ := part_is id (cnt T) x (sm T) (chk T x) hid (by omega) (by omega) (sm_len T)
  have hH : adH E most a (ptB id T x) = 120 := by
    have e : adX (ptB id T x) u0 = ⟨id, cnt T, x, sm T, u0⟩ := by unfold adX ptB; rw [p2, p3, p4, p5]
    unfold adH
    rw [e, ah_none (x := ⟨id, cnt T, x, sm T, u0⟩) hk, if_pos hm]
  unfold adE
  rw [if_neg (by rw [ha]; decide), if_neg (by unfold ptB; rw [part_ok id hid hT hx rfl (sm T) (sm_len T)]; decide), hH, if_pos (by decide)]
/-- A part of another text is refused. -/
theorem add_other {q : Pc} (hk : lkE E a id = some q) (hs : ¬ q.s = sm T) (ha : nmB a = true) (hid : id < 4294967296) (hT : T.length ≤ 31808) {x : Nat} (hx : x < cnt T) : adE E most a (ptB id T x) = 260 := by
  have hc := cnt_le hT
  obtain ⟨p1, p2, p3, p4, p5, p6⟩ := part_is id (cnt T) x (sm T) (chk T x) hid (by omega) (by omega) (sm_len T)
  have hH : adH E most a (ptB id T x) = 260 := by
    have e : adX (ptB id T x) u0 = ⟨id, cnt T, x, sm T, u0⟩ := by unfold adX ptB; rw [p2, p3, p4, p5]
    unfold adH
    rw [e, ah_some (x := ⟨id, cnt T, x, sm T, u0⟩) hk, if_pos (fun h => hs h.2)]
  unfold adE
  rw [if_neg (by rw [ha]; decide), if_neg (by unfold ptB; rw [part_ok id hid hT hx rfl (sm T) (sm_len T)]; decide), hH, if_pos (by decide)]
theorem cnt2 (h1 : 498 ≤ T.length) (h2 : T.length ≤ 994) : cnt T = 2 := by unfold cnt; omega
def f0 (_ : Nat) : Bool := false
def f1 : Nat → Bool := upd f0 0
def f2 : Nat → Bool := upd f1 1
theorem f1_no : ¬ ∀ i, i < 2 → f1 i = true := fun h => by
  have := h 1 (by decide)
  simp [f1, upd, f0] at this
theorem f2_all : ∀ i, i < 2 → f2 i = true := fun i hi => by
  have : i = 0 ∨ i = 1 := by omega
  rcases this with rfl | rfl <;> rfl
/-- A wrong last part is refused. -/
theorem add_bad (h : Lc E most a id T f1) (h2 : cnt T = 2) (ha : nmB a = true) (hid : id < 4294967296) (hT : T.length ≤ 31808) {d : List UInt8} (hd : d.length = (chk T 1).length) (hs : ¬ sm (chk T 0 ++ d) = sm T) : adE E most a (partB id 2 1 (sm T) d) = 101 := by
  have hx : 1 < cnt T := by omega
  obtain ⟨a1, a2, a3⟩ := ah_part h hid hT hx hd (show f1 1 = false from rfl) u0
  rw [h2] at a1 a2 a3
  obtain ⟨p1, p2, p3, p4, p5, p6⟩ := part_is id 2 1 (sm T) d hid (by omega) (by omega) (sm_len T)
  have hQ : adQ E most a (partB id 2 1 (sm T) d) u0 = (ahR E most a (adX (partB id 2 1 (sm T) d) u0)).1.put 1 u0 d := by unfold adQ; rw [p4, p6]
  obtain ⟨q, hq⟩ : ∃ q, q = (ahR E most a (adX (partB id 2 1 (sm T) d) u0)).1 := ⟨_, rfl⟩
  rw [← hq] at hQ a2 a3
  have hn : (q.put 1 u0 d).n = 2 := by show q.n = 2; rw [a2.n, h2]
  have hall : (q.put 1 u0 d).all = true := by
    unfold Pc.all
    rw [hn, decide_eq_true]
    have e0 : (q.put 1 u0 d).h.getD 0 false = true := by
      rw [List.getD_eq_getElem?_getD]
      show ((q.h.set 1 true)[0]?).getD false = true
      rw [List.getElem?_set_ne (by decide), a2.h 0 (by decide)]; rfl
    have e1 : (q.put 1 u0 d).h.getD 1 false = true := by
      rw [List.getD_eq_getElem?_getD]
      show ((q.h.set 1 true)[1]?).getD false = true
      rw [List.getElem?_set_self (by omega)]; rfl
    unfold Pc.mis
    rw [show List.range 2 = [0, 1] from rfl]
    simp only [List.filter_cons, List.filter_nil, e0, e1, Bool.not_true, Bool.false_eq_true, if_false, List.length_nil]
  have htx : (q.put 1 u0 d).txt = chk T 0 ++ d := by
    unfold Pc.txt
    rw [hn]
    have ht0 : (q.put 1 u0 d).t[0]? = some (chk T 0) := by
      show (q.t.set 1 d)[0]? = _
      rw [List.getElem?_set_ne (by decide)]; exact a2.t 0 (by decide) rfl
    have ht1 : (q.put 1 u0 d).t[1]? = some d := by
      show (q.t.set 1 d)[1]? = _
      rw [List.getElem?_set_self (by rw [a2.lt]; decide)]
    rw [show (2 : Nat) = 0 + 1 + 1 from rfl, List.take_add_one, List.take_add_one, ht0, ht1]
    simp
  unfold adE
  have hok : okP (partB id 2 1 (sm T) d) = true := by have := part_ok id hid hT hx hd (sm T) (sm_len T); rw [h2] at this; exact this
  have hA : adA E most a (partB id 2 1 (sm T) d) = true := by unfold adA; rw [hQ]; exact hall
  rw [if_neg (by rw [ha]; decide), if_neg (by rw [hok]; decide), if_neg (fun h => h a1), if_pos]
  refine ⟨hA, ?_⟩
  rw [hQ, htx]
  show ¬ sm (chk T 0 ++ d) = q.s
  rw [a2.s]; exact hs
end
end Go.Proofs.YtiefgmgjlhjjhaaDoor
