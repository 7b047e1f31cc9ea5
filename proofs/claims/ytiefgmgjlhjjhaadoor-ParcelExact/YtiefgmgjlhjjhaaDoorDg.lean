import Derived.Test.YtiefgmgjlhjjhaaDoorDf
set_option linter.unusedVariables false
set_option linter.unusedSimpArgs false
namespace Go.Proofs.YtiefgmgjlhjjhaaDoor
open Go.RowKit

attribute [local irreducible] sm sumOf cnt chk partB ptB lgL
theorem flat_set {k : Nat} {j : Nat} {c : Value} : ∀ {l : List (List Value)} {i : Nat} {row : List Value}, (∀ y ∈ l, y.length = k) → l[i]? = some row → j < k → (l.set i (row.set j c)).flatten = l.flatten.set (i * k + j) c
  | [], i, row, _, h, _ => by cases h
  | a :: r, 0, row, hs, h, hj => by
    simp only [List.getElem?_cons_zero, Option.some.injEq] at h
    subst h
    have ha := hs a (by simp)
    rw [List.set_cons_zero, List.flatten_cons, List.flatten_cons, Nat.zero_mul, Nat.zero_add, List.set_append_left _ _ (by omega)]
  | a :: r, i + 1, row, hs, h, hj => by
    have ha := hs a (by simp)
    rw [List.set_cons_succ, List.flatten_cons, List.flatten_cons, flat_set (fun y hy => hs y (by simp [hy])) (by simpa using h) hj, List.set_append_right _ _ (by rw [ha, Nat.add_mul, Nat.one_mul]; omega), ha]
    congr 2
    rw [Nat.add_mul, Nat.one_mul]; omega
/-- A cell of a list of one's own. -/
theorem Ow.setC {e : TypeId} {k : Nat} {w : World} {ad : Addr} {n cap : Nat} {l : List (List Value)} (h : Ow e k w (.slice (some ad) n cap) l) {i j : Nat} {row : List Value} (hi : l[i]? = some row) (hj : j < k) (c : Value) :
    (∃ u, w.cell? ((ad.add (i * k)).add j) = some u) ∧ w.frozen? ((ad.add (i * k)).add j) = false ∧ Ow e k (w.setCell ((ad.add (i * k)).add j) c) (.slice (some ad) n cap) (l.set i (row.set j c)) ∧ Fx (fun b => b = ad.block) w (w.setCell ((ad.add (i * k)).add j) c) := by
  obtain ⟨hx0, ⟨e0, _⟩ | ⟨g, cp, cur, e0, hg, hh2, hnc, hc, hs2, htk⟩⟩ := h.row
  · cases e0
  · cases e0
    have hil : i < l.length := (List.getElem?_eq_some_iff.1 hi).1
    have hb : Blk w g cur.toList e := by unfold Blk; simpa using hh2
    have ea : ((⟨g, 0, none⟩ : Addr).add (i * k)).add j = ⟨g, i * k + j, none⟩ := by
      rw [add_plain]; exact Addr.add_mid ..
    rw [ea]
    have hik : i * k + k ≤ l.length * k := by
      have := Nat.mul_le_mul_right k (show i + 1 ≤ l.length from hil)
      rw [Nat.add_mul, Nat.one_mul] at this
      exact this
    have hcl : cur.toList.length = cap * k := by rw [Array.length_toList]; exact hs2
    have hlc : l.length * k ≤ cur.toList.length := by
      rw [hcl]
      exact Nat.mul_le_mul_right _ hnc
    refine ⟨⟨_, (hb.cell _).trans (List.getElem?_eq_getElem (by omega))⟩, hb.frozen _, ⟨⟨?_, .inr ⟨g, cap, (cur.toList.set (i * k + j) c).toArray, by rw [List.length_set], hg, hb.set (i * k + j) c, by rw [List.length_set]; exact hnc, hc, by simpa using hs2, ?_⟩⟩, ?_⟩, Fx.setCell (S := fun k => k = g) _ _ _ _ rfl⟩
    · rw [List.length_set, flat_set h.sz hi hj, List.length_set, flatL h.sz]
    · rw [List.length_set, flat_set h.sz hi hj, ← htk, List.toList_toArray, List.take_set]
    · intro y hy
      rcases List.mem_or_eq_of_mem_set hy with hy | rfl
      · exact h.sz y hy
      · rw [List.length_set]; exact h.sz row (List.mem_of_getElem? hi)

theorem rread_ok {v : Value} {c : List UInt8} {w : World} (hv : Has w v c) (hl : c.length ≤ 140737488355328) (ho : okP c = true) : Calls Tryd.prog 50 #[v] w fun e w' => ∃ u, e = .returned (.tuple #[(Rq.mk (pI c) (pN c) (pA c) (pS c) u).val, .bool true]) ∧ Ob w' w.heap.size u (pC c) ∧ Below w.heap.size w w' :=
  (rread_any v c w hv hl).mono fun e w' h => by
    rcases h with ⟨h, _⟩ | ⟨_, h⟩
    · rw [ho] at h; cases h
    · exact h
theorem rread_no {v : Value} {c : List UInt8} {w : World} (hv : Has w v c) (hl : c.length ≤ 140737488355328) (ho : okP c = false) : Calls Tryd.prog 50 #[v] w fun e w' => e = .returned (.tuple #[Rq.z.val, .bool false]) ∧ Below w.heap.size w w' :=
  (rread_any v c w hv hl).mono fun e w' h => by
    rcases h with ⟨_, h⟩ | ⟨h, _⟩
    · exact h
    · rw [ho] at h; cases h
theorem ns109 (w : World) {p : Rq} (hp : ∃ ao n c, p.v = Value.slice ao n c) : ∃ w1 w2 q, (Instr.alloc 109 true (.tuple #[])).run Tryd.prog w = .ok (.pointer (some ⟨q, 0, none⟩)) w1 ∧ (Instr.storeAt 109 (.pointer (some ⟨q, 0, none⟩)) p.val).run Tryd.prog w1 = .ok () w2 ∧ Blk w2 q p.cs 109 ∧ Below w.heap.size w w2 ∧ w.heap.size ≤ q := by
  obtain ⟨w1, q, r1, b1, l1, hq⟩ := newB (cs := Rq.z.cs) zv109 w
  obtain ⟨w2, s2, b2, f2⟩ := st109 hp b1
  exact ⟨w1, w2, q, r1, s2, b2, l1.trans (f2.below (fun k hk e => by have e' : k = q := e; omega) l1.size), by omega⟩
theorem run_mk107 (w : World) (l : Nat) (h : l ≤ 1000) : (Instr.makeSlice 107 (.int .i64 (l : Int)) (.int .i64 (l : Int))).run Tryd.prog w = .ok (.slice (some ⟨w.heap.size, 0, none⟩) l l) (w.alloc (.cells (List.replicate l (Value.bool false)).toArray 4)) := by
  obtain ⟨i0, hi, hz0, hz1, hz2⟩ := info_parts (show (Tryd.prog.info? 4).map (fun i => (i.zero, i.size, i.bytes)) = some (some (.bool false), 1, 1) by kernel_rfl)
  have hrun := run_make (P := Tryd.prog) w 107 4 i0 (.bool false) Tryd.underlying107 hi hz0 .i64 .i64 l l (by omega) (by omega) (by rw [hz2]; omega) (by omega)
  rw [hz1, Int.toNat_natCast, Nat.mul_one, made_one _ rfl] at hrun
  rw [hrun]
theorem mkLb {e : TypeId} {x : Value} (w : World) (l : Nat) (h : l ≤ 1000) : Lb e 1 (w.alloc (.cells (List.replicate l x).toArray e)) w.heap.size (.slice (some ⟨w.heap.size, 0, none⟩) l l) (List.replicate l [x]) := by
  have h0 := Ow.new (e := e) (k := 1) w (List.replicate l [x]) (fun y hy => by rw [List.eq_of_mem_replicate hy]; rfl) (by rw [List.length_replicate]; unfold maxLen; omega)
  have e1 : (List.replicate l [x]).flatten = List.replicate l x := by
    induction l with
    | zero => rfl
    | succ n ih => rw [List.replicate_succ, List.flatten_cons, List.replicate_succ]; simp [ih (by omega)]
  rw [e1, List.length_replicate] at h0
  exact ⟨h0, fun j hj => by simp only [Value.ownBlock, Option.some.injEq] at hj; omega⟩
theorem br_rep (l : Nat) : List.replicate l [Value.bool false] = br (List.replicate l false) := by simp [br]
theorem vr_rep (l : Nat) : List.replicate l [Value.slice none 0 0] = vr (List.replicate l (.slice none 0 0)) := by simp [vr]
theorem br_set (h : List Bool) (i : Nat) (b : Bool) : (br h).set i [.bool b] = br (h.set i b) := by simp [br, List.map_set]
theorem vr_set (h : List Value) (i : Nat) (b : Value) : (vr h).set i [b] = vr (h.set i b) := by simp [vr, List.map_set]
section
variable {P : Program} {n : Nat} {ops : Array Oper} {S : Nat → World → Prop} {K : List (Nat × Value) → (World → Prop) → Prop} {i c lv : Nat} {ty : TypeId} {ps : String} {af : Array Edge} {gd : Option (Nat × Bool)} {r : List (Oper × Nat × Nat)} {e : List (Nat × Value)} {C : World → Prop}
theorem ZE.mkSl {t : TypeId} {x y : Operand} {u u' : Value} (C' : Value → World → Prop) (hw : wantE ops e ⟨some i, .makeSlice t x y, ty, ps, af, gd⟩ = some true) (hi : decide (i < n) = true) (hx : evE e x = some u) (hy : evE e y = some u') (h1 : ∀ v w, C' v w → S lv w) (hr : ∀ w, C w → ∃ v w', (Instr.makeSlice t u u').run P w = .ok v w' ∧ C' v w') (k : ∀ v, (∃ w, C' v w) → wpZE P n ops S K r ((i, v) :: e) (C' v)) : wpZE P n ops S K ((⟨some i, .makeSlice t x y, ty, ps, af, gd⟩, 1, lv) :: r) e C :=
  ZE.eff C' hw hi h1 (fun W hW => by
    obtain ⟨v, w', h2, h3⟩ := hr W hW
    exact ⟨v, w', fun a ha => by simp [execOp, ha.ev hx, ha.ev hy, h2, Result.andThen], h3⟩) k
end
/-- A new parcel of the document. -/
def Rp.x0 (a c : List UInt8) (vi vt : Value) : Rp := ⟨a, pI c, pN c, pS c, List.replicate (pN c) false, List.replicate (pN c) [], vi, vt, List.replicate (pN c) (.slice none 0 0)⟩
/-- With a part. -/
def Rp.put (x : Rp) (i : Nat) (u : Value) (b : List UInt8) : Rp := { x with h := x.h.set i true, t := x.t.set i b, ts := x.ts.set i u }
theorem bd114 (a : List UInt8) (id n : Nat) (s : List UInt8) (vi vt : Value) (h1 : ∃ ao n c, vi = Value.slice ao n c) (h2 : ∃ ao n c, vt = Value.slice ao n c) (W : World) : (Instr.build 114 [(0, sv a), (1, u32v id), (2, .int .i64 (n : Int)), (3, sv s), (4, vi), (5, vt)].toArray).run Tryd.prog W = .ok (.agg [sv a, u32v id, .int .i64 (n : Int), sv s, vi, vt].toArray) W := by
  obtain ⟨_, _, _, rfl⟩ := h1
  obtain ⟨_, _, _, rfl⟩ := h2
  kernel_rfl
theorem ldTb {W : World} {q j : Nat} {cs : List Value} {t : TypeId} {v : Value} (hb : Blk W q cs t) (hv : cs[j]? = some v) : (Instr.loadAt 9 (.pointer (some ⟨q, j, none⟩))).run Tryd.prog W = .ok v W := ldTa ((hb.cell j).trans hv)
theorem st4a {w : World} {ad : Addr} {v0 : Value} (u : Bool) (hc : w.cell? ad = some v0) (hf : w.frozen? ad = false) : (Instr.storeAt 4 (.pointer (some ad)) (.bool u)).run Tryd.prog w = .ok () (w.setCell ad (.bool u)) := by go_simp
theorem st24a {w : World} {ad : Addr} {v0 u : Value} (hu : ∃ ao n c, u = Value.slice ao n c) (hc : w.cell? ad = some v0) (hf : w.frozen? ad = false) : (Instr.storeAt 24 (.pointer (some ad)) u).run Tryd.prog w = .ok () (w.setCell ad u) := by
  obtain ⟨_, _, _, rfl⟩ := hu
  go_simp
/-- A list of one's own is turned at a place. -/
theorem Lb.set4 {w : World} {b : Nat} {v : Value} {h : List Bool} (hl : Lb 4 1 w b v (br h)) {i : Nat} (hi : i < h.length) : ∃ ad w' k, (∀ W, (Instr.indexAt 107 v (.int .i64 (i : Int))).run Tryd.prog W = .ok (.pointer (some ad)) W) ∧ (Instr.storeAt 4 (.pointer (some ad)) (.bool true)).run Tryd.prog w = .ok () w' ∧ Lb 4 1 w' b v (br (h.set i true)) ∧ Fx (fun j => j = k) w w' ∧ v.ownBlock = some k := by
  rcases hl.ow.addr with ⟨_, h2⟩ | ⟨g, cap, rfl⟩
  · have : h.length = 0 := by rw [← br_len, h2]; rfl
    omega
  obtain ⟨⟨u, hc⟩, hf, hn, hx⟩ := hl.ow.setC (i := i) (j := 0) (row := [.bool h[i]]) (by unfold br; rw [List.getElem?_map, List.getElem?_eq_getElem hi]; rfl) (by decide) (.bool true)
  rw [addr_add, show i * 1 + 0 = i by omega] at hc hf hn hx
  refine ⟨(⟨g, 0, none⟩ : Addr).add i, _, g, fun W => x107g _ _ _ _ (by rw [br_len]; exact hi) W, st4a true hc hf, ⟨?_, hl.base⟩, hx, rfl⟩
  rw [← br_set]; exact hn
theorem Lb.set24 {w : World} {b : Nat} {v : Value} {h : List Value} (hl : Lb 24 1 w b v (vr h)) {i : Nat} (hi : i < h.length) {u : Value} (hu : ∃ ao n c, u = Value.slice ao n c) : ∃ ad w' k, (∀ W, (Instr.indexAt 26 v (.int .i64 (i : Int))).run Tryd.prog W = .ok (.pointer (some ad)) W) ∧ (Instr.storeAt 24 (.pointer (some ad)) u).run Tryd.prog w = .ok () w' ∧ Lb 24 1 w' b v (vr (h.set i u)) ∧ Fx (fun j => j = k) w w' ∧ v.ownBlock = some k := by
  rcases hl.ow.addr with ⟨_, h2⟩ | ⟨g, cap, rfl⟩
  · have : h.length = 0 := by rw [← vr_len, h2]; rfl
    omega
  obtain ⟨⟨u', hc⟩, hf, hn, hx⟩ := hl.ow.setC (i := i) (j := 0) (row := [h[i]]) (by unfold vr; rw [List.getElem?_map, List.getElem?_eq_getElem hi]; rfl) (by decide) u
  rw [addr_add, show i * 1 + 0 = i by omega] at hc hf hn hx
  refine ⟨(⟨g, 0, none⟩ : Addr).add i, _, g, fun W => x26 _ _ _ _ (by rw [vr_len]; exact hi) W, st24a hu hc hf, ⟨?_, hl.base⟩, hx, rfl⟩
  rw [← vr_set]; exact hn
theorem Lb.neT {e e' : TypeId} {k k' : Nat} {w : World} {b b' : Nat} {v v' : Value} {l l' : List (List Value)} (h : Lb e k w b v l) (h' : Lb e' k' w b' v' l') (hne : e ≠ e') {j : Nat} (hj : v.ownBlock = some j) : v'.ownBlock ≠ some j := fun hj' => by
  obtain ⟨_, ⟨rfl, _⟩ | ⟨g, cp, cur, rfl, hg, hh, _⟩⟩ := h.ow.row
  · cases hj
  obtain ⟨_, ⟨rfl, _⟩ | ⟨g', cp', cur', rfl, hg', hh', _⟩⟩ := h'.ow.row
  · cases hj'
  simp only [Value.ownBlock, Option.some.injEq] at hj hj'
  rw [hj] at hh
  rw [hj', hh] at hh'
  cases hh'; exact hne rfl
theorem Lb.neO {e : TypeId} {k : Nat} {w : World} {b b' : Nat} {v u : Value} {l : List (List Value)} {bs : List UInt8} (h : Lb e k w b v l) (h' : Ob w b' u bs) (hne : e ≠ 5) {j : Nat} (hj : v.ownBlock = some j) : u.ownBlock ≠ some j := fun hj' => by
  obtain ⟨_, cur, hc⟩ := h'.lt hj'
  obtain ⟨_, ⟨rfl, _⟩ | ⟨g, cp, cur2, rfl, hg, hh, _⟩⟩ := h.ow.row
  · cases hj
  simp only [Value.ownBlock, Option.some.injEq] at hj
  rw [hj, hc] at hh
  cases hh; exact hne rfl
theorem Rp.hs.tlen {w : World} {x : Rp} (h : x.hs w) : x.t.flatten.length ≤ 31808 := by
  have h1 := flat_le x.t 497 h.le
  have h2 := h.n2
  rw [h.lt] at h1
  have h3 : x.n * 497 ≤ 64 * 497 := Nat.mul_le_mul_right _ h2
  omega
end Go.Proofs.YtiefgmgjlhjjhaaDoor
